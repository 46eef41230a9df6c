/-
  Split, the document's Split; the walk of FilterSplits.
-/
import Derived.Test.YtjaomjbhkgijbaaMg41

namespace Go.Proofs.Ytjaomjbhkgijbaa
open Go.RowKit

def splM (xs : List Smp) : List Int := if ckQ xs = 0 then spM xs else []
def splD (xs : List Smp) : List Int := if ckQ xs = 0 then spD xs else []
theorem ckQ_ok {xs : List Smp} (h : ckQ xs = 0) : xs.length ≤ 4096 ∧ vss xs = true := by
  unfold ckQ at h
  split at h
  · cases h
  · split at h
    · rename_i h1 h2; exact ⟨by omega, h2⟩
    · cases h
/-- What a call leaves that returns two lists of numbers and an error. -/
def Spl3 (w : World) (ms ds : List Int) (er : Int) (e : Ending) (w' : World) : Prop :=
  ∃ sx sy, e = .returned (.tuple #[sx, sy, .int .i64 er]) ∧ w'.ownsRow w.heap.size 2 1 sx ms.length (nums ms) ∧ w'.ownsRow w.heap.size 2 1 sy ds.length (nums ds) ∧ Below w.heap.size w w'

set_option maxRecDepth 100000 in
set_option maxHeartbeats 4000000 in
theorem Split_any (B : Nat) (A : Option Addr) (n c : Nat) (xs : List Smp) (w : World) (h0 : RS w B A n xs) (hB : B ≤ w.heap.size) (hl : n ≤ 9223372036854775807) :
    Calls Try.prog 42 #[.slice A n c] w (Spl3 w (splM xs) (splD xs) (ckQ xs)) := by
  have H := Lib.hid (h0.more hB)
  have CK := Lib.hid (checkProgramme_any B A n c xs w h0 hB hl)
  by_cases hc : ckQ xs = 0
  · obtain ⟨c1, c2⟩ := ckQ_ok hc
    have e1 := h0.1
    have CJ := Lib.hid (fun W (h : Below w.heap.size w W) => fsplit_any w.heap.size A n c xs W (H.out.below h (Nat.le_refl _)) h.size (by omega) c2)
    have HLM : Hid ((spM xs).length = n ∧ (spD xs).length = n) := Lib.hid ⟨by unfold spM; rw [List.length_map]; exact e1.symm, by unfold spD; rw [List.length_map]; exact e1.symm⟩
    rw [show splM xs = spM xs by unfold splM; rw [if_pos hc], show splD xs = spD xs by unfold splD; rw [if_pos hc], hc]
    rw [hc] at CK
    clear h0 hB c1 c2 e1 hc
    go_enter Try.func42, Try.ntmps42
    go_wp2_with fail
    refine CK.out.mono ?_
    rintro e w1 ⟨rfl, hb⟩
    have HB := Lib.hid hb
    clear hb
    go_wp2_with fail
    refine (CJ.out _ HB.out).mono ?_
    rintro e w2 ⟨sx, sy, rfl, ht⟩
    have HX : Hid (w2.ownsRow w.heap.size 2 1 sx (spM xs).length (nums (spM xs))) := Lib.hid (by rw [HLM.out.1]; exact own_base_ ht.ox HB.out.size)
    have HY : Hid (w2.ownsRow w.heap.size 2 1 sy (spD xs).length (nums (spD xs))) := Lib.hid (by rw [HLM.out.2]; exact own_base_ ht.oy HB.out.size)
    have HB2 : Hid (Below w.heap.size w w2) := Lib.hid (HB.out.trans (ht.b.mono HB.out.size))
    obtain ⟨A1, c1, rfl, -⟩ := own_readsU ht.ox
    obtain ⟨A2, c2, rfl, -⟩ := own_readsU ht.oy
    clear ht CJ CK
    go_wp2
    go_ret3
    exact ⟨_, _, rfl, HX.out, HY.out, HB2.out⟩
  · obtain ⟨er, her⟩ : ∃ e, ckQ xs = e := ⟨_, rfl⟩
    rw [show splM xs = [] by unfold splM; rw [if_neg hc], show splD xs = [] by unfold splD; rw [if_neg hc]]
    rw [her] at hc CK ⊢
    have hc2 : (er != 0) = true := by simpa using hc
    have hc3 : (er == 0) = false := beq_eq_false_iff_ne.2 hc
    clear h0 hB her
    go_enter Try.func42, Try.ntmps42
    go_wp2_with fail
    refine CK.out.mono ?_
    rintro e w1 ⟨rfl, hb⟩
    have HB := Lib.hid hb
    clear hb
    go_wp2
    go_ret3
    exact ⟨_, _, rfl, World.ownsRow_nil _ _ _ _, World.ownsRow_nil _ _ _ _, HB.out⟩

set_option maxRecDepth 100000 in
set_option maxHeartbeats 4000000 in
theorem refSplitC_any (B : Nat) (A : Option Addr) (n c : Nat) (xs : List Smp) (w : World) (h0 : RS w B A n xs) (hB : B ≤ w.heap.size) (hl : n ≤ 9223372036854775807) :
    Calls Try.prog 43 #[.slice A n c] w (Spl3 w (splM xs) (splD xs) (ckQ xs)) := by
  have H := Lib.hid (h0.more hB)
  have CK := Lib.hid (refProgramme_any B A n c xs w h0 hl)
  by_cases hc : ckQ xs = 0
  · obtain ⟨c1, c2⟩ := ckQ_ok hc
    have e1 := h0.1
    have CJ := Lib.hid (fun W (h : Below w.heap.size w W) => refFSplit_any w.heap.size A n c xs W (H.out.below h (Nat.le_refl _)) h.size (by omega) c2)
    have HLM : Hid ((spM xs).length = n ∧ (spD xs).length = n) := Lib.hid ⟨by unfold spM; rw [List.length_map]; exact e1.symm, by unfold spD; rw [List.length_map]; exact e1.symm⟩
    rw [show splM xs = spM xs by unfold splM; rw [if_pos hc], show splD xs = spD xs by unfold splD; rw [if_pos hc], hc]
    rw [hc] at CK
    clear h0 hB c1 c2 e1 hc
    go_enter Try.func43, Try.ntmps43
    go_wp2_with fail
    refine CK.out.mono ?_
    rintro e w_ ⟨rfl, rfl⟩
    go_wp2_with fail
    refine (CJ.out _ (Below.refl w.heap.size w)).mono ?_
    rintro e w2 ⟨sx, sy, rfl, ht⟩
    have HX : Hid (w2.ownsRow w.heap.size 2 1 sx (spM xs).length (nums (spM xs))) := Lib.hid (by rw [HLM.out.1]; exact own_base_ ht.ox (Below.refl w.heap.size w).size)
    have HY : Hid (w2.ownsRow w.heap.size 2 1 sy (spD xs).length (nums (spD xs))) := Lib.hid (by rw [HLM.out.2]; exact own_base_ ht.oy (Below.refl w.heap.size w).size)
    have HB2 : Hid (Below w.heap.size w w2) := Lib.hid ((Below.refl w.heap.size w).trans (ht.b.mono (Below.refl w.heap.size w).size))
    obtain ⟨A1, c1, rfl, -⟩ := own_readsU ht.ox
    obtain ⟨A2, c2, rfl, -⟩ := own_readsU ht.oy
    clear ht CJ CK
    go_wp2
    go_ret3
    exact ⟨_, _, rfl, HX.out, HY.out, HB2.out⟩
  · obtain ⟨er, her⟩ : ∃ e, ckQ xs = e := ⟨_, rfl⟩
    rw [show splM xs = [] by unfold splM; rw [if_neg hc], show splD xs = [] by unfold splD; rw [if_neg hc]]
    rw [her] at hc CK ⊢
    have hc2 : (er != 0) = true := by simpa using hc
    have hc3 : (er == 0) = false := beq_eq_false_iff_ne.2 hc
    clear h0 hB her
    go_enter Try.func43, Try.ntmps43
    go_wp2_with fail
    refine CK.out.mono ?_
    rintro e w_ ⟨rfl, rfl⟩
    go_wp2
    go_ret3
    exact ⟨_, _, rfl, World.ownsRow_nil _ _ _ _, World.ownsRow_nil _ _ _ _, (Below.refl w.heap.size w)⟩

set_option maxRecDepth 100000 in
set_option maxHeartbeats 8000000 in
theorem splits_walk (B : Nat) (Ap Am Ad : Option Addr) (np kp nm km nd kd : Nat) (p : List Smp) (m d : List Int) (w : World) (hp : RS w B Ap np p) (hm : LI w B Am nm m) (hd : LI w B Ad nd d) (hB : B ≤ w.heap.size) (l1 : np ≤ 9223372036854775807) (l2 : nm ≤ 9223372036854775807) (l3 : nd ≤ 9223372036854775807) :
    Calls Try.prog 7 #[.slice Ap np kp, .slice Am nm km, .slice Ad nd kd] w fun e w' => e = .returned (.bool true) ∧ Below w.heap.size w w' := by
  have HP := Lib.hid (hp.more hB)
  have HM := Lib.hid (hm.more hB)
  have HD := Lib.hid (hd.more hB)
  clear hp hm hd hB
  cases b1 : lngB np 400
  case true =>
    have B1 := Lib.hid b1
    clear b1
    have HB := Lib.hid (Below.refl w.heap.size w)
    go_enter Try.func7, Try.ntmps7
    go_wp2_with fail
    have CALL := long_any np 400 w
    rw [B1.out] at CALL
    refine CALL.mono ?_
    rintro e w_ ⟨rfl, rfl⟩
    clear CALL
    go_wp2_with fail
    have CALL := works_any w
    refine CALL.mono ?_
    rintro e w1 ⟨rfl, hb⟩
    clear CALL
    have hsz1 := hb.size
    replace HP := Lib.hid (HP.out.below hb (by omega))
    replace HM := Lib.hid (HM.out.below hb (by omega))
    replace HD := Lib.hid (HD.out.below hb (by omega))
    replace HB := Lib.hid (HB.out.trans (hb.mono (by omega)))

    clear hb
    go_wp2
    go_ret
    exact ⟨rfl, HB.out⟩
  case false =>
    cases b2 : lngB nm 400
    case true =>
      have B1 := Lib.hid b1
      have B2 := Lib.hid b2
      clear b1 b2
      have HB := Lib.hid (Below.refl w.heap.size w)
      go_enter Try.func7, Try.ntmps7
      go_wp2_with fail
      have CALL := long_any np 400 w
      rw [B1.out] at CALL
      refine CALL.mono ?_
      rintro e w_ ⟨rfl, rfl⟩
      clear CALL
      go_wp2_with fail
      have CALL := long_any nm 400 w
      rw [B2.out] at CALL
      refine CALL.mono ?_
      rintro e w_ ⟨rfl, rfl⟩
      clear CALL
      go_wp2_with fail
      have CALL := works_any w
      refine CALL.mono ?_
      rintro e w1 ⟨rfl, hb⟩
      clear CALL
      have hsz1 := hb.size
      replace HP := Lib.hid (HP.out.below hb (by omega))
      replace HM := Lib.hid (HM.out.below hb (by omega))
      replace HD := Lib.hid (HD.out.below hb (by omega))
      replace HB := Lib.hid (HB.out.trans (hb.mono (by omega)))

      clear hb
      go_wp2
      go_ret
      exact ⟨rfl, HB.out⟩
    case false =>
      cases b3 : lngB nd 400
      case true =>
        have B1 := Lib.hid b1
        have B2 := Lib.hid b2
        have B3 := Lib.hid b3
        clear b1 b2 b3
        have HB := Lib.hid (Below.refl w.heap.size w)
        go_enter Try.func7, Try.ntmps7
        go_wp2_with fail
        have CALL := long_any np 400 w
        rw [B1.out] at CALL
        refine CALL.mono ?_
        rintro e w_ ⟨rfl, rfl⟩
        clear CALL
        go_wp2_with fail
        have CALL := long_any nm 400 w
        rw [B2.out] at CALL
        refine CALL.mono ?_
        rintro e w_ ⟨rfl, rfl⟩
        clear CALL
        go_wp2_with fail
        have CALL := long_any nd 400 w
        rw [B3.out] at CALL
        refine CALL.mono ?_
        rintro e w_ ⟨rfl, rfl⟩
        clear CALL
        go_wp2_with fail
        have CALL := works_any w
        refine CALL.mono ?_
        rintro e w1 ⟨rfl, hb⟩
        clear CALL
        have hsz1 := hb.size
        replace HP := Lib.hid (HP.out.below hb (by omega))
        replace HM := Lib.hid (HM.out.below hb (by omega))
        replace HD := Lib.hid (HD.out.below hb (by omega))
        replace HB := Lib.hid (HB.out.trans (hb.mono (by omega)))

        clear hb
        go_wp2
        go_ret
        exact ⟨rfl, HB.out⟩
      case false =>
        have B1 := Lib.hid b1
        have B2 := Lib.hid b2
        have B3 := Lib.hid b3
        have S1 := Lib.hid (sameI_self (splM p))
        have S2 := Lib.hid (sameI_self (splD p))
        clear b1 b2 b3
        have HB := Lib.hid (Below.refl w.heap.size w)
        go_enter Try.func7, Try.ntmps7
        go_wp2_with fail
        have CALL := long_any np 400 w
        rw [B1.out] at CALL
        refine CALL.mono ?_
        rintro e w_ ⟨rfl, rfl⟩
        clear CALL
        go_wp2_with fail
        have CALL := long_any nm 400 w
        rw [B2.out] at CALL
        refine CALL.mono ?_
        rintro e w_ ⟨rfl, rfl⟩
        clear CALL
        go_wp2_with fail
        have CALL := long_any nd 400 w
        rw [B3.out] at CALL
        refine CALL.mono ?_
        rintro e w_ ⟨rfl, rfl⟩
        clear CALL
        go_wp2_with fail
        have CALL := Split_any w.heap.size Ap np kp p w (HP.out.more (by omega)) (Nat.le_refl _) (by omega)
        refine CALL.mono ?_
        rintro e w1 ⟨va, vb, rfl, ho, hq, hb⟩
        clear CALL
        have hsz1 := hb.size
        replace HP := Lib.hid (HP.out.below hb (by omega))
        replace HM := Lib.hid (HM.out.below hb (by omega))
        replace HD := Lib.hid (HD.out.below hb (by omega))
        replace HB := Lib.hid (HB.out.trans (hb.mono (by omega)))
        have hlQ := own_le ho
        obtain ⟨AQ, cQ, rfl, hL⟩ := li_own ho
        have HQ := Lib.hid hL
        obtain ⟨AR, cR, rfl, hL2⟩ := li_own hq
        have hlR := own_le hq
        have HR := Lib.hid hL2
        clear ho hq hL hL2
        clear hb
        go_wp2_with fail
        have CALL := refSplitC_any w1.heap.size Ap np kp p w1 (HP.out.more (by omega)) (Nat.le_refl _) (by omega)
        refine CALL.mono ?_
        rintro e w2 ⟨va, vb, rfl, ho, hq, hb⟩
        clear CALL
        have hsz2 := hb.size
        replace HP := Lib.hid (HP.out.below hb (by omega))
        replace HM := Lib.hid (HM.out.below hb (by omega))
        replace HD := Lib.hid (HD.out.below hb (by omega))
        replace HQ := Lib.hid (HQ.out.below hb (by omega))
        replace HR := Lib.hid (HR.out.below hb (by omega))
        replace HB := Lib.hid (HB.out.trans (hb.mono (by omega)))
        have hlU := own_le ho
        obtain ⟨AU, cU, rfl, hL⟩ := li_own ho
        have HU := Lib.hid hL
        obtain ⟨AV, cV, rfl, hL2⟩ := li_own hq
        have hlV := own_le hq
        have HV := Lib.hid hL2
        clear ho hq hL hL2
        clear hb
        go_wp2_with fail
        have CALL := Join_any w2.heap.size Am Ad nm km nd kd m d w2 (HM.out.more (by omega)) (HD.out.more (by omega)) (Nat.le_refl _) (by omega) (by omega)
        refine CALL.mono ?_
        rintro e w3 ⟨va, rfl, ho, hb⟩
        clear CALL
        have hsz3 := hb.size
        replace HP := Lib.hid (HP.out.below hb (by omega))
        replace HM := Lib.hid (HM.out.below hb (by omega))
        replace HD := Lib.hid (HD.out.below hb (by omega))
        replace HQ := Lib.hid (HQ.out.below hb (by omega))
        replace HR := Lib.hid (HR.out.below hb (by omega))
        replace HU := Lib.hid (HU.out.below hb (by omega))
        replace HV := Lib.hid (HV.out.below hb (by omega))
        replace HB := Lib.hid (HB.out.trans (hb.mono (by omega)))
        have hlX := own_le ho
        obtain ⟨AX, cX, rfl, hr⟩ := own_reads ho
        have HX : Hid (RS w3 w3.heap.size AX (joR m d).length (joR m d)) := Lib.hid ⟨rfl, hr⟩
        clear ho hr
        clear hb
        go_wp2_with fail
        have CALL := refJoin_any w3.heap.size Am Ad nm km nd kd m d w3 (HM.out.more (by omega)) (HD.out.more (by omega)) (Nat.le_refl _) (by omega) (by omega)
        refine CALL.mono ?_
        rintro e w4 ⟨va, rfl, ho, hb⟩
        clear CALL
        have hsz4 := hb.size
        replace HP := Lib.hid (HP.out.below hb (by omega))
        replace HM := Lib.hid (HM.out.below hb (by omega))
        replace HD := Lib.hid (HD.out.below hb (by omega))
        replace HQ := Lib.hid (HQ.out.below hb (by omega))
        replace HR := Lib.hid (HR.out.below hb (by omega))
        replace HU := Lib.hid (HU.out.below hb (by omega))
        replace HV := Lib.hid (HV.out.below hb (by omega))
        replace HX := Lib.hid (HX.out.below hb (by omega))
        replace HB := Lib.hid (HB.out.trans (hb.mono (by omega)))
        have hlY := own_le ho
        obtain ⟨AY, cY, rfl, hr⟩ := own_reads ho
        have HY : Hid (RS w4 w4.heap.size AY (joR m d).length (joR m d)) := Lib.hid ⟨rfl, hr⟩
        clear ho hr
        clear hb
        go_wp2_with fail
        have CALL := refSame_any w4.heap.size AQ AU (splM p).length cQ (splM p).length cU (splM p) (splM p) w4 (HQ.out.more (by omega)) (HU.out.more (by omega)) (Nat.le_refl _) (by omega) (by omega)
        rw [S1.out] at CALL
        refine CALL.mono ?_
        rintro e w5 ⟨rfl, hb⟩
        clear CALL
        have hsz5 := hb.size
        replace HP := Lib.hid (HP.out.below hb (by omega))
        replace HM := Lib.hid (HM.out.below hb (by omega))
        replace HD := Lib.hid (HD.out.below hb (by omega))
        replace HQ := Lib.hid (HQ.out.below hb (by omega))
        replace HR := Lib.hid (HR.out.below hb (by omega))
        replace HU := Lib.hid (HU.out.below hb (by omega))
        replace HV := Lib.hid (HV.out.below hb (by omega))
        replace HX := Lib.hid (HX.out.below hb (by omega))
        replace HY := Lib.hid (HY.out.below hb (by omega))
        replace HB := Lib.hid (HB.out.trans (hb.mono (by omega)))

        clear hb
        go_wp2_with fail
        have CALL := refSame_any w5.heap.size AR AV (splD p).length cR (splD p).length cV (splD p) (splD p) w5 (HR.out.more (by omega)) (HV.out.more (by omega)) (Nat.le_refl _) (by omega) (by omega)
        rw [S2.out] at CALL
        refine CALL.mono ?_
        rintro e w6 ⟨rfl, hb⟩
        clear CALL
        have hsz6 := hb.size
        replace HP := Lib.hid (HP.out.below hb (by omega))
        replace HM := Lib.hid (HM.out.below hb (by omega))
        replace HD := Lib.hid (HD.out.below hb (by omega))
        replace HQ := Lib.hid (HQ.out.below hb (by omega))
        replace HR := Lib.hid (HR.out.below hb (by omega))
        replace HU := Lib.hid (HU.out.below hb (by omega))
        replace HV := Lib.hid (HV.out.below hb (by omega))
        replace HX := Lib.hid (HX.out.below hb (by omega))
        replace HY := Lib.hid (HY.out.below hb (by omega))
        replace HB := Lib.hid (HB.out.trans (hb.mono (by omega)))

        clear hb
        go_wp2_with fail
        have CALL := SamePrograms_any w6.heap.size AX AY (joR m d).length cX (joR m d).length cY (joR m d) w6 (HX.out.more (by omega)) (HY.out.more (by omega)) (Nat.le_refl _) (by omega)
        refine CALL.mono ?_
        rintro e w7 ⟨rfl, hb⟩
        clear CALL
        have hsz7 := hb.size
        replace HP := Lib.hid (HP.out.below hb (by omega))
        replace HM := Lib.hid (HM.out.below hb (by omega))
        replace HD := Lib.hid (HD.out.below hb (by omega))
        replace HQ := Lib.hid (HQ.out.below hb (by omega))
        replace HR := Lib.hid (HR.out.below hb (by omega))
        replace HU := Lib.hid (HU.out.below hb (by omega))
        replace HV := Lib.hid (HV.out.below hb (by omega))
        replace HX := Lib.hid (HX.out.below hb (by omega))
        replace HY := Lib.hid (HY.out.below hb (by omega))
        replace HB := Lib.hid (HB.out.trans (hb.mono (by omega)))

        clear hb
        go_wp2_with fail
        have CALL := works_any w7
        refine CALL.mono ?_
        rintro e w8 ⟨rfl, hb⟩
        clear CALL
        have hsz8 := hb.size
        replace HP := Lib.hid (HP.out.below hb (by omega))
        replace HM := Lib.hid (HM.out.below hb (by omega))
        replace HD := Lib.hid (HD.out.below hb (by omega))
        replace HQ := Lib.hid (HQ.out.below hb (by omega))
        replace HR := Lib.hid (HR.out.below hb (by omega))
        replace HU := Lib.hid (HU.out.below hb (by omega))
        replace HV := Lib.hid (HV.out.below hb (by omega))
        replace HX := Lib.hid (HX.out.below hb (by omega))
        replace HY := Lib.hid (HY.out.below hb (by omega))
        replace HB := Lib.hid (HB.out.trans (hb.mono (by omega)))

        clear hb
        go_wp2
        go_ret
        exact ⟨rfl, HB.out⟩
end Go.Proofs.Ytjaomjbhkgijbaa

