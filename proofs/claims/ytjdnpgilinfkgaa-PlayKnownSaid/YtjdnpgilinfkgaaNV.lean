/-
  Greatest of package play, and of the document.
-/
import Derived.Test.YtjdnpgilinfkgaaNU
import Derived.Test.YtjdnpgilinfkgaaNS
import Derived.Test.YtjdnpgilinfkgaaMV
import Derived.Test.YtjdnpgilinfkgaaKG
namespace Go.Proofs.Ytjdnpgilinfkgaa
open Go.RowKit

def gtEr (l : List Smp) (arc most : Int) : Int := orL [ckG l, ckRn most arc]
def gtV (l : List Smp) (arc most : Int) : Nat := if gtEr l arc most = 0 then gtN l arc.toNat most.toNat else 0
theorem gtEr_ok {l : List Smp} {arc most : Int} (h : gtEr l arc most = 0) : ckG l = 0 ∧ ckRn most arc = 0 := by
  unfold gtEr orL at h
  split at h
  · rename_i h1
    unfold orL at h
    split at h
    · rename_i h2; exact ⟨h1, h2⟩
    · rename_i h2; exact absurd h h2
  · rename_i h1; exact absurd h h1
theorem gtEr_of {l : List Smp} {arc most : Int} (h1 : ckG l = 0) (h2 : ckRn most arc = 0) : gtEr l arc most = 0 := by simp [gtEr, orL, h1, h2]

set_option maxRecDepth 100000 in
set_option maxHeartbeats 4000000 in
theorem Greatest_any (B : Nat) (A : Option Addr) (n c : Nat) (l : List Smp) (arc most : Int) (w : World) (h0 : RS w B A n l) (hB : B ≤ w.heap.size) (hl : n ≤ 9223372036854775807) :
    Calls Try.prog 22 #[.slice A n c, .int .i64 arc, .int .i64 most] w fun e w' => e = .returned (.tuple #[.int .i64 (gtV l arc most), .int .i64 (gtEr l arc most)]) ∧ Below w.heap.size w w' := by
  have HN := Lib.hid h0.1
  have H := Lib.hid (h0.more hB)
  clear h0 hB
  have CG := Lib.hid (fun W (hb : Below w.heap.size w W) => CheckPoints_any w.heap.size A n c l W (H.out.below hb (Nat.le_refl _)) hb.size hl)
  have CR := Lib.hid (fun W => checkRound_any most arc W)
  have HER0 : Hid (gtEr l arc most = orL [ckG l, ckRn most arc]) := Lib.hid rfl
  have HOK : Hid (gtEr l arc most = 0 → ckG l = 0 ∧ ckRn most arc = 0) := Lib.hid gtEr_ok
  obtain ⟨e1, h1⟩ : ∃ y, ckG l = y := ⟨_, rfl⟩
  obtain ⟨e2, h2⟩ : ∃ y, ckRn most arc = y := ⟨_, rfl⟩
  rw [h1] at CG
  rw [h2] at CR
  rw [h1, h2] at HER0
  obtain ⟨er_, h5⟩ : ∃ y, orL [e1, e2] = y := ⟨_, rfl⟩
  rw [h5] at HER0
  have HER := HER0
  have HOR := Lib.hid (fun B A n c W h1 h2 h3 h4 => cmpOr_any B A n c [e1, e2] W h1 h2 h3 h4)
  rw [h5] at HOR
  clear h1 h2 h5 HER0
  go_enter Try.func22, Try.ntmps22
  go_wp2_with fail
  refine (CG.out _ (Below.refl _ _)).mono ?_
  rintro e w1 ⟨rfl, hb1⟩
  have HB := Lib.hid hb1
  clear hb1
  go_wp2_with fail
  refine (CR.out _).mono ?_
  rintro e w_ ⟨rfl, rfl⟩
  go_wp2_with fail
  refine (HOR.out _ _ _ _ _ rfl (reads_cells (blk_al rfl) (Nat.lt_succ_self _) (by rfl) (by rfl)) (by simp) (by simp)).mono ?_
  rintro e w' ⟨rfl, rfl⟩
  obtain ⟨W2, hW2⟩ : ∃ W2, w1.alloc (.cells #[.int .i64 e1, .int .i64 e2] 26) = W2 := ⟨_, rfl⟩
  replace HB : Hid (Below w.heap.size w W2) := Lib.hid (by rw [← hW2]; exact HB.out.alloc HB.out.size _)
  rw [hW2]
  clear hW2 CG CR HOR
  by_cases hz : er_ = 0
  · subst hz
    obtain ⟨hg, hr⟩ := HOK.out HER.out
    obtain ⟨hl4, he⟩ := ckG_edg hg
    have HV : Hid (gtV l arc most = gtN l arc.toNat most.toNat) := Lib.hid (if_pos HER.out)
    obtain ⟨m, a, rfl, rfl, h1, h2, h3, h4⟩ := ckRn_ok hr
    rw [Int.toNat_natCast, Int.toNat_natCast] at HV
    have hn4 : n ≤ 4096 := by have := HN.out; omega
    have CALL := greatestRadius_any w.heap.size A n c l a m W2 (H.out.below HB.out (Nat.le_refl _)) HB.out.size he hn4 h1 h2 h3 h4
    clear hg hr hl4 he h1 h2 h3 h4 HOK
    go_wp2_with fail
    refine CALL.mono ?_
    rintro e w3 ⟨rfl, hb⟩
    replace HB := Lib.hid (HB.out.trans (hb.mono HB.out.size))
    clear CALL hb
    go_wp2
    refine bodyPost_ret (results_tmp2 rfl _ _ _) rfl ?_
    exact ⟨by rw [HV.out, HER.out]; rfl, HB.out⟩
  · have q1 : (er_ != 0) = true := by rw [bne_iff_ne]; exact hz
    have HV : Hid (gtV l arc most = 0) := Lib.hid (if_neg (by rw [HER.out]; exact hz))
    clear hz
    go_wp2
    refine bodyPost_ret (results_tmp2 rfl _ _ _) rfl ?_
    exact ⟨by rw [HV.out, HER.out]; rfl, HB.out⟩

set_option maxRecDepth 100000 in
set_option maxHeartbeats 8000000 in
theorem refGreatest_any (B : Nat) (A : Option Addr) (n c : Nat) (l : List Smp) (arc most : Int) (w : World) (h0 : RS w B A n l) (hB : B ≤ w.heap.size) (hl : n ≤ 9223372036854775807) :
    Calls Try.prog 23 #[.slice A n c, .int .i64 arc, .int .i64 most] w fun e w' => e = .returned (.tuple #[.int .i64 (gtV l arc most), .int .i64 (gtEr l arc most)]) ∧ Below w.heap.size w w' := by
  have HN := Lib.hid h0.1
  have H := Lib.hid (h0.more hB)
  clear h0 hB
  have CG := Lib.hid (fun W (hb : Below w.heap.size w W) => refCheckPoints_any w.heap.size A n c l W (H.out.below hb (Nat.le_refl _)) hb.size hl)
  have CR := Lib.hid (fun W => refRound_any most arc false W)
  by_cases hg : ckG l = 0
  · rw [hg] at CG
    by_cases hr : ckRn most arc = 0
    · rw [hr] at CR
      have hER := gtEr_of hg hr
      have HV : Hid (gtV l arc most = gtN l arc.toNat most.toNat ∧ gtEr l arc most = 0) := Lib.hid ⟨if_pos hER, hER⟩
      obtain ⟨m, a, rfl, rfl, h1, h2, h3, h4⟩ := ckRn_ok hr
      rw [Int.toNat_natCast, Int.toNat_natCast] at HV
      have HM := Lib.hid (And.intro h1 (And.intro h2 (And.intro h3 h4)))
      obtain ⟨hl4, he⟩ := ckG_edg hg
      have HE := Lib.hid he
      have hn4 : n ≤ 4096 := by have := HN.out; omega
      have HRO := Lib.hid (fun (R : Nat) (hR : R ≤ m) W => show Calls Try.prog 17 #[.int .i64 R, .int .i64 a, .bool false] W (RndPost W 0 (rndL R a false)) from by
        have hz : ckRn R a = 0 := ckRn_of (Nat.le_trans hR h1) h2 h3 (Nat.le_trans (Nat.add_le_add_right (Nat.div_le_div_right hR) 1) h4)
        have h := refRound_any R a false W
        unfold rnRes at h
        rw [hz, if_pos rfl, Int.toNat_natCast, Int.toNat_natCast] at h
        exact h)
      have HSP := Lib.hid (fun R (hR : R ≤ m) => rndL_shp (arc := a) false (Nat.le_trans hR h1) (Nat.le_trans (Nat.add_le_add_right (Nat.div_le_div_right hR) 1) h4))
      clear hg hr hER h2 h3 h4 he hl4
      go_enter Try.func23, Try.ntmps23
      go_wp2_with fail
      refine (CG.out _ (Below.refl _ _)).mono ?_
      rintro e w1 ⟨rfl, hb1⟩
      have HB := Lib.hid hb1
      clear hb1 CG
      go_wp2_with fail
      refine (CR.out _).mono ?_
      rintro e w2 ⟨A2, n2, k2, rfl, -, -, -, hb1⟩
      replace HB := Lib.hid (HB.out.trans (hb1.mono HB.out.size))
      clear hb1 CR
      go_wp2_with fail
      go_loopw [9, 10] (fun u z wr => ∃ r : Nat, r ≤ m + 1 ∧ z = .int .i64 r ∧ u = .int .i64 ((gtN l a (r - 1) : Nat) : Int) ∧ Hid (Below w.heap.size w wr)) (fun _ z _ => m + 1 - (intOf z).toNat)
      case atStart => exact ⟨0, Nat.zero_le _, rfl, rfl, HB⟩
      case round =>
        clear HB
        obtain ⟨r, hr, rfl, rfl, HB⟩ := hrel
        have e1 : IntKind.i64.wrap ((r : Int) + 1) = (r : Int) + 1 := IntWalk.i64_in _ (by omega)
        by_cases hlt : r ≤ m
        · have g1 : (r : Int) ≤ (m : Int) := by omega
          have HSH := Lib.hid (HSP.out r hlt)
          have CALL := HRO.out r hlt wr
          have HST : Hid (gtN l a (r + 1 - 1) = if miL (rndL r a false) l = none then r else gtN l a (r - 1)) := Lib.hid (by
            cases r with
            | zero => show gtN l a 0 = _; rw [rndL_0, if_pos (mi_ideal l)]; rfl
            | succ r => rfl)
          have h64 := HSH.out.many
          obtain ⟨s, hs⟩ : ∃ s, rndL r a false = s := ⟨_, rfl⟩
          rw [hs] at HSH CALL HST h64
          clear hs
          go_wp2_with fail
          refine CALL.mono ?_
          rintro e w3 ⟨At, nt, kt, rfl, ht, hnt, hct, hb⟩
          have HT := Lib.hid ht
          replace HB := Lib.hid (HB.out.trans (hb.mono HB.out.size))
          clear CALL ht hb
          go_upto_region 12 with fail
          obtain ⟨W, hW⟩ : ∃ W, w3.alloc (.cells #[.slice At nt kt] 24) = W := ⟨_, rfl⟩
          have hb3 : Below w3.heap.size w3 W := by rw [← hW]; exact (Below.refl _ _).alloc (Nat.le_refl _) _
          have k3 : Blk W w3.heap.size 24 #[.slice At nt kt] := by rw [← hW]; exact Blk.new _ _ _
          replace HT := Lib.hid ((HT.out.below hb3 (Nat.le_refl _)).more hb3.size)
          replace HB := Lib.hid (HB.out.trans (hb3.mono HB.out.size))
          have t0 := k3.one.1
          rw [hW]
          clear hW hb3 k3
          have CALL := refMissIn_any W.heap.size At A nt kt n c s l W HT.out ((H.out.below HB.out (Nat.le_refl _)).more HB.out.size) (Nat.le_refl _) HSH.out HE.out hn4
          cases hmi : miL s l with
          | none =>
            have HN2 : Hid (gtN l a (r + 1 - 1) = r) := Lib.hid (by rw [HST.out, if_pos hmi])
            rw [hmi] at CALL
            clear hmi
            go_wp2_with fail
            refine CALL.mono ?_
            rintro e w4 ⟨rfl, hb⟩
            replace HB := Lib.hid (HB.out.trans (hb.mono HB.out.size))
            clear CALL hb t0
            go_wp2
            go_roundw
            case rel => exact ⟨r + 1, by omega, by go_num, by rw [HN2.out], HB⟩
            case measure => simp [intOf]; omega
          | some iu =>
            have HN2 : Hid (gtN l a (r + 1 - 1) = gtN l a (r - 1)) := Lib.hid (by rw [HST.out, if_neg (by rw [hmi]; simp)])
            rw [hmi] at CALL
            clear hmi
            go_wp2_with fail
            refine CALL.mono ?_
            rintro e w4 ⟨rfl, hb⟩
            replace HB := Lib.hid (HB.out.trans (hb.mono HB.out.size))
            clear CALL hb t0
            go_wp2
            go_roundw
            case rel => exact ⟨r + 1, by omega, by go_num, by rw [HN2.out], HB⟩
            case measure => simp [intOf]; omega
        · obtain rfl : r = m + 1 := by omega
          have g1 : ¬ ((m + 1 : Nat) : Int) ≤ (m : Int) := by omega
          go_wp2
          refine bodyPost_ret (results_tmp2 rfl _ _ _) rfl ?_
          exact ⟨by rw [HV.out.1, HV.out.2]; rfl, HB.out⟩
    · have hER : gtEr l arc most = ckRn most arc := by simp [gtEr, orL, hg, hr]
      have HV : Hid (gtV l arc most = 0 ∧ gtEr l arc most = ckRn most arc) := Lib.hid ⟨if_neg (by rw [hER]; exact hr), hER⟩
      obtain ⟨q, hq⟩ : ∃ q, ckRn most arc = q := ⟨_, rfl⟩
      rw [hq] at CR hr HV
      have q1 : (q != 0) = true := by rw [bne_iff_ne]; exact hr
      clear hER hr hg hq
      go_enter Try.func23, Try.ntmps23
      go_wp2_with fail
      refine (CG.out _ (Below.refl _ _)).mono ?_
      rintro e w1 ⟨rfl, hb1⟩
      have HB := Lib.hid hb1
      clear hb1 CG
      go_wp2_with fail
      refine (CR.out _).mono ?_
      rintro e w2 ⟨A2, n2, k2, rfl, -, -, -, hb1⟩
      replace HB := Lib.hid (HB.out.trans (hb1.mono HB.out.size))
      clear hb1 CR
      go_wp2
      refine bodyPost_ret (results_tmp2 rfl _ _ _) rfl ?_
      exact ⟨by rw [HV.out.1, HV.out.2]; rfl, HB.out⟩
  · have hER : gtEr l arc most = ckG l := by simp [gtEr, orL, hg]
    have HV : Hid (gtV l arc most = 0 ∧ gtEr l arc most = ckG l) := Lib.hid ⟨if_neg (by rw [hER]; exact hg), hER⟩
    obtain ⟨q, hq⟩ : ∃ q, ckG l = q := ⟨_, rfl⟩
    rw [hq] at CG hg HV
    have q1 : (q != 0) = true := by rw [bne_iff_ne]; exact hg
    clear hER hg hq
    go_enter Try.func23, Try.ntmps23
    go_wp2_with fail
    refine (CG.out _ (Below.refl _ _)).mono ?_
    rintro e w1 ⟨rfl, hb1⟩
    have HB := Lib.hid hb1
    clear hb1 CG
    go_wp2
    refine bodyPost_ret (results_tmp2 rfl _ _ _) rfl ?_
    exact ⟨by rw [HV.out.1, HV.out.2]; rfl, HB.out⟩
end Go.Proofs.Ytjdnpgilinfkgaa
