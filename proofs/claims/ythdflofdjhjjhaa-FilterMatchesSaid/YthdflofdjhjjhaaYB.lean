/-
  Contracts of Match, on both sides.
-/
import Derived.Test.YthdflofdjhjjhaaYA
import Derived.Test.YthdflofdjhjjhaaOr
namespace Go.Proofs.Ythdflofdjhjjhaa
open Go.RowKit

set_option maxRecDepth 100000 in
set_option maxHeartbeats 8000000 in
theorem Match_any (B : Nat) (A : Option Addr) (n k : Nat) (l : List CV) (Ax : Option Addr) (nx kx : Nat) (xs : List Int) (Ay : Option Addr) (ny ky : Nat) (ys : List Int) (w : World) (h0 : RC w B A n l) (hX : LI w B Ax nx xs) (hY : LI w B Ay ny ys) (hB : B ≤ w.heap.size) (hl : n ≤ 9223372036854775807) (hlx : nx ≤ 9223372036854775807) (hly : ny ≤ 9223372036854775807) (hs : CSm l) :
    Calls Try.prog 20 #[.slice A n k, .slice Ax nx kx, .slice Ay ny ky] w fun e w' => e = .returned (.tuple #[.int .i64 (matchV (l.map CV.c) xs ys : Nat), .int .i64 (matchE (l.map CV.c) xs ys)]) ∧ Below w.heap.size w w' := by
  have HC := Lib.hid (h0.more hB)
  have HX := Lib.hid (hX.more hB)
  have HY := Lib.hid (hY.more hB)
  have HNL := Lib.hid h0.1
  have HNX := Lib.hid hX.1
  have HNY := Lib.hid hY.1
  have HSM := Lib.hid hs
  clear h0 hX hY hB hs
  go_enter Try.func20, Try.ntmps20
  go_wp2_with fail
  have CALL := checkCurves_any w.heap.size A n k l w HC.out (Nat.le_refl _) hl HSM.out
  refine CALL.mono ?_
  rintro e w1 ⟨rfl, hb⟩
  clear CALL
  have HB := Lib.hid hb
  clear hb
  go_wp2_with fail
  have CALL := checkSignal_any w.heap.size Ax nx kx xs w1 (HX.out.below HB.out (Nat.le_refl _)) HB.out.size hlx
  refine CALL.mono ?_
  rintro e w2 ⟨rfl, hb⟩
  clear CALL
  replace HB := Lib.hid (HB.out.trans (hb.mono HB.out.size))
  clear hb
  go_wp2_with fail
  have CALL := checkSignal_any w.heap.size Ay ny ky ys w2 (HY.out.below HB.out (Nat.le_refl _)) HB.out.size hly
  refine CALL.mono ?_
  rintro e w3 ⟨rfl, hb⟩
  clear CALL
  replace HB := Lib.hid (HB.out.trans (hb.mono HB.out.size))
  clear hb
  go_wp2_with fail
  refine (cmpOr_any (w3.heap.size + 1) _ 3 3 [ckCs (l.map CV.c), ckX xs, ckX ys] _ rfl (reads_cells (Blk.new _ _ _) (by omega) rfl rfl) (by simp) (by omega)).mono ?_
  rintro e w' ⟨rfl, hw'⟩
  obtain ⟨w4, hw4⟩ : ∃ w4, w' = w4 := ⟨_, rfl⟩
  have hb3 : Below w3.heap.size w3 w4 := by rw [← hw4, ← hw']; exact (Below.refl _ _).alloc (Nat.le_refl _) _
  replace HB := Lib.hid (HB.out.trans (hb3.mono HB.out.size))
  rw [hw4]
  clear hb3 hw' hw4
  obtain ⟨q, hq⟩ : ∃ q, orL [ckCs (l.map CV.c), ckX xs, ckX ys] = q := ⟨_, rfl⟩
  have HQ : Hid (mtQ (l.map CV.c) xs ys = q) := Lib.hid hq
  rw [hq]
  clear hq
  by_cases h0 : q = 0
  · subst h0
    have HQQ := HQ
    by_cases hxy : nx = ny
    · have hxy1 : ((nx : Int) != (ny : Int)) = false := by rw [hxy]; simp
      have HXY : Hid (¬ xs.length ≠ ys.length) := Lib.hid (by rw [← HNX.out, ← HNY.out]; exact fun h => h hxy)
      clear hxy
      go_wp2_with fail
      go_loopw [31] (fun z wr => ∃ i : Nat, i ≤ n ∧ z = .int .i64 i ∧ Hid (Below w.heap.size w wr) ∧ Hid (mtI xs ys ((l.map CV.c).drop i) i = mtI xs ys (l.map CV.c) 0)) (fun z _ => n - (intOf z).toNat)
      case atStart => exact ⟨0, Nat.zero_le _, rfl, HB, Lib.hid rfl⟩
      case round =>
        clear HB
        obtain ⟨i, hi, rfl, HB, HMI⟩ := hrel
        by_cases hlt : i < n
        · have hil : i < l.length := by rw [← HNL.out]; exact hlt
          obtain ⟨ad, hA, -, g1, g2, g3, hci⟩ := (HC.out.below HB.out (Nat.le_refl _)).at_ (k := i) hil
          subst hA
          have hnext := mtI_next (x := xs) (y := ys) (l := l) hil
          rw [HMI.out] at hnext
          have hsm := HSM.out l[i] (List.getElem_mem hil)
          obtain ⟨t, ht⟩ : ∃ t, l[i] = t := ⟨_, rfl⟩
          rw [ht] at g1 g2 g3 hci hnext hsm
          have HCI := Lib.hid hci
          have HNE := Lib.hid hnext
          clear hnext ht hci hil
          go_upto_region 9 with fail
          obtain ⟨wa, hW⟩ : ∃ W, wr.alloc (.cells #[.slice t.Af t.nf t.kf, .slice t.Ab t.nb t.kb, .int .i64 t.c.share] 24) = W := ⟨_, rfl⟩
          have hb : Below wr.heap.size wr wa := by rw [← hW]; exact (Below.refl _ _).alloc (Nat.le_refl _) _
          have ka : Blk wa wr.heap.size 24 #[.slice t.Af t.nf t.kf, .slice t.Ab t.nb t.kb, .int .i64 t.c.share] := by rw [← hW]; exact Blk.new _ _ _
          rw [hW]
          replace HCI := Lib.hid (HCI.out.below hb HB.out.size)
          replace HB := Lib.hid (HB.out.trans (hb.mono HB.out.size))
          obtain ⟨q0, q1, q2⟩ := ka.three_
          clear hb hW ka g1 g2 g3
          go_wp2_with fail
          have CALL := Apply_any w.heap.size t Ax nx kx xs wa HCI.out (HX.out.below HB.out (Nat.le_refl _)) HB.out.size hlx hsm
          refine CALL.mono ?_
          rintro e wb ⟨v, rfl, ho, hb⟩
          clear CALL
          have hlo := own_le ho
          obtain ⟨Ao, ko, rfl, hO⟩ := li_own ho
          have HO := Lib.hid hO
          replace HB := Lib.hid (HB.out.trans (hb.mono HB.out.size))
          clear hb ho hO
          obtain ⟨er, her⟩ : ∃ x, oneErr true t.c xs = x := ⟨_, rfl⟩
          obtain ⟨re, hre⟩ : ∃ x, oneRes true t.c xs = x := ⟨_, rfl⟩
          rw [hre] at HO hlo
          obtain ⟨ln, hln⟩ : ∃ x, re.length = x := ⟨_, rfl⟩
          have HMP : Hid (mtP xs ys t.c = (decide (er = 0) && sameI re ys)) := Lib.hid (by unfold mtP; rw [her, hre])
          rw [hln] at HO hlo
          rw [her, hre, hln]
          clear her hre hln
          by_cases he0 : er = 0
          · subst he0
            have HMP : Hid (mtP xs ys t.c = sameI re ys) := Lib.hid (by rw [HMP.out]; simp)
            obtain ⟨sm, hsm2⟩ : ∃ x, sameI re ys = x := ⟨_, rfl⟩
            have CE := equal_any wb.heap.size w.heap.size Ao Ay ln ko ny ky re ys wb HO.out (HY.out.below HB.out (Nat.le_refl _)) (Nat.le_refl _) HB.out.size hlo
            rw [hsm2] at CE HMP
            have HCE := Lib.hid CE
            clear CE hsm2
            cases sm with
            | true =>
              have HF : Hid (mtI xs ys (l.map CV.c) 0 = some i) := Lib.hid (by rw [HNE.out, if_pos HMP.out])
              have HE : Hid (matchE (l.map CV.c) xs ys = 0 ∧ matchV (l.map CV.c) xs ys = i) := Lib.hid (by unfold matchE matchV; rw [if_pos HQQ.out, if_pos HQQ.out, if_neg HXY.out, if_neg HXY.out, HF.out]; exact ⟨rfl, rfl⟩)
              go_wp2_with fail
              refine HCE.out.mono ?_
              rintro e wc ⟨rfl, hb⟩
              replace HB := Lib.hid (HB.out.trans (hb.mono HB.out.size))
              clear hb
              go_wp2_with fail
              go_ret2
              rw [HE.out.1, HE.out.2]
              exact ⟨rfl, HB.out⟩
            | false =>
              have HMI2 : Hid (mtI xs ys ((l.map CV.c).drop (i + 1)) (i + 1) = mtI xs ys (l.map CV.c) 0) := Lib.hid (by rw [HNE.out, if_neg (by rw [HMP.out]; simp)])
              go_wp2_with fail
              refine HCE.out.mono ?_
              rintro e wc ⟨rfl, hb⟩
              replace HB := Lib.hid (HB.out.trans (hb.mono HB.out.size))
              clear hb
              go_wp2_with fail
              go_roundw
              case rel => exact ⟨i + 1, by omega, by go_num, HB, HMI2⟩
              case measure => simp [intOf]; omega
          · have he1 : (er == 0) = false := beq_eq_false_iff_ne.2 he0
            have HMI2 : Hid (mtI xs ys ((l.map CV.c).drop (i + 1)) (i + 1) = mtI xs ys (l.map CV.c) 0) := Lib.hid (by rw [HNE.out, if_neg (by rw [HMP.out]; simp [he0])])
            clear he0
            go_wp2_with fail
            go_roundw
            case rel => exact ⟨i + 1, by omega, by go_num, HB, HMI2⟩
            case measure => simp [intOf]; omega
        · obtain rfl : n = i := by omega
          have HF : Hid (mtI xs ys (l.map CV.c) 0 = none) := Lib.hid (by rw [← HMI.out]; exact mtI_end (by rw [← HNL.out]; exact Nat.le_refl _))
          have HE : Hid (matchE (l.map CV.c) xs ys = 5 ∧ matchV (l.map CV.c) xs ys = 0) := Lib.hid (by unfold matchE matchV; rw [if_pos HQQ.out, if_pos HQQ.out, if_neg HXY.out, if_neg HXY.out, HF.out]; exact ⟨rfl, rfl⟩)
          go_wp2_with fail
          go_ret2
          rw [HE.out.1, HE.out.2]
          exact ⟨rfl, HB.out⟩
    · have hxy1 : ((nx : Int) != (ny : Int)) = true := by simp; omega
      have HE : Hid (matchE (l.map CV.c) xs ys = 17 ∧ matchV (l.map CV.c) xs ys = 0) := Lib.hid (by
        have h : xs.length ≠ ys.length := by rw [← HNX.out, ← HNY.out]; exact hxy
        unfold matchE matchV; rw [if_pos HQQ.out, if_pos HQQ.out, if_pos h, if_pos h]; exact ⟨rfl, rfl⟩)
      go_wp2_with fail
      go_ret2
      rw [HE.out.1, HE.out.2]
      exact ⟨rfl, HB.out⟩
  · have h1 : (q != 0) = true := by simpa using h0
    have HE : Hid (matchE (l.map CV.c) xs ys = q ∧ matchV (l.map CV.c) xs ys = 0) := Lib.hid (by unfold matchE matchV; rw [if_neg (by rw [HQ.out]; exact h0), if_neg (by rw [HQ.out]; exact h0)]; exact ⟨HQ.out, rfl⟩)
    clear h0
    go_wp2_with fail
    go_ret2
    rw [HE.out.1, HE.out.2]
    exact ⟨rfl, HB.out⟩

set_option maxRecDepth 100000 in
set_option maxHeartbeats 8000000 in
theorem refMatch_any (B : Nat) (A : Option Addr) (n k : Nat) (l : List CV) (Ax : Option Addr) (nx kx : Nat) (xs : List Int) (Ay : Option Addr) (ny ky : Nat) (ys : List Int) (w : World) (h0 : RC w B A n l) (hX : LI w B Ax nx xs) (hY : LI w B Ay ny ys) (hB : B ≤ w.heap.size) (hl : n ≤ 9223372036854775807) (hlx : nx ≤ 9223372036854775807) (hly : ny ≤ 9223372036854775807) (hs : CSm l) :
    Calls Try.prog 21 #[.slice A n k, .slice Ax nx kx, .slice Ay ny ky] w fun e w' => e = .returned (.tuple #[.int .i64 (matchV (l.map CV.c) xs ys : Nat), .int .i64 (matchE (l.map CV.c) xs ys)]) ∧ Below w.heap.size w w' := by
  have HC := Lib.hid (h0.more hB)
  have HX := Lib.hid (hX.more hB)
  have HY := Lib.hid (hY.more hB)
  have HNL := Lib.hid h0.1
  have HNX := Lib.hid hX.1
  have HNY := Lib.hid hY.1
  have HSM := Lib.hid hs
  clear h0 hX hY hB hs
  go_enter Try.func21, Try.ntmps21
  go_wp2_with fail
  have CALL := refCheckChain_any w.heap.size A n k l w HC.out (Nat.le_refl _) hl HSM.out
  refine CALL.mono ?_
  rintro e w1 ⟨rfl, hb⟩
  clear CALL
  have HB := Lib.hid hb
  clear hb
  obtain ⟨e1, h1⟩ : ∃ x, ckCs (l.map CV.c) = x := ⟨_, rfl⟩
  obtain ⟨e2, h2⟩ : ∃ x, ckX xs = x := ⟨_, rfl⟩
  obtain ⟨e3, h3⟩ : ∃ x, ckX ys = x := ⟨_, rfl⟩
  have HQ : Hid (mtQ (l.map CV.c) xs ys = orL [e1, e2, e3]) := Lib.hid (by unfold mtQ; rw [h1, h2, h3])
  have CX := Lib.hid (fun W h => refSignal_any w.heap.size Ax nx kx xs W h hlx)
  have CY := Lib.hid (fun W h => refSignal_any w.heap.size Ay ny ky ys W h hly)
  rw [h2] at CX
  rw [h3] at CY
  rw [h1]
  replace CX := Lib.hid CX.out
  replace CY := Lib.hid CY.out
  clear h1 h2 h3
  by_cases he1 : e1 = 0
  · subst he1
    go_wp2_with fail
    refine (CX.out w1 (HX.out.below HB.out (Nat.le_refl _))).mono ?_
    rintro e w' ⟨rfl, rfl⟩
    by_cases he2 : e2 = 0
    · subst he2
      go_wp2_with fail
      refine (CY.out w1 (HY.out.below HB.out (Nat.le_refl _))).mono ?_
      rintro e w' ⟨rfl, rfl⟩
      by_cases he3 : e3 = 0
      · subst he3
        have HQQ : Hid (mtQ (l.map CV.c) xs ys = 0) := Lib.hid (by rw [HQ.out]; rfl)
        by_cases hxy : nx = ny
        · have hxy1 : ((nx : Int) != (ny : Int)) = false := by rw [hxy]; simp
          have HXY : Hid (¬ xs.length ≠ ys.length) := Lib.hid (by rw [← HNX.out, ← HNY.out]; exact fun h => h hxy)
          clear hxy
          go_wp2_with fail
          go_loopw [9] (fun z wr => ∃ i : Nat, i ≤ n ∧ z = .int .i64 i ∧ Hid (Below w.heap.size w wr) ∧ Hid (mtI xs ys ((l.map CV.c).drop i) i = mtI xs ys (l.map CV.c) 0)) (fun z _ => n - (intOf z).toNat)
          case atStart => exact ⟨0, Nat.zero_le _, rfl, HB, Lib.hid rfl⟩
          case round =>
            clear HB
            obtain ⟨i, hi, rfl, HB, HMI⟩ := hrel
            by_cases hlt : i < n
            · have hil : i < l.length := by rw [← HNL.out]; exact hlt
              obtain ⟨ad, hA, -, g1, g2, g3, hci⟩ := (HC.out.below HB.out (Nat.le_refl _)).at_ (k := i) hil
              subst hA
              have hnext := mtI_next (x := xs) (y := ys) (l := l) hil
              rw [HMI.out] at hnext
              have hsm := HSM.out l[i] (List.getElem_mem hil)
              obtain ⟨t, ht⟩ : ∃ t, l[i] = t := ⟨_, rfl⟩
              rw [ht] at g1 g2 g3 hci hnext hsm
              have HCI := Lib.hid hci
              have HNE := Lib.hid hnext
              clear hnext ht hci hil
              go_wp2_with fail
              have CALL := refApply_any w.heap.size t Ax nx kx xs wr HCI.out (HX.out.below HB.out (Nat.le_refl _)) HB.out.size hlx hsm
              refine CALL.mono ?_
              rintro e wb ⟨v, rfl, ho, hb⟩
              clear CALL
              have hlo := own_le ho
              obtain ⟨Ao, ko, rfl, hO⟩ := li_own ho
              have HO := Lib.hid hO
              replace HB := Lib.hid (HB.out.trans (hb.mono HB.out.size))
              clear hb ho hO
              obtain ⟨er, her⟩ : ∃ x, oneErr true t.c xs = x := ⟨_, rfl⟩
              obtain ⟨re, hre⟩ : ∃ x, oneRes true t.c xs = x := ⟨_, rfl⟩
              rw [hre] at HO hlo
              obtain ⟨ln, hln⟩ : ∃ x, re.length = x := ⟨_, rfl⟩
              have HMP : Hid (mtP xs ys t.c = (decide (er = 0) && sameI re ys)) := Lib.hid (by unfold mtP; rw [her, hre])
              rw [hln] at HO hlo
              rw [her, hre, hln]
              clear her hre hln
              by_cases he0 : er = 0
              · subst he0
                have HMP : Hid (mtP xs ys t.c = sameI re ys) := Lib.hid (by rw [HMP.out]; simp)
                obtain ⟨sm, hsm2⟩ : ∃ x, sameI re ys = x := ⟨_, rfl⟩
                have CE := refSame_any wb.heap.size Ao Ay ln ko ny ky re ys wb HO.out ((HY.out.below HB.out (Nat.le_refl _)).more HB.out.size) (Nat.le_refl _) hlo hly
                rw [hsm2] at CE HMP
                have HCE := Lib.hid CE
                clear CE hsm2
                cases sm with
                | true =>
                  have HF : Hid (mtI xs ys (l.map CV.c) 0 = some i) := Lib.hid (by rw [HNE.out, if_pos HMP.out])
                  have HE : Hid (matchE (l.map CV.c) xs ys = 0 ∧ matchV (l.map CV.c) xs ys = i) := Lib.hid (by unfold matchE matchV; rw [if_pos HQQ.out, if_pos HQQ.out, if_neg HXY.out, if_neg HXY.out, HF.out]; exact ⟨rfl, rfl⟩)
                  go_wp2_with fail
                  refine HCE.out.mono ?_
                  rintro e wc ⟨rfl, hb⟩
                  replace HB := Lib.hid (HB.out.trans (hb.mono HB.out.size))
                  clear hb
                  go_wp2_with fail
                  go_ret2
                  rw [HE.out.1, HE.out.2]
                  exact ⟨rfl, HB.out⟩
                | false =>
                  have HMI2 : Hid (mtI xs ys ((l.map CV.c).drop (i + 1)) (i + 1) = mtI xs ys (l.map CV.c) 0) := Lib.hid (by rw [HNE.out, if_neg (by rw [HMP.out]; simp)])
                  go_wp2_with fail
                  refine HCE.out.mono ?_
                  rintro e wc ⟨rfl, hb⟩
                  replace HB := Lib.hid (HB.out.trans (hb.mono HB.out.size))
                  clear hb
                  go_wp2_with fail
                  go_roundw
                  case rel => exact ⟨i + 1, by omega, by go_num, HB, HMI2⟩
                  case measure => simp [intOf]; omega
              · have he1 : (er == 0) = false := beq_eq_false_iff_ne.2 he0
                have HMI2 : Hid (mtI xs ys ((l.map CV.c).drop (i + 1)) (i + 1) = mtI xs ys (l.map CV.c) 0) := Lib.hid (by rw [HNE.out, if_neg (by rw [HMP.out]; simp [he0])])
                clear he0
                go_wp2_with fail
                go_roundw
                case rel => exact ⟨i + 1, by omega, by go_num, HB, HMI2⟩
                case measure => simp [intOf]; omega
            · obtain rfl : n = i := by omega
              have HF : Hid (mtI xs ys (l.map CV.c) 0 = none) := Lib.hid (by rw [← HMI.out]; exact mtI_end (by rw [← HNL.out]; exact Nat.le_refl _))
              have HE : Hid (matchE (l.map CV.c) xs ys = 5 ∧ matchV (l.map CV.c) xs ys = 0) := Lib.hid (by unfold matchE matchV; rw [if_pos HQQ.out, if_pos HQQ.out, if_neg HXY.out, if_neg HXY.out, HF.out]; exact ⟨rfl, rfl⟩)
              go_wp2_with fail
              go_ret2
              rw [HE.out.1, HE.out.2]
              exact ⟨rfl, HB.out⟩
        · have hxy1 : ((nx : Int) != (ny : Int)) = true := by simp; omega
          have HE : Hid (matchE (l.map CV.c) xs ys = 17 ∧ matchV (l.map CV.c) xs ys = 0) := Lib.hid (by
            have h : xs.length ≠ ys.length := by rw [← HNX.out, ← HNY.out]; exact hxy
            unfold matchE matchV; rw [if_pos HQQ.out, if_pos HQQ.out, if_pos h, if_pos h]; exact ⟨rfl, rfl⟩)
          go_wp2_with fail
          go_ret2
          rw [HE.out.1, HE.out.2]
          exact ⟨rfl, HB.out⟩
      · have h1 : (e3 != 0) = true := by simpa using he3
        have HOR : orL [0, 0, e3] = e3 := by simp [orL, he3]
        have hn : mtQ (l.map CV.c) xs ys = e3 := by rw [HQ.out, HOR]
        have HE : Hid (matchE (l.map CV.c) xs ys = e3 ∧ matchV (l.map CV.c) xs ys = 0) := Lib.hid (by unfold matchE matchV; rw [if_neg (by rw [hn]; exact he3), if_neg (by rw [hn]; exact he3)]; exact ⟨hn, rfl⟩)
        clear hn HOR he3
        go_wp2_with fail
        go_ret2
        rw [HE.out.1, HE.out.2]
        exact ⟨rfl, HB.out⟩
    · have h1 : (e2 != 0) = true := by simpa using he2
      have HOR : orL [0, e2, e3] = e2 := by simp [orL, he2]
      have hn : mtQ (l.map CV.c) xs ys = e2 := by rw [HQ.out, HOR]
      have HE : Hid (matchE (l.map CV.c) xs ys = e2 ∧ matchV (l.map CV.c) xs ys = 0) := Lib.hid (by unfold matchE matchV; rw [if_neg (by rw [hn]; exact he2), if_neg (by rw [hn]; exact he2)]; exact ⟨hn, rfl⟩)
      clear hn HOR he2
      go_wp2_with fail
      go_ret2
      rw [HE.out.1, HE.out.2]
      exact ⟨rfl, HB.out⟩
  · have h1 : (e1 != 0) = true := by simpa using he1
    have HOR : orL [e1, e2, e3] = e1 := by simp [orL, he1]
    have hn : mtQ (l.map CV.c) xs ys = e1 := by rw [HQ.out, HOR]
    have HE : Hid (matchE (l.map CV.c) xs ys = e1 ∧ matchV (l.map CV.c) xs ys = 0) := Lib.hid (by unfold matchE matchV; rw [if_neg (by rw [hn]; exact he1), if_neg (by rw [hn]; exact he1)]; exact ⟨hn, rfl⟩)
    clear hn HOR he1
    go_wp2_with fail
    go_ret2
    rw [HE.out.1, HE.out.2]
    exact ⟨rfl, HB.out⟩
end Go.Proofs.Ythdflofdjhjjhaa
