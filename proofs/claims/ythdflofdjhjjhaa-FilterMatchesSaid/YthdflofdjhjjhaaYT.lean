/-
  The walk of FilterMatches.
-/
import Derived.Test.YthdflofdjhjjhaaUH
import Derived.Test.YthdflofdjhjjhaaUK
import Derived.Test.YthdflofdjhjjhaaYB
namespace Go.Proofs.Ythdflofdjhjjhaa
open Go.RowKit

set_option maxRecDepth 100000 in
set_option maxHeartbeats 4000000 in
theorem matches_walk (B : Nat) (A : Option Addr) (n k : Nat) (l : List CV) (Ax : Option Addr) (nx kx : Nat) (xs : List Int) (Ay : Option Addr) (ny ky : Nat) (ys : List Int) (w : World) (hc : RC w B A n l) (hX : LI w B Ax nx xs) (hY : LI w B Ay ny ys) (hB : B ≤ w.heap.size) (hl : n ≤ 9223372036854775807) (hlx : nx ≤ 9223372036854775807) (hly : ny ≤ 9223372036854775807) (hsm : CSm l) :
    Calls Try.prog 5 #[.slice A n k, .slice Ax nx kx, .slice Ay ny ky] w fun e w' => e = .returned (.bool true) ∧ Below w.heap.size w w' := by
  have HC := Lib.hid (hc.more hB)
  have HX := Lib.hid (hX.more hB)
  have HY := Lib.hid (hY.more hB)
  clear hc hX hY hB
  obtain ⟨mv, hmv⟩ : ∃ R, matchV (l.map CV.c) xs ys = R := ⟨_, rfl⟩
  obtain ⟨me, hme⟩ : ∃ R, matchE (l.map CV.c) xs ys = R := ⟨_, rfl⟩
  have HV := Lib.hid hmv
  have HE := Lib.hid hme
  clear hmv hme
  cases hv1 : chnB (l.map CV.c)
  · have HV1 := Lib.hid hv1
    clear hv1
    cases hv2 : lngB nx 100
    · have HV2 := Lib.hid hv2
      clear hv2
      cases hv3 : lngB ny 100
      · have HV3 := Lib.hid hv3
        clear hv3
        as_aux_lemma =>
          have HB := Lib.hid (Below.refl w.heap.size w)
          go_enter Try.func5, Try.ntmps5
          go_wp2_with fail
          have CALL := chains_any w.heap.size A n k l w (HC.out.more (by omega)) (Nat.le_refl _) hl hsm
          rw [HV1.out] at CALL
          refine CALL.mono ?_
          rintro e w_ ⟨rfl, rfl⟩
          clear CALL
          go_wp2_with fail
          have CALL := long_any nx 100 w
          rw [HV2.out] at CALL
          refine CALL.mono ?_
          rintro e w_ ⟨rfl, rfl⟩
          clear CALL
          go_wp2_with fail
          have CALL := long_any ny 100 w
          rw [HV3.out] at CALL
          refine CALL.mono ?_
          rintro e w_ ⟨rfl, rfl⟩
          clear CALL
          go_wp2_with fail
          have CALL := Match_any w.heap.size A n k l Ax nx kx xs Ay ny ky ys w (HC.out.more (by omega)) (HX.out.more (by omega)) (HY.out.more (by omega)) (Nat.le_refl _) hl hlx hly hsm
          rw [HV.out, HE.out] at CALL
          refine CALL.mono ?_
          rintro e w1 ⟨rfl, hb⟩
          clear CALL
          have hsz1 := hb.size
          replace HC := Lib.hid (HC.out.below hb (by omega))
          replace HX := Lib.hid (HX.out.below hb (by omega))
          replace HY := Lib.hid (HY.out.below hb (by omega))
          replace HB := Lib.hid (HB.out.trans (hb.mono (by omega)))

          clear hb
          go_wp2_with fail
          have CALL := refMatch_any w1.heap.size A n k l Ax nx kx xs Ay ny ky ys w1 (HC.out.more (by omega)) (HX.out.more (by omega)) (HY.out.more (by omega)) (Nat.le_refl _) hl hlx hly hsm
          rw [HV.out, HE.out] at CALL
          refine CALL.mono ?_
          rintro e w2 ⟨rfl, hb⟩
          clear CALL
          have hsz2 := hb.size
          replace HC := Lib.hid (HC.out.below hb (by omega))
          replace HX := Lib.hid (HX.out.below hb (by omega))
          replace HY := Lib.hid (HY.out.below hb (by omega))
          replace HB := Lib.hid (HB.out.trans (hb.mono (by omega)))

          clear hb
          go_wp2_with fail
          have CALL := works_any w2
          refine CALL.mono ?_
          rintro e w3 ⟨rfl, hb⟩
          clear CALL
          have hsz3 := hb.size
          replace HC := Lib.hid (HC.out.below hb (by omega))
          replace HX := Lib.hid (HX.out.below hb (by omega))
          replace HY := Lib.hid (HY.out.below hb (by omega))
          replace HB := Lib.hid (HB.out.trans (hb.mono (by omega)))

          clear hb
          go_wp2
          go_ret
          exact ⟨rfl, HB.out⟩
      · have HV3 := Lib.hid hv3
        clear hv3
        as_aux_lemma =>
          have HB := Lib.hid (Below.refl w.heap.size w)
          go_enter Try.func5, Try.ntmps5
          go_wp2_with fail
          have CALL := chains_any w.heap.size A n k l w (HC.out.more (by omega)) (Nat.le_refl _) hl hsm
          rw [HV1.out] at CALL
          refine CALL.mono ?_
          rintro e w_ ⟨rfl, rfl⟩
          clear CALL
          go_wp2_with fail
          have CALL := long_any nx 100 w
          rw [HV2.out] at CALL
          refine CALL.mono ?_
          rintro e w_ ⟨rfl, rfl⟩
          clear CALL
          go_wp2_with fail
          have CALL := long_any ny 100 w
          rw [HV3.out] at CALL
          refine CALL.mono ?_
          rintro e w_ ⟨rfl, rfl⟩
          clear CALL
          go_wp2_with fail
          have CALL := works_any w
          refine CALL.mono ?_
          rintro e w1 ⟨rfl, hb⟩
          clear CALL
          have hsz1 := hb.size
          replace HC := Lib.hid (HC.out.below hb (by omega))
          replace HX := Lib.hid (HX.out.below hb (by omega))
          replace HY := Lib.hid (HY.out.below hb (by omega))
          replace HB := Lib.hid (HB.out.trans (hb.mono (by omega)))

          clear hb
          go_wp2
          go_ret
          exact ⟨rfl, HB.out⟩
    · have HV2 := Lib.hid hv2
      clear hv2
      as_aux_lemma =>
        have HB := Lib.hid (Below.refl w.heap.size w)
        go_enter Try.func5, Try.ntmps5
        go_wp2_with fail
        have CALL := chains_any w.heap.size A n k l w (HC.out.more (by omega)) (Nat.le_refl _) hl hsm
        rw [HV1.out] at CALL
        refine CALL.mono ?_
        rintro e w_ ⟨rfl, rfl⟩
        clear CALL
        go_wp2_with fail
        have CALL := long_any nx 100 w
        rw [HV2.out] at CALL
        refine CALL.mono ?_
        rintro e w_ ⟨rfl, rfl⟩
        clear CALL
        go_wp2_with fail
        have CALL := works_any w
        refine CALL.mono ?_
        rintro e w1 ⟨rfl, hb⟩
        clear CALL
        have hsz1 := hb.size
        replace HC := Lib.hid (HC.out.below hb (by omega))
        replace HX := Lib.hid (HX.out.below hb (by omega))
        replace HY := Lib.hid (HY.out.below hb (by omega))
        replace HB := Lib.hid (HB.out.trans (hb.mono (by omega)))

        clear hb
        go_wp2
        go_ret
        exact ⟨rfl, HB.out⟩
  · have HV1 := Lib.hid hv1
    clear hv1
    as_aux_lemma =>
      have HB := Lib.hid (Below.refl w.heap.size w)
      go_enter Try.func5, Try.ntmps5
      go_wp2_with fail
      have CALL := chains_any w.heap.size A n k l w (HC.out.more (by omega)) (Nat.le_refl _) hl hsm
      rw [HV1.out] at CALL
      refine CALL.mono ?_
      rintro e w_ ⟨rfl, rfl⟩
      clear CALL
      go_wp2_with fail
      have CALL := works_any w
      refine CALL.mono ?_
      rintro e w1 ⟨rfl, hb⟩
      clear CALL
      have hsz1 := hb.size
      replace HC := Lib.hid (HC.out.below hb (by omega))
      replace HX := Lib.hid (HX.out.below hb (by omega))
      replace HY := Lib.hid (HY.out.below hb (by omega))
      replace HB := Lib.hid (HB.out.trans (hb.mono (by omega)))

      clear hb
      go_wp2
      go_ret
      exact ⟨rfl, HB.out⟩
end Go.Proofs.Ythdflofdjhjjhaa
