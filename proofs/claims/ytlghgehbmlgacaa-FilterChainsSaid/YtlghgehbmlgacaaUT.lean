/-
  The walk of FilterChains.
-/
import Derived.Test.YtlghgehbmlgacaaUH
import Derived.Test.YtlghgehbmlgacaaUS
namespace Go.Proofs.Ytlghgehbmlgacaa
open Go.RowKit

set_option maxRecDepth 100000 in
set_option maxHeartbeats 4000000 in
theorem chains_walk (B : Nat) (A : Option Addr) (n k : Nat) (l : List CV) (Ax : Option Addr) (nx kx : Nat) (xs : List Int) (w : World) (hc : RC w B A n l) (hX : LI w B Ax nx xs) (hB : B ≤ w.heap.size) (hl : n ≤ 9223372036854775807) (hlx : nx ≤ 9223372036854775807) (hsm : CSm l) :
    Calls Try.prog 5 #[.slice A n k, .slice Ax nx kx] w fun e w' => e = .returned (.bool true) ∧ Below w.heap.size w w' := by
  have HC := Lib.hid (hc.more hB)
  have HX := Lib.hid (hX.more hB)
  clear hc hX hB
  obtain ⟨R1, hR1⟩ : ∃ R, chRes true (l.map CV.c) xs = R := ⟨_, rfl⟩
  obtain ⟨E1, hE1⟩ : ∃ R, chErr true (l.map CV.c) xs = R := ⟨_, rfl⟩
  obtain ⟨R2, hR2⟩ : ∃ R, chRes false (l.map CV.c) xs = R := ⟨_, rfl⟩
  obtain ⟨E2, hE2⟩ : ∃ R, chErr false (l.map CV.c) xs = R := ⟨_, rfl⟩
  have HR1 := Lib.hid hR1
  have HE1 := Lib.hid hE1
  have HR2 := Lib.hid hR2
  have HE2 := Lib.hid hE2
  clear hR1 hE1 hR2 hE2
  cases hv1 : chnB (l.map CV.c)
  · have HV1 := Lib.hid hv1
    clear hv1
    cases hv2 : lngB nx 200
    · have HV2 := Lib.hid hv2
      clear hv2
      as_aux_lemma =>
        have HB := Lib.hid (Below.refl w.heap.size w)
        go_enter Try.func5, Try.ntmps5
        go_wp2_with fail
        have CALL := chains_any w.heap.size A n k l w (HC.out.more (by omega)) (Nat.le_refl _) hl hsm
        rw [HV1.out] at CALL
        refine CALL.mono ?_
        rintro e w_ ⟨rfl, rfl⟩
        clear CALL
        go_wp2_with fail
        have CALL := long_any nx 200 w
        rw [HV2.out] at CALL
        refine CALL.mono ?_
        rintro e w_ ⟨rfl, rfl⟩
        clear CALL
        go_wp2_with fail
        have CALL := ApplyAll_any w.heap.size A n k l Ax nx kx xs w (HC.out.more (by omega)) (HX.out.more (by omega)) (Nat.le_refl _) hl hlx hsm
        rw [HR1.out, HE1.out] at CALL
        refine CALL.mono ?_
        rintro e w1 ⟨v, rfl, ho, hb⟩
        clear CALL
        have hsz1 := hb.size
        replace HC := Lib.hid (HC.out.below hb (by omega))
        replace HX := Lib.hid (HX.out.below hb (by omega))
        replace HB := Lib.hid (HB.out.trans (hb.mono (by omega)))
        have hlP := own_le ho
        obtain ⟨AP, cP, rfl, hL⟩ := li_own ho
        have HP := Lib.hid hL
        clear ho hL
        clear hb
        go_wp2_with fail
        have CALL := refApplyAll_any w1.heap.size A n k l Ax nx kx xs w1 (HC.out.more (by omega)) (HX.out.more (by omega)) (Nat.le_refl _) hl hlx hsm
        rw [HR1.out, HE1.out] at CALL
        refine CALL.mono ?_
        rintro e w2 ⟨v, rfl, ho, hb⟩
        clear CALL
        have hsz2 := hb.size
        replace HC := Lib.hid (HC.out.below hb (by omega))
        replace HX := Lib.hid (HX.out.below hb (by omega))
        replace HP := Lib.hid (HP.out.below hb (by omega))
        replace HB := Lib.hid (HB.out.trans (hb.mono (by omega)))
        have hlQ := own_le ho
        obtain ⟨AQ, cQ, rfl, hL⟩ := li_own ho
        have HQ := Lib.hid hL
        clear ho hL
        clear hb
        go_wp2_with fail
        have CALL := UndoAll_any w2.heap.size A n k l Ax nx kx xs w2 (HC.out.more (by omega)) (HX.out.more (by omega)) (Nat.le_refl _) hl hlx hsm
        rw [HR2.out, HE2.out] at CALL
        refine CALL.mono ?_
        rintro e w3 ⟨v, rfl, ho, hb⟩
        clear CALL
        have hsz3 := hb.size
        replace HC := Lib.hid (HC.out.below hb (by omega))
        replace HX := Lib.hid (HX.out.below hb (by omega))
        replace HP := Lib.hid (HP.out.below hb (by omega))
        replace HQ := Lib.hid (HQ.out.below hb (by omega))
        replace HB := Lib.hid (HB.out.trans (hb.mono (by omega)))
        have hlU := own_le ho
        obtain ⟨AU, cU, rfl, hL⟩ := li_own ho
        have HU := Lib.hid hL
        clear ho hL
        clear hb
        go_wp2_with fail
        have CALL := refUndoAll_any w3.heap.size A n k l Ax nx kx xs w3 (HC.out.more (by omega)) (HX.out.more (by omega)) (Nat.le_refl _) hl hlx hsm
        rw [HR2.out, HE2.out] at CALL
        refine CALL.mono ?_
        rintro e w4 ⟨v, rfl, ho, hb⟩
        clear CALL
        have hsz4 := hb.size
        replace HC := Lib.hid (HC.out.below hb (by omega))
        replace HX := Lib.hid (HX.out.below hb (by omega))
        replace HP := Lib.hid (HP.out.below hb (by omega))
        replace HQ := Lib.hid (HQ.out.below hb (by omega))
        replace HU := Lib.hid (HU.out.below hb (by omega))
        replace HB := Lib.hid (HB.out.trans (hb.mono (by omega)))
        have hlV := own_le ho
        obtain ⟨AV, cV, rfl, hL⟩ := li_own ho
        have HV := Lib.hid hL
        clear ho hL
        clear hb
        go_wp2_with fail
        have CALL := refSame_any w4.heap.size AP AQ R1.length cP R1.length cQ R1 R1 w4 (HP.out.more (by omega)) (HQ.out.more (by omega)) (Nat.le_refl _) (by omega) (by omega)
        rw [sameI_self] at CALL
        refine CALL.mono ?_
        rintro e w5 ⟨rfl, hb⟩
        clear CALL
        have hsz5 := hb.size
        replace HC := Lib.hid (HC.out.below hb (by omega))
        replace HX := Lib.hid (HX.out.below hb (by omega))
        replace HP := Lib.hid (HP.out.below hb (by omega))
        replace HQ := Lib.hid (HQ.out.below hb (by omega))
        replace HU := Lib.hid (HU.out.below hb (by omega))
        replace HV := Lib.hid (HV.out.below hb (by omega))
        replace HB := Lib.hid (HB.out.trans (hb.mono (by omega)))

        clear hb
        go_wp2_with fail
        have CALL := refSame_any w5.heap.size AU AV R2.length cU R2.length cV R2 R2 w5 (HU.out.more (by omega)) (HV.out.more (by omega)) (Nat.le_refl _) (by omega) (by omega)
        rw [sameI_self] at CALL
        refine CALL.mono ?_
        rintro e w6 ⟨rfl, hb⟩
        clear CALL
        have hsz6 := hb.size
        replace HC := Lib.hid (HC.out.below hb (by omega))
        replace HX := Lib.hid (HX.out.below hb (by omega))
        replace HP := Lib.hid (HP.out.below hb (by omega))
        replace HQ := Lib.hid (HQ.out.below hb (by omega))
        replace HU := Lib.hid (HU.out.below hb (by omega))
        replace HV := Lib.hid (HV.out.below hb (by omega))
        replace HB := Lib.hid (HB.out.trans (hb.mono (by omega)))

        clear hb
        go_wp2_with fail
        have CALL := works_any w6
        refine CALL.mono ?_
        rintro e w7 ⟨rfl, hb⟩
        clear CALL
        have hsz7 := hb.size
        replace HC := Lib.hid (HC.out.below hb (by omega))
        replace HX := Lib.hid (HX.out.below hb (by omega))
        replace HP := Lib.hid (HP.out.below hb (by omega))
        replace HQ := Lib.hid (HQ.out.below hb (by omega))
        replace HU := Lib.hid (HU.out.below hb (by omega))
        replace HV := Lib.hid (HV.out.below hb (by omega))
        replace HB := Lib.hid (HB.out.trans (hb.mono (by omega)))

        clear hb
        go_wp2
        go_ret
        exact ⟨rfl, HB.out⟩
    · have HV2 := Lib.hid hv2
      clear hv2
      as_aux_lemma =>
        have HB := Lib.hid (Below.refl w.heap.size w)
        go_enter Try.func5, Try.ntmps5
        go_wp2_with fail
        have CALL := chains_any w.heap.size A n k l w (HC.out.more (by omega)) (Nat.le_refl _) hl hsm
        rw [HV1.out] at CALL
        refine CALL.mono ?_
        rintro e w_ ⟨rfl, rfl⟩
        clear CALL
        go_wp2_with fail
        have CALL := long_any nx 200 w
        rw [HV2.out] at CALL
        refine CALL.mono ?_
        rintro e w_ ⟨rfl, rfl⟩
        clear CALL
        go_wp2_with fail
        have CALL := works_any w
        refine CALL.mono ?_
        rintro e w1 ⟨rfl, hb⟩
        clear CALL
        have hsz1 := hb.size
        replace HC := Lib.hid (HC.out.below hb (by omega))
        replace HX := Lib.hid (HX.out.below hb (by omega))
        replace HB := Lib.hid (HB.out.trans (hb.mono (by omega)))

        clear hb
        go_wp2
        go_ret
        exact ⟨rfl, HB.out⟩
  · have HV1 := Lib.hid hv1
    clear hv1
    as_aux_lemma =>
      have HB := Lib.hid (Below.refl w.heap.size w)
      go_enter Try.func5, Try.ntmps5
      go_wp2_with fail
      have CALL := chains_any w.heap.size A n k l w (HC.out.more (by omega)) (Nat.le_refl _) hl hsm
      rw [HV1.out] at CALL
      refine CALL.mono ?_
      rintro e w_ ⟨rfl, rfl⟩
      clear CALL
      go_wp2_with fail
      have CALL := works_any w
      refine CALL.mono ?_
      rintro e w1 ⟨rfl, hb⟩
      clear CALL
      have hsz1 := hb.size
      replace HC := Lib.hid (HC.out.below hb (by omega))
      replace HX := Lib.hid (HX.out.below hb (by omega))
      replace HB := Lib.hid (HB.out.trans (hb.mono (by omega)))

      clear hb
      go_wp2
      go_ret
      exact ⟨rfl, HB.out⟩
end Go.Proofs.Ytlghgehbmlgacaa
