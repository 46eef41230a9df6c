/-
  The document's rules of a cut: Kept; the land of a cut.
-/
import Derived.Test.YtgdkcbnpgpjnbaaLD
import Derived.Test.YtgdkcbnpgpjnbaaQ0
namespace Go.Proofs.Ytgdkcbnpgpjnbaa
open Go.RowKit

/-- Radii that are no greater than those of a cut may be. -/
def RsOk (R : List Int) : Prop := ∀ x ∈ R, -33554432 ≤ x ∧ x ≤ 33554432
theorem RsOk.fx {R : List Int} (h : RsOk R) (i : Nat) : -33554432 ≤ fx R i ∧ fx R i ≤ 33554432 := by
  by_cases hi : i < R.length
  · rw [fx_eq hi]; exact h _ (List.getElem_mem hi)
  · unfold Go.Proofs.Ytgdkcbnpgpjnbaa.fx; rw [List.getD_eq_getElem?_getD, List.getElem?_eq_none (by omega)]; simp

theorem Blk.six {w : World} {g : Nat} {t : TypeId} {a b c d e f : Value} (hB : Blk w g t #[a, b, c, d, e, f]) : w.cell? ⟨g, 0, none⟩ = some a ∧ w.cell? ⟨g, 1, none⟩ = some b ∧ w.cell? ⟨g, 2, none⟩ = some c ∧ w.cell? ⟨g, 3, none⟩ = some d ∧ w.cell? ⟨g, 4, none⟩ = some e ∧ w.cell? ⟨g, 5, none⟩ = some f :=
  ⟨(hB.cell 0).trans rfl, (hB.cell 1).trans rfl, (hB.cell 2).trans rfl, (hB.cell 3).trans rfl, (hB.cell 4).trans rfl, (hB.cell 5).trans rfl⟩
set_option maxHeartbeats 8000000 in
theorem Kept_any (B : Nat) (A A' : Option Addr) (n c n' c' : Nat) (b : Bk) (P : List Smp) (R : List Int) (i r : Nat) (w : World) (h0 : RS w B A n P) (h1 : LI w B A' n' R) (hB : B ≤ w.heap.size) (hn : n ≤ 1000000) (hi : i < n) (hi' : i < n') (hb : BkOk b) (hP : PsOk P) (hR : RsOk R) (hr : 1 ≤ r ∧ r ≤ 5) :
    Calls Try.prog 49 #[.agg #[.int .i64 b.per, .int .i64 b.rim, .int .i64 b.core, .int .i64 b.land, .int .i64 b.slow, .int .i64 b.fast], .slice A n c, .slice A' n' c', .int .i64 i, .int .i64 r] w fun e w' => e = .returned (.bool (keptB b P R i r)) ∧ Below w.heap.size w w' := by
  have H := Lib.hid (h0.more hB)
  have H' := Lib.hid (h1.more hB)
  have hl : n = P.length := h0.1
  have hil : i < P.length := by omega
  have p1 := hb.per1
  have p2 := hb.per2
  have p3 := hb.core
  have p4 := hb.corim
  have p5 := hb.rim
  have p6 := hb.land1
  have p7 := hb.land2
  have p8 := hb.slow
  have p9 := hb.slowfast
  have p10 := hb.fast
  obtain ⟨ad, hA, hbl, -, -⟩ := H.out.pt hi
  obtain ⟨ad', hA', hbl', -⟩ := H'.out.fx hi'
  obtain ⟨q1, q2, q3, q4⟩ := hP.at_ i
  obtain ⟨q5, q6⟩ := hR.fx i
  subst hA hA'
  clear h0 h1 hB hl
  have hr5 : r = 1 ∨ r = 2 ∨ r = 3 ∨ r = 4 ∨ r = 5 := by omega
  clear hr
  rcases hr5 with rfl | rfl | rfl | rfl | rfl
  · have HE := Lib.hid (keptB_rim (b := b) (R := R) hil)
    clear hb hil
    go_enter Try.func49, Try.ntmps49
    go_upto_region 1 with fail
    obtain ⟨W, hW⟩ : ∃ W, w.alloc (.cells #[.int .i64 b.per, .int .i64 b.rim, .int .i64 b.core, .int .i64 b.land, .int .i64 b.slow, .int .i64 b.fast] 23) = W := ⟨_, rfl⟩
    have hb0 : Below w.heap.size w W := by rw [← hW]; exact (Below.refl _ _).alloc (Nat.le_refl _) _
    have k0 : Blk W w.heap.size 23 #[.int .i64 b.per, .int .i64 b.rim, .int .i64 b.core, .int .i64 b.land, .int .i64 b.slow, .int .i64 b.fast] := by rw [← hW]; exact Blk.new _ _ _
    rw [hW]
    clear hW
    have HBW := Lib.hid hb0
    replace H := Lib.hid (H.out.below hb0 (Nat.le_refl _))
    replace H' := Lib.hid (H'.out.below hb0 (Nat.le_refl _))
    obtain ⟨s0, s1, s2, s3, s4, s5⟩ := k0.six
    clear k0 hb0
    obtain ⟨adA, hA, -, g1, g2⟩ := H.out.pt hi
    cases hA
    obtain ⟨adB, hA', -, g3⟩ := H'.out.fx hi'
    cases hA'
    go_wp2_with fail
    go_quiet (fail)
    go_wp2
    go_ret
    exact ⟨ret_b HE.out.symm, by first | exact HBW.out | exact HBW.out.drew | exact below_drewN_ HBW.out _⟩
  · have HE := Lib.hid (keptB_core (b := b) (R := R) hil)
    clear hb hil
    go_enter Try.func49, Try.ntmps49
    go_upto_region 1 with fail
    obtain ⟨W, hW⟩ : ∃ W, w.alloc (.cells #[.int .i64 b.per, .int .i64 b.rim, .int .i64 b.core, .int .i64 b.land, .int .i64 b.slow, .int .i64 b.fast] 23) = W := ⟨_, rfl⟩
    have hb0 : Below w.heap.size w W := by rw [← hW]; exact (Below.refl _ _).alloc (Nat.le_refl _) _
    have k0 : Blk W w.heap.size 23 #[.int .i64 b.per, .int .i64 b.rim, .int .i64 b.core, .int .i64 b.land, .int .i64 b.slow, .int .i64 b.fast] := by rw [← hW]; exact Blk.new _ _ _
    rw [hW]
    clear hW
    have HBW := Lib.hid hb0
    replace H := Lib.hid (H.out.below hb0 (Nat.le_refl _))
    replace H' := Lib.hid (H'.out.below hb0 (Nat.le_refl _))
    obtain ⟨s0, s1, s2, s3, s4, s5⟩ := k0.six
    clear k0 hb0
    obtain ⟨adA, hA, -, g1, g2⟩ := H.out.pt hi
    cases hA
    obtain ⟨adB, hA', -, g3⟩ := H'.out.fx hi'
    cases hA'
    go_wp2_with fail
    go_quiet (fail)
    go_wp2
    go_ret
    exact ⟨ret_b HE.out.symm, by first | exact HBW.out | exact HBW.out.drew | exact below_drewN_ HBW.out _⟩
  · have HE := Lib.hid (keptB_slow (b := b) (R := R) hil)
    by_cases i0 : i < 1
    · have d0 : (i : Int) < 1 := by omega
      have HE := Lib.hid (HE.out.trans (by rw [decide_eq_true i0, Bool.true_or]))
      clear hb hil
      try clear hm hmi
      go_enter Try.func49, Try.ntmps49
      go_upto_region 1 with fail
      obtain ⟨W, hW⟩ : ∃ W, w.alloc (.cells #[.int .i64 b.per, .int .i64 b.rim, .int .i64 b.core, .int .i64 b.land, .int .i64 b.slow, .int .i64 b.fast] 23) = W := ⟨_, rfl⟩
      have hb0 : Below w.heap.size w W := by rw [← hW]; exact (Below.refl _ _).alloc (Nat.le_refl _) _
      have k0 : Blk W w.heap.size 23 #[.int .i64 b.per, .int .i64 b.rim, .int .i64 b.core, .int .i64 b.land, .int .i64 b.slow, .int .i64 b.fast] := by rw [← hW]; exact Blk.new _ _ _
      rw [hW]
      clear hW
      have HBW := Lib.hid hb0
      replace H := Lib.hid (H.out.below hb0 (Nat.le_refl _))
      replace H' := Lib.hid (H'.out.below hb0 (Nat.le_refl _))
      obtain ⟨s0, s1, s2, s3, s4, s5⟩ := k0.six
      clear k0 hb0
      obtain ⟨adA, hA, -, g1, g2⟩ := H.out.pt hi
      cases hA
      obtain ⟨adB, hA', -, g3⟩ := H'.out.fx hi'
      cases hA'
      go_wp2_with fail
      go_quiet (fail)
      go_wp2
      go_ret
      exact ⟨ret_b HE.out.symm, by first | exact HBW.out | exact HBW.out.drew | exact below_drewN_ HBW.out _⟩
    · have d0 : ¬ (i : Int) < 1 := by omega
      have HE := Lib.hid (HE.out.trans (by rw [decide_eq_false i0, Bool.false_or]))
      obtain ⟨m, hm⟩ : ∃ m : Nat, (i : Int) - 1 = (m : Int) := ⟨i - 1, by omega⟩
      have e9 : IntKind.i64.wrap ((i : Int) - 1) = (m : Int) := by rw [hm]; exact IntWalk.i64_in _ (by omega)
      have e8 : (m : Int) < (n' : Int) := by omega
      have e6 : (m : Int) < (n : Int) := by omega
      have e7 : (0 : Int) ≤ (m : Int) := by omega
      have hmi : i - 1 = m := by omega
      rw [hmi] at HE
      obtain ⟨q7, q8⟩ := hR.fx m
      clear hb hil
      try clear hm hmi
      go_enter Try.func49, Try.ntmps49
      go_upto_region 1 with fail
      obtain ⟨W, hW⟩ : ∃ W, w.alloc (.cells #[.int .i64 b.per, .int .i64 b.rim, .int .i64 b.core, .int .i64 b.land, .int .i64 b.slow, .int .i64 b.fast] 23) = W := ⟨_, rfl⟩
      have hb0 : Below w.heap.size w W := by rw [← hW]; exact (Below.refl _ _).alloc (Nat.le_refl _) _
      have k0 : Blk W w.heap.size 23 #[.int .i64 b.per, .int .i64 b.rim, .int .i64 b.core, .int .i64 b.land, .int .i64 b.slow, .int .i64 b.fast] := by rw [← hW]; exact Blk.new _ _ _
      rw [hW]
      clear hW
      have HBW := Lib.hid hb0
      replace H := Lib.hid (H.out.below hb0 (Nat.le_refl _))
      replace H' := Lib.hid (H'.out.below hb0 (Nat.le_refl _))
      obtain ⟨s0, s1, s2, s3, s4, s5⟩ := k0.six
      clear k0 hb0
      obtain ⟨adA, hA, -, g1, g2⟩ := H.out.pt hi
      cases hA
      obtain ⟨adB, hA', -, g3⟩ := H'.out.fx hi'
      cases hA'
      obtain ⟨ad2, hA2, -, g4⟩ := H'.out.fx (k := m) (by omega)
      cases hA2
      go_wp2_with fail
      go_quiet (fail)
      go_wp2
      go_ret
      exact ⟨ret_b (by rw [HE.out, IntWalk.i64_in (fx R m - fx R i) (by omega), show decide ((i : Int) < 1) = false from decide_eq_false (by omega), Bool.false_or]), by first | exact HBW.out | exact HBW.out.drew | exact below_drewN_ HBW.out _⟩
  · have HE := Lib.hid (keptB_fast (b := b) (R := R) hil)
    by_cases i0 : i < 1
    · have d0 : (i : Int) < 1 := by omega
      have HE := Lib.hid (HE.out.trans (by rw [decide_eq_true i0, Bool.true_or]))
      clear hb hil
      try clear hm hmi
      go_enter Try.func49, Try.ntmps49
      go_upto_region 1 with fail
      obtain ⟨W, hW⟩ : ∃ W, w.alloc (.cells #[.int .i64 b.per, .int .i64 b.rim, .int .i64 b.core, .int .i64 b.land, .int .i64 b.slow, .int .i64 b.fast] 23) = W := ⟨_, rfl⟩
      have hb0 : Below w.heap.size w W := by rw [← hW]; exact (Below.refl _ _).alloc (Nat.le_refl _) _
      have k0 : Blk W w.heap.size 23 #[.int .i64 b.per, .int .i64 b.rim, .int .i64 b.core, .int .i64 b.land, .int .i64 b.slow, .int .i64 b.fast] := by rw [← hW]; exact Blk.new _ _ _
      rw [hW]
      clear hW
      have HBW := Lib.hid hb0
      replace H := Lib.hid (H.out.below hb0 (Nat.le_refl _))
      replace H' := Lib.hid (H'.out.below hb0 (Nat.le_refl _))
      obtain ⟨s0, s1, s2, s3, s4, s5⟩ := k0.six
      clear k0 hb0
      obtain ⟨adA, hA, -, g1, g2⟩ := H.out.pt hi
      cases hA
      obtain ⟨adB, hA', -, g3⟩ := H'.out.fx hi'
      cases hA'
      go_wp2_with fail
      go_quiet (fail)
      go_wp2
      go_ret
      exact ⟨ret_b HE.out.symm, by first | exact HBW.out | exact HBW.out.drew | exact below_drewN_ HBW.out _⟩
    · have d0 : ¬ (i : Int) < 1 := by omega
      have HE := Lib.hid (HE.out.trans (by rw [decide_eq_false i0, Bool.false_or]))
      obtain ⟨m, hm⟩ : ∃ m : Nat, (i : Int) - 1 = (m : Int) := ⟨i - 1, by omega⟩
      have e9 : IntKind.i64.wrap ((i : Int) - 1) = (m : Int) := by rw [hm]; exact IntWalk.i64_in _ (by omega)
      have e8 : (m : Int) < (n' : Int) := by omega
      have e6 : (m : Int) < (n : Int) := by omega
      have e7 : (0 : Int) ≤ (m : Int) := by omega
      have hmi : i - 1 = m := by omega
      rw [hmi] at HE
      obtain ⟨q7, q8⟩ := hR.fx m
      clear hb hil
      try clear hm hmi
      go_enter Try.func49, Try.ntmps49
      go_upto_region 1 with fail
      obtain ⟨W, hW⟩ : ∃ W, w.alloc (.cells #[.int .i64 b.per, .int .i64 b.rim, .int .i64 b.core, .int .i64 b.land, .int .i64 b.slow, .int .i64 b.fast] 23) = W := ⟨_, rfl⟩
      have hb0 : Below w.heap.size w W := by rw [← hW]; exact (Below.refl _ _).alloc (Nat.le_refl _) _
      have k0 : Blk W w.heap.size 23 #[.int .i64 b.per, .int .i64 b.rim, .int .i64 b.core, .int .i64 b.land, .int .i64 b.slow, .int .i64 b.fast] := by rw [← hW]; exact Blk.new _ _ _
      rw [hW]
      clear hW
      have HBW := Lib.hid hb0
      replace H := Lib.hid (H.out.below hb0 (Nat.le_refl _))
      replace H' := Lib.hid (H'.out.below hb0 (Nat.le_refl _))
      obtain ⟨s0, s1, s2, s3, s4, s5⟩ := k0.six
      clear k0 hb0
      obtain ⟨adA, hA, -, g1, g2⟩ := H.out.pt hi
      cases hA
      obtain ⟨adB, hA', -, g3⟩ := H'.out.fx hi'
      cases hA'
      obtain ⟨ad2, hA2, -, g4⟩ := H'.out.fx (k := m) (by omega)
      cases hA2
      go_wp2_with fail
      go_quiet (fail)
      go_wp2
      go_ret
      exact ⟨ret_b (by rw [HE.out, IntWalk.i64_in (fx R m - fx R i) (by omega), show decide ((i : Int) < 1) = false from decide_eq_false (by omega), Bool.false_or]), by first | exact HBW.out | exact HBW.out.drew | exact below_drewN_ HBW.out _⟩
  · have HE := Lib.hid (keptB_land (b := b) (R := R) hil hb)
    by_cases i0 : (i : Int) < b.per
    · have HE := Lib.hid (HE.out.trans (by rw [decide_eq_true i0, Bool.true_or]))
      clear hb hil
      try clear hm hmi
      go_enter Try.func49, Try.ntmps49
      go_upto_region 1 with fail
      obtain ⟨W, hW⟩ : ∃ W, w.alloc (.cells #[.int .i64 b.per, .int .i64 b.rim, .int .i64 b.core, .int .i64 b.land, .int .i64 b.slow, .int .i64 b.fast] 23) = W := ⟨_, rfl⟩
      have hb0 : Below w.heap.size w W := by rw [← hW]; exact (Below.refl _ _).alloc (Nat.le_refl _) _
      have k0 : Blk W w.heap.size 23 #[.int .i64 b.per, .int .i64 b.rim, .int .i64 b.core, .int .i64 b.land, .int .i64 b.slow, .int .i64 b.fast] := by rw [← hW]; exact Blk.new _ _ _
      rw [hW]
      clear hW
      have HBW := Lib.hid hb0
      replace H := Lib.hid (H.out.below hb0 (Nat.le_refl _))
      replace H' := Lib.hid (H'.out.below hb0 (Nat.le_refl _))
      obtain ⟨s0, s1, s2, s3, s4, s5⟩ := k0.six
      clear k0 hb0
      obtain ⟨adA, hA, -, g1, g2⟩ := H.out.pt hi
      cases hA
      obtain ⟨adB, hA', -, g3⟩ := H'.out.fx hi'
      cases hA'
      go_wp2_with fail
      go_quiet (fail)
      go_wp2
      go_ret
      exact ⟨ret_b HE.out.symm, by first | exact HBW.out | exact HBW.out.drew | exact below_drewN_ HBW.out _⟩
    · have HE := Lib.hid (HE.out.trans (by rw [decide_eq_false i0, Bool.false_or]))
      obtain ⟨m, hm⟩ : ∃ m : Nat, (i : Int) - b.per = (m : Int) := ⟨((i : Int) - b.per).toNat, by omega⟩
      have e9 : IntKind.i64.wrap ((i : Int) - b.per) = (m : Int) := by rw [hm]; exact IntWalk.i64_in _ (by omega)
      have e8 : (m : Int) < (n' : Int) := by omega
      have e6 : (m : Int) < (n : Int) := by omega
      have e7 : (0 : Int) ≤ (m : Int) := by omega
      have hmi : i - b.per.toNat = m := by omega
      rw [hmi] at HE
      obtain ⟨q7, q8⟩ := hR.fx m
      obtain ⟨r1, r2, r3, r4⟩ := hP.at_ m
      clear hb hil hmi hm
      go_enter Try.func49, Try.ntmps49
      go_upto_region 1 with fail
      obtain ⟨W, hW⟩ : ∃ W, w.alloc (.cells #[.int .i64 b.per, .int .i64 b.rim, .int .i64 b.core, .int .i64 b.land, .int .i64 b.slow, .int .i64 b.fast] 23) = W := ⟨_, rfl⟩
      have hb0 : Below w.heap.size w W := by rw [← hW]; exact (Below.refl _ _).alloc (Nat.le_refl _) _
      have k0 : Blk W w.heap.size 23 #[.int .i64 b.per, .int .i64 b.rim, .int .i64 b.core, .int .i64 b.land, .int .i64 b.slow, .int .i64 b.fast] := by rw [← hW]; exact Blk.new _ _ _
      rw [hW]
      clear hW
      have HBW := Lib.hid hb0
      replace H := Lib.hid (H.out.below hb0 (Nat.le_refl _))
      replace H' := Lib.hid (H'.out.below hb0 (Nat.le_refl _))
      obtain ⟨s0, s1, s2, s3, s4, s5⟩ := k0.six
      clear k0 hb0
      obtain ⟨adA, hA, -, g1, g2⟩ := H.out.pt hi
      cases hA
      obtain ⟨adB, hA', -, g3⟩ := H'.out.fx hi'
      cases hA'
      obtain ⟨ad2, hA2, -, g4⟩ := H'.out.fx (k := m) (by omega)
      cases hA2
      obtain ⟨ad3, hA3, -, g5, g6⟩ := H.out.pt (k := m) (by omega)
      cases hA3
      go_wp2_with fail
      go_quiet (fail)
      go_wp2
      go_ret
      exact ⟨ret_b (by rw [HE.out, IntWalk.i64_in (fx R m + pin P m) (by omega), IntWalk.i64_in (fx R i + pout P i) (by omega), IntWalk.i64_in (fx R m + pin P m - (fx R i + pout P i)) (by omega), show decide ((i : Int) < b.per) = false from decide_eq_false (by omega), Bool.false_or]), by first | exact HBW.out | exact HBW.out.drew | exact below_drewN_ HBW.out _⟩

/-- The land of a cut at a sample. -/
def lndI (b : Bk) (P : List Smp) (R : List Int) (i : Nat) : Int := fx R (i - b.per.toNat) + pin P (i - b.per.toNat) - (fx R i + pout P i)
set_option maxHeartbeats 4000000 in
theorem refland_any (B : Nat) (A A' : Option Addr) (n c n' c' : Nat) (b : Bk) (P : List Smp) (R : List Int) (i : Nat) (w : World) (h0 : RS w B A n P) (h1 : LI w B A' n' R) (hB : B ≤ w.heap.size) (hn : n ≤ 1000000) (hi : i < n) (hi' : i < n') (hb : BkOk b) (hP : PsOk P) (hR : RsOk R) (hp : b.per ≤ (i : Int)) :
    Calls Try.prog 55 #[.agg #[.int .i64 b.per, .int .i64 b.rim, .int .i64 b.core, .int .i64 b.land, .int .i64 b.slow, .int .i64 b.fast], .slice A n c, .slice A' n' c', .int .i64 i] w fun e w' => e = .returned (.int .i64 (lndI b P R i)) ∧ Below w.heap.size w w' := by
  have H := Lib.hid (h0.more hB)
  have H' := Lib.hid (h1.more hB)
  have p1 := hb.per1
  have p2 := hb.per2
  obtain ⟨ad, hA, hbl, -, -⟩ := H.out.pt hi
  obtain ⟨ad', hA', hbl', -⟩ := H'.out.fx hi'
  obtain ⟨q1, q2, q3, q4⟩ := hP.at_ i
  obtain ⟨q5, q6⟩ := hR.fx i
  subst hA hA'
  have hv : lndI b P R i = fx R (i - b.per.toNat) + pin P (i - b.per.toNat) - (fx R i + pout P i) := rfl
  obtain ⟨m, hm⟩ : ∃ m : Nat, (i : Int) - b.per = (m : Int) := ⟨((i : Int) - b.per).toNat, by omega⟩
  have e9 : IntKind.i64.wrap ((i : Int) - b.per) = (m : Int) := by rw [hm]; exact IntWalk.i64_in _ (by omega)
  have e8 : (m : Int) < (n' : Int) := by omega
  have e6 : (m : Int) < (n : Int) := by omega
  have e7 : (0 : Int) ≤ (m : Int) := by omega
  have hmi : i - b.per.toNat = m := by omega
  rw [hmi] at hv
  have HV := Lib.hid hv
  obtain ⟨q7, q8⟩ := hR.fx m
  obtain ⟨r1, r2, r3, r4⟩ := hP.at_ m
  clear h0 h1 hB hb hmi hv hm
  go_enter Try.func55, Try.ntmps55
  go_upto_region 1 with fail
  obtain ⟨W, hW⟩ : ∃ W, w.alloc (.cells #[.int .i64 b.per, .int .i64 b.rim, .int .i64 b.core, .int .i64 b.land, .int .i64 b.slow, .int .i64 b.fast] 23) = W := ⟨_, rfl⟩
  have hb0 : Below w.heap.size w W := by rw [← hW]; exact (Below.refl _ _).alloc (Nat.le_refl _) _
  have k0 : Blk W w.heap.size 23 #[.int .i64 b.per, .int .i64 b.rim, .int .i64 b.core, .int .i64 b.land, .int .i64 b.slow, .int .i64 b.fast] := by rw [← hW]; exact Blk.new _ _ _
  rw [hW]
  clear hW
  have HBW := Lib.hid hb0
  replace H := Lib.hid (H.out.below hb0 (Nat.le_refl _))
  replace H' := Lib.hid (H'.out.below hb0 (Nat.le_refl _))
  obtain ⟨s0, s1, s2, s3, s4, s5⟩ := k0.six
  clear k0 hb0
  obtain ⟨adA, hA, -, g1, g2⟩ := H.out.pt hi
  cases hA
  obtain ⟨adB, hA', -, g3⟩ := H'.out.fx hi'
  cases hA'
  obtain ⟨ad2, hA2, -, g4⟩ := H'.out.fx (k := m) (by omega)
  cases hA2
  obtain ⟨ad3, hA3, -, g5, g6⟩ := H.out.pt (k := m) (by omega)
  cases hA3
  go_wp2_with fail
  go_quiet (fail)
  go_wp2
  go_ret
  exact ⟨ret_i HV.out.symm, by first | exact HBW.out | exact HBW.out.drew | exact below_drewN_ HBW.out _⟩
set_option maxHeartbeats 4000000 in
theorem land_any (B : Nat) (A A' : Option Addr) (n c n' c' : Nat) (b : Bk) (P : List Smp) (R : List Int) (i : Nat) (w : World) (h0 : RS w B A n P) (h1 : LI w B A' n' R) (hB : B ≤ w.heap.size) (hn : n ≤ 1000000) (hi : i < n) (hi' : i < n') (hb : BkOk b) (hP : PsOk P) (hR : RsOk R) (hp : b.per ≤ (i : Int)) :
    Calls Try.prog 54 #[.agg #[.int .i64 b.per, .int .i64 b.rim, .int .i64 b.core, .int .i64 b.land, .int .i64 b.slow, .int .i64 b.fast, .slice A n c], .slice A' n' c', .int .i64 i] w fun e w' => e = .returned (.int .i64 (lndI b P R i)) ∧ Below w.heap.size w w' := by
  have H := Lib.hid (h0.more hB)
  have H' := Lib.hid (h1.more hB)
  have p1 := hb.per1
  have p2 := hb.per2
  obtain ⟨ad, hA, hbl, -, -⟩ := H.out.pt hi
  obtain ⟨ad', hA', hbl', -⟩ := H'.out.fx hi'
  obtain ⟨q1, q2, q3, q4⟩ := hP.at_ i
  obtain ⟨q5, q6⟩ := hR.fx i
  subst hA hA'
  have hv : lndI b P R i = fx R (i - b.per.toNat) + pin P (i - b.per.toNat) - (fx R i + pout P i) := rfl
  obtain ⟨m, hm⟩ : ∃ m : Nat, (i : Int) - b.per = (m : Int) := ⟨((i : Int) - b.per).toNat, by omega⟩
  have e9 : IntKind.i64.wrap ((i : Int) - b.per) = (m : Int) := by rw [hm]; exact IntWalk.i64_in _ (by omega)
  have e8 : (m : Int) < (n' : Int) := by omega
  have e6 : (m : Int) < (n : Int) := by omega
  have e7 : (0 : Int) ≤ (m : Int) := by omega
  have hmi : i - b.per.toNat = m := by omega
  rw [hmi] at hv
  have hv2 : lndI b P R i = fx R m + pin P m - fx R i - pout P i := by omega
  have HV := Lib.hid hv2
  obtain ⟨q7, q8⟩ := hR.fx m
  obtain ⟨r1, r2, r3, r4⟩ := hP.at_ m
  clear h0 h1 hB hb hmi hv hv2 hm
  go_enter Try.func54, Try.ntmps54
  go_upto_region 1 with fail
  obtain ⟨W, hW⟩ : ∃ W, w.alloc (.cells #[.int .i64 b.per, .int .i64 b.rim, .int .i64 b.core, .int .i64 b.land, .int .i64 b.slow, .int .i64 b.fast, .slice (some ad) n c] 69) = W := ⟨_, rfl⟩
  have hb0 : Below w.heap.size w W := by rw [← hW]; exact (Below.refl _ _).alloc (Nat.le_refl _) _
  have k0 : Blk W w.heap.size 69 #[.int .i64 b.per, .int .i64 b.rim, .int .i64 b.core, .int .i64 b.land, .int .i64 b.slow, .int .i64 b.fast, .slice (some ad) n c] := by rw [← hW]; exact Blk.new _ _ _
  rw [hW]
  clear hW
  have HBW := Lib.hid hb0
  replace H := Lib.hid (H.out.below hb0 (Nat.le_refl _))
  replace H' := Lib.hid (H'.out.below hb0 (Nat.le_refl _))
  obtain ⟨s0, s1, s2, s3, s4, s5, s6⟩ := k0.seven
  clear k0 hb0
  obtain ⟨adA, hA, -, g1, g2⟩ := H.out.pt hi
  cases hA
  obtain ⟨adB, hA', -, g3⟩ := H'.out.fx hi'
  cases hA'
  obtain ⟨ad2, hA2, -, g4⟩ := H'.out.fx (k := m) (by omega)
  cases hA2
  obtain ⟨ad3, hA3, -, g5, g6⟩ := H.out.pt (k := m) (by omega)
  cases hA3
  go_wp2_with fail
  go_quiet (fail)
  go_wp2
  go_ret
  exact ⟨ret_i HV.out.symm, by first | exact HBW.out | exact HBW.out.drew | exact below_drewN_ HBW.out _⟩
end Go.Proofs.Ytgdkcbnpgpjnbaa
