/-
  The mathematics of PressCircle.
-/
import Derived.Test.YtomncopeekegoaaIV
namespace Go.Proofs.Ytomncopeekegoaa
open Go.RowKit

def crs (a b c : Smp) : Int := (b.1 - a.1) * (c.2 - a.2) - (b.2 - a.2) * (c.1 - a.1)
theorem cD_crs (a b c : Smp) : cD a b c = 2 * crs a b c := rfl
def mvd (s : Smp) (x y : Int) : Smp := (s.1 + x, s.2 + y)
/-- The same distance from two spots. -/
theorem apart_b (a b c : Smp) : 2 * cX a b c * (b.1 - a.1) + 2 * cY a b c * (b.2 - a.2) = cD a b c * (b.1 * b.1 + b.2 * b.2 - a.1 * a.1 - a.2 * a.2) := by
  simp only [cX, cY, cD, sqS]
  grind
theorem apart_c (a b c : Smp) : 2 * cX a b c * (c.1 - a.1) + 2 * cY a b c * (c.2 - a.2) = cD a b c * (c.1 * c.1 + c.2 * c.2 - a.1 * a.1 - a.2 * a.2) := by
  simp only [cX, cY, cD, sqS]
  grind
theorem c_cyc (a b c : Smp) : cX c a b = cX a b c ∧ cY c a b = cY a b c ∧ cD c a b = cD a b c := by
  simp only [cX, cY, cD, sqS]
  refine ⟨?_, ?_, ?_⟩ <;> grind
theorem c_swap (a b c : Smp) : cX b a c = -cX a b c ∧ cY b a c = -cY a b c ∧ cD b a c = -cD a b c := by
  simp only [cX, cY, cD, sqS]
  refine ⟨?_, ?_, ?_⟩ <;> grind
theorem c_mvd (a b c : Smp) (x y : Int) : cX (mvd a x y) (mvd b x y) (mvd c x y) = cX a b c + cD a b c * x ∧ cY (mvd a x y) (mvd b x y) (mvd c x y) = cY a b c + cD a b c * y ∧ cD (mvd a x y) (mvd b x y) (mvd c x y) = cD a b c := by
  simp only [cX, cY, cD, sqS, mvd]
  refine ⟨?_, ?_, ?_⟩ <;> grind
theorem near_iff (m n d lim : Int) (hd : 0 < d) : decide (sqN [m * d, n * d] ≤ sqN [lim * d]) = decide (m * m + n * n ≤ lim * lim) := by
  simp only [sqN, Nat.add_zero, Int.natAbs_mul]
  obtain ⟨M, hM⟩ : ∃ M, m.natAbs = M := ⟨_, rfl⟩
  obtain ⟨N, hN⟩ : ∃ M, n.natAbs = M := ⟨_, rfl⟩
  obtain ⟨L, hL⟩ : ∃ M, lim.natAbs = M := ⟨_, rfl⟩
  obtain ⟨D, hD⟩ : ∃ M, d.natAbs = M := ⟨_, rfl⟩
  have hD0 : 0 < D := by omega
  have e1 : m * m = ((M * M : Nat) : Int) := by rw [← hM, Int.natAbs_mul_self]
  have e2 : n * n = ((N * N : Nat) : Int) := by rw [← hN, Int.natAbs_mul_self]
  have e3 : lim * lim = ((L * L : Nat) : Int) := by rw [← hL, Int.natAbs_mul_self]
  rw [hM, hN, hL, hD, e1, e2, e3]
  refine decide_eq_decide.2 ?_
  have h1 : M * D * (M * D) + N * D * (N * D) = (D * D) * (M * M + N * N) := by grind
  have h2 : L * D * (L * D) = (D * D) * (L * L) := by grind
  rw [h1, h2, Nat.mul_le_mul_left_iff (Nat.mul_pos hD0 hD0)]
  omega
theorem wrap64_add2 (a b : Int) : wrap64 (wrap64 a + wrap64 b) = wrap64 (a + b) := by unfold wrap64; omega

set_option maxRecDepth 100000 in
set_option maxHeartbeats 4000000 in
theorem moved_any (s : Smp) (x y : Int) (w : World) (h1 : -4611686018427387904 ≤ s.1 + x ∧ s.1 + x ≤ 4611686018427387904) (h2 : -4611686018427387904 ≤ s.2 + y ∧ s.2 + y ≤ 4611686018427387904) :
    Calls Try.prog 42 #[.agg #[.int .i64 s.1, .int .i64 s.2], .int .i64 x, .int .i64 y] w fun e w' => e = .returned (.agg #[.int .i64 (mvd s x y).1, .int .i64 (mvd s x y).2]) ∧ Below w.heap.size w w' := by
  have e1 : IntKind.i64.wrap (s.1 + x) = s.1 + x := IntWalk.i64_in _ (by omega)
  have e2 : IntKind.i64.wrap (s.2 + y) = s.2 + y := IntWalk.i64_in _ (by omega)
  obtain ⟨X, hX⟩ : ∃ X, s.1 + x = X := ⟨_, rfl⟩
  obtain ⟨Y, hY⟩ : ∃ X, s.2 + y = X := ⟨_, rfl⟩
  show Calls Try.prog 42 #[.agg #[.int .i64 s.1, .int .i64 s.2], .int .i64 x, .int .i64 y] w fun e w' => e = .returned (.agg #[.int .i64 (s.1 + x), .int .i64 (s.2 + y)]) ∧ Below w.heap.size w w'
  rw [hX] at e1 ⊢
  rw [hY] at e2 ⊢
  clear h1 h2
  go_enter Try.func42, Try.ntmps42
  go_wp2
  obtain ⟨W, hW⟩ : ∃ W, (w.alloc (.cells #[.int .i64 s.1, .int .i64 s.2] 66)).alloc (.cells #[.int .i64 X, .int .i64 Y] 66) = W := ⟨_, rfl⟩
  have hb : Below w.heap.size w W := by rw [← hW]; exact (below_a _ _).alloc (by simp) _
  have k1 : Blk W (w.heap.size + 1) 66 #[.int .i64 X, .int .i64 Y] := by rw [← hW]; exact blk_al (by simp)
  rw [hW]
  have c0 := (k1.cell 0).trans rfl
  have c1 := (k1.cell 1).trans rfl
  refine bodyPost_ret (v := .agg #[.int .i64 X, .int .i64 Y]) ?_ rfl ⟨rfl, hb⟩
  simp [results, Try.results42, go_sem, c0, c1]

set_option maxRecDepth 100000 in
set_option maxHeartbeats 4000000 in
theorem apart_any (p q : Smp) (x y d : Int) (w : World) (hp : SpB p) (hq : SpB q) (hx : -288230376151711744 ≤ x ∧ x ≤ 288230376151711744) (hy : -288230376151711744 ≤ y ∧ y ≤ 288230376151711744)
    (h : 2 * x * (q.1 - p.1) + 2 * y * (q.2 - p.2) = d * (q.1 * q.1 + q.2 * q.2 - p.1 * p.1 - p.2 * p.2)) :
    Calls Try.prog 41 #[.agg #[.int .i64 p.1, .int .i64 p.2], .agg #[.int .i64 q.1, .int .i64 q.2], .int .i64 x, .int .i64 y, .int .i64 d] w fun e w' => e = .returned (.bool true) ∧ Below w.heap.size w w' := by
  obtain ⟨⟨b1, b2⟩, b3, b4⟩ := hp
  obtain ⟨⟨b5, b6⟩, b7, b8⟩ := hq
  have s1 := sq_bd (s := p) ⟨⟨b1, b2⟩, b3, b4⟩
  have s2 := sq_bd (s := q) ⟨⟨b5, b6⟩, b7, b8⟩
  obtain ⟨p1, p2⟩ := p
  obtain ⟨q1, q2⟩ := q
  dsimp only at *
  have e1 : IntKind.i64.wrap (2 * x) = 2 * x := IntWalk.i64_in _ (by omega)
  have e2 : IntKind.i64.wrap (2 * y) = 2 * y := IntWalk.i64_in _ (by omega)
  have e3 : IntKind.i64.wrap (q1 - p1) = q1 - p1 := IntWalk.i64_in _ (by omega)
  have e4 : IntKind.i64.wrap (q2 - p2) = q2 - p2 := IntWalk.i64_in _ (by omega)
  obtain ⟨A, hA⟩ : ∃ A, q1 * q1 = A := ⟨_, rfl⟩
  obtain ⟨B, hB⟩ : ∃ A, q2 * q2 = A := ⟨_, rfl⟩
  obtain ⟨C, hC⟩ : ∃ A, p1 * p1 = A := ⟨_, rfl⟩
  obtain ⟨D, hD⟩ : ∃ A, p2 * p2 = A := ⟨_, rfl⟩
  rw [hA, hB, hC, hD] at h
  rw [hA, hB] at s2
  rw [hC, hD] at s1
  have e5 : IntKind.i64.wrap A = A := IntWalk.i64_in _ (by omega)
  have e6 : IntKind.i64.wrap B = B := IntWalk.i64_in _ (by omega)
  have e7 : IntKind.i64.wrap C = C := IntWalk.i64_in _ (by omega)
  have e8 : IntKind.i64.wrap D = D := IntWalk.i64_in _ (by omega)
  have e9 : IntKind.i64.wrap (A + B) = A + B := IntWalk.i64_in _ (by omega)
  have e10 : IntKind.i64.wrap (A + B - C) = A + B - C := IntWalk.i64_in _ (by omega)
  have e11 : IntKind.i64.wrap (A + B - C - D) = A + B - C - D := IntWalk.i64_in _ (by omega)
  have HH : Hid (wrap64 (wrap64 (2 * x * (q1 - p1)) + wrap64 (2 * y * (q2 - p2))) = wrap64 (d * (A + B - C - D))) := Lib.hid (by rw [wrap64_add2, h])
  clear s1 s2 h hx hy b1 b2 b3 b4 b5 b6 b7 b8
  go_enter Try.func41, Try.ntmps41
  go_wp2
  rw [HH.out]
  refine bodyPost_ret (results_tmp rfl _ _ _) rfl ⟨?_, (below_a _ _).alloc (by simp) _⟩
  show Ending.returned (Value.bool (_ == _)) = _
  rw [beq_self_eq_true]
end Go.Proofs.Ytomncopeekegoaa
