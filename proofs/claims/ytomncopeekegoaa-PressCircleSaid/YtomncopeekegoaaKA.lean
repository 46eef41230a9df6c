/-
  PressCircle: what Centre gives for three spots near the middle, in other orders, and for spots that are moved.
-/
import Derived.Test.YtomncopeekegoaaIZ
namespace Go.Proofs.Ytomncopeekegoaa
open Go.RowKit

/-- The coordinates are numbers of 16 bits. -/
def S16 (s : Smp) : Prop := (-32768 ≤ s.1 ∧ s.1 ≤ 32767) ∧ (-32768 ≤ s.2 ∧ s.2 ≤ 32767)
theorem S16.sp {s : Smp} (h : S16 s) : SpB s := by obtain ⟨⟨a, b⟩, c, d⟩ := h; exact ⟨⟨by omega, by omega⟩, by omega, by omega⟩
theorem S16.mvd {s : Smp} (h : S16 s) {x y : Int} (hx : -32768 ≤ x ∧ x ≤ 32767) (hy : -32768 ≤ y ∧ y ≤ 32767) : SpB (mvd s x y) := by
  obtain ⟨⟨a, b⟩, c, d⟩ := h
  exact ⟨⟨show -262144 ≤ s.1 + x by omega, show s.1 + x ≤ 262144 by omega⟩, show -262144 ≤ s.2 + y by omega, show s.2 + y ≤ 262144 by omega⟩
theorem cenE_sp {a b c : Smp} (ha : SpB a) (hb : SpB b) (hc : SpB c) : cenE a b c = if cD a b c = 0 then 9 else 0 := by
  unfold cenE
  rw [spW_iff.2 ha, spW_iff.2 hb, spW_iff.2 hc]
  rfl
theorem circ_zero {a b c : Smp} (ha : SpB a) (hb : SpB b) (hc : SpB c) (h : crs a b c = 0) : cenE a b c = 9 ∧ cenR a b c = (0, 0, 0) := by
  have h1 : cenE a b c = 9 := by rw [cenE_sp ha hb hc, if_pos (by rw [cD_crs, h]; rfl)]
  exact ⟨h1, by unfold cenR; rw [h1]; rfl⟩
theorem circ_pos {a b c : Smp} (ha : SpB a) (hb : SpB b) (hc : SpB c) (h : crs a b c ≠ 0) : cenE a b c = 0 ∧ cenR a b c = cenV a b c ∧ (cenV a b c).2.2 = 2 * max (crs a b c) (-crs a b c) ∧ 0 < (cenV a b c).2.2 := by
  have h1 : cenE a b c = 0 := by rw [cenE_sp ha hb hc, if_neg (by rw [cD_crs]; omega)]
  refine ⟨h1, by unfold cenR; rw [if_pos h1], ?_, ?_⟩
  · unfold cenV
    rw [cD_crs]
    split <;> dsimp only <;> omega
  · unfold cenV
    rw [cD_crs]
    split <;> dsimp only <;> omega
theorem cenV_apart (a b c : Smp) : (2 * (cenV a b c).1 * (b.1 - a.1) + 2 * (cenV a b c).2.1 * (b.2 - a.2) = (cenV a b c).2.2 * (b.1 * b.1 + b.2 * b.2 - a.1 * a.1 - a.2 * a.2)) ∧
    (2 * (cenV a b c).1 * (c.1 - a.1) + 2 * (cenV a b c).2.1 * (c.2 - a.2) = (cenV a b c).2.2 * (c.1 * c.1 + c.2 * c.2 - a.1 * a.1 - a.2 * a.2)) := by
  have h1 := apart_b a b c
  have h2 := apart_c a b c
  unfold cenV
  split
  · dsimp only
    refine ⟨?_, ?_⟩
    · grind
    · grind
  · exact ⟨h1, h2⟩
theorem crs_cyc (a b c : Smp) : crs c a b = crs a b c := by unfold crs; grind
theorem crs_swap (a b c : Smp) : crs b a c = -crs a b c := by unfold crs; grind
theorem crs_mvd (a b c : Smp) (x y : Int) : crs (mvd a x y) (mvd b x y) (mvd c x y) = crs a b c := by unfold crs mvd; grind
theorem cenV_cyc (a b c : Smp) : cenV c a b = cenV a b c := by
  unfold cenV
  rw [(c_cyc a b c).1, (c_cyc a b c).2.1, (c_cyc a b c).2.2]
theorem cenV_swap {a b c : Smp} (h : crs a b c ≠ 0) : cenV b a c = cenV a b c := by
  unfold cenV
  rw [(c_swap a b c).1, (c_swap a b c).2.1, (c_swap a b c).2.2]
  have : cD a b c ≠ 0 := by rw [cD_crs]; omega
  by_cases hn : cD a b c < 0
  · rw [if_pos hn, if_neg (by omega)]
  · rw [if_neg hn, if_pos (by omega), Int.neg_neg, Int.neg_neg, Int.neg_neg]
theorem cenV_mvd (a b c : Smp) (x y : Int) : cenV (mvd a x y) (mvd b x y) (mvd c x y) = ((cenV a b c).1 + (cenV a b c).2.2 * x, (cenV a b c).2.1 + (cenV a b c).2.2 * y, (cenV a b c).2.2) := by
  unfold cenV
  rw [(c_mvd a b c x y).1, (c_mvd a b c x y).2.1, (c_mvd a b c x y).2.2]
  split
  · refine Prod.ext ?_ (Prod.ext ?_ rfl) <;> dsimp only <;> grind
  · rfl
end Go.Proofs.Ytomncopeekegoaa
