/-
  Contracts of amount, square, add, quiet, both, gain, of.
-/
import Derived.Test.YtbcahkklhdnboaaA2
import Derived.StillTailTactics
import Derived.Deep.QuietTactic
import Derived.BigQuiet
import Derived.Deep.RegionWith
namespace Go.Proofs.Ytbcahkklhdnboaa
open Go.RowKit

/-- The amount of a number. -/
def am (x : Int) : Int := max x (-x)

set_option maxHeartbeats 400000 in
theorem amount_any (x : Int) (w : World) (h1 : -9223372036854775807 ≤ x) (h2 : x ≤ 9223372036854775807) :
    Calls Try.prog 80 #[.int .i64 x] w fun e w' => e = .returned (.int .i64 (am x)) ∧ w = w' := by
  go_enter Try.func80, Try.ntmps80
  go_wp2
  all_goals
    go_ret
    exact ⟨ret_i (by unfold am; omega), rfl⟩

/-- The amount as Go reckons it for every int64. -/
def ram (x : Int) : Int := max x (wrap64 (-x))

set_option maxHeartbeats 400000 in
theorem refAmount_any (x : Int) (w : World) :
    Calls Try.prog 78 #[.int .i64 x] w fun e w' => e = .returned (.int .i64 (ram x)) ∧ w = w' := by
  go_enter Try.func78, Try.ntmps78
  go_wp2
  all_goals
    go_ret
    exact ⟨ret_i (by unfold ram; omega), rfl⟩

set_option maxHeartbeats 400000 in
theorem add_any (a b c d : Int) (w : World) :
    Calls Try.prog 54 #[.agg #[.int .i64 a, .int .i64 b], .agg #[.int .i64 c, .int .i64 d]] w fun e w' => e = .returned (.agg #[.int .i64 (wrap64 (a + c)), .int .i64 (wrap64 (b + d))]) ∧ Below w.heap.size w w' := by
  go_enter Try.func54, Try.ntmps54
  go_wp2
  exact bodyPost_ret (v := .agg #[.int .i64 (wrap64 (a + c)), .int .i64 (wrap64 (b + d))]) (by simp [results, Try.results54, go_sem]) rfl
    ⟨rfl, (((Below.refl _ _).alloc (Nat.le_refl _) _).alloc (by simp) _).alloc (by simp; omega) _⟩

set_option maxHeartbeats 400000 in
theorem of_any (x u d : Int) (w : World) (hd : 0 < d) (hd' : d ≤ 9223372036854775807) (hm : -9223372036854775807 ≤ x * u) (hm' : x * u ≤ 9223372036854775807) :
    Calls Try.prog 74 #[.agg #[.int .i64 u, .int .i64 d], .int .i64 x] w fun e w' => e = .returned (.int .i64 ((x * u).tdiv d)) ∧ Below w.heap.size w w' := by
  go_enter Try.func74, Try.ntmps74
  go_wp2
  go_ret
  exact ⟨ret_i rfl, (Below.refl _ _).alloc (Nat.le_refl _) _⟩

set_option maxHeartbeats 400000 in
theorem quiet_any (l r m : Int) (w : World) (h1 : -32767 ≤ l) (h2 : l ≤ 32767) (h3 : -32767 ≤ r) (h4 : r ≤ 32767) :
    Calls Try.prog 66 #[.agg #[.int .i64 l, .int .i64 r], .int .i64 m] w fun e w' => e = .returned (.bool (decide (am l ≤ m) && decide (am r ≤ m))) ∧ Below w.heap.size w w' := by
  by_cases h5 : am l ≤ m <;> by_cases h6 : am r ≤ m
  all_goals
    go_enter Try.func66, Try.ntmps66
    go_wp2_with ((with_reducible refine (amount_any _ _ (by omega) (by omega)).mono ?_); rintro e w' ⟨rfl, rfl⟩)
    go_ret
    exact ⟨ret_b (by simp [h5, h6]), (Below.refl _ _).alloc (Nat.le_refl _) _⟩

set_option maxHeartbeats 400000 in
theorem bothAmount_any (l r : Int) (w : World) (h1 : -32767 ≤ l) (h2 : l ≤ 32767) (h3 : -32767 ≤ r) (h4 : r ≤ 32767) :
    Calls Try.prog 72 #[.agg #[.int .i64 l, .int .i64 r], .func (.func 80) #[] #[]] w fun e w' => e = .returned (.agg #[.int .i64 (am l), .int .i64 (am r)]) ∧ Below w.heap.size w w' := by
  go_enter Try.func72, Try.ntmps72
  go_wp2
  go_region_with ((with_reducible refine (amount_any _ _ (by omega) (by omega)).mono ?_); rintro e w' ⟨rfl, rfl⟩)
  all_goals go_wp2
  all_goals refine bodyPost_ret (v := .agg #[.int .i64 (am l), .int .i64 (am r)]) ?_ rfl ⟨rfl, ?_⟩
  all_goals first | (simp [results, Try.results72, go_sem]; done) | exact (((Below.refl _ _).alloc (Nat.le_refl _) _).alloc (by simp) _).drew

theorem ckS_bd (xs : List Smp) (h : ckS xs = 0) (k : Nat) (hk : k < xs.length) : -32767 ≤ xs[k].1 ∧ xs[k].1 ≤ 32767 ∧ -32767 ≤ xs[k].2 ∧ xs[k].2 ≤ 32767 := by
  unfold ckS at h
  split at h
  · omega
  · split at h
    · rename_i hv
      unfold vss at hv
      rw [List.all_eq_true] at hv
      have := hv xs[k] (List.getElem_mem hk)
      simp [vs, win] at this
      omega
    · omega

end Go.Proofs.Ytbcahkklhdnboaa
