/-
  Contracts of within, validSample, validSamples, CheckSamples.
-/
import Derived.Test.YtjdnpgilinfkgaaSm
namespace Go.Proofs.Ytjdnpgilinfkgaa
open Go.RowKit

set_option maxHeartbeats 400000 in
theorem within64_any (x lo hi : Int) (w : World) :
    Calls Try.prog 120 #[.int .i64 x, .int .i64 lo, .int .i64 hi] w fun e w' => e = .returned (.bool (win x lo hi)) ∧ w = w' := by
  by_cases h1 : lo ≤ x <;> by_cases h2 : x ≤ hi
  all_goals
    go_enter Try.func120, Try.ntmps120
    go_wp2
    go_ret
    exact ⟨by simp [win, h1, h2], rfl⟩


set_option maxHeartbeats 400000 in
theorem validSample_any (l r : Int) (w : World) :
    Calls Try.prog 119 #[.agg #[.int .i64 l, .int .i64 r]] w fun e w' => e = .returned (.bool (vs l r)) ∧ Below w.heap.size w w' := by
  cases h1 : win l (-32767) 32767 <;> cases h2 : win r (-32767) 32767
  all_goals
    have H1 := Lib.hid h1
    have H2 := Lib.hid h2
    clear h1 h2
    go_enter Try.func119, Try.ntmps119
    go_wp2_with ((with_reducible refine (within64_any _ _ _ _).mono ?_); rintro e w' ⟨rfl, rfl⟩; (try rw [H1.out]); (try rw [H2.out]))
    go_ret
    exact ⟨by simp [vs, H1.out, H2.out], (Below.refl _ _).alloc (Nat.le_refl _) _⟩

end Go.Proofs.Ytjdnpgilinfkgaa
