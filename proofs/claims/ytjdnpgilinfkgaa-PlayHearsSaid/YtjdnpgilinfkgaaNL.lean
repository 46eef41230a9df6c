/-
  The statements' long.
-/
import Derived.Test.YtjdnpgilinfkgaaWords
namespace Go.Proofs.Ytjdnpgilinfkgaa
open Go.RowKit

def lng6 (n : Nat) (most : Int) : Bool := decide (most < n ∧ n ≤ 4096) || decide (4106 < n)
set_option maxHeartbeats 400000 in
theorem long6_any (A : Option Addr) (n k : Nat) (most : Int) (w : World) : Calls Try.prog 21 #[.slice A n k, .int .i64 most] w fun e w' => e = .returned (.bool (lng6 n most)) ∧ w = w' := by
  go_enter Try.func21, Try.ntmps21
  go_wp2
  all_goals
    go_ret
    exact ⟨ret_b (by unfold lng6; rw [Bool.eq_iff_iff]; simp only [Bool.or_eq_true, decide_eq_true_eq]; (try simp); omega), rfl⟩

end Go.Proofs.Ytjdnpgilinfkgaa
