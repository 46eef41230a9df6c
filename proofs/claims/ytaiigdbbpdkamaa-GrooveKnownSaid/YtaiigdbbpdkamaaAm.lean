/-
  The amount of a number, and the contract of the document's Amount.
-/
import Derived.Test.YtaiigdbbpdkamaaA2
import Derived.StillTailTactics
import Derived.Deep.QuietTactic
import Derived.BigQuiet
import Derived.Deep.RegionWith
namespace Go.Proofs.Ytaiigdbbpdkamaa
open Go.RowKit

/-- The amount of a number. -/
def am (x : Int) : Int := max x (-x)

/-- The amount as Go reckons it for every int64. -/
def ram (x : Int) : Int := max x (wrap64 (-x))

set_option maxHeartbeats 400000 in
theorem refAmount_any (x : Int) (w : World) :
    Calls Try.prog 70 #[.int .i64 x] w fun e w' => e = .returned (.int .i64 (ram x)) ∧ w = w' := by
  go_enter Try.func70, Try.ntmps70
  go_wp2
  all_goals
    go_ret
    exact ⟨ret_i (by unfold ram; omega), rfl⟩

end Go.Proofs.Ytaiigdbbpdkamaa
