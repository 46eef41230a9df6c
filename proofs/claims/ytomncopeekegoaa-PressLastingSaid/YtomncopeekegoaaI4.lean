/-
  The ends that a disc has to wait for, as an iterator; the earliest time for a disc.
-/
import Derived.Test.YtomncopeekegoaaI3
import Derived.OrdersHeld
import Derived.Deep.RegionHeld3
namespace Go.Proofs.Ytomncopeekegoaa
open Go.RowKit Go.Shelf
attribute [local go_sem] Oper.semAt_some

/-- The ends that a disc has to wait for. -/
def endU (p b : Nat) (st rs : Int) (l : List Int) : List Int :=
  (if b ≤ l.length then [l.getD (l.length - b) 0 + st] else []) ++ (if p ≤ l.length then [l.getD (l.length - p) 0 + (st + rs)] else [])
/-- The earliest time for a disc after others. -/
def ear (p b : Nat) (st rs : Int) (l : List Int) : Int := (endU p b st rs l).foldl max 0
theorem grown_dr (X : World) : X.grownBy X.drew none := ⟨rfl, rfl, rfl, Nat.le_refl _, fun _ _ _ => rfl⟩
abbrev encU (x : Int) : Array Value := #[.int .u64 x]

set_option maxHeartbeats 400000 in
theorem ends_any (p b st rs : Int) (A : Option Addr) (n c : Nat) (w : World) :
    Calls Try.prog 83 #[.agg #[.int .i64 p, .int .i64 b, .int .i64 st, .int .i64 rs], .slice A n c] w fun e w' =>
      e = .returned (.func (.func 93) #[] #[.pointer (some ⟨w.heap.size + 1, 0, none⟩), .pointer (some ⟨w.heap.size, 0, none⟩)]) ∧
      (w.alloc (.cells #[.int .i64 p, .int .i64 b, .int .i64 st, .int .i64 rs] 109)).alloc (.cells #[.slice A n c] 37) = w' := by
  go_enter Try.func83, Try.ntmps83
  go_wp2
  go_ret
  exact ⟨rfl, rfl⟩

end Go.Proofs.Ytomncopeekegoaa
