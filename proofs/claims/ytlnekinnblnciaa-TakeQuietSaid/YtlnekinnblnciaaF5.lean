/-
  The walk of TakeQuiet, all of it.
-/
import Derived.Test.YtlnekinnblnciaaF2
import Derived.Test.YtlnekinnblnciaaF3
namespace Go.Proofs.Ytlnekinnblnciaa
open Go.RowKit

theorem quietLaw_any (A : Option Addr) (n c : Nat) (xs : List Smp) (li mo le : Int) (w : World) (h0 : RS w w.heap.size A n xs) (hl : n ≤ 9223372036854775807) (hi : I64s xs) (l1 : 0 ≤ li) (l2 : li ≤ 65535) (m1 : 0 ≤ mo) (m2 : mo ≤ 65535) (e1 : 0 ≤ le) (e2 : le ≤ 255) :
    Calls Try.prog 9 #[.slice A n c, .int .u16 li, .int .u16 mo, .int .u8 le] w fun e w' => e = .returned (.bool true) ∧ Below w.heap.size w w' := by
  by_cases h1 : 300 < n ∨ ckS xs ≠ 0
  · exact quietLaw_long A n c xs li mo le w h0 hl hi h1
  · by_cases hm : 32767 ≤ li % 32768 + mo
    · exact quietLaw_ok1 A n c xs li mo le w h0 (by omega) hi (by omega) l1 l2 m1 m2 e1 e2 hm
    · exact quietLaw_ok2 A n c xs li mo le w h0 (by omega) hi (by omega) l1 l2 m1 m2 e1 e2 (by omega)
end Go.Proofs.Ytlnekinnblnciaa
