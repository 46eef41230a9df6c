/-
  Contracts of sounding and of the iterator that it returns.
-/
import Derived.Test.YtbcahkklhdnboaaB9
import Derived.Test.YtbcahkklhdnboaaL1
import Derived.RangeFuncBound
import Derived.RangeFuncCalls
import Derived.Shelf.Abstract
import Derived.Shelf.RegionOpen
import Derived.OwnWalkIn
import Derived.TacticsInMore
import Derived.LoopNIn
import Derived.LoopIn
import Derived.Sort.QuietTacIn
namespace Go.Proofs.Ytbcahkklhdnboaa
open Go.RowKit Go.Shelf
attribute [local go_sem] Oper.semAt_some

abbrev encP (x : Pl × Int) : Array Value := #[.agg #[.int .i64 x.1.p.tk, .int .i64 x.1.p.fr, .int .i64 x.1.p.to, .int .i64 x.1.p.gp, .int .i64 x.1.p.fi, .int .i64 x.1.p.fo, .int .i64 x.1.p.lv, .int .i64 x.1.ix, .int .i64 x.1.st], .int .i64 x.2]
def sndB (t : Int) (q : Pl) : Bool := decide (q.st ≤ t) && decide (t < q.end_)
/-- What sounds at a time: the placed parts, each with the number of its sample. -/
def sndL (R : List Pl) (t : Int) : List (Pl × Int) := (R.filter (sndB t)).map fun q => (q, t - q.st)
theorem sndL_snoc (R : List Pl) (t : Int) (k : Nat) (h : k < R.length) : sndL (R.take (k + 1)) t = sndL (R.take k) t ++ if sndB t R[k] = true then [(R[k], t - R[k].st)] else [] := by
  unfold sndL
  rw [List.take_succ_eq_append_getElem h, List.filter_append, List.map_append]
  cases hb : sndB t R[k] <;> simp [hb]
theorem sndL_prefix (R : List Pl) (t : Int) (k : Nat) : sndL (R.take k) t <+: sndL R t := by
  unfold sndL
  exact ((List.take_prefix k R).filter _).map _
theorem RQ.bel {w w' : World} {B : Nat} {gg : Nat → Prop} {A : Option Addr} {n : Nat} {l : List Pl} (h : RQ w B A n l) (hb : Bel gg w w') (hne : ∀ ad, A = some ad → ¬ gg ad.block) : RQ w' B A n l := by
  refine ⟨h.1, h.2.1, fun hn => ?_⟩
  obtain ⟨ad, e, hlt, hc⟩ := h.2.2 hn
  exact ⟨ad, e, hlt, fun j u hu => hb.cell (hc j u hu) (by rw [block_of_add]; exact hne ad e)⟩
theorem grown_of_below {X Y : World} (h : Below X.heap.size X Y) : X.grownBy Y none := ⟨h.os, h.tape, h.output, h.size, fun i hi _ => h.block i hi⟩

set_option maxHeartbeats 400000 in
theorem sounding_any (A : Option Addr) (m c : Nat) (t : Int) (w : World) :
    Calls Try.prog 47 #[.slice A m c, .int .i64 t] w fun e w' => e = .returned (.func (.func 71) #[] #[.pointer (some ⟨w.heap.size, 0, none⟩), .pointer (some ⟨w.heap.size + 1, 0, none⟩)]) ∧
      (w.alloc (.cells #[.slice A m c] 68)).alloc (.cells #[.int .i64 t] 3) = w' := by
  go_enter Try.func47, Try.ntmps47
  go_wp2
  go_ret
  exact ⟨rfl, rfl⟩

end Go.Proofs.Ytbcahkklhdnboaa
