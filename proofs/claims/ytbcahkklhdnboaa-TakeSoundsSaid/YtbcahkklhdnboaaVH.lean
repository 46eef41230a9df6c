/-
  Lemmas of TakeSounds' walk.
-/
import Derived.Test.YtbcahkklhdnboaaC4
import Derived.Test.YtbcahkklhdnboaaG5
import Derived.Test.YtbcahkklhdnboaaT4
import Derived.Test.YtbcahkklhdnboaaV2
namespace Go.Proofs.Ytbcahkklhdnboaa
open Go.RowKit

theorem made_zeros (R : List Pl) (n : Nat) (h : R.length = n) : madeCells #[Value.int .i64 0] n = (R.map fun _ => Value.int .i64 0).toArray := by
  apply Array.ext'
  rw [toList_madeCells_one]
  simp [h, List.map_const']

theorem sumS_take (l : List TV) (L : List (Pl × Int)) (i : Nat) (h : i < L.length) : sumS ((L.take (i + 1)).map (sndOf l)) = addS (sumS ((L.take i).map (sndOf l))) (sndOf l (L[i]'h)) := by
  rw [List.take_succ_eq_append_getElem h, List.map_append]
  exact sumS_snoc _ _
theorem vs_am (a b : Int) : vs a b = !(decide (32767 < am a) || decide (32767 < am b)) := by
  unfold vs win am
  rw [Bool.eq_iff_iff]
  simp
  omega
set_option maxRecDepth 100000 in
theorem eq_smp (a b : Int) (w : World) : Sem.run Try.prog (Op.equalIn 10000 39 (.agg #[.int .i64 a, .int .i64 b]) (.agg #[.int .i64 a, .int .i64 b])) w = .ok true w := by
  simp [go_sem, Op.eqFields]
theorem sndB_iff {t : Int} {q : Pl} (h : sndB t q = true) : q.st ≤ t ∧ t < q.end_ := by simpa [sndB] using h
theorem Below.cell_keep {w w' : World} (h : Below w.heap.size w w') {p : Addr} {v : Value} (hc : w.cell? p = some v) : w'.cell? p = some v := (h.cell (block_lt_of_cell hc)).trans hc
theorem own_form {w : World} {base : Nat} {e : TypeId} {size n c : Nat} {A : Option Addr} {xs : List Value} (h : w.ownsRow base e size (.slice A n c) n xs) (hn : 0 < n) : ∃ g, A = some ⟨g, 0, none⟩ ∧ base ≤ g ∧ g < w.heap.size ∧ ∀ j u, xs[j]? = some u → w.cell? ⟨g, j, none⟩ = some u := by
  obtain ⟨g, cap, hv, h1, h2⟩ := h.form hn
  injection hv with hA
  subst hA
  refine ⟨g, rfl, h1, h2, fun j u hu => ?_⟩
  have := h.cells (g := g) rfl j u hu
  rw [show (⟨g, 0, none⟩ : Addr).add j = ⟨g, j, none⟩ from by unfold Addr.add; split <;> simp_all] at this
  exact this

end Go.Proofs.Ytbcahkklhdnboaa
