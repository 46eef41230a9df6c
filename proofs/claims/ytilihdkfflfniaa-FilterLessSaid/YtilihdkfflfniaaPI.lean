/-
  For the rows: a slice of numbers, opened.
-/
import Derived.Test.YtilihdkfflfniaaPA
import Derived.Test.YtilihdkfflfniaaLi
namespace Go.Proofs.Ytilihdkfflfniaa
open Go.ChangeShapes Go.WideShapes Go.ChangeAt Go.RowKit Go.Deep

section
variable {H : Type} {enc : TypeId × Value → H}
def I64l (xs : List Int) : Prop := ∀ x ∈ xs, I64 x

theorem cells_i64s : Try.prog.cellsOf 22 = 1 := by kernel_rfl
set_option maxRecDepth 100000 in
/-- A slice of numbers whose cell is read. -/
theorem open_i64s_raw {W : World} {cs : List Value} {x : DataW H × List MemPlace} {fuel : Nat} (hf : DataW.trod enc Try.prog W 0 (fun _ => true) true fuel 22 cs = some x) :
    ∃ A n c xs, cs = [.slice A n c] ∧ LI W W.heap.size A n xs ∧ n ≤ 9223372036854775807 ∧ n ≤ c ∧ I64l xs := by
  rcases open_slice Try.underlying22 hf with ⟨hc, _⟩ | ⟨a, n, c, m, k, D, Pl, hc, _, hl, hm, hmm, hx, hall⟩
  · exact ⟨_, _, _, [], hc, LI.none_, by omega, by omega, fun _ h => (by cases h)⟩
  · subst hc
    simp only [if_true] at hmm
    subst hmm
    rw [cells_i64] at hall
    have each : ∀ i, i < n → ∃ q : Int, W.cell? (a.add i) = some (.int .i64 q) ∧ I64 q := fun i hi => by
      obtain ⟨cs', hc, ht⟩ := hall i (by omega)
      obtain ⟨q, e0, _, h3⟩ := DataW.trod_int Try.underlying2 ht
      subst e0
      obtain ⟨_, _, hat⟩ := World.cells?_some hc
      have := hat 0 (by simp)
      simp only [Nat.mul_one] at this
      rw [show (a.add i).add 0 = a.add i by simp [Addr.add]] at this
      exact ⟨q, this, i64_of_wf h3⟩
    obtain ⟨l, hln, hP⟩ := list_of n each
    refine ⟨some a, n, _, l, rfl, ⟨hln.symm, ⟨by simp [hln], fun hn => ?_⟩⟩, by unfold maxLen at hm; omega, hl, fun y hy => ?_⟩
    · refine ⟨a, rfl, ?_, fun j u hu => ?_⟩
      · have := World.block_lt_of_cell? W (a.add 0) (hP 0 (by omega)).1
        rwa [block_of_add] at this
      · have hjl : j < l.length := by have := (List.getElem?_eq_some_iff.1 hu).1; simpa using this
        rw [List.getElem?_map, List.getElem?_eq_getElem hjl, Option.map_some] at hu
        injection hu with hu
        rw [← hu]; exact (hP j hjl).1
    · obtain ⟨i, hi, rfl⟩ := List.getElem_of_mem hy
      exact (hP i hi).2
set_option maxRecDepth 100000 in
/-- A slice of numbers, opened. -/
theorem open_i64s {W : World} {v : Value} {d : DataW H} {p : List MemPlace} {b0 : Nat} (h : DataW.Trod enc Try.prog W 0 (fun _ => true) true 22 v d p) (hv : Value.okWide Try.prog W .any b0 22 v) :
    ∃ A n c xs, v = .slice A n c ∧ LI W W.heap.size A n xs ∧ n ≤ 9223372036854775807 ∧ n ≤ c ∧ I64l xs := by
  obtain ⟨fuel, hf⟩ := h
  obtain ⟨A, n, c, rfl⟩ := okWide_slice Try.underlying22 hv
  obtain ⟨A', n', c', xs, e, h1⟩ := open_i64s_raw hf
  simp [Value.cells] at e
  obtain ⟨rfl, rfl, rfl⟩ := e
  exact ⟨_, _, _, xs, rfl, h1⟩
end
end Go.Proofs.Ytilihdkfflfniaa
