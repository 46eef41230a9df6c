/-
  For the rows of layer 5: a slice of pairs of bytes, opened.
-/
import Derived.Test.YtgdkcbnpgpjnbaaPB
import Derived.Test.YtgdkcbnpgpjnbaaL40
namespace Go.Proofs.Ytgdkcbnpgpjnbaa
open Go.ChangeShapes Go.WideShapes Go.ChangeAt Go.RowKit Go.Deep

section
variable {H : Type} {enc : TypeId × Value → H}
theorem cells_arr2 : Try.prog.cellsOf 58 = 2 := by kernel_rfl
set_option maxRecDepth 100000 in
/-- A slice of pairs of bytes whose cell is read. -/
theorem open_p8s_raw {W : World} {cs : List Value} {x : DataW H × List MemPlace} {fuel : Nat} (hf : DataW.trod enc Try.prog W 0 (fun _ => true) true fuel 57 cs = some x) :
    ∃ A n c xs, cs = [.slice A n c] ∧ R8 W W.heap.size A n xs ∧ n ≤ 9223372036854775807 ∧ ∀ v ∈ xs, 0 ≤ v.1 ∧ v.1 ≤ 255 ∧ 0 ≤ v.2 ∧ v.2 ≤ 255 := by
  rcases open_slice Try.underlying57 hf with ⟨hc, _⟩ | ⟨a, n, c, m, k, D, Pl, hc, _, hl, hm, hmm, hx, hall⟩
  · exact ⟨_, _, _, [], hc, ⟨rfl, fun h => absurd h (by omega)⟩, by omega, fun _ h => (by cases h)⟩
  · subst hc
    simp only [if_true] at hmm
    subst hmm
    rw [cells_arr2] at hall
    have each : ∀ i, i < n → ∃ q : Smp, (W.cell? (a.add (i * 2)) = some (.int .u8 q.1) ∧ W.cell? ⟨(a.add (i * 2)).block, (a.add (i * 2)).off + 1, none⟩ = some (.int .u8 q.2)) ∧ (0 ≤ q.1 ∧ q.1 ≤ 255 ∧ 0 ≤ q.2 ∧ q.2 ≤ 255) := fun i hi => by
      obtain ⟨cs', hc, ht⟩ := hall i (by omega)
      obtain ⟨hlen, _, hat⟩ := World.cells?_some hc
      match cs', hlen with
      | [a0, a1], _ =>
        obtain ⟨xs, n, -, -, -, hxl, hall⟩ := DataW.trod_array Try.underlying58 ht
        rw [show Try.prog.cellsOf 5 = 1 from by kernel_rfl] at hall
        match xs, hxl with
        | [x0, x1], _ =>
          have g0 : DataW.trod enc Try.prog W 0 (fun _ => true) true n 5 (([a0, a1].drop (0 * 1)).take 1) = [x0, x1][0]? := hall 0 (by omega)
          have g1 : DataW.trod enc Try.prog W 0 (fun _ => true) true n 5 (([a0, a1].drop (1 * 1)).take 1) = [x0, x1][1]? := hall 1 (by omega)
          simp at g0 g1
          obtain ⟨n0, e0, f0⟩ := DataW.trod_int Try.underlying5 g0
          obtain ⟨n1, e1, f1⟩ := DataW.trod_int Try.underlying5 g1
          simp only [List.cons.injEq, and_true] at e0 e1
          have h0 := bounds_u8 f0.2
          have h1 := bounds_u8 f1.2
          have c0 := hat 0 (by simp)
          have c1 := hat 1 (by simp)
          rw [show (a.add (i * 2)).add 0 = a.add (i * 2) by simp [Addr.add]] at c0
          refine ⟨(n0, n1), ⟨?_, ?_⟩, h0.1, h0.2, h1.1, h1.2⟩
          · rw [c0]; simp [e0]
          · have e : (⟨(a.add (i * 2)).block, (a.add (i * 2)).off + 1, none⟩ : Addr) = (a.add (i * 2)).add 1 := by unfold Addr.add; split <;> rfl
            rw [e, c1]; simp [e1]
    obtain ⟨l, hln, hP⟩ := list_of n each
    refine ⟨some a, n, _, l, rfl, ⟨hln.symm, fun hn => ?_⟩, by unfold maxLen at hm; omega, fun y hy => ?_⟩
    · refine ⟨a, rfl, ?_, fun i hi => (hP i hi).1⟩
      have := World.block_lt_of_cell? W (a.add (0 * 2)) (hP 0 (by omega)).1.1
      rwa [block_of_add] at this
    · obtain ⟨i, hi, rfl⟩ := List.getElem_of_mem hy
      exact (hP i hi).2
set_option maxRecDepth 100000 in
/-- A slice of pairs of bytes, opened. -/
theorem open_p8s {W : World} {v : Value} {d : DataW H} {p : List MemPlace} {b0 : Nat} (h : DataW.Trod enc Try.prog W 0 (fun _ => true) true 57 v d p) (hv : Value.okWide Try.prog W .any b0 57 v) :
    ∃ A n c xs, v = .slice A n c ∧ R8 W W.heap.size A n xs ∧ n ≤ 9223372036854775807 ∧ ∀ v ∈ xs, 0 ≤ v.1 ∧ v.1 ≤ 255 ∧ 0 ≤ v.2 ∧ v.2 ≤ 255 := by
  obtain ⟨fuel, hf⟩ := h
  obtain ⟨A, n, c, rfl⟩ := okWide_slice Try.underlying57 hv
  obtain ⟨A', n', c', xs, e, h1⟩ := open_p8s_raw hf
  simp [Value.cells] at e
  obtain ⟨rfl, rfl, rfl⟩ := e
  exact ⟨_, _, _, xs, rfl, h1⟩
end
end Go.Proofs.Ytgdkcbnpgpjnbaa
