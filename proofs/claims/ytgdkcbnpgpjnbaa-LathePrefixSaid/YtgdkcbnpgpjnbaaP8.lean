/-
  For the rows of layer 5: a slice of points, opened.
-/
import Derived.Test.YtgdkcbnpgpjnbaaPI
import Derived.Test.YtgdkcbnpgpjnbaaSm
namespace Go.Proofs.Ytgdkcbnpgpjnbaa
open Go.ChangeShapes Go.WideShapes Go.ChangeAt Go.RowKit Go.Deep

section
variable {H : Type} {enc : TypeId × Value → H}
theorem cells_pt : Try.prog.cellsOf 55 = 2 := by kernel_rfl
set_option maxRecDepth 100000 in
/-- A slice of points, opened. -/
theorem open_pts {W : World} {v : Value} {d : DataW H} {p : List MemPlace} {b0 : Nat} (h : DataW.Trod enc Try.prog W 0 (fun _ => true) true 24 v d p) (hv : Value.okWide Try.prog W .any b0 24 v) :
    ∃ A n c xs, v = .slice A n c ∧ RS W W.heap.size A n xs ∧ n ≤ 9223372036854775807 ∧ I64s xs ∧ n ≤ c := by
  obtain ⟨fuel, hf⟩ := h
  obtain ⟨A, n, c, rfl⟩ := okWide_slice Try.underlying24 hv
  rcases open_slice_pairs Try.underlying24 Try.underlying55 cells_pt rfl rfl cells_i64 cells_i64 hf with ⟨hc, _⟩ | ⟨a, len, cap, m, k, V0, V1, D0, D1, P0, P1, hc, _, hl, hm, hmm, hx, hall⟩
  · simp [Value.cells] at hc
    obtain ⟨rfl, rfl, rfl⟩ := hc
    exact ⟨_, _, _, [], rfl, ⟨rfl, Reads.none_⟩, by omega, fun _ h => (by cases h), by omega⟩
  · simp [Value.cells] at hc
    obtain ⟨rfl, rfl, rfl⟩ := hc
    simp only [if_true] at hmm
    subst hmm
    have h0 : ∀ i, i < n → ∃ x, V0 i = .int .i64 x ∧ I64 x := fun i hi => by
      obtain ⟨x, h1, _, h3⟩ := DataW.trod_int Try.underlying2 (hall i (by omega)).2.2.1
      simp only [List.cons.injEq, and_true] at h1
      exact ⟨x, h1, i64_of_wf h3⟩
    have h1 : ∀ i, i < n → ∃ x, V1 i = .int .i64 x ∧ I64 x := fun i hi => by
      obtain ⟨x, h1, _, h3⟩ := DataW.trod_int Try.underlying2 (hall i (by omega)).2.2.2
      simp only [List.cons.injEq, and_true] at h1
      exact ⟨x, h1, i64_of_wf h3⟩
    refine ⟨some a, n, _, (List.range n).map fun i => (intV (V0 i), intV (V1 i)), rfl, ⟨by simp, by rw [smpCells_length]; simp, fun hn => ?_⟩, by unfold maxLen at hm; omega, ?_, hl⟩
    · refine ⟨a, rfl, by have := World.block_lt_of_cell? W (a.add (0 * 2)) (hall 0 (by omega)).1; rwa [block_of_add] at this, fun j u hu => ?_⟩
      have hjl : j < n * 2 := by
        have := (List.getElem?_eq_some_iff.1 hu).1
        rw [smpCells_length] at this
        simpa using this
      have hi : j / 2 < n := by omega
      have hat := smpCells_at ((List.range n).map fun i => (intV (V0 i), intV (V1 i))) (j / 2) (by simpa using hi)
      simp only [List.getElem_map, List.getElem_range] at hat
      obtain ⟨x0, e0, _⟩ := h0 _ hi
      obtain ⟨x1, e1, _⟩ := h1 _ hi
      rcases Nat.mod_two_eq_zero_or_one j with hm2 | hm2
      · have hj2 : j / 2 * 2 = j := by omega
        rw [hj2] at hat
        have hcell := (hall (j / 2) (by omega)).1
        rw [hj2] at hcell
        rw [hat.1] at hu
        cases hu
        rw [hcell, e0]
        rfl
      · have hj2 : j / 2 * 2 + 1 = j := by omega
        rw [hj2] at hat
        have hcell := (hall (j / 2) (by omega)).2.1
        rw [hj2] at hcell
        rw [hat.2] at hu
        cases hu
        rw [hcell, e1]
        rfl
    · intro s hs
      obtain ⟨i, hi, rfl⟩ := List.mem_map.1 hs
      have hi := List.mem_range.1 hi
      obtain ⟨x0, e0, i0⟩ := h0 _ hi
      obtain ⟨x1, e1, i1⟩ := h1 _ hi
      simp only [e0, e1]
      exact ⟨i0, i1⟩
end
end Go.Proofs.Ytgdkcbnpgpjnbaa
