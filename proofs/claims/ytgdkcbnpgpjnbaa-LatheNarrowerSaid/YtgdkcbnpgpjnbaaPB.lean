/-
  For the rows of layer 5: blanks as arguments, opened.
-/
import Derived.Test.YtgdkcbnpgpjnbaaPI
import Derived.Test.YtgdkcbnpgpjnbaaLA
namespace Go.Proofs.Ytgdkcbnpgpjnbaa
open Go.ChangeShapes Go.WideShapes Go.ChangeAt Go.RowKit Go.Deep

section
variable {H : Type} {enc : TypeId × Value → H}
set_option maxRecDepth 100000 in
/-- A blank, opened. -/
theorem open_bk {W : World} {v : Value} {d : DataW H} {p : List MemPlace} {b0 : Nat} (h : DataW.Trod enc Try.prog W 0 (fun _ => true) true 23 v d p) (hv : Value.okWide Try.prog W .any b0 23 v) : ∃ m : Bk, v = .agg #[.int .i64 m.per, .int .i64 m.rim, .int .i64 m.core, .int .i64 m.land, .int .i64 m.slow, .int .i64 m.fast] ∧ I64 m.per ∧ I64 m.rim ∧ I64 m.core ∧ I64 m.land ∧ I64 m.slow ∧ I64 m.fast := by
  obtain ⟨cs, rfl, hsz⟩ := okWide_struct Try.underlying23 hv
  obtain ⟨l⟩ := cs
  rw [show Try.prog.cellsOf 23 = 6 from by kernel_rfl] at hsz
  match l, hsz with
  | [a0, a1, a2, a3, a4, a5], _ =>
    obtain ⟨fuel, hf⟩ := h
    obtain ⟨xs, n, -, -, -, hxl, hall⟩ := DataW.trod_struct Try.underlying23 hf
    match xs, hxl with
    | [x0, x1, x2, x3, x4, x5], _ =>
      have g0 : DataW.trod enc Try.prog W 0 (fun _ => true) true n 2 (([a0, a1, a2, a3, a4, a5].drop 0).take (Try.prog.cellsOf 2)) = [x0, x1, x2, x3, x4, x5][0]? := hall 0 _ rfl
      have g1 : DataW.trod enc Try.prog W 0 (fun _ => true) true n 2 (([a0, a1, a2, a3, a4, a5].drop 1).take (Try.prog.cellsOf 2)) = [x0, x1, x2, x3, x4, x5][1]? := hall 1 _ rfl
      have g2 : DataW.trod enc Try.prog W 0 (fun _ => true) true n 2 (([a0, a1, a2, a3, a4, a5].drop 2).take (Try.prog.cellsOf 2)) = [x0, x1, x2, x3, x4, x5][2]? := hall 2 _ rfl
      have g3 : DataW.trod enc Try.prog W 0 (fun _ => true) true n 2 (([a0, a1, a2, a3, a4, a5].drop 3).take (Try.prog.cellsOf 2)) = [x0, x1, x2, x3, x4, x5][3]? := hall 3 _ rfl
      have g4 : DataW.trod enc Try.prog W 0 (fun _ => true) true n 2 (([a0, a1, a2, a3, a4, a5].drop 4).take (Try.prog.cellsOf 2)) = [x0, x1, x2, x3, x4, x5][4]? := hall 4 _ rfl
      have g5 : DataW.trod enc Try.prog W 0 (fun _ => true) true n 2 (([a0, a1, a2, a3, a4, a5].drop 5).take (Try.prog.cellsOf 2)) = [x0, x1, x2, x3, x4, x5][5]? := hall 5 _ rfl
      rw [cells_i64] at g0 g1 g2 g3 g4 g5
      simp at g0 g1 g2 g3 g4 g5
      obtain ⟨n0, e0, f0⟩ := DataW.trod_int Try.underlying2 g0
      obtain ⟨n1, e1, f1⟩ := DataW.trod_int Try.underlying2 g1
      obtain ⟨n2, e2, f2⟩ := DataW.trod_int Try.underlying2 g2
      obtain ⟨n3, e3, f3⟩ := DataW.trod_int Try.underlying2 g3
      obtain ⟨n4, e4, f4⟩ := DataW.trod_int Try.underlying2 g4
      obtain ⟨n5, e5, f5⟩ := DataW.trod_int Try.underlying2 g5
      simp only [List.cons.injEq, and_true] at e0 e1 e2 e3 e4 e5
      exact ⟨⟨n0, n1, n2, n3, n4, n5⟩, by rw [e0, e1, e2, e3, e4, e5], i64_of_wf f0.2, i64_of_wf f1.2, i64_of_wf f2.2, i64_of_wf f3.2, i64_of_wf f4.2, i64_of_wf f5.2⟩
theorem cells_pt : Try.prog.cellsOf 55 = 2 := by kernel_rfl
set_option maxRecDepth 100000 in
/-- A slice of points, opened. -/
theorem open_pts {W : World} {v : Value} {d : DataW H} {p : List MemPlace} {b0 : Nat} (h : DataW.Trod enc Try.prog W 0 (fun _ => true) true 24 v d p) (hv : Value.okWide Try.prog W .any b0 24 v) :
    ∃ A n c xs, v = .slice A n c ∧ RS W W.heap.size A n xs ∧ n ≤ 9223372036854775807 ∧ I64s xs ∧ n ≤ c := by
  obtain ⟨fuel, hf⟩ := h
  obtain ⟨A, n, c, rfl⟩ := okWide_slice Try.underlying24 hv
  rcases open_slice_pairs Try.underlying24 Try.underlying55 cells_pt rfl rfl cells_i64 cells_i64 hf with ⟨hc, _⟩ | ⟨a, len, cap, m, k, V0, V1, D0, D1, P0, P1, hc, _, hl, hm, hmm, hx, hall⟩
  · simp [Value.cells] at hc
    obtain ⟨rfl, rfl, rfl⟩ := hc
    exact ⟨_, _, _, [], rfl, ⟨rfl, Reads.none_⟩, by omega, fun _ h => (by cases h), by omega⟩
  · simp [Value.cells] at hc
    obtain ⟨rfl, rfl, rfl⟩ := hc
    simp only [if_true] at hmm
    subst hmm
    have h0 : ∀ i, i < n → ∃ x, V0 i = .int .i64 x ∧ I64 x := fun i hi => by
      obtain ⟨x, h1, _, h3⟩ := DataW.trod_int Try.underlying2 (hall i (by omega)).2.2.1
      simp only [List.cons.injEq, and_true] at h1
      exact ⟨x, h1, i64_of_wf h3⟩
    have h1 : ∀ i, i < n → ∃ x, V1 i = .int .i64 x ∧ I64 x := fun i hi => by
      obtain ⟨x, h1, _, h3⟩ := DataW.trod_int Try.underlying2 (hall i (by omega)).2.2.2
      simp only [List.cons.injEq, and_true] at h1
      exact ⟨x, h1, i64_of_wf h3⟩
    refine ⟨some a, n, _, (List.range n).map fun i => (intV (V0 i), intV (V1 i)), rfl, ⟨by simp, by rw [smpCells_length]; simp, fun hn => ?_⟩, by unfold maxLen at hm; omega, ?_, hl⟩
    · refine ⟨a, rfl, by have := World.block_lt_of_cell? W (a.add (0 * 2)) (hall 0 (by omega)).1; rwa [block_of_add] at this, fun j u hu => ?_⟩
      have hjl : j < n * 2 := by
        have := (List.getElem?_eq_some_iff.1 hu).1
        rw [smpCells_length] at this
        simpa using this
      have hi : j / 2 < n := by omega
      have hat := smpCells_at ((List.range n).map fun i => (intV (V0 i), intV (V1 i))) (j / 2) (by simpa using hi)
      simp only [List.getElem_map, List.getElem_range] at hat
      obtain ⟨x0, e0, _⟩ := h0 _ hi
      obtain ⟨x1, e1, _⟩ := h1 _ hi
      rcases Nat.mod_two_eq_zero_or_one j with hm2 | hm2
      · have hj2 : j / 2 * 2 = j := by omega
        rw [hj2] at hat
        have hcell := (hall (j / 2) (by omega)).1
        rw [hj2] at hcell
        rw [hat.1] at hu
        cases hu
        rw [hcell, e0]
        rfl
      · have hj2 : j / 2 * 2 + 1 = j := by omega
        rw [hj2] at hat
        have hcell := (hall (j / 2) (by omega)).2.1
        rw [hj2] at hcell
        rw [hat.2] at hu
        cases hu
        rw [hcell, e1]
        rfl
    · intro s hs
      obtain ⟨i, hi, rfl⟩ := List.mem_map.1 hs
      have hi := List.mem_range.1 hi
      obtain ⟨x0, e0, i0⟩ := h0 _ hi
      obtain ⟨x1, e1, i1⟩ := h1 _ hi
      simp only [e0, e1]
      exact ⟨i0, i1⟩
theorem cells_int : Try.prog.cellsOf 3 = 1 := by kernel_rfl
theorem cells_step : Try.prog.cellsOf 52 = 2 := by kernel_rfl
set_option maxRecDepth 100000 in
/-- A slice of steps, opened. -/
theorem open_steps {W : World} {v : Value} {d : DataW H} {p : List MemPlace} {b0 : Nat} (h : DataW.Trod enc Try.prog W 0 (fun _ => true) true 36 v d p) (hv : Value.okWide Try.prog W .any b0 36 v) :
    ∃ A n c xs, v = .slice A n c ∧ RS W W.heap.size A n xs ∧ n ≤ 9223372036854775807 ∧ I64s xs ∧ n ≤ c := by
  obtain ⟨fuel, hf⟩ := h
  obtain ⟨A, n, c, rfl⟩ := okWide_slice Try.underlying36 hv
  rcases open_slice_pairs Try.underlying36 Try.underlying52 cells_step rfl rfl cells_int cells_int hf with ⟨hc, _⟩ | ⟨a, len, cap, m, k, V0, V1, D0, D1, P0, P1, hc, _, hl, hm, hmm, hx, hall⟩
  · simp [Value.cells] at hc
    obtain ⟨rfl, rfl, rfl⟩ := hc
    exact ⟨_, _, _, [], rfl, ⟨rfl, Reads.none_⟩, by omega, fun _ h => (by cases h), by omega⟩
  · simp [Value.cells] at hc
    obtain ⟨rfl, rfl, rfl⟩ := hc
    simp only [if_true] at hmm
    subst hmm
    have h0 : ∀ i, i < n → ∃ x, V0 i = .int .i64 x ∧ I64 x := fun i hi => by
      obtain ⟨x, h1, _, h3⟩ := DataW.trod_int Try.underlying3 (hall i (by omega)).2.2.1
      simp only [List.cons.injEq, and_true] at h1
      exact ⟨x, h1, i64_of_wf h3⟩
    have h1 : ∀ i, i < n → ∃ x, V1 i = .int .i64 x ∧ I64 x := fun i hi => by
      obtain ⟨x, h1, _, h3⟩ := DataW.trod_int Try.underlying3 (hall i (by omega)).2.2.2
      simp only [List.cons.injEq, and_true] at h1
      exact ⟨x, h1, i64_of_wf h3⟩
    refine ⟨some a, n, _, (List.range n).map fun i => (intV (V0 i), intV (V1 i)), rfl, ⟨by simp, by rw [smpCells_length]; simp, fun hn => ?_⟩, by unfold maxLen at hm; omega, ?_, hl⟩
    · refine ⟨a, rfl, by have := World.block_lt_of_cell? W (a.add (0 * 2)) (hall 0 (by omega)).1; rwa [block_of_add] at this, fun j u hu => ?_⟩
      have hjl : j < n * 2 := by
        have := (List.getElem?_eq_some_iff.1 hu).1
        rw [smpCells_length] at this
        simpa using this
      have hi : j / 2 < n := by omega
      have hat := smpCells_at ((List.range n).map fun i => (intV (V0 i), intV (V1 i))) (j / 2) (by simpa using hi)
      simp only [List.getElem_map, List.getElem_range] at hat
      obtain ⟨x0, e0, _⟩ := h0 _ hi
      obtain ⟨x1, e1, _⟩ := h1 _ hi
      rcases Nat.mod_two_eq_zero_or_one j with hm2 | hm2
      · have hj2 : j / 2 * 2 = j := by omega
        rw [hj2] at hat
        have hcell := (hall (j / 2) (by omega)).1
        rw [hj2] at hcell
        rw [hat.1] at hu
        cases hu
        rw [hcell, e0]
        rfl
      · have hj2 : j / 2 * 2 + 1 = j := by omega
        rw [hj2] at hat
        have hcell := (hall (j / 2) (by omega)).2.1
        rw [hj2] at hcell
        rw [hat.2] at hu
        cases hu
        rw [hcell, e1]
        rfl
    · intro s hs
      obtain ⟨i, hi, rfl⟩ := List.mem_map.1 hs
      have hi := List.mem_range.1 hi
      obtain ⟨x0, e0, i0⟩ := h0 _ hi
      obtain ⟨x1, e1, i1⟩ := h1 _ hi
      simp only [e0, e1]
      exact ⟨i0, i1⟩
end
end Go.Proofs.Ytgdkcbnpgpjnbaa
