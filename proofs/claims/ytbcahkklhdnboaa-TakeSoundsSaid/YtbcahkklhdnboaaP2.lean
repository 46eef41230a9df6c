/-
  For the rows: slices of takes and of parts, opened.
-/
import Derived.Test.YtbcahkklhdnboaaP1
import Derived.Test.YtbcahkklhdnboaaD4
import Derived.Deep.Slices
import Derived.Deep.Fields
namespace Go.Proofs.Ytbcahkklhdnboaa
open Go.ChangeShapes Go.WideShapes Go.ChangeAt Go.RowKit Go.Deep

theorem list_of {α : Type} {P : Nat → α → Prop} : ∀ (n : Nat), (∀ i, i < n → ∃ a, P i a) → ∃ l : List α, l.length = n ∧ ∀ i (h : i < l.length), P i l[i]
  | 0, _ => ⟨[], rfl, fun i h => absurd h (by simp)⟩
  | n + 1, h => by
    obtain ⟨l, hl, hp⟩ := list_of n (fun i hi => h i (by omega))
    obtain ⟨a, ha⟩ := h n (by omega)
    refine ⟨l ++ [a], by simp [hl], fun i hi => ?_⟩
    rcases Nat.lt_or_ge i l.length with h1 | h1
    · rw [List.getElem_append_left h1]; exact hp i h1
    · have : i = n := by simp at hi; omega
      subst this
      rw [List.getElem_append_right h1]
      simpa [hl] using ha

section
variable {H : Type} {enc : TypeId × Value → H}

set_option maxRecDepth 100000 in
/-- A slice of samples whose cell is read. -/
theorem open_smps_raw {W : World} {cs : List Value} {x : DataW H × List MemPlace} {fuel : Nat} (hf : DataW.trod enc Try.prog W 0 (fun _ => true) true fuel 42 cs = some x) :
    ∃ A n c xs, cs = [.slice A n c] ∧ RS W W.heap.size A n xs ∧ n ≤ 9223372036854775807 ∧ I64s xs := by
  rcases open_slice_pairs Try.underlying42 Try.underlying39 cells_smp rfl rfl cells_i64 cells_i64 hf with ⟨hc, _⟩ | ⟨a, n, c, m, k, V0, V1, D0, D1, P0, P1, hc, _, hl, hm, hmm, hx, hall⟩
  · exact ⟨_, _, _, [], hc, ⟨rfl, Reads.none_⟩, by omega, fun _ h => (by cases h)⟩
  · subst hc
    simp only [if_true] at hmm
    subst hmm
    have h0 : ∀ i, i < n → ∃ x, V0 i = .int .i64 x ∧ I64 x := fun i hi => by
      obtain ⟨x, h1, _, h3⟩ := DataW.trod_int Try.underlying2 (hall i (by omega)).2.2.1
      simp only [List.cons.injEq, and_true] at h1
      exact ⟨x, h1, i64_of_wf h3⟩
    have h1 : ∀ i, i < n → ∃ x, V1 i = .int .i64 x ∧ I64 x := fun i hi => by
      obtain ⟨x, h1, _, h3⟩ := DataW.trod_int Try.underlying2 (hall i (by omega)).2.2.2
      simp only [List.cons.injEq, and_true] at h1
      exact ⟨x, h1, i64_of_wf h3⟩
    refine ⟨some a, n, _, (List.range n).map fun i => (intV (V0 i), intV (V1 i)), rfl, ⟨by simp, by rw [smpCells_length]; simp, fun hn => ?_⟩, by unfold maxLen at hm; omega, ?_⟩
    · refine ⟨a, rfl, by have := World.block_lt_of_cell? W (a.add (0 * 2)) (hall 0 (by omega)).1; rwa [block_of_add] at this, fun j u hu => ?_⟩
      have hjl : j < n * 2 := by
        have := (List.getElem?_eq_some_iff.1 hu).1
        rw [smpCells_length] at this
        simpa using this
      have hi : j / 2 < n := by omega
      have hat := smpCells_at ((List.range n).map fun i => (intV (V0 i), intV (V1 i))) (j / 2) (by simpa using hi)
      simp only [List.getElem_map, List.getElem_range] at hat
      obtain ⟨x0, e0, _⟩ := h0 _ hi
      obtain ⟨x1, e1, _⟩ := h1 _ hi
      rcases Nat.mod_two_eq_zero_or_one j with hm2 | hm2
      · have hj2 : j / 2 * 2 = j := by omega
        rw [hj2] at hat
        have hcell := (hall (j / 2) (by omega)).1
        rw [hj2] at hcell
        rw [hat.1] at hu
        cases hu
        rw [hcell, e0]
        rfl
      · have hj2 : j / 2 * 2 + 1 = j := by omega
        rw [hj2] at hat
        have hcell := (hall (j / 2) (by omega)).2.1
        rw [hj2] at hcell
        rw [hat.2] at hu
        cases hu
        rw [hcell, e1]
        rfl
    · intro s hs
      obtain ⟨i, hi, rfl⟩ := List.mem_map.1 hs
      have hi := List.mem_range.1 hi
      obtain ⟨x0, e0, i0⟩ := h0 _ hi
      obtain ⟨x1, e1, i1⟩ := h1 _ hi
      simp only [e0, e1]
      exact ⟨i0, i1⟩

theorem cells_take : Try.prog.cellsOf 57 = 2 := by kernel_rfl
theorem cells_str : Try.prog.cellsOf 9 = 1 := by kernel_rfl
theorem cells_smps : Try.prog.cellsOf 42 = 1 := by kernel_rfl

set_option maxRecDepth 100000 in
/-- A slice of takes, opened. -/
theorem open_takes {W : World} {v : Value} {d : DataW H} {p : List MemPlace} {b0 : Nat} (h : DataW.Trod enc Try.prog W 0 (fun _ => true) true 22 v d p) (hv : Value.okWide Try.prog W .any b0 22 v) :
    ∃ A n c l, v = .slice A n c ∧ RT W W.heap.size A n l ∧ n ≤ 9223372036854775807 ∧ TSm l ∧ I64t l := by
  obtain ⟨fuel, hf⟩ := h
  obtain ⟨A, n, c, rfl⟩ := okWide_slice Try.underlying22 hv
  rcases open_slice_pairs Try.underlying22 Try.underlying57 cells_take rfl rfl cells_str cells_smps hf with ⟨hc, _⟩ | ⟨a, len, cap, m, k, V0, V1, D0, D1, P0, P1, hc, _, hl, hm, hmm, hx, hall⟩
  · simp [Value.cells] at hc
    obtain ⟨rfl, rfl, rfl⟩ := hc
    exact ⟨_, _, _, [], rfl, ⟨rfl, Reads.none_, fun _ h => (by cases h)⟩, by omega, fun _ h => (by cases h), fun _ h => (by cases h)⟩
  · simp [Value.cells] at hc
    obtain ⟨rfl, rfl, rfl⟩ := hc
    simp only [if_true] at hmm
    subst hmm
    have each : ∀ i, i < n → ∃ t : TV, V0 i = .string t.nm ∧ V1 i = .slice t.A t.n t.c ∧ RS W W.heap.size t.A t.n t.xs ∧ (t.n ≤ 9223372036854775807 ∧ t.nm.size ≤ 9223372036854775807) ∧ I64s t.xs := fun i hi => by
      obtain ⟨s, e0, _, hs⟩ := DataW.trod_string Try.underlying9 (hall i (by omega)).2.2.1
      obtain ⟨A', n', c', xs, e1, hr, hn, hi⟩ := open_smps_raw (hall i (by omega)).2.2.2
      simp only [List.cons.injEq, and_true] at e0 e1
      exact ⟨⟨s, A', n', c', xs⟩, e0, e1, hr, ⟨hn, by unfold maxLen at hs; omega⟩, hi⟩
    obtain ⟨l, hln, hP⟩ := list_of n each
    refine ⟨some a, n, _, l, rfl, ⟨hln.symm, ⟨by rw [tvCells_length, hln], fun hn => ?_⟩, fun t ht => ?_⟩, by unfold maxLen at hm; omega, fun t ht => ?_, fun t ht => ?_⟩
    · refine ⟨a, rfl, by have := World.block_lt_of_cell? W (a.add (0 * 2)) (hall 0 (by omega)).1; rwa [block_of_add] at this, fun j u hu => ?_⟩
      have hjl : j < n * 2 := by
        have := (List.getElem?_eq_some_iff.1 hu).1
        rw [tvCells_length, hln] at this
        exact this
      have hi : j / 2 < l.length := by omega
      have hat := tvCells_at l (j / 2) hi
      obtain ⟨e0, e1, _⟩ := hP _ hi
      rcases Nat.mod_two_eq_zero_or_one j with hm2 | hm2
      · have hj2 : j / 2 * 2 = j := by omega
        rw [hj2] at hat
        have hcell := (hall (j / 2) (by omega)).1
        rw [hj2] at hcell
        rw [hat.1] at hu
        cases hu
        rw [hcell, e0]
      · have hj2 : j / 2 * 2 + 1 = j := by omega
        rw [hj2] at hat
        have hcell := (hall (j / 2) (by omega)).2.1
        rw [hj2] at hcell
        rw [hat.2] at hu
        cases hu
        rw [hcell, e1]
    · obtain ⟨i, hi, rfl⟩ := List.getElem_of_mem ht
      exact (hP i hi).2.2.1
    · obtain ⟨i, hi, rfl⟩ := List.getElem_of_mem ht
      exact (hP i hi).2.2.2.1
    · obtain ⟨i, hi, rfl⟩ := List.getElem_of_mem ht
      exact (hP i hi).2.2.2.2

theorem cells_part : Try.prog.cellsOf 53 = 7 := by kernel_rfl
theorem cells_int : Try.prog.cellsOf 3 = 1 := by kernel_rfl

set_option maxRecDepth 100000 in
/-- The cells of a part that is read. -/
theorem open_prt_raw {W : World} {cs : List Value} {x : DataW H × List MemPlace} {fuel : Nat} (hf : DataW.trod enc Try.prog W 0 (fun _ => true) true fuel 53 cs = some x) : ∃ q : Prt, cs = prt q := by
  obtain ⟨xs, n, -, -, hlen, hxl, hall⟩ := DataW.trod_struct Try.underlying53 hf
  rw [cells_part] at hlen
  match cs, hlen with
  | [a0, a1, a2, a3, a4, a5, a6], _ =>
    match xs, hxl with
    | [x0, x1, x2, x3, x4, x5, x6], _ =>
      have g0 : DataW.trod enc Try.prog W 0 (fun _ => true) true n 3 (([a0, a1, a2, a3, a4, a5, a6].drop 0).take (Try.prog.cellsOf 3)) = [x0, x1, x2, x3, x4, x5, x6][0]? := hall 0 _ rfl
      have g1 : DataW.trod enc Try.prog W 0 (fun _ => true) true n 3 (([a0, a1, a2, a3, a4, a5, a6].drop 1).take (Try.prog.cellsOf 3)) = [x0, x1, x2, x3, x4, x5, x6][1]? := hall 1 _ rfl
      have g2 : DataW.trod enc Try.prog W 0 (fun _ => true) true n 3 (([a0, a1, a2, a3, a4, a5, a6].drop 2).take (Try.prog.cellsOf 3)) = [x0, x1, x2, x3, x4, x5, x6][2]? := hall 2 _ rfl
      have g3 : DataW.trod enc Try.prog W 0 (fun _ => true) true n 3 (([a0, a1, a2, a3, a4, a5, a6].drop 3).take (Try.prog.cellsOf 3)) = [x0, x1, x2, x3, x4, x5, x6][3]? := hall 3 _ rfl
      have g4 : DataW.trod enc Try.prog W 0 (fun _ => true) true n 3 (([a0, a1, a2, a3, a4, a5, a6].drop 4).take (Try.prog.cellsOf 3)) = [x0, x1, x2, x3, x4, x5, x6][4]? := hall 4 _ rfl
      have g5 : DataW.trod enc Try.prog W 0 (fun _ => true) true n 3 (([a0, a1, a2, a3, a4, a5, a6].drop 5).take (Try.prog.cellsOf 3)) = [x0, x1, x2, x3, x4, x5, x6][5]? := hall 5 _ rfl
      have g6 : DataW.trod enc Try.prog W 0 (fun _ => true) true n 2 (([a0, a1, a2, a3, a4, a5, a6].drop 6).take (Try.prog.cellsOf 2)) = [x0, x1, x2, x3, x4, x5, x6][6]? := hall 6 _ rfl
      rw [cells_int] at g0 g1 g2 g3 g4 g5
      rw [cells_i64] at g6
      simp at g0 g1 g2 g3 g4 g5 g6
      obtain ⟨n0, e0, -⟩ := DataW.trod_int Try.underlying3 g0
      obtain ⟨n1, e1, -⟩ := DataW.trod_int Try.underlying3 g1
      obtain ⟨n2, e2, -⟩ := DataW.trod_int Try.underlying3 g2
      obtain ⟨n3, e3, -⟩ := DataW.trod_int Try.underlying3 g3
      obtain ⟨n4, e4, -⟩ := DataW.trod_int Try.underlying3 g4
      obtain ⟨n5, e5, -⟩ := DataW.trod_int Try.underlying3 g5
      obtain ⟨n6, e6, -⟩ := DataW.trod_int Try.underlying2 g6
      simp only [List.cons.injEq, and_true] at e0 e1 e2 e3 e4 e5 e6
      exact ⟨⟨n0, n1, n2, n3, n4, n5, n6⟩, by rw [e0, e1, e2, e3, e4, e5, e6]; rfl⟩

set_option maxRecDepth 100000 in
/-- A slice of parts, opened. -/
theorem open_prts {W : World} {v : Value} {d : DataW H} {p : List MemPlace} {b0 : Nat} (h : DataW.Trod enc Try.prog W 0 (fun _ => true) true 23 v d p) (hv : Value.okWide Try.prog W .any b0 23 v) :
    ∃ A n c l, v = .slice A n c ∧ RP W W.heap.size A n l ∧ n ≤ 9223372036854775807 ∧ n ≤ c := by
  obtain ⟨fuel, hf⟩ := h
  obtain ⟨A, n, c, rfl⟩ := okWide_slice Try.underlying23 hv
  rcases open_slice Try.underlying23 hf with ⟨hc, _⟩ | ⟨a, len, cap, m, k, D, Pl, hc, _, hl, hm, hmm, hx, hall⟩
  · simp [Value.cells] at hc
    obtain ⟨rfl, rfl, rfl⟩ := hc
    exact ⟨_, _, _, [], rfl, ⟨rfl, Reads.none_⟩, by omega, by omega⟩
  · simp [Value.cells] at hc
    obtain ⟨rfl, rfl, rfl⟩ := hc
    simp only [if_true] at hmm
    subst hmm
    rw [cells_part] at hall
    have each : ∀ i, i < n → ∃ q : Prt, ∀ r, r < 7 → W.cell? (a.add (i * 7 + r)) = (prt q)[r]? := fun i hi => by
      obtain ⟨cs', hc, ht⟩ := hall i (by omega)
      obtain ⟨q, rfl⟩ := open_prt_raw ht
      obtain ⟨_, _, hat⟩ := World.cells?_some hc
      exact ⟨q, fun r hr => by rw [← add_of_add]; exact hat r hr⟩
    obtain ⟨l, hln, hP⟩ := list_of n each
    refine ⟨some a, n, _, l, rfl, ⟨hln.symm, ⟨by rw [prtCells_length, hln], fun hn => ?_⟩⟩, by unfold maxLen at hm; omega, hl⟩
    refine ⟨a, rfl, ?_, fun j u hu => ?_⟩
    · have := World.block_lt_of_cell? W (a.add (0 * 7 + 0)) ((hP 0 (by omega) 0 (by omega)).trans rfl)
      rwa [block_of_add] at this
    · have hjl : j < n * 7 := by
        have := (List.getElem?_eq_some_iff.1 hu).1
        rw [prtCells_length, hln] at this
        exact this
      have hi : j / 7 < l.length := by omega
      have hat := prtCells_at l (j / 7) hi (j % 7) (by omega)
      have hc := hP _ hi (j % 7) (by omega)
      rw [show j / 7 * 7 + j % 7 = j from by omega] at hat hc
      rw [hc, ← hat, hu]
end
end Go.Proofs.Ytbcahkklhdnboaa
