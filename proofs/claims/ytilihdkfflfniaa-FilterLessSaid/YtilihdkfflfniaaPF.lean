/-
  For the rows of filters: numbers, curves, and slices of them, opened.
-/
import Derived.Test.YtilihdkfflfniaaPI
import Derived.Test.YtilihdkfflfniaaU6
namespace Go.Proofs.Ytilihdkfflfniaa
open Go.ChangeShapes Go.WideShapes Go.ChangeAt Go.RowKit Go.Deep

section
variable {H : Type} {enc : TypeId × Value → H}
theorem cells_cv : Try.prog.cellsOf 24 = 3 := by kernel_rfl
abbrev cv (t : CV) : List Value := [.slice t.Af t.nf t.kf, .slice t.Ab t.nb t.kb, .int .i64 t.c.share]
theorem cvCells_all (l : List CV) (k : Nat) (h : k < l.length) (r : Nat) (hr : r < 3) : (cvCells l)[k * 3 + r]? = (cv l[k])[r]? := by
  obtain ⟨a0, a1, a2⟩ := cvCells_at l k h
  match r, hr with
  | 0, _ => exact a0
  | 1, _ => exact a1
  | 2, _ => exact a2
/-- What is known of a curve that came in. -/
structure CvIn (W : World) (t : CV) : Prop where
  ci : CI W W.heap.size t
  nf : t.nf ≤ 9223372036854775807
  nb : t.nb ≤ 9223372036854775807
  kf : t.nf ≤ t.kf
  kb : t.nb ≤ t.kb
  f64 : I64l t.c.feed
  b64 : I64l t.c.back
  s64 : I64 t.c.share
set_option maxRecDepth 100000 in
theorem open_cv_raw {W : World} {cs : List Value} {x : DataW H × List MemPlace} {fuel : Nat} (hf : DataW.trod enc Try.prog W 0 (fun _ => true) true fuel 24 cs = some x) : ∃ t : CV, cs = cv t ∧ CvIn W t := by
  obtain ⟨xs, n, -, -, hlen, hxl, hall⟩ := DataW.trod_struct Try.underlying24 hf
  rw [cells_cv] at hlen
  match cs, hlen with
  | [a0, a1, a2], _ =>
    match xs, hxl with
    | [x0, x1, x2], _ =>
      have g0 : DataW.trod enc Try.prog W 0 (fun _ => true) true n 22 (([a0, a1, a2].drop 0).take (Try.prog.cellsOf 22)) = [x0, x1, x2][0]? := hall 0 _ rfl
      have g1 : DataW.trod enc Try.prog W 0 (fun _ => true) true n 22 (([a0, a1, a2].drop 1).take (Try.prog.cellsOf 22)) = [x0, x1, x2][1]? := hall 1 _ rfl
      have g2 : DataW.trod enc Try.prog W 0 (fun _ => true) true n 2 (([a0, a1, a2].drop 2).take (Try.prog.cellsOf 2)) = [x0, x1, x2][2]? := hall 2 _ rfl
      rw [cells_i64s] at g0 g1
      rw [cells_i64] at g2
      simp at g0 g1 g2
      obtain ⟨A0, n0, c0, f0, e0, l0, m0, k0, i0⟩ := open_i64s_raw g0
      obtain ⟨A1, n1, c1, f1, e1, l1, m1, k1, i1⟩ := open_i64s_raw g1
      obtain ⟨n2, e2, -, h2⟩ := DataW.trod_int Try.underlying2 g2
      simp only [List.cons.injEq, and_true] at e0 e1 e2
      exact ⟨⟨A0, n0, c0, A1, n1, c1, ⟨f0, f1, n2⟩⟩, by rw [e0, e1, e2], ⟨⟨l0, l1⟩, m0, m1, k0, k1, i0, i1, i64_of_wf h2⟩⟩
set_option maxRecDepth 100000 in
/-- A curve, opened. -/
theorem open_cv {W : World} {v : Value} {d : DataW H} {p : List MemPlace} {b0 : Nat} (h : DataW.Trod enc Try.prog W 0 (fun _ => true) true 24 v d p) (hv : Value.okWide Try.prog W .any b0 24 v) :
    ∃ t : CV, v = .agg #[.slice t.Af t.nf t.kf, .slice t.Ab t.nb t.kb, .int .i64 t.c.share] ∧ CvIn W t := by
  obtain ⟨cs, rfl, hsz⟩ := okWide_struct Try.underlying24 hv
  obtain ⟨fuel, hf⟩ := h
  obtain ⟨t, e, ht⟩ := open_cv_raw hf
  refine ⟨t, ?_, ht⟩
  have e' : cs.toList = cv t := by simpa [Value.cells] using e
  rw [← Array.toArray_toList (xs := cs), e']
set_option maxRecDepth 100000 in
/-- A slice of curves, opened. -/
theorem open_cvs {W : World} {v : Value} {d : DataW H} {p : List MemPlace} {b0 : Nat} (h : DataW.Trod enc Try.prog W 0 (fun _ => true) true 26 v d p) (hv : Value.okWide Try.prog W .any b0 26 v) :
    ∃ A n c l, v = .slice A n c ∧ RC W W.heap.size A n l ∧ n ≤ 9223372036854775807 ∧ n ≤ c ∧ ∀ t ∈ l, CvIn W t := by
  obtain ⟨fuel, hf⟩ := h
  obtain ⟨A, n, c, rfl⟩ := okWide_slice Try.underlying26 hv
  rcases open_slice Try.underlying26 hf with ⟨hc, _⟩ | ⟨a, len, cap, m, k, D, Pl, hc, _, hl, hm, hmm, hx, hall⟩
  · simp [Value.cells] at hc
    obtain ⟨rfl, rfl, rfl⟩ := hc
    exact ⟨_, _, _, [], rfl, ⟨rfl, Reads.none_, fun _ h => (by cases h)⟩, by omega, by omega, fun _ h => (by cases h)⟩
  · simp [Value.cells] at hc
    obtain ⟨rfl, rfl, rfl⟩ := hc
    simp only [if_true] at hmm
    subst hmm
    rw [cells_cv] at hall
    have each : ∀ i, i < n → ∃ q : CV, (∀ r, r < 3 → W.cell? (a.add (i * 3 + r)) = (cv q)[r]?) ∧ CvIn W q := fun i hi => by
      obtain ⟨cs', hc, ht⟩ := hall i (by omega)
      obtain ⟨q, rfl, hq⟩ := open_cv_raw ht
      obtain ⟨_, _, hat⟩ := World.cells?_some hc
      exact ⟨q, fun r hr => by rw [← add_of_add]; exact hat r hr, hq⟩
    obtain ⟨l, hln, hP⟩ := list_of n each
    refine ⟨some a, n, _, l, rfl, ⟨hln.symm, ⟨by rw [cvCells_length, hln], fun hn => ?_⟩, fun t ht => ?_⟩, by unfold maxLen at hm; omega, hl, fun t ht => ?_⟩
    · refine ⟨a, rfl, ?_, fun j u hu => ?_⟩
      · have := World.block_lt_of_cell? W (a.add (0 * 3 + 0)) (((hP 0 (by omega)).1 0 (by omega)).trans rfl)
        rwa [block_of_add] at this
      · have hjl : j < n * 3 := by
          have := (List.getElem?_eq_some_iff.1 hu).1
          rw [cvCells_length, hln] at this
          exact this
        have hi : j / 3 < l.length := by omega
        have hat := cvCells_all l (j / 3) hi (j % 3) (by omega)
        have hc := (hP _ hi).1 (j % 3) (by omega)
        rw [show j / 3 * 3 + j % 3 = j from by omega] at hat hc
        rw [hc, ← hat, hu]
    · obtain ⟨i, hi, rfl⟩ := List.getElem_of_mem ht
      exact (hP i hi).2.ci
    · obtain ⟨i, hi, rfl⟩ := List.getElem_of_mem ht
      exact (hP i hi).2
end
end Go.Proofs.Ytilihdkfflfniaa
