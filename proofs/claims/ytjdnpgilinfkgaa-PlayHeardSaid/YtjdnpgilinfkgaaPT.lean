/-
  For the rows of layer 6: tips and slices of bytes, opened.
-/
import Derived.Test.YtjdnpgilinfkgaaPI
import Derived.Test.YtjdnpgilinfkgaaMG
namespace Go.Proofs.Ytjdnpgilinfkgaa
open Go.ChangeShapes Go.WideShapes Go.ChangeAt Go.RowKit Go.Deep

section
variable {H : Type} {enc : TypeId × Value → H}
theorem cells_u8 : Try.prog.cellsOf 5 = 1 := by kernel_rfl
theorem cells_tip : Try.prog.cellsOf 24 = 1 := by kernel_rfl
set_option maxRecDepth 100000 in
/-- A slice of bytes whose cell is read. -/
theorem open_u8s_raw {W : World} {cs : List Value} {x : DataW H × List MemPlace} {fuel : Nat} (hf : DataW.trod enc Try.prog W 0 (fun _ => true) true fuel 60 cs = some x) :
    ∃ A n c xs, cs = [.slice A n c] ∧ LU W W.heap.size A n xs ∧ n ≤ 9223372036854775807 ∧ n ≤ c := by
  rcases open_slice Try.underlying60 hf with ⟨hc, _⟩ | ⟨a, n, c, m, k, D, Pl, hc, _, hl, hm, hmm, hx, hall⟩
  · exact ⟨_, _, _, [], hc, ⟨⟨rfl, fun _ h => by cases h⟩, Reads.none_⟩, by omega, by omega⟩
  · subst hc
    simp only [if_true] at hmm
    subst hmm
    rw [cells_u8] at hall
    have each : ∀ i, i < n → ∃ q : Int, W.cell? (a.add i) = some (.int .u8 q) ∧ 0 ≤ q ∧ q ≤ 255 := fun i hi => by
      obtain ⟨cs', hc, ht⟩ := hall i (by omega)
      obtain ⟨q, e0, _, h3⟩ := DataW.trod_int Try.underlying5 ht
      subst e0
      obtain ⟨_, _, hat⟩ := World.cells?_some hc
      have := hat 0 (by simp)
      simp only [Nat.mul_one] at this
      rw [show (a.add i).add 0 = a.add i by simp [Addr.add]] at this
      exact ⟨q, this, bounds_u8 h3⟩
    obtain ⟨l, hln, hP⟩ := list_of n each
    refine ⟨some a, n, _, l, rfl, ⟨⟨hln.symm, fun y hy => ?_⟩, ⟨by simp [hln], fun hn => ?_⟩⟩, by unfold maxLen at hm; omega, hl⟩
    · obtain ⟨i, hi, rfl⟩ := List.getElem_of_mem hy
      exact (hP i hi).2
    · refine ⟨a, rfl, ?_, fun j u hu => ?_⟩
      · have := World.block_lt_of_cell? W (a.add 0) (hP 0 (by omega)).1
        rwa [block_of_add] at this
      · have hjl : j < l.length := by have := (List.getElem?_eq_some_iff.1 hu).1; simpa using this
        rw [List.getElem?_map, List.getElem?_eq_getElem hjl, Option.map_some] at hu
        injection hu with hu
        rw [← hu]; exact (hP j hjl).1
set_option maxRecDepth 100000 in
/-- A slice of bytes, opened. -/
theorem open_u8s {W : World} {v : Value} {d : DataW H} {p : List MemPlace} {b0 : Nat} (h : DataW.Trod enc Try.prog W 0 (fun _ => true) true 60 v d p) (hv : Value.okWide Try.prog W .any b0 60 v) :
    ∃ A n c xs, v = .slice A n c ∧ LU W W.heap.size A n xs ∧ n ≤ 9223372036854775807 ∧ n ≤ c := by
  obtain ⟨fuel, hf⟩ := h
  obtain ⟨A, n, c, rfl⟩ := okWide_slice Try.underlying60 hv
  obtain ⟨A', n', c', xs, e, h1⟩ := open_u8s_raw hf
  simp [Value.cells] at e
  obtain ⟨rfl, rfl, rfl⟩ := e
  exact ⟨_, _, _, xs, rfl, h1⟩
set_option maxRecDepth 100000 in
/-- A tip, opened. -/
theorem open_tip {W : World} {v : Value} {d : DataW H} {p : List MemPlace} {b0 : Nat} (h : DataW.Trod enc Try.prog W 0 (fun _ => true) true 24 v d p) (hv : Value.okWide Try.prog W .any b0 24 v) :
    ∃ A n c xs, v = .agg #[.slice A n c] ∧ LI W W.heap.size A n xs ∧ n ≤ 9223372036854775807 ∧ n ≤ c ∧ I64l xs := by
  obtain ⟨cs, rfl, hsz⟩ := okWide_struct Try.underlying24 hv
  obtain ⟨fuel, hf⟩ := h
  have hf' : DataW.trod enc Try.prog W 0 (fun _ => true) true fuel 24 cs.toList = some (d, p) := by simpa [Value.cells] using hf
  obtain ⟨xs, n, -, -, hlen, hxl, hall⟩ := DataW.trod_struct Try.underlying24 hf'
  rw [cells_tip] at hlen
  obtain ⟨a0, ha⟩ : ∃ a0, cs.toList = [a0] := List.length_eq_one_iff.1 hlen
  obtain ⟨x0, hx⟩ : ∃ x0, xs = [x0] := List.length_eq_one_iff.1 hxl
  rw [ha, hx] at hall
  have g0 : DataW.trod enc Try.prog W 0 (fun _ => true) true n 22 (([a0].drop 0).take (Try.prog.cellsOf 22)) = [x0][0]? := hall 0 _ rfl
  rw [cells_i64s] at g0
  simp at g0
  obtain ⟨A0, n0, c0, f0, e0, l0, m0, k0, i0⟩ := open_i64s_raw g0
  simp only [List.cons.injEq, and_true] at e0
  refine ⟨A0, n0, c0, f0, ?_, l0, m0, k0, i0⟩
  rw [← Array.toArray_toList (xs := cs), ha, e0]
end
end Go.Proofs.Ytjdnpgilinfkgaa
