/-
  For the rows of grooves: a sample and a point as arguments, opened.
-/
import Derived.Test.YtaiigdbbpdkamaaP3
namespace Go.Proofs.Ytaiigdbbpdkamaa
open Go.ChangeShapes Go.WideShapes Go.ChangeAt Go.RowKit Go.Deep

section
variable {H : Type} {enc : TypeId × Value → H} {P : Program} {w : World} {base : Nat} {spare : Nat → Bool} {held : Bool}
set_option maxRecDepth 100000 in
/-- Two numbers, opened. -/
theorem open_smp {W : World} {v : Value} {d : DataW H} {p : List MemPlace} {b0 : Nat} (h : DataW.Trod enc Try.prog W 0 (fun _ => true) true 25 v d p) (hv : Value.okWide Try.prog W .any b0 25 v) : ∃ s : Smp, v = .agg #[.int .i64 s.1, .int .i64 s.2] ∧ I64 s.1 ∧ I64 s.2 := by
  obtain ⟨cs, rfl, hsz⟩ := okWide_struct Try.underlying25 hv
  obtain ⟨l⟩ := cs
  rw [show Try.prog.cellsOf 25 = 2 from by kernel_rfl] at hsz
  match l, hsz with
  | [a0, a1], _ =>
    obtain ⟨fuel, hf⟩ := h
    obtain ⟨xs, n, -, -, -, hxl, hall⟩ := DataW.trod_struct Try.underlying25 hf
    match xs, hxl with
    | [x0, x1], _ =>
      have g0 : DataW.trod enc Try.prog W 0 (fun _ => true) true n 2 (([a0, a1].drop 0).take (Try.prog.cellsOf 2)) = [x0, x1][0]? := hall 0 _ rfl
      have g1 : DataW.trod enc Try.prog W 0 (fun _ => true) true n 2 (([a0, a1].drop 1).take (Try.prog.cellsOf 2)) = [x0, x1][1]? := hall 1 _ rfl
      rw [cells_i64] at g0 g1
      simp at g0 g1
      obtain ⟨n0, e0, f0⟩ := DataW.trod_int Try.underlying2 g0
      obtain ⟨n1, e1, f1⟩ := DataW.trod_int Try.underlying2 g1
      simp only [List.cons.injEq, and_true] at e0 e1
      exact ⟨(n0, n1), by rw [e0, e1], i64_of_wf f0.2, i64_of_wf f1.2⟩
set_option maxRecDepth 100000 in
/-- Two numbers, opened. -/
theorem open_pt {W : World} {v : Value} {d : DataW H} {p : List MemPlace} {b0 : Nat} (h : DataW.Trod enc Try.prog W 0 (fun _ => true) true 27 v d p) (hv : Value.okWide Try.prog W .any b0 27 v) : ∃ s : Smp, v = .agg #[.int .i64 s.1, .int .i64 s.2] ∧ I64 s.1 ∧ I64 s.2 := by
  obtain ⟨cs, rfl, hsz⟩ := okWide_struct Try.underlying27 hv
  obtain ⟨l⟩ := cs
  rw [show Try.prog.cellsOf 27 = 2 from by kernel_rfl] at hsz
  match l, hsz with
  | [a0, a1], _ =>
    obtain ⟨fuel, hf⟩ := h
    obtain ⟨xs, n, -, -, -, hxl, hall⟩ := DataW.trod_struct Try.underlying27 hf
    match xs, hxl with
    | [x0, x1], _ =>
      have g0 : DataW.trod enc Try.prog W 0 (fun _ => true) true n 2 (([a0, a1].drop 0).take (Try.prog.cellsOf 2)) = [x0, x1][0]? := hall 0 _ rfl
      have g1 : DataW.trod enc Try.prog W 0 (fun _ => true) true n 2 (([a0, a1].drop 1).take (Try.prog.cellsOf 2)) = [x0, x1][1]? := hall 1 _ rfl
      rw [cells_i64] at g0 g1
      simp at g0 g1
      obtain ⟨n0, e0, f0⟩ := DataW.trod_int Try.underlying2 g0
      obtain ⟨n1, e1, f1⟩ := DataW.trod_int Try.underlying2 g1
      simp only [List.cons.injEq, and_true] at e0 e1
      exact ⟨(n0, n1), by rw [e0, e1], i64_of_wf f0.2, i64_of_wf f1.2⟩
end
end Go.Proofs.Ytaiigdbbpdkamaa
