/-
  For the rows of layer 8: arrays of two numbers of 16 bits as arguments, opened.
-/
import Derived.Test.YtomncopeekegoaaPR
namespace Go.Proofs.Ytomncopeekegoaa
open Go.ChangeShapes Go.WideShapes Go.ChangeAt Go.RowKit Go.Deep

section
variable {H : Type} {enc : TypeId × Value → H} {P : Program} {w : World} {base : Nat} {spare : Nat → Bool} {held : Bool}
set_option maxRecDepth 100000 in
/-- An array of 2 numbers, opened. -/
theorem open_i16_2 {W : World} {v : Value} {d : DataW H} {p : List MemPlace} {b0 : Nat} (h : DataW.Trod enc Try.prog W 0 (fun _ => true) true 83 v d p) (hv : Value.okWide Try.prog W .any b0 83 v) : ∃ b0 b1 : Int, v = .agg #[.int .i16 b0, .int .i16 b1] ∧ (-32768 ≤ b0 ∧ b0 ≤ 32767) ∧ -32768 ≤ b1 ∧ b1 ≤ 32767 := by
  obtain ⟨cs, rfl, hsz⟩ := okWide_arr Try.underlying83 hv
  obtain ⟨l⟩ := cs
  rw [show Try.prog.cellsOf 83 = 2 from by kernel_rfl] at hsz
  match l, hsz with
  | [a0, a1], _ =>
    obtain ⟨fuel, hf⟩ := h
    obtain ⟨xs, n, -, -, -, hxl, hall⟩ := DataW.trod_array Try.underlying83 hf
    rw [show Try.prog.cellsOf 82 = 1 from by kernel_rfl] at hall
    match xs, hxl with
    | [x0, x1], _ =>
      have g0 : DataW.trod enc Try.prog W 0 (fun _ => true) true n 82 (([a0, a1].drop (0 * 1)).take 1) = [x0, x1][0]? := hall 0 (by omega)
      have g1 : DataW.trod enc Try.prog W 0 (fun _ => true) true n 82 (([a0, a1].drop (1 * 1)).take 1) = [x0, x1][1]? := hall 1 (by omega)
      simp at g0 g1
      obtain ⟨n0, e0, f0⟩ := DataW.trod_int Try.underlying82 g0
      obtain ⟨n1, e1, f1⟩ := DataW.trod_int Try.underlying82 g1
      simp only [List.cons.injEq, and_true] at e0 e1
      have h0 := bounds_i16 f0.2
      have h1 := bounds_i16 f1.2
      exact ⟨n0, n1, by rw [e0, e1], ⟨h0.1, h0.2⟩, h1.1, h1.2⟩
end
end Go.Proofs.Ytomncopeekegoaa
