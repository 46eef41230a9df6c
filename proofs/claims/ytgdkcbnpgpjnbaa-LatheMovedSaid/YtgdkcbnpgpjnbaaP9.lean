/-
  For the rows of layer 5: an array of 5 numbers, opened.
-/
import Derived.Test.YtgdkcbnpgpjnbaaPA
namespace Go.Proofs.Ytgdkcbnpgpjnbaa
open Go.ChangeShapes Go.WideShapes Go.ChangeAt Go.RowKit Go.Deep

section
variable {H : Type} {enc : TypeId × Value → H}
set_option maxRecDepth 100000 in
/-- An array of 5 numbers, opened. -/
theorem open_u16_5 {W : World} {v : Value} {d : DataW H} {p : List MemPlace} {b0 : Nat} (h : DataW.Trod enc Try.prog W 0 (fun _ => true) true 61 v d p) (hv : Value.okWide Try.prog W .any b0 61 v) : ∃ b0 b1 b2 b3 b4 : Int, v = .agg #[.int .u16 b0, .int .u16 b1, .int .u16 b2, .int .u16 b3, .int .u16 b4] ∧ 0 ≤ b0 ∧ b0 ≤ 65535 ∧ 0 ≤ b1 ∧ b1 ≤ 65535 ∧ 0 ≤ b2 ∧ b2 ≤ 65535 ∧ 0 ≤ b3 ∧ b3 ≤ 65535 ∧ 0 ≤ b4 ∧ b4 ≤ 65535 := by
  obtain ⟨cs, rfl, hsz⟩ := okWide_arr Try.underlying61 hv
  obtain ⟨l⟩ := cs
  rw [show Try.prog.cellsOf 61 = 5 from by kernel_rfl] at hsz
  match l, hsz with
  | [a0, a1, a2, a3, a4], _ =>
    obtain ⟨fuel, hf⟩ := h
    obtain ⟨xs, n, -, -, -, hxl, hall⟩ := DataW.trod_array Try.underlying61 hf
    rw [show Try.prog.cellsOf 60 = 1 from by kernel_rfl] at hall
    match xs, hxl with
    | [x0, x1, x2, x3, x4], _ =>
      have g0 : DataW.trod enc Try.prog W 0 (fun _ => true) true n 60 (([a0, a1, a2, a3, a4].drop (0 * 1)).take 1) = [x0, x1, x2, x3, x4][0]? := hall 0 (by omega)
      have g1 : DataW.trod enc Try.prog W 0 (fun _ => true) true n 60 (([a0, a1, a2, a3, a4].drop (1 * 1)).take 1) = [x0, x1, x2, x3, x4][1]? := hall 1 (by omega)
      have g2 : DataW.trod enc Try.prog W 0 (fun _ => true) true n 60 (([a0, a1, a2, a3, a4].drop (2 * 1)).take 1) = [x0, x1, x2, x3, x4][2]? := hall 2 (by omega)
      have g3 : DataW.trod enc Try.prog W 0 (fun _ => true) true n 60 (([a0, a1, a2, a3, a4].drop (3 * 1)).take 1) = [x0, x1, x2, x3, x4][3]? := hall 3 (by omega)
      have g4 : DataW.trod enc Try.prog W 0 (fun _ => true) true n 60 (([a0, a1, a2, a3, a4].drop (4 * 1)).take 1) = [x0, x1, x2, x3, x4][4]? := hall 4 (by omega)
      simp at g0 g1 g2 g3 g4
      obtain ⟨n0, e0, f0⟩ := DataW.trod_int Try.underlying60 g0
      obtain ⟨n1, e1, f1⟩ := DataW.trod_int Try.underlying60 g1
      obtain ⟨n2, e2, f2⟩ := DataW.trod_int Try.underlying60 g2
      obtain ⟨n3, e3, f3⟩ := DataW.trod_int Try.underlying60 g3
      obtain ⟨n4, e4, f4⟩ := DataW.trod_int Try.underlying60 g4
      simp only [List.cons.injEq, and_true] at e0 e1 e2 e3 e4
      have h0 := bounds_u16 f0.2
      have h1 := bounds_u16 f1.2
      have h2 := bounds_u16 f2.2
      have h3 := bounds_u16 f3.2
      have h4 := bounds_u16 f4.2
      exact ⟨n0, n1, n2, n3, n4, by rw [e0, e1, e2, e3, e4], h0.1, h0.2, h1.1, h1.2, h2.1, h2.2, h3.1, h3.2, h4.1, h4.2⟩
end
end Go.Proofs.Ytgdkcbnpgpjnbaa
