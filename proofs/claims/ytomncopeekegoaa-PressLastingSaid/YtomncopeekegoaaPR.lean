/-
  For the rows of layer 8: machines and spots as arguments, opened.
-/
import Derived.Test.YtomncopeekegoaaPI
import Derived.Test.YtomncopeekegoaaI0
namespace Go.Proofs.Ytomncopeekegoaa
open Go.ChangeShapes Go.WideShapes Go.ChangeAt Go.RowKit Go.Deep

section
variable {H : Type} {enc : TypeId × Value → H} {P : Program} {w : World} {base : Nat} {spare : Nat → Bool} {held : Bool}
set_option maxRecDepth 100000 in
/-- A machine, opened. -/
theorem open_mac {W : World} {v : Value} {d : DataW H} {p : List MemPlace} {b0 : Nat} (h : DataW.Trod enc Try.prog W 0 (fun _ => true) true 23 v d p) (hv : Value.okWide Try.prog W .any b0 23 v) : ∃ m : Mac, v = .agg #[.int .i64 m.room, .int .i64 m.melt, .int .i64 m.cool, .int .i64 m.top, .int .i64 m.heat, .int .i64 m.chill, .int .i64 m.drift, .int .i64 m.hold, .int .i64 m.life] ∧ I64 m.room ∧ I64 m.melt ∧ I64 m.cool ∧ I64 m.top ∧ I64 m.heat ∧ I64 m.chill ∧ I64 m.drift ∧ I64 m.hold ∧ I64 m.life := by
  obtain ⟨cs, rfl, hsz⟩ := okWide_struct Try.underlying23 hv
  obtain ⟨l⟩ := cs
  rw [show Try.prog.cellsOf 23 = 9 from by kernel_rfl] at hsz
  match l, hsz with
  | [a0, a1, a2, a3, a4, a5, a6, a7, a8], _ =>
    obtain ⟨fuel, hf⟩ := h
    obtain ⟨xs, n, -, -, -, hxl, hall⟩ := DataW.trod_struct Try.underlying23 hf
    match xs, hxl with
    | [x0, x1, x2, x3, x4, x5, x6, x7, x8], _ =>
      have g0 : DataW.trod enc Try.prog W 0 (fun _ => true) true n 2 (([a0, a1, a2, a3, a4, a5, a6, a7, a8].drop 0).take (Try.prog.cellsOf 2)) = [x0, x1, x2, x3, x4, x5, x6, x7, x8][0]? := hall 0 _ rfl
      have g1 : DataW.trod enc Try.prog W 0 (fun _ => true) true n 2 (([a0, a1, a2, a3, a4, a5, a6, a7, a8].drop 1).take (Try.prog.cellsOf 2)) = [x0, x1, x2, x3, x4, x5, x6, x7, x8][1]? := hall 1 _ rfl
      have g2 : DataW.trod enc Try.prog W 0 (fun _ => true) true n 2 (([a0, a1, a2, a3, a4, a5, a6, a7, a8].drop 2).take (Try.prog.cellsOf 2)) = [x0, x1, x2, x3, x4, x5, x6, x7, x8][2]? := hall 2 _ rfl
      have g3 : DataW.trod enc Try.prog W 0 (fun _ => true) true n 2 (([a0, a1, a2, a3, a4, a5, a6, a7, a8].drop 3).take (Try.prog.cellsOf 2)) = [x0, x1, x2, x3, x4, x5, x6, x7, x8][3]? := hall 3 _ rfl
      have g4 : DataW.trod enc Try.prog W 0 (fun _ => true) true n 2 (([a0, a1, a2, a3, a4, a5, a6, a7, a8].drop 4).take (Try.prog.cellsOf 2)) = [x0, x1, x2, x3, x4, x5, x6, x7, x8][4]? := hall 4 _ rfl
      have g5 : DataW.trod enc Try.prog W 0 (fun _ => true) true n 2 (([a0, a1, a2, a3, a4, a5, a6, a7, a8].drop 5).take (Try.prog.cellsOf 2)) = [x0, x1, x2, x3, x4, x5, x6, x7, x8][5]? := hall 5 _ rfl
      have g6 : DataW.trod enc Try.prog W 0 (fun _ => true) true n 2 (([a0, a1, a2, a3, a4, a5, a6, a7, a8].drop 6).take (Try.prog.cellsOf 2)) = [x0, x1, x2, x3, x4, x5, x6, x7, x8][6]? := hall 6 _ rfl
      have g7 : DataW.trod enc Try.prog W 0 (fun _ => true) true n 2 (([a0, a1, a2, a3, a4, a5, a6, a7, a8].drop 7).take (Try.prog.cellsOf 2)) = [x0, x1, x2, x3, x4, x5, x6, x7, x8][7]? := hall 7 _ rfl
      have g8 : DataW.trod enc Try.prog W 0 (fun _ => true) true n 2 (([a0, a1, a2, a3, a4, a5, a6, a7, a8].drop 8).take (Try.prog.cellsOf 2)) = [x0, x1, x2, x3, x4, x5, x6, x7, x8][8]? := hall 8 _ rfl
      rw [cells_i64] at g0 g1 g2 g3 g4 g5 g6 g7 g8
      simp at g0 g1 g2 g3 g4 g5 g6 g7 g8
      obtain ⟨n0, e0, f0⟩ := DataW.trod_int Try.underlying2 g0
      obtain ⟨n1, e1, f1⟩ := DataW.trod_int Try.underlying2 g1
      obtain ⟨n2, e2, f2⟩ := DataW.trod_int Try.underlying2 g2
      obtain ⟨n3, e3, f3⟩ := DataW.trod_int Try.underlying2 g3
      obtain ⟨n4, e4, f4⟩ := DataW.trod_int Try.underlying2 g4
      obtain ⟨n5, e5, f5⟩ := DataW.trod_int Try.underlying2 g5
      obtain ⟨n6, e6, f6⟩ := DataW.trod_int Try.underlying2 g6
      obtain ⟨n7, e7, f7⟩ := DataW.trod_int Try.underlying2 g7
      obtain ⟨n8, e8, f8⟩ := DataW.trod_int Try.underlying2 g8
      simp only [List.cons.injEq, and_true] at e0 e1 e2 e3 e4 e5 e6 e7 e8
      exact ⟨⟨n0, n1, n2, n3, n4, n5, n6, n7, n8⟩, by rw [e0, e1, e2, e3, e4, e5, e6, e7, e8], i64_of_wf f0.2, i64_of_wf f1.2, i64_of_wf f2.2, i64_of_wf f3.2, i64_of_wf f4.2, i64_of_wf f5.2, i64_of_wf f6.2, i64_of_wf f7.2, i64_of_wf f8.2⟩
set_option maxRecDepth 100000 in
/-- A spot, opened. -/
theorem open_spot {W : World} {v : Value} {d : DataW H} {p : List MemPlace} {b0 : Nat} (h : DataW.Trod enc Try.prog W 0 (fun _ => true) true 66 v d p) (hv : Value.okWide Try.prog W .any b0 66 v) : ∃ s : Smp, v = .agg #[.int .i64 s.1, .int .i64 s.2] ∧ I64 s.1 ∧ I64 s.2 := by
  obtain ⟨cs, rfl, hsz⟩ := okWide_struct Try.underlying66 hv
  obtain ⟨l⟩ := cs
  rw [show Try.prog.cellsOf 66 = 2 from by kernel_rfl] at hsz
  match l, hsz with
  | [a0, a1], _ =>
    obtain ⟨fuel, hf⟩ := h
    obtain ⟨xs, n, -, -, -, hxl, hall⟩ := DataW.trod_struct Try.underlying66 hf
    match xs, hxl with
    | [x0, x1], _ =>
      have g0 : DataW.trod enc Try.prog W 0 (fun _ => true) true n 2 (([a0, a1].drop 0).take (Try.prog.cellsOf 2)) = [x0, x1][0]? := hall 0 _ rfl
      have g1 : DataW.trod enc Try.prog W 0 (fun _ => true) true n 2 (([a0, a1].drop 1).take (Try.prog.cellsOf 2)) = [x0, x1][1]? := hall 1 _ rfl
      rw [cells_i64] at g0 g1
      simp at g0 g1
      obtain ⟨n0, e0, f0⟩ := DataW.trod_int Try.underlying2 g0
      obtain ⟨n1, e1, f1⟩ := DataW.trod_int Try.underlying2 g1
      simp only [List.cons.injEq, and_true] at e0 e1
      exact ⟨(n0, n1), by rw [e0, e1], i64_of_wf f0.2, i64_of_wf f1.2⟩
theorem cells_u8 : Try.prog.cellsOf 5 = 1 := by kernel_rfl
set_option maxRecDepth 100000 in
/-- An array of 2 numbers, opened. -/
theorem open_u8_2 {W : World} {v : Value} {d : DataW H} {p : List MemPlace} {b0 : Nat} (h : DataW.Trod enc Try.prog W 0 (fun _ => true) true 79 v d p) (hv : Value.okWide Try.prog W .any b0 79 v) : ∃ b0 b1 : Int, v = .agg #[.int .u8 b0, .int .u8 b1] ∧ 0 ≤ b0 ∧ b0 ≤ 255 ∧ 0 ≤ b1 ∧ b1 ≤ 255 := by
  obtain ⟨cs, rfl, hsz⟩ := okWide_arr Try.underlying79 hv
  obtain ⟨l⟩ := cs
  rw [show Try.prog.cellsOf 79 = 2 from by kernel_rfl] at hsz
  match l, hsz with
  | [a0, a1], _ =>
    obtain ⟨fuel, hf⟩ := h
    obtain ⟨xs, n, -, -, -, hxl, hall⟩ := DataW.trod_array Try.underlying79 hf
    rw [show Try.prog.cellsOf 5 = 1 from by kernel_rfl] at hall
    match xs, hxl with
    | [x0, x1], _ =>
      have g0 : DataW.trod enc Try.prog W 0 (fun _ => true) true n 5 (([a0, a1].drop (0 * 1)).take 1) = [x0, x1][0]? := hall 0 (by omega)
      have g1 : DataW.trod enc Try.prog W 0 (fun _ => true) true n 5 (([a0, a1].drop (1 * 1)).take 1) = [x0, x1][1]? := hall 1 (by omega)
      simp at g0 g1
      obtain ⟨n0, e0, f0⟩ := DataW.trod_int Try.underlying5 g0
      obtain ⟨n1, e1, f1⟩ := DataW.trod_int Try.underlying5 g1
      simp only [List.cons.injEq, and_true] at e0 e1
      have h0 := bounds_u8 f0.2
      have h1 := bounds_u8 f1.2
      exact ⟨n0, n1, by rw [e0, e1], h0.1, h0.2, h1.1, h1.2⟩
end
end Go.Proofs.Ytomncopeekegoaa
