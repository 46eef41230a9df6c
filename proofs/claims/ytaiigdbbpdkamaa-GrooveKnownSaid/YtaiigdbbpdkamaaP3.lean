/-
  For the rows of grooves: a cutter, a slice of points, an array of numbers, opened; five arguments.
-/
import Derived.Test.YtaiigdbbpdkamaaP1
import Derived.Test.YtaiigdbbpdkamaaJ1
import Derived.Deep.Fields
import Derived.ChangeSame
import Derived.OpenShut
namespace Go.Proofs.Ytaiigdbbpdkamaa
open Go.ChangeShapes Go.WideShapes Go.ChangeAt Go.RowKit Go.Deep

section
variable {H : Type} {enc : TypeId × Value → H} {P : Program} {w : World} {base : Nat} {spare : Nat → Bool} {held : Bool}
theorem trodAll_five {t t' t'' t3 t4 : TypeId} {args : Array Value} {ds : List (DataW H)} {ps : List MemPlace} (h : DataW.TrodAll enc P w base spare held [t, t', t'', t3, t4] args.toList ds ps) :
    ∃ v v' v'' v3 v4 d d' d'' d3 d4 p p' p'' p3 p4, args = #[v, v', v'', v3, v4] ∧ ds = [d, d', d'', d3, d4] ∧ ps = p ++ (p' ++ (p'' ++ (p3 ++ p4))) ∧ DataW.Trod enc P w base spare held t v d p ∧ DataW.Trod enc P w base spare held t' v' d' p' ∧ DataW.Trod enc P w base spare held t'' v'' d'' p'' ∧ DataW.Trod enc P w base spare held t3 v3 d3 p3 ∧ DataW.Trod enc P w base spare held t4 v4 d4 p4 := by
  obtain ⟨v, vs, d, ds', p, q, hargs, rfl, rfl, hd, hrest⟩ := trodAll_cons h
  obtain ⟨v', vs', d', ds'', p', q', rfl, rfl, rfl, hd', hrest'⟩ := trodAll_cons hrest
  obtain ⟨v'', vs'', d'', ds''', p'', q'', rfl, rfl, rfl, hd'', hrest''⟩ := trodAll_cons hrest'
  obtain ⟨v3, vs3, d3, ds3, p3, q3, rfl, rfl, rfl, hd3, hrest3⟩ := trodAll_cons hrest''
  obtain ⟨v4, vs4, d4, ds4, p4, q4, rfl, rfl, rfl, hd4, hrest4⟩ := trodAll_cons hrest3
  obtain ⟨rfl, rfl, rfl⟩ := trodAll_nil hrest4
  exact ⟨v, v', v'', v3, v4, d, d', d'', d3, d4, p, p', p'', p3, p4, by cases args; simp_all, rfl, by simp, hd, hd', hd'', hd3, hd4⟩
theorem trodAll_four_ {t t' t'' t3 : TypeId} {args : Array Value} {ds : List (DataW H)} {ps : List MemPlace} (h : DataW.TrodAll enc P w base spare held [t, t', t'', t3] args.toList ds ps) :
    ∃ v v' v'' v3 d d' d'' d3 p p' p'' p3, args = #[v, v', v'', v3] ∧ ds = [d, d', d'', d3] ∧ ps = p ++ (p' ++ (p'' ++ p3)) ∧ DataW.Trod enc P w base spare held t v d p ∧ DataW.Trod enc P w base spare held t' v' d' p' ∧ DataW.Trod enc P w base spare held t'' v'' d'' p'' ∧ DataW.Trod enc P w base spare held t3 v3 d3 p3 := by
  obtain ⟨v, v', v'', v3, d, d', d'', d3, p, p', p'', p3, h1, h2, h3, h4⟩ := trodAll_four h
  exact ⟨v, v', v'', v3, d, d', d'', d3, p, p', p'', p3, h1, h2, by rw [h3]; simp, h4⟩
theorem trodAll_three_ {t t' t'' : TypeId} {args : Array Value} {ds : List (DataW H)} {ps : List MemPlace} (h : DataW.TrodAll enc P w base spare held [t, t', t''] args.toList ds ps) :
    ∃ v v' v'' d d' d'' p p' p'', args = #[v, v', v''] ∧ ds = [d, d', d''] ∧ ps = p ++ (p' ++ p'') ∧ DataW.Trod enc P w base spare held t v d p ∧ DataW.Trod enc P w base spare held t' v' d' p' ∧ DataW.Trod enc P w base spare held t'' v'' d'' p'' := by
  obtain ⟨v, v', v'', d, d', d'', p, p', p'', h1, h2, h3, h4⟩ := trodAll_three h
  exact ⟨v, v', v'', d, d', d'', p, p', p'', h1, h2, by rw [h3]; simp, h4⟩
theorem trodAll_mk5 {t t' t'' t3 t4 : TypeId} {v v' v'' v3 v4 : Value} {d d' d'' d3 d4 : DataW H} {p p' p'' p3 p4 : List MemPlace} (h : DataW.Trod enc P w base spare held t v d p) (h' : DataW.Trod enc P w base spare held t' v' d' p')
    (h'' : DataW.Trod enc P w base spare held t'' v'' d'' p'') (h3 : DataW.Trod enc P w base spare held t3 v3 d3 p3) (h4 : DataW.Trod enc P w base spare held t4 v4 d4 p4) : DataW.TrodAll enc P w base spare held [t, t', t'', t3, t4] [v, v', v'', v3, v4] [d, d', d'', d3, d4] (p ++ (p' ++ (p'' ++ (p3 ++ p4)))) := ⟨p, p' ++ (p'' ++ (p3 ++ p4)), h, trodAll_mk4 h' h'' h3 h4, rfl⟩
theorem okWide_arr {r : Reach} {b0 : Nat} {n : Nat} {t e : TypeId} {v : Value} (ht : P.underlying t = some (.array n e)) (h : Value.okWide P w r b0 t v) : ∃ cs, v = .agg cs ∧ cs.size = P.cellsOf t := by
  simp only [Value.okWide, ht] at h
  obtain ⟨cs, h1, h2, _⟩ := h
  exact ⟨cs, h1, h2⟩

theorem cells_pt : Try.prog.cellsOf 27 = 2 := by kernel_rfl
theorem cells_ctr : Try.prog.cellsOf 23 = 7 := by kernel_rfl
set_option maxRecDepth 100000 in
/-- A cutter, opened. -/
theorem open_ctr {W : World} {v : Value} {d : DataW H} {p : List MemPlace} {b0 : Nat} (h : DataW.Trod enc Try.prog W 0 (fun _ => true) true 23 v d p) (hv : Value.okWide Try.prog W .any b0 23 v) : ∃ c : Ctr, v = .agg #[.int .i64 c.half, .int .i64 c.gain, .int .i64 c.thin, .int .i64 c.wide, .int .i64 c.slope, .int .i64 c.jerk, .int .i64 c.stylus] := by
  obtain ⟨cs, rfl, hsz⟩ := okWide_struct Try.underlying23 hv
  obtain ⟨l⟩ := cs
  rw [cells_ctr] at hsz
  match l, hsz with
  | [a0, a1, a2, a3, a4, a5, a6], _ =>
    obtain ⟨fuel, hf⟩ := h
    obtain ⟨xs, n, -, -, -, hxl, hall⟩ := DataW.trod_struct Try.underlying23 hf
    match xs, hxl with
    | [x0, x1, x2, x3, x4, x5, x6], _ =>
      have g0 : DataW.trod enc Try.prog W 0 (fun _ => true) true n 2 (([a0, a1, a2, a3, a4, a5, a6].drop 0).take (Try.prog.cellsOf 2)) = [x0, x1, x2, x3, x4, x5, x6][0]? := hall 0 _ rfl
      have g1 : DataW.trod enc Try.prog W 0 (fun _ => true) true n 2 (([a0, a1, a2, a3, a4, a5, a6].drop 1).take (Try.prog.cellsOf 2)) = [x0, x1, x2, x3, x4, x5, x6][1]? := hall 1 _ rfl
      have g2 : DataW.trod enc Try.prog W 0 (fun _ => true) true n 2 (([a0, a1, a2, a3, a4, a5, a6].drop 2).take (Try.prog.cellsOf 2)) = [x0, x1, x2, x3, x4, x5, x6][2]? := hall 2 _ rfl
      have g3 : DataW.trod enc Try.prog W 0 (fun _ => true) true n 2 (([a0, a1, a2, a3, a4, a5, a6].drop 3).take (Try.prog.cellsOf 2)) = [x0, x1, x2, x3, x4, x5, x6][3]? := hall 3 _ rfl
      have g4 : DataW.trod enc Try.prog W 0 (fun _ => true) true n 2 (([a0, a1, a2, a3, a4, a5, a6].drop 4).take (Try.prog.cellsOf 2)) = [x0, x1, x2, x3, x4, x5, x6][4]? := hall 4 _ rfl
      have g5 : DataW.trod enc Try.prog W 0 (fun _ => true) true n 2 (([a0, a1, a2, a3, a4, a5, a6].drop 5).take (Try.prog.cellsOf 2)) = [x0, x1, x2, x3, x4, x5, x6][5]? := hall 5 _ rfl
      have g6 : DataW.trod enc Try.prog W 0 (fun _ => true) true n 2 (([a0, a1, a2, a3, a4, a5, a6].drop 6).take (Try.prog.cellsOf 2)) = [x0, x1, x2, x3, x4, x5, x6][6]? := hall 6 _ rfl
      rw [cells_i64] at g0 g1 g2 g3 g4 g5 g6
      simp at g0 g1 g2 g3 g4 g5 g6
      obtain ⟨n0, e0, -⟩ := DataW.trod_int Try.underlying2 g0
      obtain ⟨n1, e1, -⟩ := DataW.trod_int Try.underlying2 g1
      obtain ⟨n2, e2, -⟩ := DataW.trod_int Try.underlying2 g2
      obtain ⟨n3, e3, -⟩ := DataW.trod_int Try.underlying2 g3
      obtain ⟨n4, e4, -⟩ := DataW.trod_int Try.underlying2 g4
      obtain ⟨n5, e5, -⟩ := DataW.trod_int Try.underlying2 g5
      obtain ⟨n6, e6, -⟩ := DataW.trod_int Try.underlying2 g6
      simp only [List.cons.injEq, and_true] at e0 e1 e2 e3 e4 e5 e6
      exact ⟨⟨n0, n1, n2, n3, n4, n5, n6⟩, by rw [e0, e1, e2, e3, e4, e5, e6]⟩

set_option maxRecDepth 100000 in
/-- An array of 5 numbers, opened. -/
theorem open_u16_5 {W : World} {v : Value} {d : DataW H} {p : List MemPlace} {b0 : Nat} (h : DataW.Trod enc Try.prog W 0 (fun _ => true) true 66 v d p) (hv : Value.okWide Try.prog W .any b0 66 v) : ∃ b0 b1 b2 b3 b4 : Int, v = .agg #[.int .u16 b0, .int .u16 b1, .int .u16 b2, .int .u16 b3, .int .u16 b4] ∧ 0 ≤ b0 ∧ b0 ≤ 65535 ∧ 0 ≤ b1 ∧ b1 ≤ 65535 ∧ 0 ≤ b2 ∧ b2 ≤ 65535 ∧ 0 ≤ b3 ∧ b3 ≤ 65535 ∧ 0 ≤ b4 ∧ b4 ≤ 65535 := by
  obtain ⟨cs, rfl, hsz⟩ := okWide_arr Try.underlying66 hv
  obtain ⟨l⟩ := cs
  rw [show Try.prog.cellsOf 66 = 5 from by kernel_rfl] at hsz
  match l, hsz with
  | [a0, a1, a2, a3, a4], _ =>
    obtain ⟨fuel, hf⟩ := h
    obtain ⟨xs, n, -, -, -, hxl, hall⟩ := DataW.trod_array Try.underlying66 hf
    rw [show Try.prog.cellsOf 57 = 1 from by kernel_rfl] at hall
    match xs, hxl with
    | [x0, x1, x2, x3, x4], _ =>
      have g0 : DataW.trod enc Try.prog W 0 (fun _ => true) true n 57 (([a0, a1, a2, a3, a4].drop (0 * 1)).take 1) = [x0, x1, x2, x3, x4][0]? := hall 0 (by omega)
      have g1 : DataW.trod enc Try.prog W 0 (fun _ => true) true n 57 (([a0, a1, a2, a3, a4].drop (1 * 1)).take 1) = [x0, x1, x2, x3, x4][1]? := hall 1 (by omega)
      have g2 : DataW.trod enc Try.prog W 0 (fun _ => true) true n 57 (([a0, a1, a2, a3, a4].drop (2 * 1)).take 1) = [x0, x1, x2, x3, x4][2]? := hall 2 (by omega)
      have g3 : DataW.trod enc Try.prog W 0 (fun _ => true) true n 57 (([a0, a1, a2, a3, a4].drop (3 * 1)).take 1) = [x0, x1, x2, x3, x4][3]? := hall 3 (by omega)
      have g4 : DataW.trod enc Try.prog W 0 (fun _ => true) true n 57 (([a0, a1, a2, a3, a4].drop (4 * 1)).take 1) = [x0, x1, x2, x3, x4][4]? := hall 4 (by omega)
      simp at g0 g1 g2 g3 g4
      obtain ⟨n0, e0, f0⟩ := DataW.trod_int Try.underlying57 g0
      obtain ⟨n1, e1, f1⟩ := DataW.trod_int Try.underlying57 g1
      obtain ⟨n2, e2, f2⟩ := DataW.trod_int Try.underlying57 g2
      obtain ⟨n3, e3, f3⟩ := DataW.trod_int Try.underlying57 g3
      obtain ⟨n4, e4, f4⟩ := DataW.trod_int Try.underlying57 g4
      simp only [List.cons.injEq, and_true] at e0 e1 e2 e3 e4
      have h0 := bounds_u16 f0.2
      have h1 := bounds_u16 f1.2
      have h2 := bounds_u16 f2.2
      have h3 := bounds_u16 f3.2
      have h4 := bounds_u16 f4.2
      exact ⟨n0, n1, n2, n3, n4, by rw [e0, e1, e2, e3, e4], h0.1, h0.2, h1.1, h1.2, h2.1, h2.2, h3.1, h3.2, h4.1, h4.2⟩

set_option maxRecDepth 100000 in
/-- An array of 2 numbers, opened. -/
theorem open_u16_2 {W : World} {v : Value} {d : DataW H} {p : List MemPlace} {b0 : Nat} (h : DataW.Trod enc Try.prog W 0 (fun _ => true) true 58 v d p) (hv : Value.okWide Try.prog W .any b0 58 v) : ∃ b0 b1 : Int, v = .agg #[.int .u16 b0, .int .u16 b1] ∧ 0 ≤ b0 ∧ b0 ≤ 65535 ∧ 0 ≤ b1 ∧ b1 ≤ 65535 := by
  obtain ⟨cs, rfl, hsz⟩ := okWide_arr Try.underlying58 hv
  obtain ⟨l⟩ := cs
  rw [show Try.prog.cellsOf 58 = 2 from by kernel_rfl] at hsz
  match l, hsz with
  | [a0, a1], _ =>
    obtain ⟨fuel, hf⟩ := h
    obtain ⟨xs, n, -, -, -, hxl, hall⟩ := DataW.trod_array Try.underlying58 hf
    rw [show Try.prog.cellsOf 57 = 1 from by kernel_rfl] at hall
    match xs, hxl with
    | [x0, x1], _ =>
      have g0 : DataW.trod enc Try.prog W 0 (fun _ => true) true n 57 (([a0, a1].drop (0 * 1)).take 1) = [x0, x1][0]? := hall 0 (by omega)
      have g1 : DataW.trod enc Try.prog W 0 (fun _ => true) true n 57 (([a0, a1].drop (1 * 1)).take 1) = [x0, x1][1]? := hall 1 (by omega)
      simp at g0 g1
      obtain ⟨n0, e0, f0⟩ := DataW.trod_int Try.underlying57 g0
      obtain ⟨n1, e1, f1⟩ := DataW.trod_int Try.underlying57 g1
      simp only [List.cons.injEq, and_true] at e0 e1
      have h0 := bounds_u16 f0.2
      have h1 := bounds_u16 f1.2
      exact ⟨n0, n1, by rw [e0, e1], h0.1, h0.2, h1.1, h1.2⟩

set_option maxRecDepth 100000 in
/-- A slice of points, opened. -/
theorem open_pts {W : World} {v : Value} {d : DataW H} {p : List MemPlace} {b0 : Nat} (h : DataW.Trod enc Try.prog W 0 (fun _ => true) true 29 v d p) (hv : Value.okWide Try.prog W .any b0 29 v) :
    ∃ A n c xs, v = .slice A n c ∧ RS W W.heap.size A n xs ∧ n ≤ 9223372036854775807 ∧ I64s xs ∧ n ≤ c := by
  obtain ⟨fuel, hf⟩ := h
  obtain ⟨A, n, c, rfl⟩ := okWide_slice Try.underlying29 hv
  rcases open_slice_pairs Try.underlying29 Try.underlying27 cells_pt rfl rfl cells_i64 cells_i64 hf with ⟨hc, _⟩ | ⟨a, len, cap, m, k, V0, V1, D0, D1, P0, P1, hc, _, hl, hm, hmm, hx, hall⟩
  · simp [Value.cells] at hc
    obtain ⟨rfl, rfl, rfl⟩ := hc
    exact ⟨_, _, _, [], rfl, ⟨rfl, Reads.none_⟩, by omega, fun _ h => (by cases h), by omega⟩
  · simp [Value.cells] at hc
    obtain ⟨rfl, rfl, rfl⟩ := hc
    simp only [if_true] at hmm
    subst hmm
    have h0 : ∀ i, i < n → ∃ x, V0 i = .int .i64 x ∧ I64 x := fun i hi => by
      obtain ⟨x, h1, _, h3⟩ := DataW.trod_int Try.underlying2 (hall i (by omega)).2.2.1
      simp only [List.cons.injEq, and_true] at h1
      exact ⟨x, h1, i64_of_wf h3⟩
    have h1 : ∀ i, i < n → ∃ x, V1 i = .int .i64 x ∧ I64 x := fun i hi => by
      obtain ⟨x, h1, _, h3⟩ := DataW.trod_int Try.underlying2 (hall i (by omega)).2.2.2
      simp only [List.cons.injEq, and_true] at h1
      exact ⟨x, h1, i64_of_wf h3⟩
    refine ⟨some a, n, _, (List.range n).map fun i => (intV (V0 i), intV (V1 i)), rfl, ⟨by simp, by rw [smpCells_length]; simp, fun hn => ?_⟩, by unfold maxLen at hm; omega, ?_, hl⟩
    · refine ⟨a, rfl, by have := World.block_lt_of_cell? W (a.add (0 * 2)) (hall 0 (by omega)).1; rwa [block_of_add] at this, fun j u hu => ?_⟩
      have hjl : j < n * 2 := by
        have := (List.getElem?_eq_some_iff.1 hu).1
        rw [smpCells_length] at this
        simpa using this
      have hi : j / 2 < n := by omega
      have hat := smpCells_at ((List.range n).map fun i => (intV (V0 i), intV (V1 i))) (j / 2) (by simpa using hi)
      simp only [List.getElem_map, List.getElem_range] at hat
      obtain ⟨x0, e0, _⟩ := h0 _ hi
      obtain ⟨x1, e1, _⟩ := h1 _ hi
      rcases Nat.mod_two_eq_zero_or_one j with hm2 | hm2
      · have hj2 : j / 2 * 2 = j := by omega
        rw [hj2] at hat
        have hcell := (hall (j / 2) (by omega)).1
        rw [hj2] at hcell
        rw [hat.1] at hu
        cases hu
        rw [hcell, e0]
        rfl
      · have hj2 : j / 2 * 2 + 1 = j := by omega
        rw [hj2] at hat
        have hcell := (hall (j / 2) (by omega)).2.1
        rw [hj2] at hcell
        rw [hat.2] at hu
        cases hu
        rw [hcell, e1]
        rfl
    · intro s hs
      obtain ⟨i, hi, rfl⟩ := List.mem_map.1 hs
      have hi := List.mem_range.1 hi
      obtain ⟨x0, e0, i0⟩ := h0 _ hi
      obtain ⟨x1, e1, i1⟩ := h1 _ hi
      simp only [e0, e1]
      exact ⟨i0, i1⟩
end
end Go.Proofs.Ytaiigdbbpdkamaa
