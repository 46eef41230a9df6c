/-
  TopTamed returns true for every slice of numbers, every curve and every cutter: a signal within the headroom of a tame curve is not too loud after it; cut on both channels alike it has a groove of the same width everywhere, whose edges move by no more than the gain of the bound of the curve. No condition.
-/
import Derived.Test.YtjaomjbhkgijbaaMg38
import Derived.Test.YtjaomjbhkgijbaaMg12
import Derived.Test.YtjaomjbhkgijbaaRows
import Derived.Test.YtjaomjbhkgijbaaMg37
import Derived.ProofKit

/-
  For the rows of grooves: a cutter, a slice of points, an array of numbers, opened; five arguments.
-/
namespace Go.Proofs.Ytjaomjbhkgijbaa
open Go.ChangeShapes Go.WideShapes Go.ChangeAt Go.RowKit Go.Deep

section
variable {H : Type} {enc : TypeId × Value → H} {P : Program} {w : World} {base : Nat} {spare : Nat → Bool} {held : Bool}
theorem cells_pt : Try.prog.cellsOf 77 = 2 := by kernel_rfl
theorem cells_ctr : Try.prog.cellsOf 73 = 7 := by kernel_rfl
set_option maxRecDepth 100000 in
/-- A cutter, opened. -/
theorem open_ctr {W : World} {v : Value} {d : DataW H} {p : List MemPlace} {b0 : Nat} (h : DataW.Trod enc Try.prog W 0 (fun _ => true) true 73 v d p) (hv : Value.okWide Try.prog W .any b0 73 v) : ∃ c : Ctr, v = .agg #[.int .i64 c.half, .int .i64 c.gain, .int .i64 c.thin, .int .i64 c.wide, .int .i64 c.slope, .int .i64 c.jerk, .int .i64 c.stylus] := by
  obtain ⟨cs, rfl, hsz⟩ := okWide_struct Try.underlying73 hv
  obtain ⟨l⟩ := cs
  rw [cells_ctr] at hsz
  match l, hsz with
  | [a0, a1, a2, a3, a4, a5, a6], _ =>
    obtain ⟨fuel, hf⟩ := h
    obtain ⟨xs, n, -, -, -, hxl, hall⟩ := DataW.trod_struct Try.underlying73 hf
    match xs, hxl with
    | [x0, x1, x2, x3, x4, x5, x6], _ =>
      have g0 : DataW.trod enc Try.prog W 0 (fun _ => true) true n 2 (([a0, a1, a2, a3, a4, a5, a6].drop 0).take (Try.prog.cellsOf 2)) = [x0, x1, x2, x3, x4, x5, x6][0]? := hall 0 _ rfl
      have g1 : DataW.trod enc Try.prog W 0 (fun _ => true) true n 2 (([a0, a1, a2, a3, a4, a5, a6].drop 1).take (Try.prog.cellsOf 2)) = [x0, x1, x2, x3, x4, x5, x6][1]? := hall 1 _ rfl
      have g2 : DataW.trod enc Try.prog W 0 (fun _ => true) true n 2 (([a0, a1, a2, a3, a4, a5, a6].drop 2).take (Try.prog.cellsOf 2)) = [x0, x1, x2, x3, x4, x5, x6][2]? := hall 2 _ rfl
      have g3 : DataW.trod enc Try.prog W 0 (fun _ => true) true n 2 (([a0, a1, a2, a3, a4, a5, a6].drop 3).take (Try.prog.cellsOf 2)) = [x0, x1, x2, x3, x4, x5, x6][3]? := hall 3 _ rfl
      have g4 : DataW.trod enc Try.prog W 0 (fun _ => true) true n 2 (([a0, a1, a2, a3, a4, a5, a6].drop 4).take (Try.prog.cellsOf 2)) = [x0, x1, x2, x3, x4, x5, x6][4]? := hall 4 _ rfl
      have g5 : DataW.trod enc Try.prog W 0 (fun _ => true) true n 2 (([a0, a1, a2, a3, a4, a5, a6].drop 5).take (Try.prog.cellsOf 2)) = [x0, x1, x2, x3, x4, x5, x6][5]? := hall 5 _ rfl
      have g6 : DataW.trod enc Try.prog W 0 (fun _ => true) true n 2 (([a0, a1, a2, a3, a4, a5, a6].drop 6).take (Try.prog.cellsOf 2)) = [x0, x1, x2, x3, x4, x5, x6][6]? := hall 6 _ rfl
      rw [cells_i64] at g0 g1 g2 g3 g4 g5 g6
      simp at g0 g1 g2 g3 g4 g5 g6
      obtain ⟨n0, e0, -⟩ := DataW.trod_int Try.underlying2 g0
      obtain ⟨n1, e1, -⟩ := DataW.trod_int Try.underlying2 g1
      obtain ⟨n2, e2, -⟩ := DataW.trod_int Try.underlying2 g2
      obtain ⟨n3, e3, -⟩ := DataW.trod_int Try.underlying2 g3
      obtain ⟨n4, e4, -⟩ := DataW.trod_int Try.underlying2 g4
      obtain ⟨n5, e5, -⟩ := DataW.trod_int Try.underlying2 g5
      obtain ⟨n6, e6, -⟩ := DataW.trod_int Try.underlying2 g6
      simp only [List.cons.injEq, and_true] at e0 e1 e2 e3 e4 e5 e6
      exact ⟨⟨n0, n1, n2, n3, n4, n5, n6⟩, by rw [e0, e1, e2, e3, e4, e5, e6]⟩



set_option maxRecDepth 100000 in
/-- A slice of points, opened. -/
theorem open_pts {W : World} {v : Value} {d : DataW H} {p : List MemPlace} {b0 : Nat} (h : DataW.Trod enc Try.prog W 0 (fun _ => true) true 78 v d p) (hv : Value.okWide Try.prog W .any b0 78 v) :
    ∃ A n c xs, v = .slice A n c ∧ RS W W.heap.size A n xs ∧ n ≤ 9223372036854775807 ∧ I64s xs ∧ n ≤ c := by
  obtain ⟨fuel, hf⟩ := h
  obtain ⟨A, n, c, rfl⟩ := okWide_slice Try.underlying78 hv
  rcases open_slice_pairs Try.underlying78 Try.underlying77 cells_pt rfl rfl cells_i64 cells_i64 hf with ⟨hc, _⟩ | ⟨a, len, cap, m, k, V0, V1, D0, D1, P0, P1, hc, _, hl, hm, hmm, hx, hall⟩
  · simp [Value.cells] at hc
    obtain ⟨rfl, rfl, rfl⟩ := hc
    exact ⟨_, _, _, [], rfl, ⟨rfl, Reads.none_⟩, by omega, fun _ h => (by cases h), by omega⟩
  · simp [Value.cells] at hc
    obtain ⟨rfl, rfl, rfl⟩ := hc
    simp only [if_true] at hmm
    subst hmm
    have h0 : ∀ i, i < n → ∃ x, V0 i = .int .i64 x ∧ I64 x := fun i hi => by
      obtain ⟨x, h1, _, h3⟩ := DataW.trod_int Try.underlying2 (hall i (by omega)).2.2.1
      simp only [List.cons.injEq, and_true] at h1
      exact ⟨x, h1, i64_of_wf h3⟩
    have h1 : ∀ i, i < n → ∃ x, V1 i = .int .i64 x ∧ I64 x := fun i hi => by
      obtain ⟨x, h1, _, h3⟩ := DataW.trod_int Try.underlying2 (hall i (by omega)).2.2.2
      simp only [List.cons.injEq, and_true] at h1
      exact ⟨x, h1, i64_of_wf h3⟩
    refine ⟨some a, n, _, (List.range n).map fun i => (intV (V0 i), intV (V1 i)), rfl, ⟨by simp, by rw [smpCells_length]; simp, fun hn => ?_⟩, by unfold maxLen at hm; omega, ?_, hl⟩
    · refine ⟨a, rfl, by have := World.block_lt_of_cell? W (a.add (0 * 2)) (hall 0 (by omega)).1; rwa [block_of_add] at this, fun j u hu => ?_⟩
      have hjl : j < n * 2 := by
        have := (List.getElem?_eq_some_iff.1 hu).1
        rw [smpCells_length] at this
        simpa using this
      have hi : j / 2 < n := by omega
      have hat := smpCells_at ((List.range n).map fun i => (intV (V0 i), intV (V1 i))) (j / 2) (by simpa using hi)
      simp only [List.getElem_map, List.getElem_range] at hat
      obtain ⟨x0, e0, _⟩ := h0 _ hi
      obtain ⟨x1, e1, _⟩ := h1 _ hi
      rcases Nat.mod_two_eq_zero_or_one j with hm2 | hm2
      · have hj2 : j / 2 * 2 = j := by omega
        rw [hj2] at hat
        have hcell := (hall (j / 2) (by omega)).1
        rw [hj2] at hcell
        rw [hat.1] at hu
        cases hu
        rw [hcell, e0]
        rfl
      · have hj2 : j / 2 * 2 + 1 = j := by omega
        rw [hj2] at hat
        have hcell := (hall (j / 2) (by omega)).2.1
        rw [hj2] at hcell
        rw [hat.2] at hu
        cases hu
        rw [hcell, e1]
        rfl
    · intro s hs
      obtain ⟨i, hi, rfl⟩ := List.mem_map.1 hs
      have hi := List.mem_range.1 hi
      obtain ⟨x0, e0, i0⟩ := h0 _ hi
      obtain ⟨x1, e1, i1⟩ := h1 _ hi
      simp only [e0, e1]
      exact ⟨i0, i1⟩
end
end Go.Proofs.Ytjaomjbhkgijbaa


namespace Go.Proofs.Ytjaomjbhkgijbaa
open Go.ChangeShapes Go.WideShapes Go.ChangeAt Go.RowKit Go.Deep

set_option maxRecDepth 100000 in
set_option maxHeartbeats 2000000 in
theorem ttamed_lifted (os : Os) (started : os.Started) (H : Type) (enc : TypeId × Value → H) :
    ReturnsInHanded {} Try.checked os 15 .any (Rows.topTamedSpec.pre6 enc Try.prog Try.f15 Rows.topTamedRow.domain false) (Rows.topTamedSpec.post enc Try.prog Try.f15 false true false false) := by
  refine returnsInHanded_of_change (C := Try.checked) own_ started (by kernel_rfl) Try.func15
    (ChangeSpec.witness6 (enc := enc) (C := Try.checked) false ⟨#[], #[.slice none 0 0, .agg #[.slice none 0 0, .slice none 0 0, .int .i64 0], .agg #[.int .i64 0, .int .i64 0, .int .i64 0, .int .i64 0, .int .i64 0, .int .i64 0, .int .i64 0]], []⟩ 8 (by kernel_rfl) (by kernel_rfl) (by kernel_rfl) (by kernel_rfl)) ?_
  intro W base args ds gs before hval0 hW hcnd _
  have hval : ∀ (j : Nat) t v, Try.f15.params[j]? = some t → args[j]? = some v → Value.okWide Try.prog W .any base t v := hval0
  have hW' := hW
  obtain ⟨p, q, hA0, hV, rfl, hfz, hnd⟩ := hW
  have hA : DataW.TrodAll enc Try.prog W 0 (fun _ => true) true Try.f15.params.toList args.toList ds p := hA0
  rw [Try.params15] at hA hval
  obtain ⟨v0, v1, v2, d0, d1, d2, p0, p1, p2, rfl, rfl, rfl, h0, h1, h2⟩ := trodAll_three_ hA
  obtain ⟨rfl, rfl⟩ := trodVars_none hV
  have g0 := h0
  have g1 := h1
  have g2 := h2
  obtain ⟨A0, n0, k0, l0, rfl, r0, m0, u0, i0⟩ := open_i64s h0 (hval 0 41 v0 rfl rfl)
  obtain ⟨t1, rfl, q1⟩ := open_cv h1 (hval 1 43 v1 rfl rfl)
  obtain ⟨c2, rfl⟩ := open_ctr h2 (hval 2 73 v2 rfl rfl)
  clear hA0 hval0
  simp only [List.append_nil] at hW'
  have z0 : ∀ x ∈ p0, x.block < W.heap.size := fun x hx => hW'.lt x (by simp [hx])
  have z1 : ∀ x ∈ p1, x.block < W.heap.size := fun x hx => hW'.lt x (by simp [hx])
  have z2 : ∀ x ∈ p2, x.block < W.heap.size := fun x hx => hW'.lt x (by simp [hx])
  refine (tamed_walk _ t1 A0 n0 k0 l0 c2 W q1.ci r0 (Nat.le_refl _) m0 ⟨q1.nf, q1.nb⟩).mono fun e W' ⟨he, hb⟩ => ?_
  subst he
  exact ⟨_, rfl, post_of_below_ (pa := p0 ++ (p1 ++ (p2))) (pv := []) hW' (fun _ _ _ => trodAll_mk1 (shut_bool Try.underlying4 _))
    (fun sp hsp => trodAll_mk3 (WideElems.Trod_stays laid_out (by kernel_rfl) (of_decide_eq_true (by kernel_rfl)) g0 (fun x hx => hb.same (z0 x hx)) (fun x hx => hsp x (by simp [hx]))) (WideElems.Trod_stays laid_out (by kernel_rfl) (of_decide_eq_true (by kernel_rfl)) g1 (fun x hx => hb.same (z1 x hx)) (fun x hx => hsp x (by simp [hx]))) (WideElems.Trod_stays laid_out (by kernel_rfl) (of_decide_eq_true (by kernel_rfl)) g2 (fun x hx => hb.same (z2 x hx)) (fun x hx => hsp x (by simp [hx])))) (fun _ _ => rfl) (by simp) hb (ok_one (by kernel_rfl) rfl (okWide_bool_mk Try.underlying4 _))⟩

theorem ttamed_holds : Rows.TopTamedSaid :=
  OpenClaim.holds_of_wide 15 Try.f15 rfl rfl rfl rfl rfl rfl rfl ⟨rfl, rfl, rfl, rfl, rfl⟩ rfl rfl rfl rfl rfl (by kernel_rfl) Try.func15 (by kernel_rfl)
    (of_decide_eq_true (by kernel_rfl)) (by unfold Func.isWrapper; first | (rw [if_pos (by decide +kernel)]; kernel_rfl) | (rw [if_neg (by decide +kernel)]; exact ⟨rfl, rfl⟩))
    (fun os started H enc _ => ttamed_lifted os started H enc)

#print axioms ttamed_holds
end Go.Proofs.Ytjaomjbhkgijbaa

