/-
  For the rows: a world that lay below is kept; a slice of samples, opened.
-/
import Derived.Test.YtjaomjbhkgijbaaMg1
import Derived.ProofKit
import Derived.Deep.SlicePairs
import Derived.Deep.Slices
import Derived.Deep.Fields
import Derived.ChangeSame
import Derived.OpenShut
import Derived.Test.YtjaomjbhkgijbaaMg11
import Derived.Test.YtjaomjbhkgijbaaMg22

namespace Go.Proofs.Ytjaomjbhkgijbaa
open Go.ChangeShapes Go.WideShapes Go.ChangeAt Go.RowKit Go.Deep

theorem own_ : ownKnob Try.prog.godebug = none := by kernel_rfl
theorem laid_out : laidOutB Try.prog = true := by kernel_rfl

section
variable {H : Type} {enc : TypeId × Value → H} {P : Program}
theorem post_of_below_ {f : Func} {s : ChangeSpec} {apart fresh handsOn again : Bool} {W W' : World} {args : Array Value} {v : Value} {ds gs : List (DataW H)} {before pa pv : List MemPlace}
    (hW : DataW.Whole enc P f.params.toList s.vars apart W args.toList ds gs before)
    (hres : ∀ (b : Nat) (sp : Nat → Bool) (hd : Bool), DataW.TrodAll enc P W' b sp hd f.resultTypes.toList (v.resultList f.resultTypes.size) (s.fn H (ds ++ gs)).results [])
    (hargs : ∀ sp : Nat → Bool, (∀ p ∈ before, sp p.block = true) → DataW.TrodAll enc P W' 0 sp true f.params.toList args.toList (s.fn H (ds ++ gs)).args pa)
    (hvars : ∀ sp : Nat → Bool, (∀ p ∈ before, sp p.block = true) → DataW.TrodVars enc P W' sp s.vars (s.fn H (ds ++ gs)).vars pv)
    (hps : before = pa ++ pv) (hb : Below W.heap.size W W')
    (hok : ∀ (j : Nat) (t : TypeId) (r : Value), f.resultTypes[j]? = some t → (v.resultList f.resultTypes.size)[j]? = some r → Value.okWide P W' .any 0 t r) :
    s.post enc P f apart fresh handsOn again W args v W' := by
  have hlt : ∀ p ∈ before, p.block < W.heap.size := fun p hp => hW.lt p hp
  have hold : ∀ p ∈ before, (fun b => decide (b < W.heap.size)) p.block = true := fun p hp => by simpa using hlt p hp
  refine ⟨ds, gs, before, [], pa, pv, hW, hres _ _ _, hargs _ hold, hvars _ hold, World.keptBut_mono (fun p hp => ⟨hp, ?_⟩) (hb.frame (· ∈ before)), fun _ => ?_⟩
  · rw [hps, List.mem_append] at hp
    exact Or.inr hp
  · obtain ⟨_, _, _, _, _, hz, hn⟩ := hW
    refine ⟨hok, _, _, ([] ++ pa) ++ pv, ⟨[] ++ pa, pv, trodAll_append (hargs _ (fun _ _ => rfl)) (hres _ _ _), hvars _ (fun _ _ => rfl), rfl, ?_, ?_⟩, ?_⟩
    · intro b off hp
      have hin : MemPlace.cell b off ∈ before := by rw [hps]; simpa using hp
      rw [hb.frozen (hlt _ hin)]
      exact hz b off hin
    · intro ha
      have := hn ha
      rw [hps] at this
      simpa using this
    · intro p hp _
      rw [hps]
      simpa using hp

theorem cells_smp : Try.prog.cellsOf 75 = 2 := by kernel_rfl
theorem cells_i64 : Try.prog.cellsOf 2 = 1 := by kernel_rfl

def intV : Value → Int
  | .int _ n => n
  | _ => 0

theorem i64_of_wf {n : Int} (h : (Lit.int .i64 n).wf = true) : I64 n := by
  simp only [Lit.wf, Bool.and_eq_true, decide_eq_true_eq] at h
  exact h

set_option maxRecDepth 100000 in
/-- A slice of samples, opened. -/
theorem open_smps {W : World} {v : Value} {d : DataW H} {p : List MemPlace} {b0 : Nat} (h : DataW.Trod enc Try.prog W 0 (fun _ => true) true 55 v d p) (hv : Value.okWide Try.prog W .any b0 55 v) :
    ∃ A n c xs, v = .slice A n c ∧ RS W W.heap.size A n xs ∧ n ≤ 9223372036854775807 ∧ I64s xs := by
  obtain ⟨fuel, hf⟩ := h
  obtain ⟨A, n, c, rfl⟩ := okWide_slice Try.underlying55 hv
  rcases open_slice_pairs Try.underlying55 Try.underlying75 cells_smp rfl rfl cells_i64 cells_i64 hf with ⟨hc, _⟩ | ⟨a, len, cap, m, k, V0, V1, D0, D1, P0, P1, hc, _, hl, hm, hmm, hx, hall⟩
  · simp [Value.cells] at hc
    obtain ⟨rfl, rfl, rfl⟩ := hc
    exact ⟨_, _, _, [], rfl, ⟨rfl, Reads.none_⟩, by omega, fun _ h => (by cases h)⟩
  · simp [Value.cells] at hc
    obtain ⟨rfl, rfl, rfl⟩ := hc
    simp only [if_true] at hmm
    subst hmm
    have h0 : ∀ i, i < n → ∃ x, V0 i = .int .i64 x ∧ I64 x := fun i hi => by
      obtain ⟨x, h1, _, h3⟩ := DataW.trod_int Try.underlying2 (hall i (by omega)).2.2.1
      simp only [List.cons.injEq, and_true] at h1
      exact ⟨x, h1, i64_of_wf h3⟩
    have h1 : ∀ i, i < n → ∃ x, V1 i = .int .i64 x ∧ I64 x := fun i hi => by
      obtain ⟨x, h1, _, h3⟩ := DataW.trod_int Try.underlying2 (hall i (by omega)).2.2.2
      simp only [List.cons.injEq, and_true] at h1
      exact ⟨x, h1, i64_of_wf h3⟩
    refine ⟨some a, n, _, (List.range n).map fun i => (intV (V0 i), intV (V1 i)), rfl, ⟨by simp, by rw [smpCells_length]; simp, fun hn => ?_⟩, by unfold maxLen at hm; omega, ?_⟩
    · refine ⟨a, rfl, by have := World.block_lt_of_cell? W (a.add (0 * 2)) (hall 0 (by omega)).1; rwa [block_of_add] at this, fun j u hu => ?_⟩
      have hjl : j < n * 2 := by
        have := (List.getElem?_eq_some_iff.1 hu).1
        rw [smpCells_length] at this
        simpa using this
      have hi : j / 2 < n := by omega
      have hat := smpCells_at ((List.range n).map fun i => (intV (V0 i), intV (V1 i))) (j / 2) (by simpa using hi)
      simp only [List.getElem_map, List.getElem_range] at hat
      obtain ⟨x0, e0, _⟩ := h0 _ hi
      obtain ⟨x1, e1, _⟩ := h1 _ hi
      rcases Nat.mod_two_eq_zero_or_one j with hm2 | hm2
      · have hj2 : j / 2 * 2 = j := by omega
        rw [hj2] at hat
        have hcell := (hall (j / 2) (by omega)).1
        rw [hj2] at hcell
        rw [hat.1] at hu
        cases hu
        rw [hcell, e0]
        rfl
      · have hj2 : j / 2 * 2 + 1 = j := by omega
        rw [hj2] at hat
        have hcell := (hall (j / 2) (by omega)).2.1
        rw [hj2] at hcell
        rw [hat.2] at hu
        cases hu
        rw [hcell, e1]
        rfl
    · intro s hs
      obtain ⟨i, hi, rfl⟩ := List.mem_map.1 hs
      have hi := List.mem_range.1 hi
      obtain ⟨x0, e0, i0⟩ := h0 _ hi
      obtain ⟨x1, e1, i1⟩ := h1 _ hi
      simp only [e0, e1]
      exact ⟨i0, i1⟩
end

end Go.Proofs.Ytjaomjbhkgijbaa

/-
  For the rows: five arguments; arrays; a list out of what holds of each index.
-/
namespace Go.Proofs.Ytjaomjbhkgijbaa
open Go.ChangeShapes Go.WideShapes Go.ChangeAt Go.RowKit Go.Deep

theorem list_of {α : Type} {P : Nat → α → Prop} : ∀ (n : Nat), (∀ i, i < n → ∃ a, P i a) → ∃ l : List α, l.length = n ∧ ∀ i (h : i < l.length), P i l[i]
  | 0, _ => ⟨[], rfl, fun i h => absurd h (by simp)⟩
  | n + 1, h => by
    obtain ⟨l, hl, hp⟩ := list_of n (fun i hi => h i (by omega))
    obtain ⟨a, ha⟩ := h n (by omega)
    refine ⟨l ++ [a], by simp [hl], fun i hi => ?_⟩
    rcases Nat.lt_or_ge i l.length with h1 | h1
    · rw [List.getElem_append_left h1]; exact hp i h1
    · have : i = n := by simp at hi; omega
      subst this
      rw [List.getElem_append_right h1]
      simpa [hl] using ha

section
variable {H : Type} {enc : TypeId × Value → H} {P : Program} {w : World} {base : Nat} {spare : Nat → Bool} {held : Bool}
theorem trodAll_five {t t' t'' t3 t4 : TypeId} {args : Array Value} {ds : List (DataW H)} {ps : List MemPlace} (h : DataW.TrodAll enc P w base spare held [t, t', t'', t3, t4] args.toList ds ps) :
    ∃ v v' v'' v3 v4 d d' d'' d3 d4 p p' p'' p3 p4, args = #[v, v', v'', v3, v4] ∧ ds = [d, d', d'', d3, d4] ∧ ps = p ++ (p' ++ (p'' ++ (p3 ++ p4))) ∧ DataW.Trod enc P w base spare held t v d p ∧ DataW.Trod enc P w base spare held t' v' d' p' ∧ DataW.Trod enc P w base spare held t'' v'' d'' p'' ∧ DataW.Trod enc P w base spare held t3 v3 d3 p3 ∧ DataW.Trod enc P w base spare held t4 v4 d4 p4 := by
  obtain ⟨v, vs, d, ds', p, q, hargs, rfl, rfl, hd, hrest⟩ := trodAll_cons h
  obtain ⟨v', vs', d', ds'', p', q', rfl, rfl, rfl, hd', hrest'⟩ := trodAll_cons hrest
  obtain ⟨v'', vs'', d'', ds''', p'', q'', rfl, rfl, rfl, hd'', hrest''⟩ := trodAll_cons hrest'
  obtain ⟨v3, vs3, d3, ds3, p3, q3, rfl, rfl, rfl, hd3, hrest3⟩ := trodAll_cons hrest''
  obtain ⟨v4, vs4, d4, ds4, p4, q4, rfl, rfl, rfl, hd4, hrest4⟩ := trodAll_cons hrest3
  obtain ⟨rfl, rfl, rfl⟩ := trodAll_nil hrest4
  exact ⟨v, v', v'', v3, v4, d, d', d'', d3, d4, p, p', p'', p3, p4, by cases args; simp_all, rfl, by simp, hd, hd', hd'', hd3, hd4⟩
theorem trodAll_four_ {t t' t'' t3 : TypeId} {args : Array Value} {ds : List (DataW H)} {ps : List MemPlace} (h : DataW.TrodAll enc P w base spare held [t, t', t'', t3] args.toList ds ps) :
    ∃ v v' v'' v3 d d' d'' d3 p p' p'' p3, args = #[v, v', v'', v3] ∧ ds = [d, d', d'', d3] ∧ ps = p ++ (p' ++ (p'' ++ p3)) ∧ DataW.Trod enc P w base spare held t v d p ∧ DataW.Trod enc P w base spare held t' v' d' p' ∧ DataW.Trod enc P w base spare held t'' v'' d'' p'' ∧ DataW.Trod enc P w base spare held t3 v3 d3 p3 := by
  obtain ⟨v, v', v'', v3, d, d', d'', d3, p, p', p'', p3, h1, h2, h3, h4⟩ := trodAll_four h
  exact ⟨v, v', v'', v3, d, d', d'', d3, p, p', p'', p3, h1, h2, by rw [h3]; simp, h4⟩
theorem trodAll_three_ {t t' t'' : TypeId} {args : Array Value} {ds : List (DataW H)} {ps : List MemPlace} (h : DataW.TrodAll enc P w base spare held [t, t', t''] args.toList ds ps) :
    ∃ v v' v'' d d' d'' p p' p'', args = #[v, v', v''] ∧ ds = [d, d', d''] ∧ ps = p ++ (p' ++ p'') ∧ DataW.Trod enc P w base spare held t v d p ∧ DataW.Trod enc P w base spare held t' v' d' p' ∧ DataW.Trod enc P w base spare held t'' v'' d'' p'' := by
  obtain ⟨v, v', v'', d, d', d'', p, p', p'', h1, h2, h3, h4⟩ := trodAll_three h
  exact ⟨v, v', v'', d, d', d'', p, p', p'', h1, h2, by rw [h3]; simp, h4⟩
theorem trodAll_mk5 {t t' t'' t3 t4 : TypeId} {v v' v'' v3 v4 : Value} {d d' d'' d3 d4 : DataW H} {p p' p'' p3 p4 : List MemPlace} (h : DataW.Trod enc P w base spare held t v d p) (h' : DataW.Trod enc P w base spare held t' v' d' p')
    (h'' : DataW.Trod enc P w base spare held t'' v'' d'' p'') (h3 : DataW.Trod enc P w base spare held t3 v3 d3 p3) (h4 : DataW.Trod enc P w base spare held t4 v4 d4 p4) : DataW.TrodAll enc P w base spare held [t, t', t'', t3, t4] [v, v', v'', v3, v4] [d, d', d'', d3, d4] (p ++ (p' ++ (p'' ++ (p3 ++ p4)))) := ⟨p, p' ++ (p'' ++ (p3 ++ p4)), h, trodAll_mk4 h' h'' h3 h4, rfl⟩
theorem okWide_arr {r : Reach} {b0 : Nat} {n : Nat} {t e : TypeId} {v : Value} (ht : P.underlying t = some (.array n e)) (h : Value.okWide P w r b0 t v) : ∃ cs, v = .agg cs ∧ cs.size = P.cellsOf t := by
  simp only [Value.okWide, ht] at h
  obtain ⟨cs, h1, h2, _⟩ := h
  exact ⟨cs, h1, h2⟩
end
end Go.Proofs.Ytjaomjbhkgijbaa

/-
  For the rows: a slice of numbers, opened.
-/
namespace Go.Proofs.Ytjaomjbhkgijbaa
open Go.ChangeShapes Go.WideShapes Go.ChangeAt Go.RowKit Go.Deep

section
variable {H : Type} {enc : TypeId × Value → H}
def I64l (xs : List Int) : Prop := ∀ x ∈ xs, I64 x

theorem cells_i64s : Try.prog.cellsOf 41 = 1 := by kernel_rfl
set_option maxRecDepth 100000 in
/-- A slice of numbers whose cell is read. -/
theorem open_i64s_raw {W : World} {cs : List Value} {x : DataW H × List MemPlace} {fuel : Nat} (hf : DataW.trod enc Try.prog W 0 (fun _ => true) true fuel 41 cs = some x) :
    ∃ A n c xs, cs = [.slice A n c] ∧ LI W W.heap.size A n xs ∧ n ≤ 9223372036854775807 ∧ n ≤ c ∧ I64l xs := by
  rcases open_slice Try.underlying41 hf with ⟨hc, _⟩ | ⟨a, n, c, m, k, D, Pl, hc, _, hl, hm, hmm, hx, hall⟩
  · exact ⟨_, _, _, [], hc, LI.none_, by omega, by omega, fun _ h => (by cases h)⟩
  · subst hc
    simp only [if_true] at hmm
    subst hmm
    rw [cells_i64] at hall
    have each : ∀ i, i < n → ∃ q : Int, W.cell? (a.add i) = some (.int .i64 q) ∧ I64 q := fun i hi => by
      obtain ⟨cs', hc, ht⟩ := hall i (by omega)
      obtain ⟨q, e0, _, h3⟩ := DataW.trod_int Try.underlying2 ht
      subst e0
      obtain ⟨_, _, hat⟩ := World.cells?_some hc
      have := hat 0 (by simp)
      simp only [Nat.mul_one] at this
      rw [show (a.add i).add 0 = a.add i by simp [Addr.add]] at this
      exact ⟨q, this, i64_of_wf h3⟩
    obtain ⟨l, hln, hP⟩ := list_of n each
    refine ⟨some a, n, _, l, rfl, ⟨hln.symm, ⟨by simp [hln], fun hn => ?_⟩⟩, by unfold maxLen at hm; omega, hl, fun y hy => ?_⟩
    · refine ⟨a, rfl, ?_, fun j u hu => ?_⟩
      · have := World.block_lt_of_cell? W (a.add 0) (hP 0 (by omega)).1
        rwa [block_of_add] at this
      · have hjl : j < l.length := by have := (List.getElem?_eq_some_iff.1 hu).1; simpa using this
        rw [List.getElem?_map, List.getElem?_eq_getElem hjl, Option.map_some] at hu
        injection hu with hu
        rw [← hu]; exact (hP j hjl).1
    · obtain ⟨i, hi, rfl⟩ := List.getElem_of_mem hy
      exact (hP i hi).2
set_option maxRecDepth 100000 in
/-- A slice of numbers, opened. -/
theorem open_i64s {W : World} {v : Value} {d : DataW H} {p : List MemPlace} {b0 : Nat} (h : DataW.Trod enc Try.prog W 0 (fun _ => true) true 41 v d p) (hv : Value.okWide Try.prog W .any b0 41 v) :
    ∃ A n c xs, v = .slice A n c ∧ LI W W.heap.size A n xs ∧ n ≤ 9223372036854775807 ∧ n ≤ c ∧ I64l xs := by
  obtain ⟨fuel, hf⟩ := h
  obtain ⟨A, n, c, rfl⟩ := okWide_slice Try.underlying41 hv
  obtain ⟨A', n', c', xs, e, h1⟩ := open_i64s_raw hf
  simp [Value.cells] at e
  obtain ⟨rfl, rfl, rfl⟩ := e
  exact ⟨_, _, _, xs, rfl, h1⟩
end
end Go.Proofs.Ytjaomjbhkgijbaa

/-
  For the rows of filters: numbers, curves, and slices of them, opened.
-/
namespace Go.Proofs.Ytjaomjbhkgijbaa
open Go.ChangeShapes Go.WideShapes Go.ChangeAt Go.RowKit Go.Deep

section
variable {H : Type} {enc : TypeId × Value → H}
theorem cells_cv : Try.prog.cellsOf 43 = 3 := by kernel_rfl
abbrev cv (t : CV) : List Value := [.slice t.Af t.nf t.kf, .slice t.Ab t.nb t.kb, .int .i64 t.c.share]
theorem cvCells_all (l : List CV) (k : Nat) (h : k < l.length) (r : Nat) (hr : r < 3) : (cvCells l)[k * 3 + r]? = (cv l[k])[r]? := by
  obtain ⟨a0, a1, a2⟩ := cvCells_at l k h
  match r, hr with
  | 0, _ => exact a0
  | 1, _ => exact a1
  | 2, _ => exact a2
/-- What is known of a curve that came in. -/
structure CvIn (W : World) (t : CV) : Prop where
  ci : CI W W.heap.size t
  nf : t.nf ≤ 9223372036854775807
  nb : t.nb ≤ 9223372036854775807
  kf : t.nf ≤ t.kf
  kb : t.nb ≤ t.kb
  f64 : I64l t.c.feed
  b64 : I64l t.c.back
  s64 : I64 t.c.share
set_option maxRecDepth 100000 in
theorem open_cv_raw {W : World} {cs : List Value} {x : DataW H × List MemPlace} {fuel : Nat} (hf : DataW.trod enc Try.prog W 0 (fun _ => true) true fuel 43 cs = some x) : ∃ t : CV, cs = cv t ∧ CvIn W t := by
  obtain ⟨xs, n, -, -, hlen, hxl, hall⟩ := DataW.trod_struct Try.underlying43 hf
  rw [cells_cv] at hlen
  match cs, hlen with
  | [a0, a1, a2], _ =>
    match xs, hxl with
    | [x0, x1, x2], _ =>
      have g0 : DataW.trod enc Try.prog W 0 (fun _ => true) true n 41 (([a0, a1, a2].drop 0).take (Try.prog.cellsOf 41)) = [x0, x1, x2][0]? := hall 0 _ rfl
      have g1 : DataW.trod enc Try.prog W 0 (fun _ => true) true n 41 (([a0, a1, a2].drop 1).take (Try.prog.cellsOf 41)) = [x0, x1, x2][1]? := hall 1 _ rfl
      have g2 : DataW.trod enc Try.prog W 0 (fun _ => true) true n 2 (([a0, a1, a2].drop 2).take (Try.prog.cellsOf 2)) = [x0, x1, x2][2]? := hall 2 _ rfl
      rw [cells_i64s] at g0 g1
      rw [cells_i64] at g2
      simp at g0 g1 g2
      obtain ⟨A0, n0, c0, f0, e0, l0, m0, k0, i0⟩ := open_i64s_raw g0
      obtain ⟨A1, n1, c1, f1, e1, l1, m1, k1, i1⟩ := open_i64s_raw g1
      obtain ⟨n2, e2, -, h2⟩ := DataW.trod_int Try.underlying2 g2
      simp only [List.cons.injEq, and_true] at e0 e1 e2
      exact ⟨⟨A0, n0, c0, A1, n1, c1, ⟨f0, f1, n2⟩⟩, by rw [e0, e1, e2], ⟨⟨l0, l1⟩, m0, m1, k0, k1, i0, i1, i64_of_wf h2⟩⟩
set_option maxRecDepth 100000 in
/-- A curve, opened. -/
theorem open_cv {W : World} {v : Value} {d : DataW H} {p : List MemPlace} {b0 : Nat} (h : DataW.Trod enc Try.prog W 0 (fun _ => true) true 43 v d p) (hv : Value.okWide Try.prog W .any b0 43 v) :
    ∃ t : CV, v = .agg #[.slice t.Af t.nf t.kf, .slice t.Ab t.nb t.kb, .int .i64 t.c.share] ∧ CvIn W t := by
  obtain ⟨cs, rfl, hsz⟩ := okWide_struct Try.underlying43 hv
  obtain ⟨fuel, hf⟩ := h
  obtain ⟨t, e, ht⟩ := open_cv_raw hf
  refine ⟨t, ?_, ht⟩
  have e' : cs.toList = cv t := by simpa [Value.cells] using e
  rw [← Array.toArray_toList (xs := cs), e']
set_option maxRecDepth 100000 in
/-- A slice of curves, opened. -/
theorem open_cvs {W : World} {v : Value} {d : DataW H} {p : List MemPlace} {b0 : Nat} (h : DataW.Trod enc Try.prog W 0 (fun _ => true) true 45 v d p) (hv : Value.okWide Try.prog W .any b0 45 v) :
    ∃ A n c l, v = .slice A n c ∧ RC W W.heap.size A n l ∧ n ≤ 9223372036854775807 ∧ n ≤ c ∧ ∀ t ∈ l, CvIn W t := by
  obtain ⟨fuel, hf⟩ := h
  obtain ⟨A, n, c, rfl⟩ := okWide_slice Try.underlying45 hv
  rcases open_slice Try.underlying45 hf with ⟨hc, _⟩ | ⟨a, len, cap, m, k, D, Pl, hc, _, hl, hm, hmm, hx, hall⟩
  · simp [Value.cells] at hc
    obtain ⟨rfl, rfl, rfl⟩ := hc
    exact ⟨_, _, _, [], rfl, ⟨rfl, Reads.none_, fun _ h => (by cases h)⟩, by omega, by omega, fun _ h => (by cases h)⟩
  · simp [Value.cells] at hc
    obtain ⟨rfl, rfl, rfl⟩ := hc
    simp only [if_true] at hmm
    subst hmm
    rw [cells_cv] at hall
    have each : ∀ i, i < n → ∃ q : CV, (∀ r, r < 3 → W.cell? (a.add (i * 3 + r)) = (cv q)[r]?) ∧ CvIn W q := fun i hi => by
      obtain ⟨cs', hc, ht⟩ := hall i (by omega)
      obtain ⟨q, rfl, hq⟩ := open_cv_raw ht
      obtain ⟨_, _, hat⟩ := World.cells?_some hc
      exact ⟨q, fun r hr => by rw [← add_of_add]; exact hat r hr, hq⟩
    obtain ⟨l, hln, hP⟩ := list_of n each
    refine ⟨some a, n, _, l, rfl, ⟨hln.symm, ⟨by rw [cvCells_length, hln], fun hn => ?_⟩, fun t ht => ?_⟩, by unfold maxLen at hm; omega, hl, fun t ht => ?_⟩
    · refine ⟨a, rfl, ?_, fun j u hu => ?_⟩
      · have := World.block_lt_of_cell? W (a.add (0 * 3 + 0)) (((hP 0 (by omega)).1 0 (by omega)).trans rfl)
        rwa [block_of_add] at this
      · have hjl : j < n * 3 := by
          have := (List.getElem?_eq_some_iff.1 hu).1
          rw [cvCells_length, hln] at this
          exact this
        have hi : j / 3 < l.length := by omega
        have hat := cvCells_all l (j / 3) hi (j % 3) (by omega)
        have hc := (hP _ hi).1 (j % 3) (by omega)
        rw [show j / 3 * 3 + j % 3 = j from by omega] at hat hc
        rw [hc, ← hat, hu]
    · obtain ⟨i, hi, rfl⟩ := List.getElem_of_mem ht
      exact (hP i hi).2.ci
    · obtain ⟨i, hi, rfl⟩ := List.getElem_of_mem ht
      exact (hP i hi).2
end
end Go.Proofs.Ytjaomjbhkgijbaa

