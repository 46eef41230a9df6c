/-
  For the rows: a world that lay below is kept; a slice of samples, opened.
-/
import Derived.Test.YtilihdkfflfniaaSm
import Derived.ProofKit
import Derived.Deep.SlicePairs
namespace Go.Proofs.Ytilihdkfflfniaa
open Go.ChangeShapes Go.WideShapes Go.ChangeAt Go.RowKit Go.Deep

theorem own_ : ownKnob Try.prog.godebug = none := by kernel_rfl
theorem laid_out : laidOutB Try.prog = true := by kernel_rfl

section
variable {H : Type} {enc : TypeId × Value → H} {P : Program}
theorem post_of_below_ {f : Func} {s : ChangeSpec} {apart fresh handsOn again : Bool} {W W' : World} {args : Array Value} {v : Value} {ds gs : List (DataW H)} {before pa pv : List MemPlace}
    (hW : DataW.Whole enc P f.params.toList s.vars apart W args.toList ds gs before)
    (hres : ∀ (b : Nat) (sp : Nat → Bool) (hd : Bool), DataW.TrodAll enc P W' b sp hd f.resultTypes.toList (v.resultList f.resultTypes.size) (s.fn H (ds ++ gs)).results [])
    (hargs : ∀ sp : Nat → Bool, (∀ p ∈ before, sp p.block = true) → DataW.TrodAll enc P W' 0 sp true f.params.toList args.toList (s.fn H (ds ++ gs)).args pa)
    (hvars : ∀ sp : Nat → Bool, (∀ p ∈ before, sp p.block = true) → DataW.TrodVars enc P W' sp s.vars (s.fn H (ds ++ gs)).vars pv)
    (hps : before = pa ++ pv) (hb : Below W.heap.size W W')
    (hok : ∀ (j : Nat) (t : TypeId) (r : Value), f.resultTypes[j]? = some t → (v.resultList f.resultTypes.size)[j]? = some r → Value.okWide P W' .any 0 t r) :
    s.post enc P f apart fresh handsOn again W args v W' := by
  have hlt : ∀ p ∈ before, p.block < W.heap.size := fun p hp => hW.lt p hp
  have hold : ∀ p ∈ before, (fun b => decide (b < W.heap.size)) p.block = true := fun p hp => by simpa using hlt p hp
  refine ⟨ds, gs, before, [], pa, pv, hW, hres _ _ _, hargs _ hold, hvars _ hold, World.keptBut_mono (fun p hp => ⟨hp, ?_⟩) (hb.frame (· ∈ before)), fun _ => ?_⟩
  · rw [hps, List.mem_append] at hp
    exact Or.inr hp
  · obtain ⟨_, _, _, _, _, hz, hn⟩ := hW
    refine ⟨hok, _, _, ([] ++ pa) ++ pv, ⟨[] ++ pa, pv, trodAll_append (hargs _ (fun _ _ => rfl)) (hres _ _ _), hvars _ (fun _ _ => rfl), rfl, ?_, ?_⟩, ?_⟩
    · intro b off hp
      have hin : MemPlace.cell b off ∈ before := by rw [hps]; simpa using hp
      rw [hb.frozen (hlt _ hin)]
      exact hz b off hin
    · intro ha
      have := hn ha
      rw [hps] at this
      simpa using this
    · intro p hp _
      rw [hps]
      simpa using hp

theorem cells_smp : Try.prog.cellsOf 57 = 2 := by kernel_rfl
theorem cells_i64 : Try.prog.cellsOf 2 = 1 := by kernel_rfl

def intV : Value → Int
  | .int _ n => n
  | _ => 0

theorem i64_of_wf {n : Int} (h : (Lit.int .i64 n).wf = true) : I64 n := by
  simp only [Lit.wf, Bool.and_eq_true, decide_eq_true_eq] at h
  exact h

set_option maxRecDepth 100000 in
/-- A slice of samples, opened. -/
theorem open_smps {W : World} {v : Value} {d : DataW H} {p : List MemPlace} {b0 : Nat} (h : DataW.Trod enc Try.prog W 0 (fun _ => true) true 36 v d p) (hv : Value.okWide Try.prog W .any b0 36 v) :
    ∃ A n c xs, v = .slice A n c ∧ RS W W.heap.size A n xs ∧ n ≤ 9223372036854775807 ∧ I64s xs := by
  obtain ⟨fuel, hf⟩ := h
  obtain ⟨A, n, c, rfl⟩ := okWide_slice Try.underlying36 hv
  rcases open_slice_pairs Try.underlying36 Try.underlying57 cells_smp rfl rfl cells_i64 cells_i64 hf with ⟨hc, _⟩ | ⟨a, len, cap, m, k, V0, V1, D0, D1, P0, P1, hc, _, hl, hm, hmm, hx, hall⟩
  · simp [Value.cells] at hc
    obtain ⟨rfl, rfl, rfl⟩ := hc
    exact ⟨_, _, _, [], rfl, ⟨rfl, Reads.none_⟩, by omega, fun _ h => (by cases h)⟩
  · simp [Value.cells] at hc
    obtain ⟨rfl, rfl, rfl⟩ := hc
    simp only [if_true] at hmm
    subst hmm
    have h0 : ∀ i, i < n → ∃ x, V0 i = .int .i64 x ∧ I64 x := fun i hi => by
      obtain ⟨x, h1, _, h3⟩ := DataW.trod_int Try.underlying2 (hall i (by omega)).2.2.1
      simp only [List.cons.injEq, and_true] at h1
      exact ⟨x, h1, i64_of_wf h3⟩
    have h1 : ∀ i, i < n → ∃ x, V1 i = .int .i64 x ∧ I64 x := fun i hi => by
      obtain ⟨x, h1, _, h3⟩ := DataW.trod_int Try.underlying2 (hall i (by omega)).2.2.2
      simp only [List.cons.injEq, and_true] at h1
      exact ⟨x, h1, i64_of_wf h3⟩
    refine ⟨some a, n, _, (List.range n).map fun i => (intV (V0 i), intV (V1 i)), rfl, ⟨by simp, by rw [smpCells_length]; simp, fun hn => ?_⟩, by unfold maxLen at hm; omega, ?_⟩
    · refine ⟨a, rfl, by have := World.block_lt_of_cell? W (a.add (0 * 2)) (hall 0 (by omega)).1; rwa [block_of_add] at this, fun j u hu => ?_⟩
      have hjl : j < n * 2 := by
        have := (List.getElem?_eq_some_iff.1 hu).1
        rw [smpCells_length] at this
        simpa using this
      have hi : j / 2 < n := by omega
      have hat := smpCells_at ((List.range n).map fun i => (intV (V0 i), intV (V1 i))) (j / 2) (by simpa using hi)
      simp only [List.getElem_map, List.getElem_range] at hat
      obtain ⟨x0, e0, _⟩ := h0 _ hi
      obtain ⟨x1, e1, _⟩ := h1 _ hi
      rcases Nat.mod_two_eq_zero_or_one j with hm2 | hm2
      · have hj2 : j / 2 * 2 = j := by omega
        rw [hj2] at hat
        have hcell := (hall (j / 2) (by omega)).1
        rw [hj2] at hcell
        rw [hat.1] at hu
        cases hu
        rw [hcell, e0]
        rfl
      · have hj2 : j / 2 * 2 + 1 = j := by omega
        rw [hj2] at hat
        have hcell := (hall (j / 2) (by omega)).2.1
        rw [hj2] at hcell
        rw [hat.2] at hu
        cases hu
        rw [hcell, e1]
        rfl
    · intro s hs
      obtain ⟨i, hi, rfl⟩ := List.mem_map.1 hs
      have hi := List.mem_range.1 hi
      obtain ⟨x0, e0, i0⟩ := h0 _ hi
      obtain ⟨x1, e1, i1⟩ := h1 _ hi
      simp only [e0, e1]
      exact ⟨i0, i1⟩
end

end Go.Proofs.Ytilihdkfflfniaa
