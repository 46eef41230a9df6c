/-
  TakeMeasures returns true for every slice of samples, every limit and every least length: which samples are valid, their peak, energy and silences are what the definitions say, or the error. No condition.
-/
import Derived.Test.YtlnekinnblnciaaRows
import Derived.Test.YtlnekinnblnciaaE1
import Derived.ProofKit
import Derived.Deep.SlicePairs
namespace Go.Proofs.Ytlnekinnblnciaa
open Go.ChangeShapes Go.WideShapes Go.ChangeAt Go.RowKit Go.Deep

theorem own_ : ownKnob Try.prog.godebug = none := by kernel_rfl
theorem laid_out : laidOutB Try.prog = true := by kernel_rfl

section
variable {H : Type} {enc : TypeId × Value → H} {P : Program}
theorem post_of_below_ {f : Func} {s : ChangeSpec} {apart fresh handsOn again : Bool} {W W' : World} {args : Array Value} {v : Value} {ds gs : List (DataW H)} {before pa pv : List MemPlace}
    (hW : DataW.Whole enc P f.params.toList s.vars apart W args.toList ds gs before)
    (hres : ∀ (b : Nat) (sp : Nat → Bool) (hd : Bool), DataW.TrodAll enc P W' b sp hd f.resultTypes.toList (v.resultList f.resultTypes.size) (s.fn H (ds ++ gs)).results [])
    (hargs : ∀ sp : Nat → Bool, (∀ p ∈ before, sp p.block = true) → DataW.TrodAll enc P W' 0 sp true f.params.toList args.toList (s.fn H (ds ++ gs)).args pa)
    (hvars : ∀ sp : Nat → Bool, (∀ p ∈ before, sp p.block = true) → DataW.TrodVars enc P W' sp s.vars (s.fn H (ds ++ gs)).vars pv)
    (hps : before = pa ++ pv) (hb : Below W.heap.size W W')
    (hok : ∀ (j : Nat) (t : TypeId) (r : Value), f.resultTypes[j]? = some t → (v.resultList f.resultTypes.size)[j]? = some r → Value.okWide P W' .any 0 t r) :
    s.post enc P f apart fresh handsOn again W args v W' := by
  have hlt : ∀ p ∈ before, p.block < W.heap.size := fun p hp => hW.lt p hp
  have hold : ∀ p ∈ before, (fun b => decide (b < W.heap.size)) p.block = true := fun p hp => by simpa using hlt p hp
  refine ⟨ds, gs, before, [], pa, pv, hW, hres _ _ _, hargs _ hold, hvars _ hold, World.keptBut_mono (fun p hp => ⟨hp, ?_⟩) (hb.frame (· ∈ before)), fun _ => ?_⟩
  · rw [hps, List.mem_append] at hp
    exact Or.inr hp
  · obtain ⟨_, _, _, _, _, hz, hn⟩ := hW
    refine ⟨hok, _, _, ([] ++ pa) ++ pv, ⟨[] ++ pa, pv, trodAll_append (hargs _ (fun _ _ => rfl)) (hres _ _ _), hvars _ (fun _ _ => rfl), rfl, ?_, ?_⟩, ?_⟩
    · intro b off hp
      have hin : MemPlace.cell b off ∈ before := by rw [hps]; simpa using hp
      rw [hb.frozen (hlt _ hin)]
      exact hz b off hin
    · intro ha
      have := hn ha
      rw [hps] at this
      simpa using this
    · intro p hp _
      rw [hps]
      simpa using hp

theorem cells_smp : Try.prog.cellsOf 39 = 2 := by kernel_rfl
theorem cells_i64 : Try.prog.cellsOf 2 = 1 := by kernel_rfl

def intV : Value → Int
  | .int _ n => n
  | _ => 0

theorem i64_of_wf {n : Int} (h : (Lit.int .i64 n).wf = true) : I64 n := by
  simp only [Lit.wf, Bool.and_eq_true, decide_eq_true_eq] at h
  exact h

set_option maxRecDepth 100000 in
/-- A slice of samples, opened. -/
theorem open_smps {W : World} {v : Value} {d : DataW H} {p : List MemPlace} {b0 : Nat} (h : DataW.Trod enc Try.prog W 0 (fun _ => true) true 42 v d p) (hv : Value.okWide Try.prog W .any b0 42 v) :
    ∃ A n c xs, v = .slice A n c ∧ RS W W.heap.size A n xs ∧ n ≤ 9223372036854775807 ∧ I64s xs := by
  obtain ⟨fuel, hf⟩ := h
  obtain ⟨A, n, c, rfl⟩ := okWide_slice Try.underlying42 hv
  rcases open_slice_pairs Try.underlying42 Try.underlying39 cells_smp rfl rfl cells_i64 cells_i64 hf with ⟨hc, _⟩ | ⟨a, len, cap, m, k, V0, V1, D0, D1, P0, P1, hc, _, hl, hm, hmm, hx, hall⟩
  · simp [Value.cells] at hc
    obtain ⟨rfl, rfl, rfl⟩ := hc
    exact ⟨_, _, _, [], rfl, ⟨rfl, Reads.none_⟩, by omega, fun _ h => (by cases h)⟩
  · simp [Value.cells] at hc
    obtain ⟨rfl, rfl, rfl⟩ := hc
    simp only [if_true] at hmm
    subst hmm
    have h0 : ∀ i, i < n → ∃ x, V0 i = .int .i64 x ∧ I64 x := fun i hi => by
      obtain ⟨x, h1, _, h3⟩ := DataW.trod_int Try.underlying2 (hall i (by omega)).2.2.1
      simp only [List.cons.injEq, and_true] at h1
      exact ⟨x, h1, i64_of_wf h3⟩
    have h1 : ∀ i, i < n → ∃ x, V1 i = .int .i64 x ∧ I64 x := fun i hi => by
      obtain ⟨x, h1, _, h3⟩ := DataW.trod_int Try.underlying2 (hall i (by omega)).2.2.2
      simp only [List.cons.injEq, and_true] at h1
      exact ⟨x, h1, i64_of_wf h3⟩
    refine ⟨some a, n, _, (List.range n).map fun i => (intV (V0 i), intV (V1 i)), rfl, ⟨by simp, by rw [smpCells_length]; simp, fun hn => ?_⟩, by unfold maxLen at hm; omega, ?_⟩
    · refine ⟨a, rfl, by have := World.block_lt_of_cell? W (a.add (0 * 2)) (hall 0 (by omega)).1; rwa [block_of_add] at this, fun j u hu => ?_⟩
      have hjl : j < n * 2 := by
        have := (List.getElem?_eq_some_iff.1 hu).1
        rw [smpCells_length] at this
        simpa using this
      have hi : j / 2 < n := by omega
      have hat := smpCells_at ((List.range n).map fun i => (intV (V0 i), intV (V1 i))) (j / 2) (by simpa using hi)
      simp only [List.getElem_map, List.getElem_range] at hat
      obtain ⟨x0, e0, _⟩ := h0 _ hi
      obtain ⟨x1, e1, _⟩ := h1 _ hi
      rcases Nat.mod_two_eq_zero_or_one j with hm2 | hm2
      · have hj2 : j / 2 * 2 = j := by omega
        rw [hj2] at hat
        have hcell := (hall (j / 2) (by omega)).1
        rw [hj2] at hcell
        rw [hat.1] at hu
        cases hu
        rw [hcell, e0]
        rfl
      · have hj2 : j / 2 * 2 + 1 = j := by omega
        rw [hj2] at hat
        have hcell := (hall (j / 2) (by omega)).2.1
        rw [hj2] at hcell
        rw [hat.2] at hu
        cases hu
        rw [hcell, e1]
        rfl
    · intro s hs
      obtain ⟨i, hi, rfl⟩ := List.mem_map.1 hs
      have hi := List.mem_range.1 hi
      obtain ⟨x0, e0, i0⟩ := h0 _ hi
      obtain ⟨x1, e1, i1⟩ := h1 _ hi
      simp only [e0, e1]
      exact ⟨i0, i1⟩
end

set_option maxRecDepth 100000 in
theorem measures_lifted (os : Os) (started : os.Started) (H : Type) (enc : TypeId × Value → H) :
    ReturnsInHanded {} Try.checked os 6 .any (Rows.takeMeasuresSpec.pre6 enc Try.prog Try.f6 Rows.takeMeasuresRow.domain false) (Rows.takeMeasuresSpec.post enc Try.prog Try.f6 false true false false) := by
  refine returnsInHanded_of_change (C := Try.checked) own_ started (by kernel_rfl) Try.func6
    (ChangeSpec.witness6 (enc := enc) (C := Try.checked) false ⟨#[], #[.slice none 0 0, .int .i64 0, .int .i64 0], []⟩ 8 (by kernel_rfl) (by kernel_rfl) (by kernel_rfl) (by kernel_rfl)) ?_
  intro W base args ds gs before hval0 hW hcnd _
  have hval : ∀ (j : Nat) t v, Try.f6.params[j]? = some t → args[j]? = some v → Value.okWide Try.prog W .any base t v := hval0
  have hW' := hW
  obtain ⟨p, q, hA0, hV, rfl, hfz, hnd⟩ := hW
  have hA : DataW.TrodAll enc Try.prog W 0 (fun _ => true) true Try.f6.params.toList args.toList ds p := hA0
  rw [Try.params6] at hA hval
  obtain ⟨v0, v1, v2, d0, d1, d2, p0, p1, p2, rfl, rfl, rfl, h0, h1, h2⟩ := trodAll_three hA
  obtain ⟨rfl, rfl⟩ := trodVars_none hV
  obtain ⟨limit, rfl, rfl, rfl, wl⟩ := open_int Try.underlying2 (hval 1 2 v1 rfl rfl) h1
  obtain ⟨least, rfl, rfl, rfl, wm⟩ := open_int Try.underlying3 (hval 2 3 v2 rfl rfl) h2
  have h00 := h0
  obtain ⟨A, n, c, xs, rfl, hRS, hn, hi⟩ := open_smps h0 (hval 0 42 v0 rfl rfl)
  clear hA0 hval0
  simp only [List.append_nil] at hW'
  have hlt : ∀ x ∈ p0, x.block < W.heap.size := fun x hx => hW'.lt x (by simpa using hx)
  refine (measures_any A n c xs limit least W hRS hn hi).mono fun e W' ⟨he, hb⟩ => ?_
  subst he
  exact ⟨_, rfl, post_of_below_ (pa := p0 ++ ([] ++ [])) (pv := []) hW' (fun _ _ _ => trodAll_mk1 (shut_bool Try.underlying4 _))
    (fun sp hsp => trodAll_mk3 (WideElems.Trod_stays laid_out (by kernel_rfl) (of_decide_eq_true (by kernel_rfl)) h00 (fun x hx => hb.same (hlt x hx)) (fun x hx => hsp x (by simpa using hx))) (shut_int Try.underlying2 wl) (shut_int Try.underlying3 wm)) (fun _ _ => rfl) (by simp) hb (ok_one (by kernel_rfl) rfl (okWide_bool_mk Try.underlying4 _))⟩

theorem measures_holds : Rows.TakeMeasuresSaid :=
  OpenClaim.holds_of_wide 6 Try.f6 rfl rfl rfl rfl rfl rfl rfl ⟨rfl, rfl, rfl, rfl, rfl⟩ rfl rfl rfl rfl rfl (by kernel_rfl) Try.func6 (by kernel_rfl)
    (of_decide_eq_true (by kernel_rfl)) (by unfold Func.isWrapper; first | (rw [if_pos (by decide +kernel)]; kernel_rfl) | (rw [if_neg (by decide +kernel)]; exact ⟨rfl, rfl⟩))
    (fun os started H enc _ => measures_lifted os started H enc)

#print axioms measures_holds
end Go.Proofs.Ytlnekinnblnciaa
