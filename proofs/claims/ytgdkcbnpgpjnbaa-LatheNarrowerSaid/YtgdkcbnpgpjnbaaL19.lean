/-
  Mathematics of the statements of layer 5: what is valid, what CheckCut says of the outermost cut.
-/
import Derived.Test.YtgdkcbnpgpjnbaaL18
import Derived.Test.YtgdkcbnpgpjnbaaL7
namespace Go.Proofs.Ytgdkcbnpgpjnbaa
open Go.RowKit

theorem vld_er {b : Bk} {P : List Smp} (h : vldG b P = true) : erL b P = 0 ∧ BkOk b ∧ PsOk P ∧ P.length ≤ 40 := by
  obtain ⟨h1, h2, h3⟩ := vldG_ok h
  have he : erL b P = 0 := by unfold erL; rw [orL_of h2, orL_of h3]; rfl
  exact ⟨he, (erL_ok he).1, (erL_ok he).2.1, h1⟩
theorem outE_none {b : Bk} {P : List Smp} (h : vldG b P = true) (hs : sol b P P.length = none) : outE b P = 15 ∧ outR b P = [] := by
  unfold outE outR
  rw [if_pos (vld_er h).1, if_pos (vld_er h).1, hs]
  exact ⟨rfl, rfl⟩
theorem outE_some {b : Bk} {P : List Smp} {X : List Int} (h : vldG b P = true) (hs : sol b P P.length = some X) : outE b P = 0 ∧ outR b P = X := by
  unfold outE outR
  rw [if_pos (vld_er h).1, if_pos (vld_er h).1, hs]
  exact ⟨rfl, rfl⟩
theorem erC_vld {b : Bk} {P : List Smp} {R : List Int} (h : vldG b P = true) : erC b P R = ckR P.length R := by
  obtain ⟨_, h2, h3⟩ := vldG_ok h
  unfold erC
  rw [orL_of h2, orL_of h3]
  unfold orL orL
  split
  · rename_i e; exact e.symm
  · rfl
theorem cut_iff {b : Bk} {P : List Smp} {R : List Int} (h : vldG b P = true) : cutE b P R = 0 ↔ ckR P.length R = 0 ∧ Keeps b P P.length (fx R) ∧ Cores b P P.length (fx R) := by
  obtain ⟨_, hb, _, _⟩ := vld_er h
  unfold cutE
  rw [erC_vld h]
  constructor
  · intro e
    by_cases h0 : ckR P.length R = 0
    · rw [if_pos h0] at e
      have hn : brkE b P R = none := by
        cases hq : brkE b P R with
        | none => rfl
        | some x => rw [hq] at e; simp at e
      exact ⟨h0, (brkE_none hb).1 hn⟩
    · rw [if_neg h0] at e; exact absurd e h0
  · rintro ⟨h0, hk⟩
    rw [if_pos h0, (brkE_none hb).2 hk]
    rfl
theorem ckR_of {n : Nat} {R : List Int} (hl : R.length = n) (h : ∀ i, i < n → -16777216 ≤ fx R i ∧ fx R i ≤ 16777216) : ckR n R = 0 := by
  unfold ckR
  rw [if_neg (by omega), if_pos]
  rw [List.all_eq_true]
  intro r hr
  obtain ⟨i, hi, rfl⟩ := List.getElem_of_mem hr
  have := h i (by omega)
  rw [fx_eq hi] at this
  simp only [far, win, Bool.not_not, Bool.and_eq_true, decide_eq_true_eq]
  exact this
theorem top_bd {b : Bk} {P : List Smp} {n : Nat} {x : Nat → Int} (hb : BkOk b) (hP : PsOk P) (hk : Keeps b P n x) (hc : Cores b P n x) {i : Nat} (hi : i < n) : -4194304 ≤ x i ∧ x i ≤ 8388608 := by
  have h1 := (hk i hi).1
  have h2 := hc i hi
  have h3 := hP.at_ i
  have := hb.core
  have := hb.rim
  omega
theorem top_ckR {b : Bk} {P : List Smp} {X : List Int} (h : vldG b P = true) (ht : Top b P P.length X) : ckR P.length X = 0 := by
  obtain ⟨_, hb, hP, _⟩ := vld_er h
  exact ckR_of ht.len (fun i hi => by have := top_bd hb hP ht.keeps ht.cores hi; omega)
theorem top_of {b : Bk} {P : List Smp} {X : List Int} (h : vldG b P = true) (hs : sol b P P.length = some X) : Top b P P.length X := (sol_some (vld_er h).2.1 hs).1
theorem out_cut {b : Bk} {P : List Smp} {X : List Int} (h : vldG b P = true) (hs : sol b P P.length = some X) : cutE b P X = 0 := by
  have ht := top_of h hs
  exact (cut_iff h).2 ⟨top_ckR h ht, ht.keeps, ht.cores⟩
theorem out_no {b : Bk} {P : List Smp} {R : List Int} (h : vldG b P = true) (hs : sol b P P.length = none) : cutE b P R ≠ 0 := fun e =>
  sol_none (vld_er h).2.1 hs ⟨fx R, ((cut_iff h).1 e).2⟩
theorem out_up {b : Bk} {P : List Smp} {X R : List Int} (h : vldG b P = true) (hs : sol b P P.length = some X) (e : cutE b P R = 0) : R.length = P.length ∧ ∀ i, i < P.length → fx R i ≤ fx X i := by
  have ht := top_of h hs
  obtain ⟨h1, h2, _⟩ := (cut_iff h).1 e
  exact ⟨(ckR_ok h1).1, fun i hi => ht.upper _ h2 i hi⟩
end Go.Proofs.Ytgdkcbnpgpjnbaa
