/-
  Blanks that are moved, and milder blanks: mathematics.
-/
import Derived.Test.YtgdkcbnpgpjnbaaL19
namespace Go.Proofs.Ytgdkcbnpgpjnbaa
open Go.RowKit

def mvB (b : Bk) (d : Int) : Bk := ⟨b.per, b.rim + d, b.core + d, b.land, b.slow, b.fast⟩
theorem keeps_mv {b : Bk} {P : List Smp} {n : Nat} {x : Nat → Int} (d : Int) (h : Keeps b P n x) : Keeps (mvB b d) P n (fun i => x i + d) := by
  intro i hi
  obtain ⟨h1, h2, h3⟩ := h i hi
  refine ⟨?_, fun h0 => ?_, fun h0 => ?_⟩
  · show x i + d ≤ b.rim + d - pout P i; omega
  · have := h2 h0
    show x i + d ≤ x (i - 1) + d - b.slow ∧ x (i - 1) + d ≤ x i + d + b.fast
    omega
  · have := h3 h0
    show x i + d ≤ x (i - b.per.toNat) + d + wLand b P i
    omega
theorem cores_mv {b : Bk} {P : List Smp} {n : Nat} {x : Nat → Int} (d : Int) (h : Cores b P n x) : Cores (mvB b d) P n (fun i => x i + d) := by
  intro i hi
  have := h i hi
  show b.core + d ≤ x i + d + pin P i
  omega
theorem mv_back (b : Bk) (d : Int) : mvB (mvB b d) (-d) = b := by
  cases b; simp only [mvB, Bk.mk.injEq, true_and, and_true]; omega
theorem fx_map {X : List Int} {d : Int} {i : Nat} (h : i < X.length) : fx (X.map (· + d)) i = fx X i + d := by
  rw [fx_eq (by simpa using h), fx_eq h]; simp
theorem sol_mv {b : Bk} {P : List Smp} {n : Nat} {X : List Int} {d : Int} (hb : BkOk b) (hb' : BkOk (mvB b d)) (h : sol b P n = some X) : sol (mvB b d) P n = some (X.map (· + d)) := by
  have ht := (sol_some hb h).1
  refine top_sol hb' ⟨by simpa using ht.len, ?_, ?_, fun y hy i hi => ?_⟩
  · exact keeps_congr (fun j hj => (fx_map (by rw [ht.len]; exact hj)).symm) (keeps_mv d ht.keeps)
  · exact cores_congr (fun j hj => (fx_map (by rw [ht.len]; exact hj)).symm) (cores_mv d ht.cores)
  · have h1 := keeps_mv (-d) hy
    rw [mv_back] at h1
    have := ht.upper _ h1 i hi
    rw [fx_map (by rw [ht.len]; exact hi)]
    omega
theorem sol_mv_none {b : Bk} {P : List Smp} {n : Nat} {d : Int} (hb : BkOk b) (hb' : BkOk (mvB b d)) (h : sol b P n = none) : sol (mvB b d) P n = none := by
  cases hq : sol (mvB b d) P n with
  | none => rfl
  | some Y =>
    have hbb : BkOk (mvB (mvB b d) (-d)) := by rw [mv_back]; exact hb
    have := sol_mv hb' hbb hq
    rw [mv_back, h] at this
    cases this
/-- A blank is milder than another one. -/
structure Mild (b m : Bk) : Prop where
  per : m.per = b.per
  rim : b.rim ≤ m.rim
  core : m.core ≤ b.core
  land : m.land ≤ b.land
  slow : m.slow ≤ b.slow
  fast : b.fast ≤ m.fast
theorem sol_mild {b m : Bk} {P : List Smp} {n : Nat} {X : List Int} (hb : BkOk b) (hm : BkOk m) (h : Mild b m) (hs : sol b P n = some X) : ∃ Z, sol m P n = some Z ∧ Z.length = n ∧ ∀ i, i < n → fx X i ≤ fx Z i := by
  have ht := (sol_some hb hs).1
  have hk : Keeps m P n (fx X) := by
    intro i hi
    obtain ⟨h1, h2, h3⟩ := ht.keeps i hi
    have q1 := h.rim; have q2 := h.slow; have q3 := h.fast; have q4 := h.land
    refine ⟨by omega, fun h0 => by have := h2 h0; omega, fun h0 => ?_⟩
    rw [h.per] at h0
    have := h3 h0
    unfold wLand at this ⊢
    rw [h.per]
    omega
  have hc : Cores m P n (fx X) := fun i hi => by have := ht.cores i hi; have := h.core; omega
  obtain ⟨Z, hZ⟩ := (sol_iff hm n).2 ⟨fx X, hk, hc⟩
  have hz := (sol_some hm hZ).1
  exact ⟨Z, hZ, hz.len, fun i hi => hz.upper _ hk i hi⟩
theorem vB_iff {b : Bk} : vB b = true ↔ BkOk b := by
  constructor
  · exact bkOk_of
  · intro h
    have := h.per1; have := h.per2; have := h.core; have := h.corim; have := h.rim; have := h.land1; have := h.land2; have := h.slow; have := h.slowfast; have := h.fast
    unfold vB win
    simp only [Bool.and_eq_true, decide_eq_true_eq]
    omega
theorem vld_of {b m : Bk} {P : List Smp} (h : vldG b P = true) (hm : BkOk m) : vldG m P = true := by
  obtain ⟨h1, h2, h3⟩ := vldG_ok h
  unfold vldG
  simp only [Bool.and_eq_true, decide_eq_true_eq]
  exact ⟨⟨h1, by unfold ckB; rw [if_pos (vB_iff.2 hm)]⟩, h3⟩
end Go.Proofs.Ytgdkcbnpgpjnbaa
