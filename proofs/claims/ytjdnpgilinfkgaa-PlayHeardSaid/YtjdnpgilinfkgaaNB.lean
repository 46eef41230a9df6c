/-
  The mathematics of arms and of landing: where a tip jumps, where it lands.
-/
import Derived.Test.YtjdnpgilinfkgaaMD
import Derived.Test.YtjdnpgilinfkgaaOr
namespace Go.Proofs.Ytjdnpgilinfkgaa
open Go.RowKit

/-- To which side a tip goes at a bend: 1, -1; 0: it stays. -/
def jmB (a : Int × Int) (b : Int) : Int := if a.1 < b - a.2 then 1 else if a.1 < a.2 - b then -1 else 0
/-- The first sample where a tip leaves its groove, and to which side. -/
def jmL (a : Int × Int) (l : List Smp) : Option (Nat × Int) := (bns l.length).findSome? fun i => if jmB a (bdL l i) = 0 then none else some (i, jmB a (bdL l i))
def ckA (a : Int × Int) : Int := if win a.1 0 67108864 && win a.2 (-67108864) 67108864 then 0 else 2
def jmEr (a : Int × Int) (l : List Smp) : Int := orL [ckA a, ckG l]
def jmI (a : Int × Int) (l : List Smp) : Nat := if jmEr a l = 0 then ((jmL a l).getD (0, 0)).1 else 0
def jmT (a : Int × Int) (l : List Smp) : Int := if jmEr a l = 0 then ((jmL a l).getD (0, 0)).2 else 0
def jmE (a : Int × Int) (l : List Smp) : Int := if jmEr a l = 0 then (if jmL a l = none then 5 else 0) else jmEr a l
section
variable {a : Int × Int} {l : List Smp} {i : Nat}
theorem jmL_none (h : ∀ i ∈ bns l.length, jmB a (bdL l i) = 0) : jmL a l = none := by
  unfold jmL
  rw [List.findSome?_eq_none_iff]
  intro i hi
  rw [if_pos (h i hi)]
theorem jmL_some {pre : List Nat} (hp : pre ++ [i] <+: bns l.length) (h : ∀ v ∈ pre, jmB a (bdL l v) = 0) (hu : jmB a (bdL l i) ≠ 0) : jmL a l = some (i, jmB a (bdL l i)) := by
  obtain ⟨d, hd⟩ := hp
  unfold jmL
  rw [← hd, List.append_assoc, List.findSome?_append, List.findSome?_eq_none_iff.2 (fun v hv => by rw [if_pos (h v hv)])]
  simp [hu]
theorem jmL_none_all (h : jmL a l = none) (h1 : 1 ≤ i) (h2 : i + 1 < l.length) : jmB a (bdL l i) = 0 := by
  unfold jmL at h
  rw [List.findSome?_eq_none_iff] at h
  have := h i (bns_mem.2 ⟨h1, h2⟩)
  by_cases hz : jmB a (bdL l i) = 0
  · exact hz
  · rw [if_neg hz] at this; cases this
theorem jmL_get {t : Int} (h : jmL a l = some (i, t)) : 1 ≤ i ∧ i + 1 < l.length ∧ jmB a (bdL l i) ≠ 0 ∧ t = jmB a (bdL l i) := by
  unfold jmL at h
  obtain ⟨u, hu, e⟩ := List.exists_of_findSome?_eq_some h
  by_cases hz : jmB a (bdL l u) = 0
  · rw [if_pos hz] at e; cases e
  · rw [if_neg hz] at e
    injection e with e
    injection e with e1 e2
    subst e1
    exact ⟨(bns_mem.1 hu).1, (bns_mem.1 hu).2, hz, e2.symm⟩
theorem jmB_0 {b : Int} : jmB a b = 0 ↔ b - a.2 ≤ a.1 ∧ a.2 - b ≤ a.1 := by
  unfold jmB
  split
  · constructor
    · intro h; omega
    · intro h; omega
  · split
    · constructor
      · intro h; omega
      · intro h; omega
    · constructor
      · intro _; omega
      · intro _; rfl
theorem jmB_cases (a : Int × Int) (b : Int) : (jmB a b = 1 ∧ a.1 < b - a.2) ∨ (jmB a b = -1 ∧ a.1 < a.2 - b) ∨ (jmB a b = 0 ∧ b - a.2 ≤ a.1 ∧ a.2 - b ≤ a.1) := by
  unfold jmB
  split
  · exact .inl ⟨rfl, by assumption⟩
  · split
    · exact .inr (.inl ⟨rfl, by assumption⟩)
    · exact .inr (.inr ⟨rfl, by omega, by omega⟩)
/-- The best arm holds everywhere. -/
theorem ba_holds (he : Edg l) {h : Int} (hh : (baL l).1 ≤ h) : jmL (h, (baL l).2) l = none := by
  refine jmL_none fun i hi => ?_
  obtain ⟨h1, h2⟩ := bns_mem.1 hi
  have h3 : 3 ≤ l.length := by omega
  have k1 := (loB_at he h3).2 i h1 h2
  have k2 := (hiB_at he h3).2 i h1 h2
  rw [jmB_0]
  unfold baL at hh ⊢
  rw [if_neg (by omega)] at hh ⊢
  dsimp only at hh ⊢
  omega
/-- An arm that holds everywhere holds no less than the best one; with the same hold it pulls no less. -/
theorem ba_least (he : Edg l) (h : jmL a l = none) (ha : 0 ≤ a.1) : (baL l).1 ≤ a.1 ∧ ((baL l).1 < a.1 ∨ (baL l).2 ≤ a.2 ∨ l.length < 3) := by
  by_cases h3 : l.length < 3
  · unfold baL; rw [if_pos h3]; exact ⟨ha, .inr (.inr h3)⟩
  · obtain ⟨i, h1, h2, e1⟩ := (loB_at he (by omega)).1
    obtain ⟨j, h4, h5, e2⟩ := (hiB_at he (by omega)).1
    have k1 := jmB_0.1 (jmL_none_all h h1 h2)
    have k2 := jmB_0.1 (jmL_none_all h h4 h5)
    unfold baL
    rw [if_neg h3]
    dsimp only
    omega
theorem ba_bd (he : Edg l) : 0 ≤ (baL l).1 ∧ (baL l).1 ≤ 33554432 ∧ -67108864 ≤ (baL l).2 ∧ (baL l).2 ≤ 67108864 := by
  unfold baL
  split
  · dsimp only; omega
  · have := loHi_bd he (by omega)
    dsimp only
    omega
theorem ckA_of (h1 : 0 ≤ a.1 ∧ a.1 ≤ 67108864) (h2 : -67108864 ≤ a.2 ∧ a.2 ≤ 67108864) : ckA a = 0 := by
  unfold ckA win
  rw [if_pos (by simp only [Bool.and_eq_true, decide_eq_true_eq]; omega)]
theorem jmEr_ok (h : jmEr a l = 0) : ckA a = 0 ∧ ckG l = 0 := by
  unfold jmEr orL at h
  split at h
  · rename_i h1
    unfold orL at h
    split at h
    · rename_i h2; exact ⟨h1, h2⟩
    · rename_i h2; exact absurd h h2
  · rename_i h1; exact absurd h h1
theorem jmEr_of (h1 : ckA a = 0) (h2 : ckG l = 0) : jmEr a l = 0 := by simp [jmEr, orL, h1, h2]
theorem ckA_ok (h : ckA a = 0) : (0 ≤ a.1 ∧ a.1 ≤ 67108864) ∧ -67108864 ≤ a.2 ∧ a.2 ≤ 67108864 := by
  unfold ckA win at h
  split at h
  · rename_i h1
    simp only [Bool.and_eq_true, decide_eq_true_eq] at h1
    omega
  · exact absurd h (by decide)
end

/-- Whether a tip at x is between the edges of a sample. -/
def drB (l : List Smp) (rs : List Int) (x : Int) (i : Nat) : Bool := win x (atI rs i - innW l i) (atI rs i + outW l i)
def ckRd (l : List Smp) (rs : List Int) : Int := if rs.length = l.length then (if rs.all (fun r => win r (-16777216) 16777216) then 0 else 2) else 17
end Go.Proofs.Ytjdnpgilinfkgaa
