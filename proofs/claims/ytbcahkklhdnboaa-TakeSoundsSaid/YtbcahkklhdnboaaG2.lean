/-
  Contract of the document's possible.
-/
import Derived.Test.YtbcahkklhdnboaaG1
namespace Go.Proofs.Ytbcahkklhdnboaa
open Go.RowKit

theorem placeL_at : ∀ (ps : List Prt) (i : Nat) (e : Int) (k : Nat) (h : k < ps.length), (placeL ps i e)[k]? = some ⟨ps[k], (i + k : Nat), (if k = 0 then e else match (placeL ps i e)[k - 1]? with | some r => r.end_ | none => 0) + ps[k].gp⟩ := by
  intro ps
  induction ps with
  | nil => intro i e k h; simp at h
  | cons x xs ih =>
    intro i e k h
    cases k with
    | zero => simp [placeL]
    | succ k =>
      have := ih (i + 1) (e + x.gp + (x.to - x.fr)) k (by simpa using h)
      simp only [placeL, List.getElem?_cons_succ, Nat.add_sub_cancel, List.getElem_cons_succ]
      rw [this]
      cases k with
      | zero => simp [Pl.end_]
      | succ k => simp; omega
/-- A placed part of a programme: its part, and where it begins. -/
theorem placeL_0 (ps : List Prt) (R : List Pl) (hR : placeL ps 0 0 = R) (h : 0 < ps.length) (h' : 0 < R.length) : R[0].p = ps[0] ∧ R[0].st = ps[0].gp := by
  have := placeL_at ps 0 0 0 h
  rw [hR, List.getElem?_eq_getElem h'] at this
  have := Option.some.inj this
  rw [this]; simp
theorem placeL_s (ps : List Prt) (R : List Pl) (hR : placeL ps 0 0 = R) (k : Nat) (h : k + 1 < ps.length) (h' : k + 1 < R.length) : R[k + 1].p = ps[k + 1] ∧ R[k + 1].st = R[k].end_ + ps[k + 1].gp := by
  have := placeL_at ps 0 0 (k + 1) h
  rw [hR, List.getElem?_eq_getElem h'] at this
  have := Option.some.inj this
  rw [this]
  simp only [Nat.add_sub_cancel, Nat.succ_ne_zero, if_false]
  rw [List.getElem?_eq_getElem (by omega : k < R.length)]
  exact ⟨trivial, rfl⟩

/-- What the document's test of a placed part says, given that the ones before pass. -/
theorem pc_0 (R : List Pl) (h : 0 < R.length) (hq : R[0].st = R[0].p.gp) (hok : PrOk R[0].p) : pc R 0 = !decide (R[0].st < 0) := by
  unfold pc
  rw [List.getElem?_eq_getElem h]
  obtain ⟨o1, o2, -⟩ := hok
  by_cases c : R[0].st < 0
  · simp [pcA, c]
  · have hg : ¬ R[0].p.gp < -R[0].len := by simp only [Pl.len]; omega
    simp [pcA, pcB, pcC, c, hg]
theorem pc_s (R : List Pl) (k : Nat) (h : k + 1 < R.length) (hq : R[k + 1].st = R[k].end_ + R[k + 1].p.gp) (h0 : 0 ≤ R[k].st) :
    pc R (k + 1) = !(decide (R[k + 1].p.gp < -R[k + 1].len) || decide (R[k + 1].p.gp < -R[k].len) || pcC R (k + 1) R[k + 1]) := by
  unfold pc
  rw [List.getElem?_eq_getElem h]
  have hB : pcB R (k + 1) R[k + 1] = decide (R[k + 1].p.gp < -R[k].len) := by
    unfold pcB
    rw [if_neg (by omega), Nat.add_sub_cancel, List.getElem?_eq_getElem (by omega : k < R.length)]
  simp only [hB]
  unfold pcA
  by_cases c : R[k + 1].p.gp < -R[k].len
  · simp [c]
  · have c' : ¬ R[k + 1].st < 0 := by
      simp only [Pl.end_, Pl.len] at hq c
      omega
    rw [decide_eq_false c', decide_eq_false c, Bool.false_or, Bool.or_false]
    simp
theorem pc_st (R : List Pl) (k : Nat) (h : k < R.length) (hp : pc R k = true) : 0 ≤ R[k].st := by
  unfold pc at hp
  rw [List.getElem?_eq_getElem h] at hp
  simp [pcA] at hp
  omega
theorem pcC_1 (R : List Pl) (q : Pl) : pcC R 1 q = false := by simp [pcC]
theorem pcC_2 (R : List Pl) (j : Nat) (h : j < R.length) (q : Pl) : pcC R (j + 2) q = decide (q.st < R[j].end_) := by
  unfold pcC
  rw [if_neg (by omega), Nat.add_sub_cancel, List.getElem?_eq_getElem h]
theorem range_pc (R : List Pl) (k j : Nat) (h : (List.range k).all (pc R) = true) (hj : j < k) : pc R j = true := List.all_eq_true.1 h j (List.mem_range.2 hj)
end Go.Proofs.Ytbcahkklhdnboaa
