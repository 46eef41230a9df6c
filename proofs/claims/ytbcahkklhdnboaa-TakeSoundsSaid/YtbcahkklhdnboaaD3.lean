/-
  Contract of the document's CheckTakes.
-/
import Derived.Test.YtbcahkklhdnboaaD2
namespace Go.Proofs.Ytbcahkklhdnboaa
open Go.RowKit

theorem fi_ge (p : TV → Bool) : ∀ (l : List TV) (i : Nat), fi p l i = -1 ∨ (i : Int) ≤ fi p l i := by
  intro l
  induction l with
  | nil => intro i; exact .inl rfl
  | cons t ts ih =>
    intro i
    simp only [fi]
    cases p t
    · rcases ih (i + 1) with h | h
      · exact .inl (by simpa using h)
      · right; simp; omega
    · right; simp
/-- The first index is at most any index with p. -/
theorem fi_le (p : TV → Bool) : ∀ (l : List TV) (i k : Nat) (h : k < l.length), p l[k] = true → (i : Int) ≤ fi p l i ∧ fi p l i ≤ i + k := by
  intro l
  induction l with
  | nil => intro i k h; simp at h
  | cons t ts ih =>
    intro i k h hp
    simp only [fi]
    cases ht : p t
    · cases k with
      | zero => simp [ht] at hp
      | succ k =>
        have := ih (i + 1) k (by simpa using h) (by simpa using hp)
        simp; omega
    · simp; omega
/-- None below k: the first index is not below k. -/
theorem fi_none (p : TV → Bool) : ∀ (l : List TV) (i k : Nat), k ≤ l.length → (∀ x (hx : x < l.length), x < k → p l[x] = false) → ¬ (0 ≤ fi p l i ∧ fi p l i < (i + k : Nat)) := by
  intro l
  induction l with
  | nil => intro i k _ _ h; simp [fi] at h
  | cons t ts ih =>
    intro i k hk hn h
    cases k with
    | zero =>
      rcases fi_ge p (t :: ts) i with h1 | h1
      · omega
      · omega
    | succ k =>
      have ht : p t = false := hn 0 (by simp) (by omega)
      simp only [fi, ht] at h
      refine ih (i + 1) k (by simpa using hk) (fun x hx hxk => ?_) (by simp at h; refine ⟨h.1, ?_⟩; have := h.2; omega)
      exact hn (x + 1) (by simpa using hx) (by omega)
theorem dup_yes (l : List TV) (k j : Nat) (hk : k < l.length) (hj : j < k) (h : (l[k].nm.toList == (l[j]'(by omega)).nm.toList) = true) : decide (fi (pNm l[k].nm) l 0 < (k : Int)) = true := by
  have := fi_le (pNm l[k].nm) l 0 j (by omega) (by unfold pNm; rw [BEq.comm]; exact h)
  simp; omega
theorem dup_no (l : List TV) (k : Nat) (hk : k < l.length) (h : ∀ x (hx : x < l.length), x < k → (l[k].nm.toList == l[x].nm.toList) = false) : decide (fi (pNm l[k].nm) l 0 < (k : Int)) = false := by
  have h1 := fi_le (pNm l[k].nm) l 0 k hk (by unfold pNm; exact beq_self_eq_true _)
  have h2 := fi_none (pNm l[k].nm) l 0 k (by omega) (fun x hx hxk => by unfold pNm; rw [BEq.comm]; exact h x hx hxk)
  simp only [Nat.zero_add] at h2
  simp; omega
theorem rTake_ok (t : TV) (h : ¬ 4096 < t.n) : (rTake t = 0) = (vTake t = true) := by
  unfold rTake; rw [if_neg h]
  cases vTake t <;> simp
end Go.Proofs.Ytbcahkklhdnboaa
