/-
  Silences as lists of pairs: plain mathematics.
-/
import Derived.Test.YtlnekinnblnciaaA9
namespace Go.Proofs.Ytlnekinnblnciaa
open Go.RowKit

theorem tk_bd (n : Int) (hn : 1 ≤ n) : ∀ (bs : List Bool) (i f : Nat), f ≤ i → ∀ p ∈ tk n bs i f, f ≤ p.1 ∧ p.1 < p.2 ∧ i ≤ p.2 ∧ p.2 ≤ i + bs.length := by
  intro bs
  induction bs with
  | nil =>
    intro i f hf p hp
    simp only [tk] at hp
    split at hp
    · simp only [List.mem_singleton] at hp
      subst hp
      simp; omega
    · cases hp
  | cons b bs ih =>
    intro i f hf p hp
    simp only [tk] at hp
    split at hp
    · have := ih (i + 1) f (by omega) p hp
      simp only [List.length_cons]; omega
    · rcases List.mem_append.1 hp with hp | hp
      · split at hp
        · simp only [List.mem_singleton] at hp
          subst hp
          simp; omega
        · cases hp
      · have := ih (i + 1) (i + 1) (Nat.le_refl _) p hp
        simp only [List.length_cons]; omega

theorem tk_sorted (n : Int) (hn : 1 ≤ n) : ∀ (bs : List Bool) (i f : Nat), f ≤ i → (tk n bs i f).Pairwise fun p r => p.2 < r.1 := by
  intro bs
  induction bs with
  | nil => intro i f hf; simp only [tk]; split <;> simp
  | cons b bs ih =>
    intro i f hf
    simp only [tk]
    split
    · exact ih (i + 1) f (by omega)
    · split
      · simp only [List.singleton_append, List.pairwise_cons]
        refine ⟨fun r hr => ?_, ih _ _ (Nat.le_refl _)⟩
        have := tk_bd n hn bs (i + 1) (i + 1) (Nat.le_refl _) r hr
        simp; omega
      · simpa using ih (i + 1) (i + 1) (Nat.le_refl _)

/-- The run at hand is closed some time. -/
theorem tk_run : ∀ (bs : List Bool) (i f : Nat), f < i → ∃ p ∈ tk 1 bs i f, p.1 = f ∧ i ≤ p.2 := by
  intro bs
  induction bs with
  | nil => intro i f hf; exact ⟨(f, i), by simp only [tk]; rw [if_pos (by omega)]; simp, rfl, Nat.le_refl _⟩
  | cons b bs ih =>
    intro i f hf
    simp only [tk]
    split
    · obtain ⟨p, hp, h1, h2⟩ := ih (i + 1) f (by omega)
      exact ⟨p, hp, h1, by omega⟩
    · exact ⟨(f, i), by rw [if_pos (by omega)]; simp, rfl, Nat.le_refl _⟩

theorem tk_iff : ∀ (bs : List Bool) (i f j : Nat), f ≤ i → f ≤ j → ((∃ p ∈ tk 1 bs i f, p.1 ≤ j ∧ j < p.2) ↔ (j < i ∨ (i ≤ j ∧ bs[j - i]? = some true))) := by
  intro bs
  induction bs with
  | nil =>
    intro i f j hf hj
    simp only [tk]
    constructor
    · rintro ⟨p, hp, h1, h2⟩
      split at hp
      · simp only [List.mem_singleton] at hp
        subst hp
        exact .inl h2
      · cases hp
    · rintro (h | ⟨_, h⟩)
      · exact ⟨(f, i), by rw [if_pos (by omega)]; simp, hj, h⟩
      · simp at h
  | cons b bs ih =>
    intro i f j hf hj
    cases b with
    | true =>
      simp only [tk, if_true]
      rw [ih (i + 1) f j (by omega) hj]
      constructor
      · rintro (h | ⟨h1, h2⟩)
        · rcases Nat.lt_or_ge j i with h3 | h3
          · exact .inl h3
          · obtain rfl : j = i := by omega
            exact .inr ⟨Nat.le_refl _, by simp⟩
        · refine .inr ⟨by omega, ?_⟩
          rw [show j - i = (j - (i + 1)) + 1 from by omega]
          simpa using h2
      · rintro (h | ⟨h1, h2⟩)
        · exact .inl (by omega)
        · rcases Nat.lt_or_ge j (i + 1) with h3 | h3
          · exact .inl h3
          · refine .inr ⟨h3, ?_⟩
            rw [show j - i = (j - (i + 1)) + 1 from by omega] at h2
            simpa using h2
    | false =>
      have hfi : (f < i ∨ f = i) := by omega
      simp only [tk, Bool.false_eq_true, if_false]
      constructor
      · rintro ⟨p, hp, h1, h2⟩
        rcases List.mem_append.1 hp with hp | hp
        · split at hp
          · simp only [List.mem_singleton] at hp
            subst hp
            exact .inl h2
          · cases hp
        · have hb := tk_bd 1 (by omega) bs (i + 1) (i + 1) (Nat.le_refl _) p hp
          have := (ih (i + 1) (i + 1) j (Nat.le_refl _) (by omega)).1 ⟨p, hp, h1, h2⟩
          rcases this with h | ⟨h3, h4⟩
          · omega
          · refine .inr ⟨by omega, ?_⟩
            rw [show j - i = (j - (i + 1)) + 1 from by omega]
            simpa using h4
      · rintro (h | ⟨h1, h2⟩)
        · exact ⟨(f, i), List.mem_append_left _ (by rw [if_pos (by omega)]; simp), hj, h⟩
        · rcases Nat.lt_or_ge j (i + 1) with h3 | h3
          · obtain rfl : j = i := by omega
            simp at h2
          · rw [show j - i = (j - (i + 1)) + 1 from by omega] at h2
            obtain ⟨p, hp, h4, h5⟩ := (ih (i + 1) (i + 1) j (Nat.le_refl _) (by omega)).2 (.inr ⟨h3, by simpa using h2⟩)
            exact ⟨p, List.mem_append_right _ hp, h4, h5⟩

theorem tk_filter (n : Int) (hn : 1 ≤ n) : ∀ (bs : List Bool) (i f : Nat), f ≤ i → tk n bs i f = (tk 1 bs i f).filter fun p => decide (n ≤ (p.2 : Int) - p.1) := by
  have one : ∀ (i f : Nat), (if n ≤ (i : Int) - f then [(f, i)] else []) = (if (1 : Int) ≤ (i : Int) - f then [(f, i)] else []).filter fun p => decide (n ≤ (p.2 : Int) - p.1) := by
    intro i f
    by_cases h : n ≤ (i : Int) - f
    · rw [if_pos h, if_pos (by omega)]; simp [h]
    · rw [if_neg h]
      split
      · simp [h]
      · rfl
  intro bs
  induction bs with
  | nil => intro i f hf; simp only [tk]; exact one i f
  | cons b bs ih =>
    intro i f hf
    simp only [tk]
    split
    · exact ih (i + 1) f (by omega)
    · rw [List.filter_append, ← one, ← ih (i + 1) (i + 1) (Nat.le_refl _)]

theorem tk_mono : ∀ (bs bs' : List Bool) (i f f' : Nat), bs.length = bs'.length → (∀ j : Nat, bs[j]? = some true → bs'[j]? = some true) → f' ≤ f → f ≤ i →
    ∀ p ∈ tk 1 bs i f, ∃ p' ∈ tk 1 bs' i f', p'.1 ≤ p.1 ∧ p.2 ≤ p'.2 := by
  intro bs
  induction bs with
  | nil =>
    intro bs' i f f' hl _ h1 h2 p hp
    obtain rfl : bs' = [] := List.length_eq_zero_iff.1 hl.symm
    simp only [tk] at hp ⊢
    split at hp
    · simp only [List.mem_singleton] at hp
      subst hp
      exact ⟨(f', i), by rw [if_pos (by omega)]; simp, h1, Nat.le_refl _⟩
    · cases hp
  | cons b bs ih =>
    intro bs' i f f' hl hm h1 h2 p hp
    cases bs' with
    | nil => simp at hl
    | cons b' bs' =>
      have hl' : bs.length = bs'.length := by simpa using hl
      have hm' : ∀ j : Nat, bs[j]? = some true → bs'[j]? = some true := fun j hj => by have := hm (j + 1) (by simpa using hj); simpa using this
      cases b with
      | true =>
        obtain rfl : b' = true := by have := hm 0 (by simp); simpa using this
        simp only [tk, if_true] at hp ⊢
        exact ih bs' (i + 1) f f' hl' hm' h1 (by omega) p hp
      | false =>
        simp only [tk, Bool.false_eq_true, if_false] at hp
        cases b' with
        | true =>
          simp only [tk, if_true]
          rcases List.mem_append.1 hp with hp | hp
          · split at hp
            · simp only [List.mem_singleton] at hp
              subst hp
              obtain ⟨q, hq, h3, h4⟩ := tk_run bs' (i + 1) f' (by omega)
              exact ⟨q, hq, by simp; omega, by simp; omega⟩
            · cases hp
          · exact ih bs' (i + 1) (i + 1) f' hl' hm' (by omega) (Nat.le_refl _) p hp
        | false =>
          simp only [tk, Bool.false_eq_true, if_false]
          rcases List.mem_append.1 hp with hp | hp
          · split at hp
            · rename_i hc
              simp only [List.mem_singleton] at hp
              subst hp
              exact ⟨(f', i), List.mem_append_left _ (by rw [if_pos (by omega)]; simp), h1, Nat.le_refl _⟩
            · cases hp
          · obtain ⟨q, hq, h3⟩ := ih bs' (i + 1) (i + 1) (i + 1) hl' hm' (Nat.le_refl _) (Nat.le_refl _) p hp
            exact ⟨q, List.mem_append_right _ hq, h3⟩

/-- Where the next kept element of a list lies among those that are kept. -/
theorem filter_at {α : Type} (P : α → Bool) (x : List α) (i : Nat) (hi : i < x.length) (hp : P x[i] = true) :
    ((x.take i).filter P).length < (x.filter P).length ∧ (x.filter P)[((x.take i).filter P).length]? = some x[i] ∧ ((x.take (i + 1)).filter P).length = ((x.take i).filter P).length + 1 := by
  have e : x = x.take i ++ x[i] :: x.drop (i + 1) := by rw [← List.drop_eq_getElem_cons hi, List.take_append_drop]
  have e2 : x.filter P = (x.take i).filter P ++ x[i] :: (x.drop (i + 1)).filter P := by
    conv => lhs; rw [e]
    rw [List.filter_append, List.filter_cons, if_pos hp]
  refine ⟨?_, ?_, ?_⟩
  · rw [e2, List.length_append, List.length_cons]; omega
  · rw [e2, List.getElem?_append_right (Nat.le_refl _), Nat.sub_self]; rfl
  · rw [List.take_succ_eq_append_getElem hi, List.filter_append, List.length_append, List.filter_cons, if_pos hp]; rfl
theorem filter_not {α : Type} (P : α → Bool) (x : List α) (i : Nat) (hi : i < x.length) (hp : P x[i] = false) :
    ((x.take (i + 1)).filter P).length = ((x.take i).filter P).length := by
  rw [List.take_succ_eq_append_getElem hi, List.filter_append, List.length_append, List.filter_cons, if_neg (by simp [hp])]; simp
end Go.Proofs.Ytlnekinnblnciaa
