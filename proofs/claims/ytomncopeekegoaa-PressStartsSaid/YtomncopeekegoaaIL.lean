/-
  Mathematics of starts: how many are busy, and the earliest time; right starts; the earliest starts are right, and none are earlier.
-/
import Derived.Test.YtomncopeekegoaaI7
namespace Go.Proofs.Ytomncopeekegoaa
open Go.RowKit

/-- How many of some starts are less than L before a time. -/
def bsy (l : List Int) (t L : Int) : Nat := l.countP (fun x => decide (t - x < L))
/-- A list that does not decrease, of which none is below 0. -/
def Srt (l : List Int) : Prop := ∀ (i j : Nat), i ≤ j → j < l.length → 0 ≤ l.getD i 0 ∧ l.getD i 0 ≤ l.getD j 0
theorem Srt.take {l : List Int} (h : Srt l) (k : Nat) : Srt (l.take k) := by
  intro i j hij hj
  rw [List.length_take] at hj
  have e : ∀ u, u < k → (l.take k).getD u 0 = l.getD u 0 := fun u hu => by rw [List.getD_eq_getElem?_getD, List.getD_eq_getElem?_getD, List.getElem?_take_of_lt hu]
  rw [e i (by omega), e j (by omega)]
  exact h i j hij (by omega)
theorem bsy_snoc (l : List Int) (x t L : Int) : bsy (l ++ [x]) t L = bsy l t L + (if t - x < L then 1 else 0) := by
  unfold bsy
  rw [List.countP_append, List.countP_singleton]
  by_cases h : t - x < L <;> simp [h]
theorem bsy_take {l : List Int} {k : Nat} (h : k < l.length) (t L : Int) : bsy (l.take (k + 1)) t L = bsy (l.take k) t L + (if t - l[k] < L then 1 else 0) := by
  rw [List.take_succ_eq_append_getElem h]; exact bsy_snoc _ _ _ _
theorem bsy_le (l : List Int) (t L : Int) : bsy l t L ≤ l.length := List.countP_le_length
/-- Of a list that does not decrease the busy ones are the last ones. -/
theorem bsy_iff {l : List Int} (h : Srt l) (t L : Int) : ∀ m : Nat, 1 ≤ m → (bsy l t L < m ↔ (m ≤ l.length → l.getD (l.length - m) 0 + L ≤ t)) := by
  intro m hm
  constructor
  · intro hb hml
    apply Classical.byContradiction
    intro hc
    -- the last m are all busy
    have h1 : ∀ x ∈ l.drop (l.length - m), decide (t - x < L) = true := by
      intro x hx
      obtain ⟨i, hi, rfl⟩ := List.getElem_of_mem hx
      rw [List.length_drop] at hi
      rw [List.getElem_drop]
      have := (h (l.length - m) (l.length - m + i) (by omega) (by omega)).2
      rw [List.getD_eq_getElem?_getD (i := l.length - m + i), List.getElem?_eq_getElem (by omega)] at this
      simp only [Option.getD_some] at this
      simp only [decide_eq_true_eq]
      omega
    have h2 : l.countP (fun x => decide (t - x < L)) = (l.take (l.length - m)).countP (fun x => decide (t - x < L)) + (l.drop (l.length - m)).countP (fun x => decide (t - x < L)) := by
      rw [← List.countP_append, List.take_append_drop]
    rw [List.countP_eq_length.2 h1, List.length_drop] at h2
    unfold bsy at hb
    omega
  · intro hc
    rcases Nat.lt_or_ge l.length m with h0 | h0
    · exact Nat.lt_of_le_of_lt (bsy_le l t L) h0
    · have hx := hc h0
      have h1 : (l.take (l.length - m + 1)).countP (fun x => decide (t - x < L)) = 0 := by
        rw [List.countP_eq_zero]
        intro x hx2
        obtain ⟨i, hi, rfl⟩ := List.getElem_of_mem hx2
        rw [List.length_take] at hi
        rw [List.getElem_take]
        have := (h i (l.length - m) (by omega) (by omega)).2
        rw [List.getD_eq_getElem?_getD (i := i), List.getElem?_eq_getElem (by omega)] at this
        simp only [Option.getD_some] at this
        simp only [decide_eq_true_eq]
        omega
      have h2 : l.countP (fun x => decide (t - x < L)) = (l.take (l.length - m + 1)).countP (fun x => decide (t - x < L)) + (l.drop (l.length - m + 1)).countP (fun x => decide (t - x < L)) := by
        rw [← List.countP_append, List.take_append_drop]
      have h3 : (l.drop (l.length - m + 1)).countP (fun x => decide (t - x < L)) ≤ (l.drop (l.length - m + 1)).length := List.countP_le_length
      rw [List.length_drop] at h3
      unfold bsy
      omega
theorem foldl_max_le_iff (M : Int) : ∀ (l : List Int) (a : Int), l.foldl max a ≤ M ↔ a ≤ M ∧ ∀ x ∈ l, x ≤ M
  | [], a => by simp
  | x :: l, a => by
    rw [List.foldl_cons, foldl_max_le_iff M l (max a x)]
    simp only [List.mem_cons, forall_eq_or_imp]
    constructor
    · rintro ⟨h1, h2⟩; exact ⟨by omega, by omega, h2⟩
    · rintro ⟨h1, h2, h3⟩; exact ⟨by omega, h3⟩
theorem ear_le_iff {p b : Nat} {st rs t : Int} {l : List Int} : ear p b st rs l ≤ t ↔ 0 ≤ t ∧ (b ≤ l.length → l.getD (l.length - b) 0 + st ≤ t) ∧ (p ≤ l.length → l.getD (l.length - p) 0 + (st + rs) ≤ t) := by
  unfold ear
  rw [foldl_max_le_iff]
  refine and_congr_right (fun _ => ?_)
  unfold endU
  simp only [List.mem_append]
  constructor
  · intro h
    exact ⟨fun h1 => h _ (.inl (by rw [if_pos h1]; simp)), fun h1 => h _ (.inr (by rw [if_pos h1]; simp))⟩
  · rintro ⟨h1, h2⟩ x (hx | hx)
    · split at hx
      · rename_i h3; rw [List.mem_singleton] at hx; rw [hx]; exact h1 h3
      · cases hx
    · split at hx
      · rename_i h3; rw [List.mem_singleton] at hx; rw [hx]; exact h2 h3
      · cases hx
/-- A disc may start just from the earliest time on. -/
theorem free_iff {p b : Nat} {st rs t : Int} {l : List Int} (h : Srt l) (hp : 1 ≤ p) (hb : 1 ≤ b) (ht : 0 ≤ t) : (bsy l t st < b ∧ bsy l t (st + rs) < p) ↔ ear p b st rs l ≤ t := by
  rw [ear_le_iff, bsy_iff h t st b hb, bsy_iff h t (st + rs) p hp]
  exact ⟨fun h => ⟨ht, h.1, h.2⟩, fun h => ⟨h.2.1, h.2.2⟩⟩
/-- The least time at which something ends after t, up to a time: no end lies between, and the earliest time is not before. -/
theorem ear_gt {p b : Nat} {st rs t nx : Int} {l : List Int} (hp : 1 ≤ p) (hb : 1 ≤ b) (ht : 0 ≤ t) (hlt : t < ear p b st rs l) (hnx : ∀ x ∈ l, (t < x + st → nx ≤ x + st) ∧ (t < x + (st + rs) → nx ≤ x + (st + rs))) : nx ≤ ear p b st rs l := by
  apply Classical.byContradiction
  intro hc
  have h1 : ¬ ear p b st rs l ≤ t := by omega
  apply h1
  rw [ear_le_iff]
  have h2 : ear p b st rs l ≤ ear p b st rs l := Int.le_refl _
  rw [ear_le_iff (t := ear p b st rs l)] at h2
  have mem : ∀ m : Nat, 1 ≤ m → m ≤ l.length → l.getD (l.length - m) 0 ∈ l := fun m h h' => by
    rw [List.getD_eq_getElem?_getD, List.getElem?_eq_getElem (by omega)]; exact List.getElem_mem _
  refine ⟨ht, fun h3 => ?_, fun h3 => ?_⟩
  · have := h2.2.1 h3
    have := (hnx _ (mem b hb h3)).1
    omega
  · have := h2.2.2 h3
    have := (hnx _ (mem p hp h3)).2
    omega
theorem getD_snoc_lt {l : List Int} {x : Int} {i : Nat} (h : i < l.length) : (l ++ [x]).getD i 0 = l.getD i 0 := by
  rw [List.getD_eq_getElem?_getD, List.getD_eq_getElem?_getD, List.getElem?_append_left h]
theorem getD_snoc_eq (l : List Int) (x : Int) : (l ++ [x]).getD l.length 0 = x := by
  rw [List.getD_eq_getElem?_getD, List.getElem?_append_right (Nat.le_refl _)]; simp
theorem Srt.snoc {l : List Int} {x : Int} (h : Srt l) (h0 : 0 ≤ x) (hx : ∀ i, i < l.length → l.getD i 0 ≤ x) : Srt (l ++ [x]) := by
  intro i j hij hj
  rw [List.length_append] at hj
  simp only [List.length_cons, List.length_nil, Nat.zero_add] at hj
  rcases Nat.lt_or_ge j l.length with h1 | h1
  · rw [getD_snoc_lt (by omega), getD_snoc_lt h1]; exact h i j hij h1
  · have hjl : j = l.length := by omega
    subst hjl
    rw [getD_snoc_eq]
    rcases Nat.lt_or_ge i l.length with h2 | h2
    · rw [getD_snoc_lt h2]; exact ⟨(h i i (Nat.le_refl _) h2).1, hx i h2⟩
    · have : i = l.length := by omega
      subst this
      rw [getD_snoc_eq]; exact ⟨h0, Int.le_refl _⟩
/-- The earliest time does not come nearer with one more disc. -/
theorem ear_snoc_ge {p b : Nat} {st rs : Int} {l : List Int} (h : Srt l) (hp : 1 ≤ p) (hb : 1 ≤ b) (hx : ∀ i, i < l.length → l.getD i 0 ≤ ear p b st rs l) : ear p b st rs l ≤ ear p b st rs (l ++ [ear p b st rs l]) := by
  rw [ear_le_iff]
  have hs := h.snoc (ear_nonneg p b st rs l) hx
  have h2 : ear p b st rs (l ++ [ear p b st rs l]) ≤ ear p b st rs (l ++ [ear p b st rs l]) := Int.le_refl _
  rw [ear_le_iff (l := l ++ [ear p b st rs l])] at h2
  rw [List.length_append] at h2
  simp only [List.length_cons, List.length_nil, Nat.zero_add] at h2
  refine ⟨h2.1, fun h3 => ?_, fun h3 => ?_⟩
  · have h4 := h2.2.1 (by omega)
    have h5 := (hs (l.length - b) (l.length + 1 - b) (by omega) (by rw [List.length_append]; simp; omega)).2
    rw [getD_snoc_lt (i := l.length - b) (by omega)] at h5
    omega
  · have h4 := h2.2.2 (by omega)
    have h5 := (hs (l.length - p) (l.length + 1 - p) (by omega) (by rw [List.length_append]; simp; omega)).2
    rw [getD_snoc_lt (i := l.length - p) (by omega)] at h5
    omega
/-- The earliest starts do not decrease, and none is after the next one's earliest time. -/
theorem srt_ok {p b : Nat} {st rs : Int} (hp : 1 ≤ p) (hb : 1 ≤ b) : ∀ k, Srt (srt p b st rs k) ∧ ∀ i, i < k → (srt p b st rs k).getD i 0 ≤ ear p b st rs (srt p b st rs k)
  | 0 => ⟨fun i j _ hj => absurd hj (by simp [srt]), fun i hi => absurd hi (by omega)⟩
  | k + 1 => by
    obtain ⟨h1, h2⟩ := srt_ok (st := st) (rs := rs) hp hb k
    have hl := srt_len p b st rs k
    have h3 : ∀ i, i < (srt p b st rs k).length → (srt p b st rs k).getD i 0 ≤ ear p b st rs (srt p b st rs k) := fun i hi => h2 i (by omega)
    refine ⟨h1.snoc (ear_nonneg _ _ _ _ _) h3, fun i hi => ?_⟩
    have h4 := ear_snoc_ge (st := st) (rs := rs) h1 hp hb h3
    rw [srt]
    refine Int.le_trans ?_ h4
    rcases Nat.lt_or_ge i k with h5 | h5
    · rw [getD_snoc_lt (by omega)]; exact h2 i h5
    · have : i = (srt p b st rs k).length := by omega
      subst this
      rw [getD_snoc_eq]; exact Int.le_refl _
theorem srt_take (p b : Nat) (st rs : Int) : ∀ {k m : Nat}, k ≤ m → (srt p b st rs m).take k = srt p b st rs k
  | k, 0, h => by have : k = 0 := by omega
                  subst this; rfl
  | k, m + 1, h => by
    rw [srt]
    rcases Nat.lt_or_ge k (m + 1) with h1 | h1
    · rw [List.take_append_of_le_length (by rw [srt_len]; omega)]; exact srt_take p b st rs (by omega)
    · have : k = m + 1 := by omega
      subst this
      rw [List.take_of_length_le (by rw [List.length_append, srt_len]; simp)]; rfl
end Go.Proofs.Ytomncopeekegoaa
