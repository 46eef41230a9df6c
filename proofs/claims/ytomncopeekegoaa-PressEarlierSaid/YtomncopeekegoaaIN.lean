/-
  Mathematics of PressEarlier: the earliest starts are right; none of right ones is earlier, with more presses and places neither.
-/
import Derived.Test.YtomncopeekegoaaIM
namespace Go.Proofs.Ytomncopeekegoaa
open Go.RowKit

theorem getD_take {l : List Int} {k i : Nat} (h : i < k) : (l.take k).getD i 0 = l.getD i 0 := by
  rw [List.getD_eq_getElem?_getD, List.getD_eq_getElem?_getD, List.getElem?_take_of_lt h]
theorem srt_get (p b : Nat) (st rs : Int) {i m : Nat} (h : i < m) : (srt p b st rs m).getD i 0 = ear p b st rs (srt p b st rs i) := by
  have h1 := srt_take p b st rs (k := i + 1) (m := m) (by omega)
  rw [← getD_take (k := i + 1) (by omega), h1, srt]
  have hl := srt_len p b st rs i
  conv => lhs; rw [show i = (srt p b st rs i).length from hl.symm]
  rw [hl]
  have := getD_snoc_eq (srt p b st rs i) (ear p b st rs (srt p b st rs i))
  rwa [hl] at this
/-- Right starts. -/
structure Rgt (p b : Nat) (st rs : Int) (l : List Int) : Prop where
  srt : Srt l
  ear : ∀ i, i < l.length → Proofs.Ytomncopeekegoaa.ear p b st rs (l.take i) ≤ l.getD i 0
theorem srt_rgt {p b : Nat} (st rs : Int) (hp : 1 ≤ p) (hb : 1 ≤ b) (m : Nat) : Rgt p b st rs (srt p b st rs m) :=
  ⟨(srt_ok hp hb m).1, fun i hi => by rw [srt_len] at hi; rw [srt_take p b st rs (Nat.le_of_lt hi), srt_get p b st rs hi]; exact Int.le_refl _⟩
theorem ear_mono {p b p' b' : Nat} {st rs : Int} {l l' : List Int} (hpp : p ≤ p') (hbb : b ≤ b') (hp : 1 ≤ p) (hb : 1 ≤ b) (hs : Srt l') (hl : l'.length = l.length) (h : ∀ i, i < l.length → l'.getD i 0 ≤ l.getD i 0) : ear p' b' st rs l' ≤ ear p b st rs l := by
  have h2 : ear p b st rs l ≤ ear p b st rs l := Int.le_refl _
  rw [ear_le_iff (l := l)] at h2
  rw [ear_le_iff (l := l')]
  refine ⟨h2.1, fun h3 => ?_, fun h3 => ?_⟩
  · have h4 := (hs (l'.length - b') (l'.length - b) (by omega) (by omega)).2
    have h5 := h (l'.length - b) (by omega)
    have h6 := h2.2.1 (by omega)
    rw [← hl] at h6
    omega
  · have h4 := (hs (l'.length - p') (l'.length - p) (by omega) (by omega)).2
    have h5 := h (l'.length - p) (by omega)
    have h6 := h2.2.2 (by omega)
    rw [← hl] at h6
    omega
/-- No right starts have a disc that starts earlier; nor with fewer presses or places. -/
theorem srt_min {p b p' b' : Nat} {st rs : Int} {l : List Int} (hpp : p ≤ p') (hbb : b ≤ b') (hp : 1 ≤ p) (hb : 1 ≤ b) (h : Rgt p b st rs l) : ∀ k, k ≤ l.length → ∀ i, i < k → (srt p' b' st rs k).getD i 0 ≤ l.getD i 0
  | 0, _, i, hi => absurd hi (by omega)
  | k + 1, hk, i, hi => by
    have ih := srt_min (p' := p') (b' := b') hpp hbb hp hb h k (by omega)
    rw [srt_get p' b' st rs hi]
    rcases Nat.lt_or_ge i k with h1 | h1
    · have := ih i h1
      rwa [srt_get p' b' st rs h1] at this
    · have hik : i = k := by omega
      subst hik
      refine Int.le_trans ?_ (h.ear i (by omega))
      refine ear_mono hpp hbb hp hb (srt_ok (by omega) (by omega) i).1 (by rw [srt_len, List.length_take]; omega) (fun j hj => ?_)
      rw [List.length_take] at hj
      rw [getD_take (by omega)]
      exact ih j (by omega)
theorem csR_cases {p b : Nat} {st rs : Int} {l : List Int} (hc : ckH p b st rs l.length = 0) :
    (∃ i, i < l.length ∧ csR p b st rs l = ((i : Int), 3)) ∨ (∃ i, i < l.length ∧ csR p b st rs l = ((i : Int), 20)) ∨ (csR p b st rs l = ((l.length : Int), 0) ∧ Rgt p b st rs l) := by
  have fs : ∀ (P : Nat → Bool) (n : Nat), (∃ i, i < n ∧ P i = true ∧ ∀ j, j < i → P j = false) ∨ ∀ j, j < n → P j = false := by
    intro P n
    induction n with
    | zero => exact .inr (fun j hj => absurd hj (by omega))
    | succ n ih =>
      rcases ih with ⟨i, h1, h2, h3⟩ | h
      · exact .inl ⟨i, by omega, h2, h3⟩
      · cases hp : P n
        · refine .inr (fun j hj => ?_)
          rcases Nat.lt_or_ge j n with h4 | h4
          · exact h j h4
          · have : j = n := by omega
            subst this; exact hp
        · exact .inl ⟨n, by omega, hp, h⟩
  rcases fs (bad1 l) l.length with ⟨i, h1, h2, h3⟩ | h
  · exact .inl ⟨i, h1, csR_1 hc h1 h2 h3⟩
  · rcases fs (bad2 p b st rs l) l.length with ⟨i, h1, h2, h3⟩ | h'
    · exact .inr (.inl ⟨i, h1, csR_2 hc h h1 h2 h3⟩)
    · refine .inr (.inr ⟨csR_3 hc h h', Srt.of h, fun i hi => ?_⟩)
      have := h' i hi
      unfold bad2 at this
      simp only [decide_eq_false_iff_not] at this
      omega
theorem csR_srt {p b m : Nat} {st rs : Int} (hc : ckH p b st rs m = 0) : csR p b st rs (srt p b st rs m) = ((m : Int), 0) := by
  obtain ⟨hp, hb, -⟩ := ckH_0.1 hc
  have hr := srt_rgt (p := p) (b := b) st rs (by omega) (by omega) m
  have hl := srt_len p b st rs m
  have h := csR_3 (p := p) (b := b) (st := st) (rs := rs) (l := srt p b st rs m) (by rw [hl]; exact hc) (fun j hj => ?_) (fun j hj => ?_)
  · rw [hl] at h; exact h
  · unfold bad1
    simp only [decide_eq_false_iff_not]
    unfold prv
    split
    · have := (hr.srt j j (Nat.le_refl _) hj).1; omega
    · have := (hr.srt (j - 1) j (by omega) hj).2; omega
  · unfold bad2
    simp only [decide_eq_false_iff_not]
    have := hr.ear j hj
    show ¬ _ < ear p b st rs _
    omega
end Go.Proofs.Ytomncopeekegoaa
