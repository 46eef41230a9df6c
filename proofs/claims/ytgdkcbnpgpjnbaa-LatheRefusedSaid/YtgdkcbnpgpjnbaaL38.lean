/-
  Proofs that a groove does not fit: they are right; circles that are turned; ways without an end: mathematics.
-/
import Derived.Test.YtgdkcbnpgpjnbaaL34
import Derived.Test.YtgdkcbnpgpjnbaaL19
import Derived.Test.YtgdkcbnpgpjnbaaLW
namespace Go.Proofs.Ytgdkcbnpgpjnbaa
open Go.RowKit

def rdx (x : Nat → Int) (a : Int) : Int := if a = -1 then 0 else x a.toNat
theorem edgO_held {b : Bk} {P : List Smp} {x : Nat → Int} {st : Smp} {e : Int × Int × Int} (hb : BkOk b) (hk : Keeps b P P.length x) (hc : Cores b P P.length x) (h : edgO b P st = some e) : rdx x e.2.1 ≤ rdx x e.1 + e.2.2 := by
  have hp := hb.per1
  unfold edgO at h
  split at h
  · cases h
  · rename_i h0
    obtain ⟨i, hi⟩ : ∃ i : Nat, st.2 = (i : Int) := ⟨st.2.toNat, by omega⟩
    have hin : i < P.length := by omega
    obtain ⟨k1, k2, k3⟩ := hk i hin
    have k4 := hc i hin
    rw [hi] at h
    split at h
    · cases h
      dsimp only [rdx]
      rw [if_neg (by omega), if_pos rfl, Int.toNat_natCast]
      omega
    · split at h
      · cases h
        dsimp only [rdx]
        rw [if_pos rfl, if_neg (by omega), Int.toNat_natCast]
        omega
      · split at h
        · rename_i h3
          cases h
          have h4 := k2 (by omega)
          dsimp only [rdx]
          rw [if_neg (by omega), if_neg (by omega), Int.toNat_natCast, show ((i : Int) - 1).toNat = i - 1 by omega]
          omega
        · split at h
          · rename_i h3
            cases h
            have h4 := k2 (by omega)
            dsimp only [rdx]
            rw [if_neg (by omega), if_neg (by omega), Int.toNat_natCast, show ((i : Int) - 1).toNat = i - 1 by omega]
            omega
          · split at h
            · rename_i h3
              cases h
              have h4 := k3 (by omega)
              dsimp only [rdx]
              rw [if_neg (by omega), if_neg (by omega), Int.toNat_natCast, show ((i : Int) - b.per).toNat = i - b.per.toNat by omega]
              exact h4
            · cases h
theorem chn_held {b : Bk} {P : List Smp} {x : Nat → Int} (hb : BkOk b) (hk : Keeps b P P.length x) (hc : Cores b P P.length x) : ∀ (l : List Smp) (a s : Int) (f : Bool) (r : Int × Int), chn b P a s f l = some r → rdx x r.1 ≤ rdx x a + (r.2 - s)
  | [], a, s, f, r, h => by
    simp only [chn, Option.some.injEq] at h
    cases h
    dsimp only
    omega
  | y :: l, a, s, f, r, h => by
    rw [chn] at h
    cases he : edgO b P y with
    | none => rw [he] at h; cases h
    | some e =>
      rw [he] at h
      simp only at h
      split at h
      · cases h
      · rename_i hn
        have h1 := chn_held hb hk hc l _ _ _ _ h
        have h2 := edgO_held hb hk hc he
        have h3 : e.1 = a := Classical.not_not.1 (fun q => hn (.inl q))
        rw [h3] at h2
        omega
theorem prv_sound {b : Bk} {P : List Smp} {S : List Smp} (hb : BkOk b) (h : prv b P S = true) : ¬ Feas b P P.length := by
  rintro ⟨x, hk, hc⟩
  cases S with
  | nil => cases h
  | cons y S =>
    have h : (match chn b P (bgn b P y) 0 true (y :: S) with | none => false | some r => decide (r.1 = bgn b P y) && decide (r.2 < 0)) = true := h
    cases hq : chn b P (bgn b P y) 0 true (y :: S) with
    | none => rw [hq] at h; cases h
    | some r =>
      rw [hq] at h
      simp only [Bool.and_eq_true, decide_eq_true_eq] at h
      have := chn_held hb hk hc _ _ _ _ _ hq
      rw [h.1] at this
      omega
theorem chn_shift {b : Bk} {P : List Smp} (d : Int) : ∀ (l : List Smp) (a s : Int) (f : Bool) (r : Int × Int), chn b P a s f l = some r → chn b P a (s + d) f l = some (r.1, r.2 + d)
  | [], a, s, f, r, h => by
    simp only [chn, Option.some.injEq] at h ⊢
    cases h
    rfl
  | y :: l, a, s, f, r, h => by
    rw [chn] at h ⊢
    cases he : edgO b P y with
    | none => rw [he] at h; cases h
    | some e =>
      rw [he] at h
      simp only at h ⊢
      split at h
      · cases h
      · rename_i hn
        rw [if_neg hn, show s + d + e.2.2 = s + e.2.2 + d by omega]
        exact chn_shift d l _ _ _ _ h
theorem chn_first {b : Bk} {P : List Smp} {l : List Smp} {a s : Int} {r : Int × Int} (h : chn b P a s false l = some r) : chn b P a s true l = some r := by
  cases l with
  | nil => exact h
  | cons y l =>
    rw [chn] at h ⊢
    cases he : edgO b P y with
    | none => rw [he] at h; cases h
    | some e =>
      rw [he] at h
      simp only at h ⊢
      split at h
      · cases h
      · rename_i hn
        rw [if_neg (fun q => hn (q.elim .inl (fun w => absurd w.1 (by simp))))]
        exact h
theorem chn_later {b : Bk} {P : List Smp} {l : List Smp} {a s : Int} {r : Int × Int} (ha : a ≠ -1) (h : chn b P a s true l = some r) : chn b P a s false l = some r := by
  cases l with
  | nil => exact h
  | cons y l =>
    rw [chn] at h ⊢
    cases he : edgO b P y with
    | none => rw [he] at h; cases h
    | some e =>
      rw [he] at h
      simp only at h ⊢
      split at h
      · cases h
      · rename_i hn
        rw [if_neg (fun q => q.elim (fun w => hn (.inl w)) (fun w => ha w.2))]
        exact h
theorem chn_bgn {b : Bk} {P : List Smp} {y : Smp} {l : List Smp} {a s : Int} {f : Bool} {r : Int × Int} (h : chn b P a s f (y :: l) = some r) : bgn b P y = a ∧ (f = false → a ≠ -1) := by
  rw [chn] at h
  unfold bgn
  cases he : edgO b P y with
  | none => rw [he] at h; cases h
  | some e =>
    rw [he] at h
    simp only at h ⊢
    split at h
    · cases h
    · rename_i hn
      exact ⟨Classical.not_not.1 (fun q => hn (.inl q)), fun hf ha => hn (.inr ⟨hf, ha⟩)⟩
/-- What a proof says of its parts. -/
theorem prv_parts {b : Bk} {P : List Smp} {x y : Smp} {xs ys : List Smp} (h : prv b P ((x :: xs) ++ (y :: ys)) = true) : ∃ s1 s, chn b P (bgn b P x) 0 true (x :: xs) = some (bgn b P y, s1) ∧ chn b P (bgn b P y) s1 false (y :: ys) = some (bgn b P x, s) ∧ s < 0 ∧ bgn b P y ≠ -1 := by
  have h' : (match chn b P (bgn b P x) 0 true ((x :: xs) ++ (y :: ys)) with | none => false | some r => decide (r.1 = bgn b P x) && decide (r.2 < 0)) = true := h
  rw [chn_append] at h'
  cases h1 : chn b P (bgn b P x) 0 true (x :: xs) with
  | none => rw [h1] at h'; cases h'
  | some r1 =>
    rw [h1] at h'
    simp only [List.isEmpty_cons, Bool.and_false] at h'
    cases h2 : chn b P r1.1 r1.2 false (y :: ys) with
    | none => rw [h2] at h'; cases h'
    | some r =>
      rw [h2] at h'
      simp only [Bool.and_eq_true, decide_eq_true_eq] at h'
      obtain ⟨h3, h4⟩ := chn_bgn h2
      obtain ⟨a1, s1⟩ := r1
      obtain ⟨a, s⟩ := r
      dsimp only at h2 h3 h4 h'
      subst h3
      obtain ⟨rfl, h5⟩ := h'
      exact ⟨s1, s, rfl, h2, h5, h4 rfl⟩
theorem prv_turn {b : Bk} {P : List Smp} {S : List Smp} (h : prv b P S = true) (hb : bgnL b P S ≠ -1) (k : Nat) : prv b P (S.drop k ++ S.take k) = true := by
  have e := List.take_append_drop k S
  cases hx : S.take k with
  | nil => rw [hx] at e; rw [← e] at h; simpa [hx] using h
  | cons x xs =>
    cases hy : S.drop k with
    | nil => rw [hx, hy] at e; rw [← e] at h; simpa using h
    | cons y ys =>
      rw [hx, hy] at e
      rw [← e] at h hb
      have hb' : bgn b P x ≠ -1 := hb
      obtain ⟨s1, s, h1, h2, h3, h4⟩ := prv_parts h
      show (match chn b P (bgn b P y) 0 true ((y :: ys) ++ (x :: xs)) with | none => false | some r => decide (r.1 = bgn b P y) && decide (r.2 < 0)) = true
      have g1 := chn_shift (-s1) _ _ _ _ _ (chn_first h2)
      rw [show s1 + -s1 = 0 by omega] at g1
      have g2 := chn_shift (s + -s1) _ _ _ _ _ (chn_later hb' h1)
      rw [chn_append, g1]
      simp only [List.isEmpty_cons, Bool.and_false]
      rw [show (0 : Int) + (s + -s1) = s + -s1 by omega] at g2
      rw [g2]
      simp only [Bool.and_eq_true, decide_eq_true_eq]
      exact ⟨trivial, by omega⟩
theorem prv_tail {b : Bk} {P : List Smp} {S : List Smp} (h : prv b P S = true) (hb : bgnL b P S = -1) (hl : 2 ≤ S.length) : prv b P (S.drop 1) = false := by
  match S, hl with
  | x :: y :: ys, _ =>
    have hx : bgn b P x = -1 := hb
    obtain ⟨s1, s, h1, h2, h3, h4⟩ := prv_parts (xs := []) h
    show (match chn b P (bgn b P y) 0 true (y :: ys) with | none => false | some r => decide (r.1 = bgn b P y) && decide (r.2 < 0)) = false
    have g1 := chn_shift (-s1) _ _ _ _ _ (chn_first h2)
    rw [show s1 + -s1 = 0 by omega] at g1
    rw [g1]
    simp only [Bool.and_eq_false_iff, decide_eq_false_iff_not]
    exact .inl (fun e => h4 (by rw [← e, hx]))
theorem prv_init {b : Bk} {P : List Smp} {S : List Smp} (h : prv b P S = true) (hb : bgnL b P S = -1) (hl : 2 ≤ S.length) : prv b P (S.take (S.length - 1)) = false := by
  have e := List.take_append_drop (S.length - 1) S
  cases hx : S.take (S.length - 1) with
  | nil => have := congrArg List.length hx; rw [List.length_take] at this; simp at this; omega
  | cons x xs =>
    cases hy : S.drop (S.length - 1) with
    | nil => have := congrArg List.length hy; rw [List.length_drop] at this; simp at this; omega
    | cons y ys =>
      rw [hx, hy] at e
      rw [← e] at h hb
      have hb' : bgn b P x = -1 := hb
      obtain ⟨s1, s, h1, h2, h3, h4⟩ := prv_parts h
      show (match chn b P (bgn b P x) 0 true (x :: xs) with | none => false | some r => decide (r.1 = bgn b P x) && decide (r.2 < 0)) = false
      rw [h1]
      simp only [Bool.and_eq_false_iff, decide_eq_false_iff_not]
      exact .inl (fun e => h4 (by rw [e, hb']))
theorem led_head {b : Bk} {P : List Smp} {n : Nat} {H : Nat → Smp} {c : Int} {j : Nat} {s : Int} {l : List Smp} (h : Led b P n H c j s l) : ∃ (j0 : Nat) (l' : List Smp), j0 < n ∧ l.reverse = (1, (j0 : Int)) :: l' := by
  induction h with
  | rim hj h hc => exact ⟨_, [], hj, rfl⟩
  | step hj h he hl hc ih =>
    obtain ⟨j0, l', h0, h1⟩ := ih
    exact ⟨j0, l' ++ [_], h0, by rw [List.reverse_cons, h1]; rfl⟩
/-- What Refuse returns. -/
theorem prf_head {b : Bk} {P : List Smp} {l : List Smp} (hb : BkOk b) (hn : P.length ≤ 40) (h : PrfOk b P P.length l) : l.length ≤ 16384 ∧ ((∃ r i xs, l = (r, i) :: xs ∧ r ≠ 1 ∧ bgnL b P l ≠ -1) ∨ (∃ i xs, l = (1, i) :: xs ∧ bgnL b P l = -1)) := by
  have hp := hb.per1
  cases h with
  | cir k hk hc =>
    unfold circ at hc
    simp only [Bool.and_eq_true, decide_eq_true_eq] at hc
    refine ⟨by simp [cirL]; omega, .inl ⟨5, (k : Int), _, rfl, by omega, ?_⟩⟩
    show bgn b P (5, (k : Int)) ≠ -1
    unfold bgn
    rw [edgO_land hk (by omega)]
    show (k : Int) - b.per ≠ -1
    omega
  | way m j H c s l hm h hs =>
    obtain ⟨j0, l', h0, h1⟩ := led_head h
    have h2 := led_len h
    refine ⟨by simp; omega, .inr ⟨(j0 : Int), l' ++ [(2, (j : Int))], by rw [h1]; rfl, ?_⟩⟩
    rw [h1]
    show bgn b P (1, (j0 : Int)) = -1
    unfold bgn
    rw [edgO_rim (by omega)]
end Go.Proofs.Ytgdkcbnpgpjnbaa
