/-
  The mathematics of PressLasting: what the next mount is, and what it leaves.
-/
import Derived.Test.YtomncopeekegoaaIH
namespace Go.Proofs.Ytomncopeekegoaa
open Go.RowKit

/-- What the law keeps from mount to mount: behind the last one, at the places from which the next one is sought. -/
structure Lst (x y : List Int) (n : Int) (L : List Tri) (p : Option (Nat × Nat)) : Prop where
  ex : ∃ f i j, L = mnt f x y i j n ∧ Fea x y i j n ∧ n.toNat + (x.length - i) + (y.length - j) ≤ f ∧
    ∀ a b, p = some (a, b) → a ≤ i ∧ b ≤ j ∧ (a < i → x.getD a 0 = 0) ∧ (b < j → y.getD b 0 = 0) ∧ (x.getD a 0 = 0 ∨ y.getD b 0 = 0 ∨ n = 0)

theorem lst_nil {x y : List Int} {n : Int} {p : Option (Nat × Nat)} (h : Lst x y n [] p) : n = 0 := by
  obtain ⟨f, i, j, hL, hF, hf, -⟩ := h.ex
  clear h
  induction f generalizing i j with
  | zero => have := hF.d0; omega
  | succ f ih =>
    rw [mnt] at hL
    by_cases hd : n ≤ 0
    · have := hF.d0; omega
    rw [if_neg hd] at hL
    have hi := hF.ix (by omega)
    have hj := hF.jy (by omega)
    by_cases hx : x.getD i 0 = 0
    · rw [if_pos hx] at hL
      exact ih (i + 1) j hL (hF.a (by omega) hx) (by omega)
    rw [if_neg hx] at hL
    by_cases hy : y.getD j 0 = 0
    · rw [if_pos hy] at hL
      exact ih i (j + 1) hL (hF.b (by omega) hy) (by omega)
    rw [if_neg hy] at hL
    cases hL

/-- What the law asks of a mount behind another one. -/
structure Nxt (x y : List Int) (n : Int) (i j : Nat) (q : Int) (p : Option (Nat × Nat)) : Prop where
  ix : i < x.length
  jy : j < y.length
  q1 : 1 ≤ q
  qn : q ≤ n
  qx : q ≤ x.getD i 0
  qy : q ≤ y.getD j 0
  xb : x.getD i 0 ≤ 65536
  yb : y.getD j 0 ≤ 65536
  pr : ∀ a b, p = some (a, b) → a ≤ i ∧ b ≤ j ∧ ¬ (i = a ∧ j = b) ∧ (a < i → x.getD a 0 = 0) ∧ (b < j → y.getD b 0 = 0)

theorem lst_cons {x y : List Int} {n : Int} {m : Tri} {L : List Tri} {p : Option (Nat × Nat)} (h : Lst x y n (m :: L) p) :
    ∃ (i j : Nat) (q : Int), m = ((i : Int), (j : Int), q) ∧ Nxt x y n i j q p ∧ Lst (x.set i (x.getD i 0 - q)) (y.set j (y.getD j 0 - q)) (n - q) L (some (i, j)) := by
  obtain ⟨f, i, j, hL, hF, hf, hp⟩ := h.ex
  clear h
  induction f generalizing i j with
  | zero => rw [mnt] at hL; cases hL
  | succ f ih =>
    rw [mnt] at hL
    by_cases hd : n ≤ 0
    · rw [if_pos hd] at hL; cases hL
    rw [if_neg hd] at hL
    have hi := hF.ix (by omega)
    have hj := hF.jy (by omega)
    by_cases hx : x.getD i 0 = 0
    · rw [if_pos hx] at hL
      refine ih (i + 1) j hL (hF.a (by omega) hx) (by omega) (fun a b hab => ?_)
      obtain ⟨h1, h2, h3, h4, h5⟩ := hp a b hab
      refine ⟨by omega, h2, fun hai => ?_, h4, h5⟩
      rcases Nat.lt_or_ge a i with h6 | h6
      · exact h3 h6
      · obtain rfl : a = i := by omega
        exact hx
    rw [if_neg hx] at hL
    by_cases hy : y.getD j 0 = 0
    · rw [if_pos hy] at hL
      refine ih i (j + 1) hL (hF.b (by omega) hy) (by omega) (fun a b hab => ?_)
      obtain ⟨h1, h2, h3, h4, h5⟩ := hp a b hab
      refine ⟨h1, by omega, h3, fun hbj => ?_, h5⟩
      rcases Nat.lt_or_ge b j with h6 | h6
      · exact h4 h6
      · obtain rfl : b = j := by omega
        exact hy
    rw [if_neg hy] at hL
    have hm := mny_bd hF (by omega) hx hy
    have hc := hF.c (by omega) hx hy
    have hq : min (min (x.getD i 0) (y.getD j 0)) n = mny x y i j n := rfl
    rw [hq] at hL
    obtain ⟨q, hq⟩ : ∃ q, mny x y i j n = q := ⟨_, rfl⟩
    have hqv : q = min (min (x.getD i 0) (y.getD j 0)) n := by rw [← hq]; rfl
    rw [hq] at hL hm hc
    obtain ⟨rfl, rfl⟩ := List.cons.inj hL
    refine ⟨i, j, q, rfl, ⟨hi, hj, hm.1, hm.2.1, hm.2.2.1, hm.2.2.2.1, hm.2.2.2.2.1, hm.2.2.2.2.2, fun a b hab => ?_⟩, ⟨f, i, j, rfl, hc, ?_, fun a b hab => ?_⟩⟩
    · obtain ⟨h1, h2, h3, h4, h5⟩ := hp a b hab
      refine ⟨h1, h2, ?_, h3, h4⟩
      rintro ⟨rfl, rfl⟩
      rcases h5 with h5 | h5 | h5
      · exact hx h5
      · exact hy h5
      · omega
    · rw [List.length_set, List.length_set]
      have := hm.1
      omega
    · simp only [Option.some.injEq, Prod.mk.injEq] at hab
      obtain ⟨rfl, rfl⟩ := hab
      refine ⟨Nat.le_refl _, Nat.le_refl _, fun h => absurd h (Nat.lt_irrefl _), fun h => absurd h (Nat.lt_irrefl _), ?_⟩
      have e1 : (x.set i (x.getD i 0 - q)).getD i 0 = x.getD i 0 - q := by rw [getD_at (by rw [List.length_set]; exact hi), List.getElem_set_self]
      have e2 : (y.set j (y.getD j 0 - q)).getD j 0 = y.getD j 0 - q := by rw [getD_at (by rw [List.length_set]; exact hj), List.getElem_set_self]
      rw [e1, e2]
      omega
end Go.Proofs.Ytomncopeekegoaa
