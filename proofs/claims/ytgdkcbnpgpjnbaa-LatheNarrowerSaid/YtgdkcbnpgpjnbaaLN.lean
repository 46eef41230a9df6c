/-
  What the edges of the next sample make of its radius: mathematics of add.
-/
import Derived.Test.YtgdkcbnpgpjnbaaLE
namespace Go.Proofs.Ytgdkcbnpgpjnbaa

/-- What an edge that ends at the sample k makes of the radii and of what holds them. -/
def lw (k : Nat) (s : List Int × List Smp) (e : Ed) : List Int × List Smp :=
  if e.2.2.2.1 = (k : Int) ∧ kptE s.1 e = false then (s.1.set k (rad s.1 e.2.2.1 + e.2.2.2.2), s.2.set k (e.1, e.2.1)) else s
theorem lw_len (k : Nat) (s : List Int × List Smp) (e : Ed) : (lw k s e).1.length = s.1.length ∧ (lw k s e).2.length = s.2.length := by unfold lw; split <;> simp
theorem lws_len (k : Nat) : ∀ (l : List Ed) (s : List Int × List Smp), (l.foldl (lw k) s).1.length = s.1.length ∧ (l.foldl (lw k) s).2.length = s.2.length
  | [], s => ⟨rfl, rfl⟩
  | e :: l, s => by have h1 := lws_len k l (lw k s e); have h2 := lw_len k s e; simp only [List.foldl_cons]; omega
theorem lws_snoc (k : Nat) (l : List Ed) (s : List Int × List Smp) (e : Ed) : (l ++ [e]).foldl (lw k) s = lw k (l.foldl (lw k) s) e := by rw [List.foldl_append]; rfl

theorem edsAt_eq {b : Bk} {P : List Smp} {k : Nat} (hk : k < P.length) : edsAt b P k = [(1, (k : Int), -1, (k : Int), b.rim - pout P k), (2, (k : Int), (k : Int), -1, pin P k - b.core)] ++ (if 0 < k then [(3, (k : Int), (k : Int) - 1, (k : Int), -b.slow), (4, (k : Int), (k : Int), (k : Int) - 1, b.fast)] else []) ++ (if b.per ≤ (k : Int) then [(5, (k : Int), (k : Int) - b.per, (k : Int), wLand b P k)] else []) := by
  have h1 := edAt_some (i := k) (r := 1) (edgO_rim (b := b) hk)
  have h2 := edAt_some (i := k) (r := 2) (edgO_core (b := b) hk)
  have h : edsAt b P k = edAt b P k 1 ++ edAt b P k 2 ++ edAt b P k 3 ++ edAt b P k 4 ++ edAt b P k 5 := by
    show edsTo b P k 5 = _
    rw [edsTo_succ, edsTo_succ, edsTo_succ, edsTo_succ, edsTo_succ]; simp [edsTo]
  rw [h, h1, h2]
  have h34 : edAt b P k 3 ++ edAt b P k 4 = if 0 < k then [(3, (k : Int), (k : Int) - 1, (k : Int), -b.slow), (4, (k : Int), (k : Int), (k : Int) - 1, b.fast)] else [] := by
    by_cases h0 : 0 < k
    · rw [edAt_some (i := k) (r := 3) (edgO_slow hk h0), edAt_some (i := k) (r := 4) (edgO_fast hk h0), if_pos h0]; rfl
    · obtain rfl : k = 0 := by omega
      rw [edAt_none (i := 0) (r := 3) edgO_slow0, edAt_none (i := 0) (r := 4) edgO_fast0]; rfl
  have h5 : edAt b P k 5 = if b.per ≤ (k : Int) then [(5, (k : Int), (k : Int) - b.per, (k : Int), wLand b P k)] else [] := by
    by_cases h0 : b.per ≤ (k : Int)
    · rw [edAt_some (i := k) (r := 5) (edgO_land hk h0), if_pos h0]; rfl
    · rw [edAt_none (i := k) (r := 5) (edgO_land0 (by omega)), if_neg h0]
  rw [h5, ← h34]
  simp

theorem fx_snoc (R : List Int) (y : Int) (j : Nat) : fx (R ++ [y]) j = if j < R.length then fx R j else if j = R.length then y else 0 := by
  unfold fx
  rw [List.getD_eq_getElem?_getD, List.getElem?_append]
  split
  · rw [List.getD_eq_getElem?_getD]
  · rename_i h
    split
    · rename_i h2; subst h2; simp
    · rw [List.getElem?_eq_none (by simp; omega)]; rfl
theorem lw_snoc {R : List Int} {H : List Smp} {k : Nat} (hl : R.length = k) (hh : H.length = k) (y : Int) (h : Smp) (e : Ed) (he : e.2.2.2.1 = (k : Int)) (hf : e.2.2.1 = -1 ∨ (0 ≤ e.2.2.1 ∧ e.2.2.1 < (k : Int))) :
    lw k (R ++ [y], H ++ [h]) e = if rad R e.2.2.1 + e.2.2.2.2 < y then (R ++ [rad R e.2.2.1 + e.2.2.2.2], H ++ [(e.1, e.2.1)]) else (R ++ [y], H ++ [h]) := by
  have hr : rad (R ++ [y]) e.2.2.1 = rad R e.2.2.1 := by
    unfold rad
    split
    · rfl
    · rw [fx_snoc, if_pos (by omega)]
  have ht : rad (R ++ [y]) e.2.2.2.1 = y := by
    rw [he, rad_nat, fx_snoc, if_neg (by omega), if_pos hl.symm]
  have hk : kptE (R ++ [y]) e = decide (y ≤ rad R e.2.2.1 + e.2.2.2.2) := by unfold kptE kpt; rw [hr, ht]
  unfold lw
  simp only
  rw [hk, hr]
  by_cases c : rad R e.2.2.1 + e.2.2.2.2 < y
  · rw [if_pos ⟨he, by simpa using c⟩, if_pos c]
    rw [List.set_append_right _ _ (by omega), List.set_append_right _ _ (by omega), hl, hh]
    simp
  · rw [if_neg (by rintro ⟨-, h⟩; simp at h; omega), if_neg c]
theorem lw_other {k : Nat} {s : List Int × List Smp} {e : Ed} (he : e.2.2.2.1 ≠ (k : Int)) : lw k s e = s := by unfold lw; rw [if_neg (fun h => he h.1)]

theorem fx_setL {R : List Int} {k j : Nat} {v : Int} (h : j ≠ k) : fx (R.set k v) j = fx R j := by
  unfold fx
  rw [List.getD_eq_getElem?_getD, List.getElem?_set_ne (by omega), List.getD_eq_getElem?_getD]
theorem lw_fx {k j : Nat} (h : j ≠ k) (s : List Int × List Smp) (e : Ed) : fx (lw k s e).1 j = fx s.1 j := by
  unfold lw
  split
  · exact fx_setL h
  · rfl
theorem lws_fx {k j : Nat} (h : j ≠ k) : ∀ (l : List Ed) (s : List Int × List Smp), fx (l.foldl (lw k) s).1 j = fx s.1 j
  | [], s => rfl
  | e :: l, s => by rw [List.foldl_cons, lws_fx h l, lw_fx h]
/-- All edges of the next sample: it lies where rk says, held by what hk says. -/
theorem lws_eq {b : Bk} {P : List Smp} {k : Nat} {R : List Int} {H : List Smp} {y : Int} {h : Smp} (hb : BkOk b) (hk : k < P.length) (hl : R.length = k) (hh : H.length = k) (hy : b.rim - pout P k < y) :
    (edsAt b P k).foldl (lw k) (R ++ [y], H ++ [h]) = (R ++ [rk b P k (fx R)], H ++ [hkS b P k (fx R)]) := by
  have hp := hb.per1
  rw [edsAt_eq hk]
  simp only [List.foldl_append, List.foldl_cons, List.foldl_nil]
  have e1 : lw k (R ++ [y], H ++ [h]) (1, (k : Int), -1, (k : Int), b.rim - pout P k) = (R ++ [b.rim - pout P k], H ++ [(1, (k : Int))]) := by
    rw [lw_snoc hl hh _ _ _ rfl (.inl rfl)]
    simp only [rad_none]
    rw [if_pos (by omega)]; simp
  rw [e1, lw_other (e := (2, (k : Int), (k : Int), -1, pin P k - b.core)) (by simp only; omega)]
  obtain ⟨a, ha⟩ : ∃ a, b.rim - pout P k = a := ⟨_, rfl⟩
  have hs : (if 0 < k then [(3, (k : Int), (k : Int) - 1, (k : Int), -b.slow), (4, (k : Int), (k : Int), (k : Int) - 1, b.fast)] else []).foldl (lw k) (R ++ [a], H ++ [((1 : Int), (k : Int))]) =
      if 0 < k ∧ fx R (k - 1) - b.slow < a then (R ++ [fx R (k - 1) - b.slow], H ++ [((3 : Int), (k : Int))]) else (R ++ [a], H ++ [((1 : Int), (k : Int))]) := by
    by_cases h0 : 0 < k
    · rw [if_pos h0]
      simp only [List.foldl_cons, List.foldl_nil]
      rw [lw_snoc hl hh _ _ _ rfl (.inr ⟨by simp only; omega, by simp only; omega⟩)]
      simp only
      rw [show (k : Int) - 1 = ((k - 1 : Nat) : Int) by omega, rad_nat]
      rw [lw_other (by simp only; omega)]
      by_cases c : fx R (k - 1) + -b.slow < a
      · rw [if_pos c, if_pos ⟨h0, by omega⟩]; rfl
      · rw [if_neg c, if_neg (fun h => c (by omega))]
    · rw [if_neg h0, if_neg (fun h => h0 h.1)]; rfl
  rw [ha, hs]
  -- where it lies behind the pitch
  obtain ⟨a', ha'⟩ : ∃ a', (if 0 < k ∧ fx R (k - 1) - b.slow < a then fx R (k - 1) - b.slow else a) = a' := ⟨_, rfl⟩
  obtain ⟨h', hh'⟩ : ∃ h', (if 0 < k ∧ fx R (k - 1) - b.slow < a then ((3 : Int), (k : Int)) else (1, (k : Int))) = h' := ⟨_, rfl⟩
  have hst : (if 0 < k ∧ fx R (k - 1) - b.slow < a then (R ++ [fx R (k - 1) - b.slow], H ++ [((3 : Int), (k : Int))]) else (R ++ [a], H ++ [((1 : Int), (k : Int))])) = (R ++ [a'], H ++ [h']) := by
    rw [← ha', ← hh']; split <;> rfl
  rw [hst]
  unfold rk hkS
  simp only [ha, ha', hh']
  by_cases hpk : b.per ≤ (k : Int)
  · rw [if_pos hpk]
    simp only [List.foldl_cons, List.foldl_nil]
    rw [lw_snoc hl hh _ _ _ rfl (.inr ⟨by simp only; omega, by simp only; omega⟩)]
    simp only
    rw [show (k : Int) - b.per = ((k - b.per.toNat : Nat) : Int) by omega, rad_nat]
    by_cases c : fx R (k - b.per.toNat) + wLand b P k < a'
    · rw [if_pos c, if_pos ⟨by omega, c⟩, if_pos ⟨by omega, c⟩]
    · rw [if_neg c, if_neg (fun h => c h.2), if_neg (fun h => c h.2)]
  · rw [if_neg hpk, if_neg (fun h => hpk (by omega)), if_neg (fun h => hpk (by omega))]; rfl
end Go.Proofs.Ytgdkcbnpgpjnbaa
