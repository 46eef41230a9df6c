/-
  The outermost cut as a list, how much fits, proofs that a groove does not fit: mathematics.
-/
import Derived.Test.YtgdkcbnpgpjnbaaLA
namespace Go.Proofs.Ytgdkcbnpgpjnbaa

/-- A list of numbers as a function. -/
def fx (R : List Int) : Nat → Int := fun j => R.getD j 0

def circ (b : Bk) (P : List Smp) (k : Nat) : Bool := decide (b.per.toNat ≤ k) && decide (wLand b P k + b.per * b.fast < 0)
/-- The radii behind the next sample. -/
def nxt (b : Bk) (P : List Smp) (k : Nat) (R : List Int) : List Int :=
  let r := rk b P k (fx R)
  (List.range (k + 1)).map fun j => if j = k then r else if r + (k - j : Int) * b.fast < fx R j then r + (k - j : Int) * b.fast else fx R j
def coresB (b : Bk) (P : List Smp) (R : List Int) : Bool := (List.range R.length).all fun j => decide (b.core ≤ fx R j + pin P j)
/-- The outermost cut of the first k points; none if there is none. -/
def sol (b : Bk) (P : List Smp) : Nat → Option (List Int)
  | 0 => some []
  | k + 1 => match sol b P k with
    | none => none
    | some R => if circ b P k then none else if coresB b P (nxt b P k R) then some (nxt b P k R) else none

theorem sol_succ (b : Bk) (P : List Smp) {k : Nat} {R : List Int} (h : sol b P k = some R) : sol b P (k + 1) = if circ b P k then none else if coresB b P (nxt b P k R) then some (nxt b P k R) else none := by
  show (match sol b P k with | none => none | some R => _) = _
  rw [h]
theorem sol_none_succ {b : Bk} {P : List Smp} {k : Nat} (h : sol b P k = none) : sol b P (k + 1) = none := by
  show (match sol b P k with | none => none | some R => _) = _
  rw [h]
theorem sol_none_le {b : Bk} {P : List Smp} {k : Nat} (h : sol b P k = none) : ∀ m, k ≤ m → sol b P m = none := by
  intro m
  induction m with
  | zero => intro hk; rw [show k = 0 by omega] at h; exact h
  | succ m ih =>
    intro hk
    by_cases e : k = m + 1
    · rw [← e]; exact h
    · exact sol_none_succ (ih (by omega))
theorem nxt_len (b : Bk) (P : List Smp) (k : Nat) (R : List Int) : (nxt b P k R).length = k + 1 := by simp [nxt]
theorem nxt_at (b : Bk) (P : List Smp) (k : Nat) (R : List Int) {j : Nat} (hj : j < k + 1) :
    fx (nxt b P k R) j = if j = k then rk b P k (fx R) else if rk b P k (fx R) + (k - j : Int) * b.fast < fx R j then rk b P k (fx R) + (k - j : Int) * b.fast else fx R j := by
  unfold fx nxt
  rw [List.getD_eq_getElem?_getD, List.getElem?_map, List.getElem?_range hj]
  rfl

theorem keeps_congr {b : Bk} {P : List Smp} {n : Nat} {x y : Nat → Int} (h : ∀ j, j < n → x j = y j) (hK : Keeps b P n x) : Keeps b P n y := fun i hi => by
  have h1 := hK i hi
  rw [← h i hi]
  refine ⟨h1.1, fun h0 => ?_, fun hp => ?_⟩
  · rw [← h (i - 1) (by omega)]; exact h1.2.1 h0
  · rw [← h (i - b.per.toNat) (by omega)]; exact h1.2.2 hp
theorem cores_congr {b : Bk} {P : List Smp} {n : Nat} {x y : Nat → Int} (h : ∀ j, j < n → x j = y j) (hK : Cores b P n x) : Cores b P n y := fun i hi => by rw [← h i hi]; exact hK i hi
theorem upper_congr {b : Bk} {P : List Smp} {n : Nat} {x y : Nat → Int} (h : ∀ j, j < n → x j = y j) (hK : Upper b P n x) : Upper b P n y := fun z hz i hi => by rw [← h i hi]; exact hK z hz i hi

theorem ends_nxt {b : Bk} {P : List Smp} {k i : Nat} {R : List Int} (hK : Keeps b P k (fx R)) (hE : Ends b P k (fx R) i) : ∀ j, j < k + 1 → upd b k (rk b P k (fx R)) i (fx R) j = fx (nxt b P k R) j := by
  intro j hj
  rw [nxt_at b P k R hj]
  by_cases h : j = k
  · rw [if_pos h]; subst h; unfold upd; rw [if_pos hE.le]; simp
  · rw [if_neg h, hE.clip hK (by omega)]

/-- There is an index at which the way back ends. -/
theorem ends_ex (b : Bk) (P : List Smp) (k : Nat) (x : Nat → Int) : ∃ i, Ends b P k x i := by
  have : ∀ d, d ≤ k → (∃ i, Ends b P k x i) ∨ ∀ j, k - d ≤ j → j < k → rk b P k x + (k - j : Int) * b.fast < x j := by
    intro d
    induction d with
    | zero => intro _; exact .inr (fun j h1 h2 => by omega)
    | succ d ih =>
      intro hd
      rcases ih (by omega) with h | h
      · exact .inl h
      · by_cases hs : x (k - d - 1) ≤ rk b P k x + (k - (k - d - 1 : Nat) : Int) * b.fast
        · exact .inl ⟨k - d, by omega, h, fun _ => hs⟩
        · refine .inr (fun j h1 h2 => ?_)
          by_cases e : j = k - d - 1
          · subst e; omega
          · exact h j (by omega) h2
  rcases this k (Nat.le_refl _) with h | h
  · exact h
  · exact ⟨0, Nat.zero_le _, fun j _ h2 => h j (by omega) h2, fun h => by omega⟩

/-- What the outermost cut is. -/
structure Top (b : Bk) (P : List Smp) (n : Nat) (R : List Int) : Prop where
  len : R.length = n
  keeps : Keeps b P n (fx R)
  cores : Cores b P n (fx R)
  upper : Upper b P n (fx R)

theorem nocirc_succ {b : Bk} {P : List Smp} {k : Nat} (h : NoCirc b P k) (hc : circ b P k = false) : NoCirc b P (k + 1) := by
  intro j hj hp
  by_cases e : j = k
  · subst e
    simp only [circ, Bool.and_eq_false_iff, decide_eq_false_iff_not] at hc
    omega
  · exact h j (by omega) hp

theorem back_per {b : Bk} {P : List Smp} {k : Nat} {y : Nat → Int} (hb : BkOk b) (hy : Keeps b P (k + 1) y) (hp : b.per.toNat ≤ k) : y (k - b.per.toNat) ≤ y k + b.per * b.fast := by
  have h := back_le hy b.per.toNat hp
  have := hb.per1
  rwa [show (b.per.toNat : Int) = b.per by omega] at h

/-- A circle whose sum is below 0: no radii keep the rules. -/
theorem circ_no {b : Bk} {P : List Smp} {k : Nat} (hb : BkOk b) (hc : circ b P k = true) (y : Nat → Int) : ¬ Keeps b P (k + 1) y := by
  intro hy
  simp only [circ, Bool.and_eq_true, decide_eq_true_eq] at hc
  have h1 := back_per hb hy hc.1
  have h2 := (hy k (by omega)).2.2 hc.1
  omega

theorem cores_all {b : Bk} {P : List Smp} {R : List Int} {n : Nat} (hl : R.length = n) (h : coresB b P R = true) : Cores b P n (fx R) := by
  intro i hi
  unfold coresB at h
  rw [List.all_eq_true] at h
  have := h i (List.mem_range.2 (by omega))
  simpa using this
theorem cores_not {b : Bk} {P : List Smp} {R : List Int} {n : Nat} (hl : R.length = n) (h : coresB b P R = false) : ∃ i, i < n ∧ fx R i + pin P i < b.core := by
  unfold coresB at h
  rw [List.all_eq_false] at h
  obtain ⟨i, hi, hn⟩ := h
  refine ⟨i, by have := List.mem_range.1 hi; omega, ?_⟩
  simpa using hn

theorem sol_some {b : Bk} {P : List Smp} (hb : BkOk b) : ∀ {k : Nat} {R : List Int}, sol b P k = some R → Top b P k R ∧ NoCirc b P k := by
  intro k
  induction k with
  | zero =>
    intro R h
    cases h
    exact ⟨⟨rfl, fun i hi => by omega, fun i hi => by omega, fun y _ i hi => by omega⟩, fun j hj => by omega⟩
  | succ k ih =>
    intro R h
    cases hs : sol b P k with
    | none => rw [sol_none_succ hs] at h; cases h
    | some R0 =>
      obtain ⟨ht, hn⟩ := ih hs
      rw [sol_succ b P hs] at h
      by_cases hc : circ b P k = true
      · rw [if_pos hc] at h; cases h
      · rw [if_neg hc] at h
        by_cases hco : coresB b P (nxt b P k R0) = true
        · rw [if_pos hco] at h
          cases h
          have hN := nocirc_succ hn (by simpa using hc)
          obtain ⟨i, hE⟩ := ends_ex b P k (fx R0)
          have hcg := ends_nxt ht.keeps hE
          exact ⟨⟨nxt_len _ _ _ _, keeps_congr hcg (keeps_upd hb ht.keeps hN hE), cores_all (nxt_len _ _ _ _) hco, upper_congr hcg (upper_upd hb ht.upper hE.le)⟩, hN⟩
        · rw [if_neg hco] at h; cases h

theorem sol_none {b : Bk} {P : List Smp} (hb : BkOk b) : ∀ {k : Nat}, sol b P k = none → ¬ Feas b P k := by
  intro k
  induction k with
  | zero => intro h; cases h
  | succ k ih =>
    intro h hF
    cases hs : sol b P k with
    | none => exact ih hs (hF.mono (by omega))
    | some R0 =>
      obtain ⟨ht, hn⟩ := sol_some hb hs
      rw [sol_succ b P hs] at h
      obtain ⟨y, hy1, hy2⟩ := hF
      by_cases hc : circ b P k = true
      · exact circ_no hb hc y hy1
      · rw [if_neg hc] at h
        by_cases hco : coresB b P (nxt b P k R0) = true
        · rw [if_pos hco] at h; cases h
        · obtain ⟨i, hE⟩ := ends_ex b P k (fx R0)
          have hU := upper_congr (ends_nxt ht.keeps hE) (upper_upd hb ht.upper hE.le)
          obtain ⟨j, hj, hj2⟩ := cores_not (nxt_len b P k R0) (by simpa using hco)
          have := hU y hy1 j hj
          have := hy2 j hj
          omega

theorem sol_iff {b : Bk} {P : List Smp} (hb : BkOk b) (k : Nat) : (∃ R, sol b P k = some R) ↔ Feas b P k := by
  constructor
  · rintro ⟨R, h⟩; exact ⟨fx R, (sol_some hb h).1.keeps, (sol_some hb h).1.cores⟩
  · intro h
    cases hs : sol b P k with
    | none => exact absurd h (sol_none hb hs)
    | some R => exact ⟨R, rfl⟩

/-- Two outermost cuts are one. -/
theorem top_unique {b : Bk} {P : List Smp} {n : Nat} {R R' : List Int} (h : Top b P n R) (h' : Top b P n R') : R = R' := by
  apply List.ext_getElem
  · rw [h.len, h'.len]
  · intro i h1 h2
    have a := h.upper _ h'.keeps i (by rw [← h.len]; exact h1)
    have c := h'.upper _ h.keeps i (by rw [← h.len]; exact h1)
    unfold fx at a c
    rw [List.getD_eq_getElem?_getD, List.getD_eq_getElem?_getD, List.getElem?_eq_getElem h1, List.getElem?_eq_getElem h2] at a c
    simp only [Option.getD_some] at a c
    omega
theorem top_sol {b : Bk} {P : List Smp} (hb : BkOk b) {n : Nat} {R : List Int} (h : Top b P n R) : sol b P n = some R := by
  obtain ⟨R', h'⟩ := (sol_iff hb n).2 ⟨_, h.keeps, h.cores⟩
  rw [h', top_unique h (sol_some hb h').1]

/-- How many points fit. -/
def fitN (b : Bk) (P : List Smp) : Nat → Nat
  | 0 => 0
  | n + 1 => if (sol b P (n + 1)).isSome then n + 1 else fitN b P n
theorem fitN_le (b : Bk) (P : List Smp) : ∀ n, fitN b P n ≤ n
  | 0 => Nat.le_refl _
  | n + 1 => by
    show (if (sol b P (n + 1)).isSome then n + 1 else fitN b P n) ≤ n + 1
    have := fitN_le b P n
    split <;> omega
theorem fitN_eq {b : Bk} {P : List Smp} {k : Nat} (h1 : (sol b P k).isSome) (h2 : sol b P (k + 1) = none) : ∀ n, k < n → fitN b P n = k := by
  intro n
  induction n with
  | zero => intro h; omega
  | succ n ih =>
    intro h
    show (if (sol b P (n + 1)).isSome then n + 1 else fitN b P n) = k
    rw [sol_none_le h2 (n + 1) (by omega)]
    simp only [Option.isSome_none, Bool.false_eq_true, if_false]
    by_cases e : k = n
    · subst e
      cases k with
      | zero => rfl
      | succ k => show (if (sol b P (k + 1)).isSome then k + 1 else fitN b P k) = k + 1; rw [if_pos h1]
    · exact ih (by omega)
theorem fitN_full {b : Bk} {P : List Smp} {n : Nat} (h : (sol b P n).isSome) : fitN b P n = n := by
  cases n with
  | zero => rfl
  | succ n => show (if (sol b P (n + 1)).isSome then n + 1 else fitN b P n) = n + 1; rw [if_pos h]
theorem fitN_some (b : Bk) (P : List Smp) : ∀ n, (sol b P (fitN b P n)).isSome
  | 0 => rfl
  | n + 1 => by
    show (sol b P (if (sol b P (n + 1)).isSome then n + 1 else fitN b P n)).isSome
    split
    · assumption
    · exact fitN_some b P n
theorem fitN_none (b : Bk) (P : List Smp) : ∀ n m, fitN b P n < m → m ≤ n → sol b P m = none
  | 0 => fun m h1 h2 => by omega
  | n + 1 => fun m h1 h2 => by
    have h1' : (if (sol b P (n + 1)).isSome then n + 1 else fitN b P n) < m := h1
    split at h1'
    · omega
    · rename_i hn
      by_cases e : m = n + 1
      · subst e; simpa using hn
      · exact fitN_none b P n m h1' (by omega)

/-- What a step says: where it begins and ends (-1: nowhere), and its weight. -/
def edgO (b : Bk) (P : List Smp) (st : Smp) : Option (Int × Int × Int) :=
  if st.2 < 0 ∨ (P.length : Int) ≤ st.2 then none
  else if st.1 = 1 then some (-1, st.2, b.rim - pout P st.2.toNat)
  else if st.1 = 2 then some (st.2, -1, pin P st.2.toNat - b.core)
  else if st.1 = 3 ∧ 0 < st.2 then some (st.2 - 1, st.2, -b.slow)
  else if st.1 = 4 ∧ 0 < st.2 then some (st.2, st.2 - 1, b.fast)
  else if st.1 = 5 ∧ b.per ≤ st.2 then some (st.2 - b.per, st.2, wLand b P st.2.toNat)
  else none

/-- From `at` and a sum on, where the steps lead; none: they don't hang together. -/
def chn (b : Bk) (P : List Smp) : Int → Int → Bool → List Smp → Option (Int × Int)
  | a, s, _, [] => some (a, s)
  | a, s, first, x :: xs => match edgO b P x with
    | none => none
    | some e => if e.1 ≠ a ∨ (first = false ∧ a = -1) then none else chn b P e.2.1 (s + e.2.2) false xs
def bgn (b : Bk) (P : List Smp) (x : Smp) : Int := match edgO b P x with | none => 0 | some e => e.1
def prv (b : Bk) (P : List Smp) : List Smp → Bool
  | [] => false
  | x :: xs => match chn b P (bgn b P x) 0 true (x :: xs) with
    | none => false
    | some r => decide (r.1 = bgn b P x) && decide (r.2 < 0)

theorem chn_append (b : Bk) (P : List Smp) : ∀ (xs ys : List Smp) (a s : Int) (f : Bool), chn b P a s f (xs ++ ys) = match chn b P a s f xs with
    | none => none
    | some r => chn b P r.1 r.2 (f && xs.isEmpty) ys
  | [], ys, a, s, f => by simp [chn]
  | x :: xs, ys, a, s, f => by
    show (match edgO b P x with | none => none | some e => if e.1 ≠ a ∨ (f = false ∧ a = -1) then none else chn b P e.2.1 (s + e.2.2) false (xs ++ ys)) = _
    show _ = match (match edgO b P x with | none => none | some e => if e.1 ≠ a ∨ (f = false ∧ a = -1) then none else chn b P e.2.1 (s + e.2.2) false xs) with | none => none | some r => chn b P r.1 r.2 (f && false) ys
    cases edgO b P x with
    | none => rfl
    | some e =>
      simp only
      split
      · rfl
      · rw [chn_append b P xs ys]; cases chn b P e.2.1 (s + e.2.2) false xs <;> simp

theorem edg_edgO {b : Bk} {P : List Smp} {st : Smp} {i j : Nat} {w : Int} (hb : BkOk b) (h : Edg b P st i j w) (hi : i < P.length) (hj : j < P.length) : edgO b P st = some ((i : Int), (j : Int), w) := by
  have hp := hb.per1
  cases h with
  | slow =>
    unfold edgO
    rw [if_neg (by simp only; omega)]
    rw [if_neg (by simp), if_neg (by simp), if_pos ⟨rfl, by simp only; omega⟩]
    simp only [show (((i + 1 : Nat) : Int) - 1) = (i : Int) by omega]
  | fast =>
    unfold edgO
    rw [if_neg (by simp only; omega)]
    rw [if_neg (by simp), if_neg (by simp), if_neg (by simp), if_pos ⟨rfl, by simp only; omega⟩]
    simp only [show (((j + 1 : Nat) : Int) - 1) = (j : Int) by omega]
  | land _ hpj =>
    unfold edgO
    rw [if_neg (by simp only; omega)]
    rw [if_neg (by simp), if_neg (by simp), if_neg (by simp), if_neg (by simp), if_pos ⟨rfl, by simp only; omega⟩]
    simp only [show ((j : Int) - b.per) = ((j - b.per.toNat : Nat) : Int) by omega, Int.toNat_natCast]

theorem led_chn {b : Bk} {P : List Smp} {n : Nat} {H : Nat → Smp} {c : Int} {j : Nat} {s : Int} {l : List Smp} (hb : BkOk b) (hn : n ≤ P.length) (h : Led b P n H c j s l) :
    chn b P (-1) 0 true l.reverse = some ((j : Int), s) ∧ l ≠ [] := by
  induction h with
  | rim hj h hc =>
    refine ⟨?_, by simp⟩
    rename_i j
    have : edgO b P (1, (j : Int)) = some (-1, (j : Int), b.rim - pout P j) := by
      unfold edgO
      rw [if_neg (by simp only; omega), if_pos rfl]; simp
    simp [chn, this]
  | step hj h he hl hc ih =>
    refine ⟨?_, by simp⟩
    rename_i j i st s w l
    have hi := hl.lt
    rw [List.reverse_cons, chn_append, ih.1]
    simp only [chn, edg_edgO hb he (by omega) (by omega)]
    rw [if_neg (by simp only [ne_eq, not_true, false_or]; omega)]

/-- The way of a sample, and then CutCore: a proof, if the sample lies too far in. -/
theorem led_prv {b : Bk} {P : List Smp} {n : Nat} {H : Nat → Smp} {c : Int} {j : Nat} {s : Int} {l : List Smp} (hb : BkOk b) (hn : n ≤ P.length) (h : Led b P n H c j s l) (hs : s + pin P j < b.core) :
    prv b P (l.reverse ++ [(2, (j : Int))]) = true := by
  obtain ⟨h1, h2⟩ := led_chn hb hn h
  have hj := h.lt
  have hc : edgO b P (2, (j : Int)) = some ((j : Int), -1, pin P j - b.core) := by
    unfold edgO
    rw [if_neg (by simp only; omega), if_neg (by simp), if_pos rfl]; simp
  have hne : l.reverse ≠ [] := by simpa using h2
  obtain ⟨x, xs, hx⟩ := List.exists_cons_of_ne_nil hne
  rw [hx, List.cons_append]
  rw [hx] at h1
  have hbg : bgn b P x = -1 := by
    unfold bgn
    simp only [chn] at h1
    cases hex : edgO b P x with
    | none => rw [hex] at h1; cases h1
    | some e =>
      rw [hex] at h1
      simp only at h1
      split at h1
      · cases h1
      · rename_i hh; simp only [ne_eq, not_or, Decidable.not_not] at hh; exact hh.1
  show (match chn b P (bgn b P x) 0 true (x :: (xs ++ [(2, (j : Int))])) with | none => false | some r => decide (r.1 = bgn b P x) && decide (r.2 < 0)) = true
  rw [hbg, ← List.cons_append, chn_append, h1]
  simp only [chn, hc, List.isEmpty_cons, Bool.and_false]
  rw [if_neg (by simp only [ne_eq, not_true, false_or]; omega)]
  simp
  omega

/-- The circle through a sample, the turn before, and back. -/
def cirL (b : Bk) (k : Nat) : List Smp := (5, (k : Int)) :: (List.range b.per.toNat).map fun i => (4, ((k - i : Nat) : Int))
theorem chn_back {b : Bk} {P : List Smp} {k : Nat} (hk : k < P.length) (s : Int) : ∀ d m, d + m ≤ k → chn b P ((k - m : Nat) : Int) s false ((List.range' m d).map fun i => (4, ((k - i : Nat) : Int))) = some (((k - m - d : Nat) : Int), s + d * b.fast) := by
  intro d
  induction d generalizing s with
  | zero => intro m _; simp [chn]
  | succ d ih =>
    intro m hm
    rw [List.range'_succ]
    have he : edgO b P (4, ((k - m : Nat) : Int)) = some (((k - m : Nat) : Int), ((k - (m + 1) : Nat) : Int), b.fast) := by
      unfold edgO
      rw [if_neg (by simp only; omega), if_neg (by simp), if_neg (by simp), if_neg (by simp), if_pos ⟨rfl, by simp only; omega⟩]
      simp only [show (((k - m : Nat) : Int) - 1) = ((k - (m + 1) : Nat) : Int) by omega]
    simp only [List.map_cons, chn, he]
    rw [if_neg (by simp only [ne_eq, not_true, false_or]; omega)]
    rw [ih (s + b.fast) (m + 1) (by omega)]
    rw [show k - (m + 1) - d = k - m - (d + 1) by omega, show ((d + 1 : Nat) : Int) = (d : Int) + 1 by omega, Int.add_mul]
    simp only [Option.some.injEq, Prod.mk.injEq, true_and]
    omega
theorem cir_prv {b : Bk} {P : List Smp} {k : Nat} (hb : BkOk b) (hk : k < P.length) (hc : circ b P k = true) : prv b P (cirL b k) = true := by
  simp only [circ, Bool.and_eq_true, decide_eq_true_eq] at hc
  have hp := hb.per1
  have he : edgO b P (5, (k : Int)) = some (((k - b.per.toNat : Nat) : Int), (k : Int), wLand b P k) := by
    unfold edgO
    rw [if_neg (by simp only; omega), if_neg (by simp), if_neg (by simp), if_neg (by simp), if_neg (by simp), if_pos ⟨rfl, by simp only; omega⟩]
    simp only [show ((k : Int) - b.per) = ((k - b.per.toNat : Nat) : Int) by omega, Int.toNat_natCast]
  have hbg : bgn b P (5, (k : Int)) = ((k - b.per.toNat : Nat) : Int) := by unfold bgn; rw [he]
  unfold prv cirL
  simp only
  rw [hbg]
  simp only [chn, he]
  rw [if_neg (by simp)]
  have := chn_back (b := b) (P := P) hk (0 + wLand b P k) b.per.toNat 0 (by omega)
  rw [← List.range_eq_range'] at this
  simp only [Nat.sub_zero] at this
  rw [this]
  simp only [decide_true, Bool.true_and, decide_eq_true_eq]
  rw [show (b.per.toNat : Int) = b.per by omega]
  omega
end Go.Proofs.Ytgdkcbnpgpjnbaa
