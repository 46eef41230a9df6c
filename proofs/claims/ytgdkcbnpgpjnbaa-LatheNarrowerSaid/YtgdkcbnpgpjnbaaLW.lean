/-
  Mathematics of follow: a way is no longer than there are samples; the radii and what holds them on the way back, as lists.
-/
import Derived.Test.YtgdkcbnpgpjnbaaLB
namespace Go.Proofs.Ytgdkcbnpgpjnbaa

theorem nodup_le : ∀ (m : Nat) (ns : List Nat), ns.Nodup → (∀ q ∈ ns, q < m) → ns.length ≤ m
  | 0, ns, _, h => by
    cases ns with
    | nil => exact Nat.le_refl _
    | cons q t => have := h q (by simp); omega
  | m + 1, ns, hn, h => by
    by_cases hm : m ∈ ns
    · have h1 := nodup_le m (ns.erase m) (hn.erase m) (fun q hq => by
        have h2 := (hn.mem_erase_iff).1 hq
        have := h q h2.2
        have := h2.1
        omega)
      have h3 := List.length_erase_of_mem hm
      have : 0 < ns.length := List.length_pos_of_mem hm
      omega
    · have h1 := nodup_le m ns hn (fun q hq => by
        have := h q hq
        have : q ≠ m := fun e => hm (e ▸ hq)
        omega)
      omega
/-- A way passes no sample twice. -/
theorem led_nodes {b : Bk} {P : List Smp} {n : Nat} {H : Nat → Smp} {c : Int} {j : Nat} {s : Int} {l : List Smp} (h : Led b P n H c j s l) :
    ∃ ns : List Nat, ns.length = l.length ∧ (∀ q ∈ ns, q < n) ∧ ns.Nodup ∧ ∀ q ∈ ns, ∃ s' l', Led b P n H c q s' l' ∧ l'.length ≤ l.length := by
  induction h with
  | rim hj h hc =>
    rename_i j
    exact ⟨[j], rfl, fun q hq => by simp at hq; omega, by simp, fun q hq => by
      simp at hq; subst hq
      exact ⟨_, _, .rim hj h hc, Nat.le_refl _⟩⟩
  | step hj h he hl hc ih =>
    rename_i j i st s w l
    obtain ⟨ns, h1, h2, h3, h4⟩ := ih
    refine ⟨j :: ns, by simp [h1], fun q hq => ?_, ?_, fun q hq => ?_⟩
    · rcases List.mem_cons.1 hq with rfl | hq
      · exact hj
      · exact h2 q hq
    · refine List.nodup_cons.2 ⟨fun hm => ?_, h3⟩
      obtain ⟨s', l', hL, hle⟩ := h4 j hm
      have := (Led.step hj h he hl hc).det hL
      rw [← this.2] at hle
      simp only [List.length_cons] at hle
      omega
    · rcases List.mem_cons.1 hq with rfl | hq
      · exact ⟨_, _, .step hj h he hl hc, Nat.le_refl _⟩
      · obtain ⟨s', l', hL, hle⟩ := h4 q hq
        exact ⟨s', l', hL, by simp; omega⟩
theorem led_len {b : Bk} {P : List Smp} {n : Nat} {H : Nat → Smp} {c : Int} {j : Nat} {s : Int} {l : List Smp} (h : Led b P n H c j s l) : l.length ≤ n := by
  obtain ⟨ns, h1, h2, h3, -⟩ := led_nodes h
  rw [← h1]; exact nodup_le n ns h3 h2

/-- The radii on the way back, as a list. -/
def updL (b : Bk) (k : Nat) (r : Int) (i : Nat) (R : List Int) : List Int := (List.range (k + 1)).map (upd b k r i (fx R))
theorem updL_len (b : Bk) (k : Nat) (r : Int) (i : Nat) (R : List Int) : (updL b k r i R).length = k + 1 := by simp [updL]
theorem updL_at (b : Bk) (k : Nat) (r : Int) (i : Nat) (R : List Int) {j : Nat} (hj : j ≤ k) : fx (updL b k r i R) j = upd b k r i (fx R) j := by
  show (updL b k r i R).getD j 0 = _
  unfold updL
  rw [List.getD_eq_getElem?_getD, List.getElem?_map, List.getElem?_range (by omega)]; rfl
theorem updL_start {b : Bk} {k : Nat} {r : Int} {R : List Int} (h : R.length = k) : updL b k r k R = R ++ [r] := by
  apply List.ext_getElem
  · rw [updL_len]; simp [h]
  · intro j h1 h2
    rw [updL_len] at h1
    simp only [updL, List.getElem_map, List.getElem_range]
    rw [List.getElem_append]
    unfold upd
    by_cases hj : j < k
    · rw [if_neg (by omega), dif_pos (by omega)]
      unfold fx; rw [List.getD_eq_getElem?_getD, List.getElem?_eq_getElem (by omega)]; rfl
    · obtain rfl : j = k := by omega
      rw [if_pos (by omega), dif_neg (by omega)]; simp
theorem updL_step {b : Bk} {k : Nat} {r : Int} {R : List Int} {i : Nat} (h0 : 0 < i) (hi : i ≤ k) : (updL b k r i R).set (i - 1) (fx (updL b k r i R) i + b.fast) = updL b k r (i - 1) R := by
  rw [updL_at b k r i R hi]
  apply List.ext_getElem
  · simp [updL]
  · intro j h1 h2
    rw [updL_len] at h2
    rw [List.getElem_set]
    simp only [updL, List.getElem_map, List.getElem_range]
    by_cases e : i - 1 = j
    · rw [if_pos e]
      unfold upd
      rw [if_pos (Nat.le_refl _), if_pos (by omega)]
      have : (k - j : Int) = (k - i : Int) + 1 := by omega
      rw [this, Int.add_mul]; omega
    · rw [if_neg e]
      unfold upd
      by_cases c : i ≤ j
      · rw [if_pos c, if_pos (by omega)]
      · rw [if_neg c, if_neg (by omega)]
/-- What holds them, as a list. -/
def hy (H : List Smp) : Nat → Smp := fun i => H.getD i (0, 0)
def hupL (k : Nat) (h : Smp) (i : Nat) (H : List Smp) : List Smp := (List.range (k + 1)).map (hup k h i (hy H))
theorem hupL_len (k : Nat) (h : Smp) (i : Nat) (H : List Smp) : (hupL k h i H).length = k + 1 := by simp [hupL]
theorem hupL_at (k : Nat) (h : Smp) (i : Nat) (H : List Smp) {j : Nat} (hj : j ≤ k) : hy (hupL k h i H) j = hup k h i (hy H) j := by
  show (hupL k h i H).getD j (0, 0) = _
  unfold hupL
  rw [List.getD_eq_getElem?_getD, List.getElem?_map, List.getElem?_range (by omega)]; rfl
theorem hupL_start {k : Nat} {h : Smp} {H : List Smp} (hl : H.length = k) : hupL k h k H = H ++ [h] := by
  apply List.ext_getElem
  · rw [hupL_len]; simp [hl]
  · intro j h1 h2
    rw [hupL_len] at h1
    simp only [hupL, List.getElem_map, List.getElem_range]
    rw [List.getElem_append]
    unfold hup
    by_cases hj : j < k
    · rw [if_neg (by omega), if_neg (by omega), dif_pos (by omega)]
      unfold hy; rw [List.getD_eq_getElem?_getD, List.getElem?_eq_getElem (by omega)]; rfl
    · obtain rfl : j = k := by omega
      rw [if_pos rfl, dif_neg (by omega)]; simp
theorem hupL_step {k : Nat} {h : Smp} {H : List Smp} {i : Nat} (h0 : 0 < i) (hi : i ≤ k) : (hupL k h i H).set (i - 1) (4, (i : Int)) = hupL k h (i - 1) H := by
  apply List.ext_getElem
  · simp [hupL]
  · intro j h1 h2
    rw [hupL_len] at h2
    rw [List.getElem_set]
    simp only [hupL, List.getElem_map, List.getElem_range]
    by_cases e : i - 1 = j
    · rw [if_pos e]
      unfold hup
      rw [if_neg (by omega), if_pos (by omega), show ((j + 1 : Nat) : Int) = (i : Int) by omega]
    · rw [if_neg e]
      unfold hup
      by_cases c : j = k
      · rw [if_pos c, if_pos c]
      · rw [if_neg c, if_neg c]
        by_cases c2 : i ≤ j
        · rw [if_pos c2, if_pos (by omega)]
        · rw [if_neg c2, if_neg (by omega)]
theorem nxt_updL {b : Bk} {P : List Smp} {k i : Nat} {R : List Int} (hK : Keeps b P k (fx R)) (hE : Ends b P k (fx R) i) : updL b k (rk b P k (fx R)) i R = nxt b P k R := by
  have h := ends_nxt hK hE
  apply List.ext_getElem
  · rw [updL_len, nxt_len]
  · intro j h1 h2
    rw [updL_len] at h1
    have h3 := h j (by omega)
    rw [← updL_at b k _ i R (by omega)] at h3
    unfold fx at h3
    rw [List.getD_eq_getElem?_getD, List.getD_eq_getElem?_getD, List.getElem?_eq_getElem (by rw [updL_len]; omega), List.getElem?_eq_getElem h2] at h3
    exact h3
/-- The next sample's proof, where CutCore is broken on the way back. -/
theorem back_prf {b : Bk} {P : List Smp} {k i : Nat} {R : List Int} {H : List Smp} (hb : BkOk b) (hN : NoCirc b P (k + 1)) (hL : Leds b P k (fx R) (hy H)) (hi : i ≤ k)
    (hlow : ∀ j, i ≤ j → j < k → rk b P k (fx R) + (k - j : Int) * b.fast < fx R j) :
    ∃ c l, Led b P (k + 1) (hy (hupL k (hkS b P k (fx R)) i H)) c i (fx (updL b k (rk b P k (fx R)) i R) i) l := by
  obtain ⟨l, h⟩ := led_back hb hN hL hlow (k - i) (Nat.le_refl _) hi
  rw [show k - (k - i) = i by omega] at h
  refine ⟨rk b P k (fx R) + (k : Int) * b.fast, l, ?_⟩
  rw [updL_at b k _ i R hi]
  have e : upd b k (rk b P k (fx R)) i (fx R) i = rk b P k (fx R) + (k - i : Int) * b.fast := by unfold upd; rw [if_pos (Nat.le_refl _)]
  rw [e]
  exact h.swap (Nat.le_refl _) (fun q s' l' h' => hupL_at k _ i H (by have := h'.lt; omega))
theorem leds_updL {b : Bk} {P : List Smp} {k i : Nat} {R : List Int} {H : List Smp} (hb : BkOk b) (hK : Keeps b P k (fx R)) (hN : NoCirc b P (k + 1)) (hL : Leds b P k (fx R) (hy H)) (hE : Ends b P k (fx R) i) :
    Leds b P (k + 1) (fx (updL b k (rk b P k (fx R)) i R)) (hy (hupL k (hkS b P k (fx R)) i H)) := by
  intro j hj
  obtain ⟨c, l, h⟩ := leds_upd hb hK hN hL hE j hj
  refine ⟨c, l, ?_⟩
  rw [updL_at b k _ i R (by omega)]
  exact h.swap (Nat.le_refl _) (fun q s' l' h' => hupL_at k _ i H (by have := h'.lt; omega))
theorem fol_next {b : Bk} {P : List Smp} {k i : Nat} {R : List Int} (hs : sol b P k = some R) (ht : Top b P k R) (hc : circ b P k = false) (hE : Ends b P k (fx R) i)
    (hco : ∀ j, i ≤ j → j ≤ k → b.core ≤ rk b P k (fx R) + (k - j : Int) * b.fast + pin P j) : sol b P (k + 1) = some (updL b k (rk b P k (fx R)) i R) := by
  have hn := nxt_updL ht.keeps hE
  rw [sol_succ b P hs, if_neg (by rw [hc]; simp), ← hn, if_pos]
  unfold coresB
  rw [List.all_eq_true]
  intro j hj
  have hj := List.mem_range.1 hj
  rw [updL_len] at hj
  rw [decide_eq_true_eq, updL_at b k _ i R (by omega)]
  unfold upd
  split
  · rename_i h; exact hco j h (by omega)
  · rename_i h; exact ht.cores j (by have := hE.le; omega)
theorem fol_none {b : Bk} {P : List Smp} {k i : Nat} {R : List Int} (hb : BkOk b) (ht : Top b P k R) (hi : i ≤ k) (hco : rk b P k (fx R) + (k - i : Int) * b.fast + pin P i < b.core) : sol b P (k + 1) = none := by
  cases hs : sol b P (k + 1) with
  | none => rfl
  | some R' =>
    have ht' := (sol_some hb hs).1
    have h1 := upper_upd hb ht.upper hi _ ht'.keeps i (by omega)
    have h2 := ht'.cores i (by omega)
    unfold upd at h1
    rw [if_pos (Nat.le_refl _)] at h1
    omega
theorem rk_bd {b : Bk} {P : List Smp} {k : Nat} {x : Nat → Int} (hb : BkOk b) (hP : ∀ j, -4194304 ≤ pin P j ∧ pin P j ≤ 4194304 ∧ -4194304 ≤ pout P j ∧ pout P j ≤ 4194304) (hx : ∀ j, j < k → -33554432 ≤ x j ∧ x j ≤ 33554432) : -50331648 ≤ rk b P k x ∧ rk b P k x ≤ 8388608 := by
  have h1 := rk_rim b P k x
  have h2 := hP k
  have h3 := hb.core
  have h4 := hb.corim
  have h5 := hb.rim
  have h6 := hb.land1
  have h7 := hb.land2
  have h8 := hb.slow
  have h9 := hb.slowfast
  have h10 := hb.fast
  have h11 := hb.per1
  refine ⟨?_, by omega⟩
  have hc : rk b P k x = b.rim - pout P k ∨ (0 < k ∧ rk b P k x = x (k - 1) - b.slow) ∨ (b.per.toNat ≤ k ∧ rk b P k x = x (k - b.per.toNat) + wLand b P k) := by
    unfold rk; simp only
    by_cases c1 : 0 < k ∧ x (k - 1) - b.slow < b.rim - pout P k
    · rw [if_pos c1]
      by_cases c2 : b.per.toNat ≤ k ∧ x (k - b.per.toNat) + wLand b P k < x (k - 1) - b.slow
      · rw [if_pos c2]; exact .inr (.inr ⟨c2.1, rfl⟩)
      · rw [if_neg c2]; exact .inr (.inl ⟨c1.1, rfl⟩)
    · rw [if_neg c1]
      by_cases c2 : b.per.toNat ≤ k ∧ x (k - b.per.toNat) + wLand b P k < b.rim - pout P k
      · rw [if_pos c2]; exact .inr (.inr ⟨c2.1, rfl⟩)
      · rw [if_neg c2]; exact .inl rfl
  rcases hc with e | ⟨c, e⟩ | ⟨c, e⟩
  · omega
  · have := hx (k - 1) (by omega); omega
  · have h12 := hx (k - b.per.toNat) (by omega)
    have h13 := hP (k - b.per.toNat)
    have h14 : wLand b P k = pin P (k - b.per.toNat) - pout P k - b.land := rfl
    omega
/-- The proofs that follow finds. -/
inductive PrfOk (b : Bk) (P : List Smp) (n : Nat) : List Smp → Prop
  | cir (k : Nat) (hk : k < n) (hc : circ b P k = true) : PrfOk b P n (cirL b k)
  | way (m j : Nat) (H : Nat → Smp) (c s : Int) (l : List Smp) (hm : m ≤ n) (h : Led b P m H c j s l) (hs : s + pin P j < b.core) : PrfOk b P n (l.reverse ++ [(2, (j : Int))])
theorem PrfOk.prv {b : Bk} {P : List Smp} {n : Nat} {l : List Smp} (h : PrfOk b P n l) (hb : BkOk b) (hn : n ≤ P.length) : prv b P l = true := by
  cases h with
  | cir k hk hc => exact cir_prv hb (by omega) hc
  | way m j H c s l hm h hs => exact led_prv hb (by omega) h hs
theorem PrfOk.ne {b : Bk} {P : List Smp} {n : Nat} {l : List Smp} (h : PrfOk b P n l) : 0 < l.length := by
  cases h with
  | cir k hk hc => simp [cirL]
  | way m j H c s l hm h hs => simp
end Go.Proofs.Ytgdkcbnpgpjnbaa
