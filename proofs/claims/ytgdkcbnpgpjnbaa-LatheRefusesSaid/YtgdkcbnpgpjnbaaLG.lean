/-
  The document's greatest radii: used until nothing changes, they are found after as many rounds as there are samples. Mathematics.
-/
import Derived.Test.YtgdkcbnpgpjnbaaLE
namespace Go.Proofs.Ytgdkcbnpgpjnbaa

/-- What the rules say of a sample, all others as they are. -/
def relax (b : Bk) (P : List Smp) (n : Nat) (R : List Int) (i : Nat) : Int :=
  let m := fx R i
  let m := if 0 < i ∧ fx R (i - 1) - b.slow < m then fx R (i - 1) - b.slow else m
  let m := if b.per.toNat ≤ i ∧ fx R (i - b.per.toNat) + wLand b P i < m then fx R (i - b.per.toNat) + wLand b P i else m
  if i + 1 < n ∧ fx R (i + 1) + b.fast < m then fx R (i + 1) + b.fast else m
theorem relax_self (b : Bk) (P : List Smp) (n : Nat) (R : List Int) (i : Nat) : relax b P n R i ≤ fx R i := by unfold relax; simp only; split <;> split <;> split <;> omega
theorem relax_slow (b : Bk) (P : List Smp) (n : Nat) (R : List Int) (i : Nat) (h : 0 < i) : relax b P n R i ≤ fx R (i - 1) - b.slow := by unfold relax; simp only; split <;> split <;> split <;> omega
theorem relax_land (b : Bk) (P : List Smp) (n : Nat) (R : List Int) (i : Nat) (h : b.per.toNat ≤ i) : relax b P n R i ≤ fx R (i - b.per.toNat) + wLand b P i := by unfold relax; simp only; split <;> split <;> split <;> omega
theorem relax_fast (b : Bk) (P : List Smp) (n : Nat) (R : List Int) (i : Nat) (h : i + 1 < n) : relax b P n R i ≤ fx R (i + 1) + b.fast := by unfold relax; simp only; split <;> split <;> split <;> omega
theorem relax_ge {b : Bk} {P : List Smp} {n : Nat} {R : List Int} {i : Nat} {y : Nat → Int} (hb : BkOk b) (hi : i < n) (hy : Keeps b P n y) (h : ∀ j, j < n → y j ≤ fx R j) : y i ≤ relax b P n R i := by
  have h1 := hy i hi
  have h0 := h i hi
  have hp := hb.per1
  have a1 : 0 < i → y i ≤ fx R (i - 1) - b.slow := fun h' => by have := (h1.2.1 h').1; have := h (i - 1) (by omega); omega
  have a2 : b.per.toNat ≤ i → y i ≤ fx R (i - b.per.toNat) + wLand b P i := fun h' => by have := h1.2.2 h'; have := h (i - b.per.toNat) (by omega); omega
  have a3 : i + 1 < n → y i ≤ fx R (i + 1) + b.fast := fun h' => by
    have := ((hy (i + 1) h').2.1 (by omega)).2
    rw [show i + 1 - 1 = i by omega] at this
    have := h (i + 1) h'; omega
  unfold relax; simp only
  split <;> split <;> split <;> rename_i c1 c2 c3 <;> first | omega | (have := a1 c1.1; omega) | (have := a2 c2.1; omega) | (have := a3 c3.1; omega) | (exact a1 (by omega)) | (exact a2 (by omega)) | (exact a3 (by omega)) | exact h0

def swp (b : Bk) (P : List Smp) (n : Nat) (R : List Int) : Nat → List Int
  | 0 => R
  | k + 1 => (swp b P n R k).set k (relax b P n (swp b P n R k) k)
def chg (b : Bk) (P : List Smp) (n : Nat) (R : List Int) : Nat → Bool
  | 0 => false
  | k + 1 => chg b P n R k || decide (relax b P n (swp b P n R k) k < fx (swp b P n R k) k)
theorem swp_len (b : Bk) (P : List Smp) (n : Nat) (R : List Int) : ∀ k, (swp b P n R k).length = R.length
  | 0 => rfl
  | k + 1 => by show ((swp b P n R k).set k _).length = _; rw [List.length_set]; exact swp_len b P n R k
theorem fx_set {R : List Int} {k j : Nat} {v : Int} (hk : k < R.length) : fx (R.set k v) j = if j = k then v else fx R j := by
  unfold fx
  rw [List.getD_eq_getElem?_getD, List.getElem?_set]
  split
  · rename_i h; subst h; simp
  · rename_i h; rw [if_neg (by omega), List.getD_eq_getElem?_getD]
theorem swp_at {b : Bk} {P : List Smp} {n k j : Nat} {R : List Int} (hk : k < R.length) : fx (swp b P n R (k + 1)) j = if j = k then relax b P n (swp b P n R k) k else fx (swp b P n R k) j :=
  fx_set (R := swp b P n R k) (by rw [swp_len]; exact hk)
theorem swp_le {b : Bk} {P : List Smp} {n : Nat} {R : List Int} : ∀ k, k ≤ R.length → ∀ j, fx (swp b P n R k) j ≤ fx R j
  | 0, _, j => Int.le_refl _
  | k + 1, hk, j => by
    rw [swp_at (R := R) (by omega)]
    have := swp_le (b := b) (P := P) (n := n) (R := R) k (by omega) j
    split
    · rename_i h; subst h; have := relax_self b P n (swp b P n R j) j; omega
    · exact this
theorem swp_ge {b : Bk} {P : List Smp} {n : Nat} {R : List Int} {y : Nat → Int} (hb : BkOk b) (hl : R.length = n) (hy : Keeps b P n y) (h : ∀ j, j < n → y j ≤ fx R j) : ∀ k, k ≤ n → ∀ j, j < n → y j ≤ fx (swp b P n R k) j
  | 0, _, j, hj => h j hj
  | k + 1, hk, j, hj => by
    rw [swp_at (R := R) (by omega)]
    have ih := swp_ge hb hl hy h k (by omega)
    split
    · rename_i e; subst e; exact relax_ge hb hj hy ih
    · exact ih j hj
/-- Where nothing changes, the list stays. -/
theorem chg_false {b : Bk} {P : List Smp} {n : Nat} {R : List Int} : ∀ k, k ≤ R.length → chg b P n R k = false → swp b P n R k = R ∧ ∀ j, j < k → relax b P n R j = fx R j
  | 0, _, _ => ⟨rfl, fun j hj => by omega⟩
  | k + 1, hk, h => by
    have h' : chg b P n R k = false ∧ ¬ relax b P n (swp b P n R k) k < fx (swp b P n R k) k := by
      simpa [chg] using h
    obtain ⟨h1, h2⟩ := chg_false k (by omega) h'.1
    have h3 := relax_self b P n (swp b P n R k) k
    have h4 : relax b P n R k = fx R k := by rw [h1] at h3 h'; omega
    refine ⟨?_, fun j hj => ?_⟩
    · show (swp b P n R k).set k (relax b P n (swp b P n R k) k) = R
      rw [h1, h4]
      apply List.ext_getElem
      · simp
      · intro i i1 i2
        rw [List.getElem_set]
        split
        · rename_i e; subst e; unfold fx; rw [List.getD_eq_getElem?_getD, List.getElem?_eq_getElem i2]; rfl
        · rfl
    · by_cases e : j = k
      · subst e; exact h4
      · exact h2 j (by omega)

/-- The radii that the document finds; none if it gives up. -/
def grt (b : Bk) (P : List Smp) (n : Nat) : Nat → List Int → Option (List Int)
  | 0, _ => none
  | m + 1, R => if chg b P n R n then grt b P n m (swp b P n R n) else some (swp b P n R n)
def rim0 (b : Bk) (P : List Smp) (n : Nat) : List Int := (List.range n).map fun i => b.rim - pout P i
theorem rim0_len (b : Bk) (P : List Smp) (n : Nat) : (rim0 b P n).length = n := by simp [rim0]
theorem rim0_at (b : Bk) (P : List Smp) (n : Nat) {i : Nat} (hi : i < n) : fx (rim0 b P n) i = b.rim - pout P i := by
  unfold fx rim0
  rw [List.getD_eq_getElem?_getD, List.getElem?_map, List.getElem?_range hi]; rfl

theorem grt_some {b : Bk} {P : List Smp} {n : Nat} (hb : BkOk b) : ∀ (m : Nat) (R S : List Int), R.length = n → (∀ j, j < n → fx R j ≤ b.rim - pout P j) → Upper b P n (fx R) → grt b P n m R = some S →
    S.length = n ∧ Keeps b P n (fx S) ∧ Upper b P n (fx S)
  | 0, R, S, _, _, _, h => by cases h
  | m + 1, R, S, hl, hr, hU, h => by
    have h' : (if chg b P n R n then grt b P n m (swp b P n R n) else some (swp b P n R n)) = some S := h
    split at h'
    · refine grt_some hb m _ S (by rw [swp_len]; exact hl) (fun j hj => ?_) (fun y hy => swp_ge hb hl hy (hU y hy) n (Nat.le_refl _)) h'
      have := swp_le (b := b) (P := P) (n := n) (R := R) n (by omega) j
      have := hr j hj
      omega
    · rename_i hc
      have hc : chg b P n R n = false := by simpa using hc
      obtain ⟨h1, h2⟩ := chg_false n (by omega) hc
      rw [h1] at h'
      cases h'
      refine ⟨hl, fun i hi => ⟨hr i hi, fun h0 => ⟨?_, ?_⟩, fun hp => ?_⟩, hU⟩
      · rw [← h2 i hi]; exact relax_slow b P n R i h0
      · have := relax_fast b P n R (i - 1) (by omega)
        rw [h2 (i - 1) (by omega), show i - 1 + 1 = i by omega] at this
        exact this
      · rw [← h2 i hi]; exact relax_land b P n R i hp

theorem top_ex {b : Bk} {P : List Smp} (hb : BkOk b) : ∀ n, NoCirc b P n → ∃ x, Keeps b P n x ∧ Upper b P n x
  | 0, _ => ⟨fun _ => 0, fun i hi => by omega, fun y _ i hi => by omega⟩
  | n + 1, h => by
    obtain ⟨x, h1, h2⟩ := top_ex hb n (fun j hj => h j (by omega))
    obtain ⟨i, hE⟩ := ends_ex b P n x
    exact ⟨_, keeps_upd hb h1 h hE, upper_upd hb h2 hE.le⟩
theorem nocirc_of {b : Bk} {P : List Smp} {n : Nat} {y : Nat → Int} (hb : BkOk b) (hy : Keeps b P n y) : NoCirc b P n := by
  intro j hj hp
  have h1 := back_per hb (hy.mono (m := j + 1) (by omega)) hp
  have h2 := (hy j hj).2.2 hp
  omega

/-- How many samples are where they stay. -/
def fin (G : Nat → Int) (R : List Int) : Nat → Nat
  | 0 => 0
  | k + 1 => fin G R k + if fx R k = G k then 1 else 0
theorem fin_le (G : Nat → Int) (R : List Int) : ∀ k, fin G R k ≤ k
  | 0 => Nat.le_refl _
  | k + 1 => by have := fin_le G R k; show fin G R k + _ ≤ k + 1; split <;> omega
theorem fin_full {G : Nat → Int} {R : List Int} : ∀ k, fin G R k = k → ∀ j, j < k → fx R j = G j
  | 0, _, j, hj => by omega
  | k + 1, h, j, hj => by
    have h' : fin G R k + (if fx R k = G k then 1 else 0) = k + 1 := h
    have := fin_le G R k
    split at h'
    · rename_i e
      by_cases ej : j = k
      · subst ej; exact e
      · exact fin_full k (by omega) j (by omega)
    · omega
theorem fin_mono {G : Nat → Int} {R S : List Int} : ∀ k, (∀ j, j < k → fx R j = G j → fx S j = G j) → fin G R k ≤ fin G S k
  | 0, _ => Nat.le_refl _
  | k + 1, h => by
    have := fin_mono k (fun j hj => h j (by omega))
    show fin G R k + _ ≤ fin G S k + _
    split
    · rename_i e; rw [if_pos (h k (by omega) e)]; omega
    · split <;> omega
theorem fin_more {G : Nat → Int} {R S : List Int} : ∀ k, (∀ j, j < k → fx R j = G j → fx S j = G j) → (∃ i, i < k ∧ fx R i ≠ G i ∧ fx S i = G i) → fin G R k + 1 ≤ fin G S k
  | 0, _, ⟨i, hi, _⟩ => by omega
  | k + 1, h, ⟨i, hi, h1, h2⟩ => by
    show fin G R k + _ + 1 ≤ fin G S k + _
    by_cases e : i = k
    · subst e
      have := fin_mono i (fun j hj => h j (by omega))
      rw [if_neg h1, if_pos h2]; omega
    · have := fin_more k (fun j hj => h j (by omega)) ⟨i, by omega, h1, h2⟩
      split
      · rename_i e; rw [if_pos (h k (by omega) e)]; omega
      · split <;> omega

/-- Someone who could still move holds all others: so one that does not stay is held by one that stays, or by the rim. -/
theorem tight_ex {b : Bk} {P : List Smp} {n : Nat} {G : Nat → Int} {F : Nat → Prop} (hb : BkOk b) (hK : Keeps b P n G) (hU : Upper b P n G) (hF : ∃ i, i < n ∧ ¬ F i) :
    ∃ i, i < n ∧ ¬ F i ∧ (G i = b.rim - pout P i ∨ (0 < i ∧ F (i - 1) ∧ G i = G (i - 1) - b.slow) ∨ (i + 1 < n ∧ F (i + 1) ∧ G i = G (i + 1) + b.fast) ∨ (b.per.toNat ≤ i ∧ F (i - b.per.toNat) ∧ G i = G (i - b.per.toNat) + wLand b P i)) := by
  apply Classical.byContradiction
  intro hno
  have hno : ∀ i, i < n → ¬ F i → G i ≠ b.rim - pout P i ∧ (0 < i → F (i - 1) → G i ≠ G (i - 1) - b.slow) ∧ (i + 1 < n → F (i + 1) → G i ≠ G (i + 1) + b.fast) ∧ (b.per.toNat ≤ i → F (i - b.per.toNat) → G i ≠ G (i - b.per.toNat) + wLand b P i) := by
    intro i hi hf
    refine ⟨fun h => hno ⟨i, hi, hf, .inl h⟩, fun h1 h2 h3 => hno ⟨i, hi, hf, .inr (.inl ⟨h1, h2, h3⟩)⟩, fun h1 h2 h3 => hno ⟨i, hi, hf, .inr (.inr (.inl ⟨h1, h2, h3⟩))⟩, fun h1 h2 h3 => hno ⟨i, hi, hf, .inr (.inr (.inr ⟨h1, h2, h3⟩))⟩⟩
  have hp := hb.per1
  classical
  have hy : Keeps b P n (fun i => if F i then G i else G i + 1) := by
    intro i hi
    have h1 := hK i hi
    simp only
    refine ⟨?_, fun h0 => ?_, fun hp => ?_⟩
    · split
      · exact h1.1
      · rename_i hf; have := (hno i hi hf).1; omega
    · have h2 := h1.2.1 h0
      split <;> split
      · exact h2
      · rename_i fi fj
        have := (hno (i - 1) (by omega) fj).2.2.1 (by omega)
        rw [show i - 1 + 1 = i by omega] at this
        have := this fi
        omega
      · rename_i fi fj; have := (hno i hi fi).2.1 h0 fj; omega
      · omega
    · have h2 := h1.2.2 hp
      split <;> split
      · exact h2
      · omega
      · rename_i fi fj; have := (hno i hi fi).2.2.2 hp fj; omega
      · omega
  obtain ⟨i, hi, hf⟩ := hF
  have := hU _ hy i hi
  simp only [if_neg hf] at this
  omega

theorem swp_stay {b : Bk} {P : List Smp} {n : Nat} {R : List Int} {G : Nat → Int} (hb : BkOk b) (hl : R.length = n) (hK : Keeps b P n G) (h : ∀ j, j < n → G j ≤ fx R j) {j : Nat} (hj : j < n) (he : fx R j = G j) : ∀ k, k ≤ n → fx (swp b P n R k) j = G j := by
  intro k hk
  have h1 := swp_ge hb hl hK h k hk j hj
  have h2 := swp_le (b := b) (P := P) (n := n) (R := R) k (by omega) j
  omega
theorem swp_after {b : Bk} {P : List Smp} {n : Nat} {R : List Int} {j : Nat} : ∀ d, j + 1 + d ≤ R.length → fx (swp b P n R (j + 1 + d)) j ≤ relax b P n (swp b P n R j) j
  | 0, h => by rw [swp_at (R := R) (by omega), if_pos rfl]; exact Int.le_refl _
  | d + 1, h => by
    rw [show j + 1 + (d + 1) = (j + 1 + d) + 1 by omega, swp_at (R := R) (by omega), if_neg (by omega)]
    exact swp_after d (by omega)

theorem grt_none {b : Bk} {P : List Smp} {n : Nat} {G : Nat → Int} (hb : BkOk b) (hK : Keeps b P n G) (hU : Upper b P n G) : ∀ (m : Nat) (R : List Int), R.length = n → (∀ j, j < n → fx R j ≤ b.rim - pout P j) → (∀ j, j < n → G j ≤ fx R j) → n ≤ fin G R n + m → grt b P n (m + 1) R ≠ none
  | m, R, hl, hr, hg, hm => by
    intro h
    have h' : (if chg b P n R n then grt b P n m (swp b P n R n) else some (swp b P n R n)) = none := h
    split at h'
    · rename_i hc
      -- something changes: so not all are where they stay
      have hF : ∃ i, i < n ∧ ¬ (fx R i = G i) := by
        apply Classical.byContradiction
        intro hno
        have hall : ∀ j, j < n → fx R j = G j := fun j hj => Classical.byContradiction fun hne => hno ⟨j, hj, hne⟩
        have : ∀ k, k ≤ n → chg b P n R k = false := by
          intro k
          induction k with
          | zero => intro _; rfl
          | succ k ih =>
            intro hk
            have h1 := ih (by omega)
            have h2 := swp_stay hb hl hK hg (j := k) (by omega) (hall k (by omega)) k (by omega)
            have h3 := relax_ge (R := swp b P n R k) (i := k) hb (by omega) hK (swp_ge hb hl hK hg k (by omega))
            simp only [chg, h1, Bool.false_or, decide_eq_false_iff_not]
            omega
        rw [this n (Nat.le_refl _)] at hc
        cases hc
      obtain ⟨i, hi, hne, ht⟩ := tight_ex (F := fun i => fx R i = G i) hb hK hU hF
      have hstay := fun (j : Nat) (hj : j < n) (he : fx R j = G j) (k : Nat) (hk : k ≤ n) => swp_stay hb hl hK hg hj he k hk
      have hgi := swp_ge hb hl hK hg n (Nat.le_refl _) i hi
      have hrx := swp_after (b := b) (P := P) (n := n) (R := R) (j := i) (n - 1 - i) (by omega)
      rw [show i + 1 + (n - 1 - i) = n by omega] at hrx
      have hri := hr i hi
      have hg0 := hg i hi
      have hnew : fx (swp b P n R n) i = G i := by
        rcases ht with h1 | ⟨h0, hf, he⟩ | ⟨h0, hf, he⟩ | ⟨h0, hf, he⟩
        · omega
        · have := relax_slow b P n (swp b P n R i) i h0
          rw [hstay (i - 1) (by omega) hf i (by omega)] at this
          omega
        · have := relax_fast b P n (swp b P n R i) i h0
          rw [hstay (i + 1) (by omega) hf i (by omega)] at this
          omega
        · have := relax_land b P n (swp b P n R i) i h0
          rw [hstay (i - b.per.toNat) (by have := hb.per1; omega) hf i (by omega)] at this
          omega
      have hfm := fin_more (G := G) (R := R) (S := swp b P n R n) n (fun j hj he => hstay j hj he n (Nat.le_refl _)) ⟨i, hi, hne, hnew⟩
      have hle := fin_le G (swp b P n R n) n
      cases m with
      | zero => omega
      | succ m =>
        refine grt_none hb hK hU m (swp b P n R n) (by rw [swp_len]; exact hl) (fun j hj => ?_) (fun j hj => swp_ge hb hl hK hg n (Nat.le_refl _) j hj) (by omega) h'
        have := swp_le (b := b) (P := P) (n := n) (R := R) n (by omega) j
        have := hr j hj
        omega
    · cases h'

/-- What the document finds is what there is. -/
theorem grt_spec {b : Bk} {P : List Smp} (hb : BkOk b) (n : Nat) : (∀ R, grt b P n (n + 2) (rim0 b P n) = some R → Keeps b P n (fx R) ∧ Upper b P n (fx R) ∧ R.length = n) ∧ (grt b P n (n + 2) (rim0 b P n) = none → ∀ y, ¬ Keeps b P n y) := by
  have h0 : ∀ j, j < n → fx (rim0 b P n) j ≤ b.rim - pout P j := fun j hj => by rw [rim0_at b P n hj]; exact Int.le_refl _
  have hU : Upper b P n (fx (rim0 b P n)) := fun y hy i hi => by rw [rim0_at b P n hi]; exact (hy i hi).1
  constructor
  · intro R h
    obtain ⟨h1, h2, h3⟩ := grt_some hb (n + 2) _ R (rim0_len b P n) h0 hU h
    exact ⟨h2, h3, h1⟩
  · intro h y hy
    obtain ⟨G, hK, hUG⟩ := top_ex hb n (nocirc_of hb hy)
    exact grt_none hb hK hUG (n + 1) (rim0 b P n) (rim0_len b P n) h0 (fun j hj => hU G hK j hj) (by omega) h
/-- The document's outermost cut. -/
def refOut (b : Bk) (P : List Smp) (n : Nat) : Option (List Int) := match grt b P n (n + 2) (rim0 b P n) with
  | none => none
  | some R => if coresB b P R then some R else none
theorem refOut_eq {b : Bk} {P : List Smp} (hb : BkOk b) (n : Nat) : refOut b P n = sol b P n := by
  obtain ⟨h1, h2⟩ := grt_spec (P := P) hb n
  unfold refOut
  cases hg : grt b P n (n + 2) (rim0 b P n) with
  | none =>
    have := h2 hg
    cases hs : sol b P n with
    | none => rfl
    | some R => exact absurd (sol_some hb hs).1.keeps (this _)
  | some R =>
    obtain ⟨hK, hU, hl⟩ := h1 R hg
    simp only
    by_cases hc : coresB b P R = true
    · rw [if_pos hc]; exact (top_sol hb ⟨hl, hK, cores_all hl hc, hU⟩).symm
    · rw [if_neg hc]
      obtain ⟨j, hj, hj2⟩ := cores_not (n := n) hl (by simpa using hc)
      cases hs : sol b P n with
      | none => rfl
      | some R' =>
        have ht := (sol_some hb hs).1
        have := hU _ ht.keeps j hj
        have := ht.cores j hj
        omega
end Go.Proofs.Ytgdkcbnpgpjnbaa
