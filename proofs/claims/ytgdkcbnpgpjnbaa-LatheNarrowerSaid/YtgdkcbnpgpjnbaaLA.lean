/-
  Blanks, cuts that keep the rules, the outermost one: mathematics.
-/
import Derived.Test.YtgdkcbnpgpjnbaaSm
namespace Go.Proofs.Ytgdkcbnpgpjnbaa


/-- A blank: the samples of a turn, the greatest and the least radius, the least land, the least and the greatest pitch of a sample. -/
structure Bk where
  per : Int
  rim : Int
  core : Int
  land : Int
  slow : Int
  fast : Int

def pin (P : List Smp) (i : Nat) : Int := (P.getD i (0, 0)).1
def pout (P : List Smp) (i : Nat) : Int := (P.getD i (0, 0)).2
/-- What CutLand at i says: its weight. -/
def wLand (b : Bk) (P : List Smp) (i : Nat) : Int := pin P (i - b.per.toNat) - pout P i - b.land

/-- All rules but CutCore. -/
def Keeps (b : Bk) (P : List Smp) (n : Nat) (x : Nat → Int) : Prop :=
  ∀ i, i < n → x i ≤ b.rim - pout P i ∧ (0 < i → x i ≤ x (i - 1) - b.slow ∧ x (i - 1) ≤ x i + b.fast) ∧ (b.per.toNat ≤ i → x i ≤ x (i - b.per.toNat) + wLand b P i)
def Cores (b : Bk) (P : List Smp) (n : Nat) (x : Nat → Int) : Prop := ∀ i, i < n → b.core ≤ x i + pin P i
/-- The first n points have a cut. -/
def Feas (b : Bk) (P : List Smp) (n : Nat) : Prop := ∃ x, Keeps b P n x ∧ Cores b P n x
/-- No circle of CutLand and CutFast at j has a sum below 0. -/
def NoCirc (b : Bk) (P : List Smp) (n : Nat) : Prop := ∀ j, j < n → b.per.toNat ≤ j → 0 ≤ wLand b P j + b.per * b.fast
def Upper (b : Bk) (P : List Smp) (n : Nat) (x : Nat → Int) : Prop := ∀ y, Keeps b P n y → ∀ i, i < n → y i ≤ x i
/-- A blank whose numbers are in order. -/
structure BkOk (b : Bk) : Prop where
  per1 : 1 ≤ b.per
  per2 : b.per ≤ 65536
  core : 0 ≤ b.core
  corim : b.core ≤ b.rim
  rim : b.rim ≤ 4194304
  land1 : 0 ≤ b.land
  land2 : b.land ≤ 65536
  slow : 0 ≤ b.slow
  slowfast : b.slow ≤ b.fast
  fast : b.fast ≤ 65536

theorem Keeps.mono {b : Bk} {P : List Smp} {n m : Nat} {x : Nat → Int} (h : Keeps b P n x) (hm : m ≤ n) : Keeps b P m x := fun i hi => h i (by omega)
theorem Cores.mono {b : Bk} {P : List Smp} {n m : Nat} {x : Nat → Int} (h : Cores b P n x) (hm : m ≤ n) : Cores b P m x := fun i hi => h i (by omega)
theorem Feas.mono {b : Bk} {P : List Smp} {n m : Nat} (h : Feas b P n) (hm : m ≤ n) : Feas b P m := let ⟨x, h1, h2⟩ := h; ⟨x, h1.mono hm, h2.mono hm⟩

/-- Where the next sample comes: as far out as those before it allow. -/
def rk (b : Bk) (P : List Smp) (k : Nat) (x : Nat → Int) : Int :=
  let a := b.rim - pout P k
  let a := if 0 < k ∧ x (k - 1) - b.slow < a then x (k - 1) - b.slow else a
  if b.per.toNat ≤ k ∧ x (k - b.per.toNat) + wLand b P k < a then x (k - b.per.toNat) + wLand b P k else a
theorem rk_rim (b : Bk) (P : List Smp) (k : Nat) (x : Nat → Int) : rk b P k x ≤ b.rim - pout P k := by unfold rk; simp only; split <;> split <;> omega
theorem rk_slow (b : Bk) (P : List Smp) (k : Nat) (x : Nat → Int) (h : 0 < k) : rk b P k x ≤ x (k - 1) - b.slow := by unfold rk; simp only; split <;> split <;> omega
theorem rk_land (b : Bk) (P : List Smp) (k : Nat) (x : Nat → Int) (h : b.per.toNat ≤ k) : rk b P k x ≤ x (k - b.per.toNat) + wLand b P k := by unfold rk; simp only; split <;> split <;> omega

theorem mul_nn {a b : Int} (h : 0 ≤ a) (k : 0 ≤ b) : 0 ≤ a * b := Int.mul_nonneg h k

/-- The radii behind the next sample, from the index i on; all of them: i = 0. -/
def upd (b : Bk) (k : Nat) (r : Int) (i : Nat) (x : Nat → Int) : Nat → Int := fun j => if i ≤ j then r + (k - j : Int) * b.fast else x j

/-- From x to where the way back ends. -/
structure Ends (b : Bk) (P : List Smp) (k : Nat) (x : Nat → Int) (i : Nat) : Prop where
  le : i ≤ k
  low : ∀ j, i ≤ j → j < k → rk b P k x + (k - j : Int) * b.fast < x j
  stop : 0 < i → x (i - 1) ≤ rk b P k x + (k - (i - 1 : Nat) : Int) * b.fast

theorem keeps_upd {b : Bk} {P : List Smp} {k i : Nat} {x : Nat → Int} (hb : BkOk b) (hK : Keeps b P k x) (hN : NoCirc b P (k + 1)) (hE : Ends b P k x i) : Keeps b P (k + 1) (upd b k (rk b P k x) i x) := by
  intro j hj
  have hf : 0 ≤ b.fast := by have := hb.slow; have := hb.slowfast; omega
  have hp := hb.per1
  have r1 := rk_rim b P k x
  have r2 := rk_slow b P k x
  have r3 := rk_land b P k x
  generalize hr : rk b P k x = r at *
  have hle := hE.le
  -- no radius is farther out than before
  have ub : ∀ j, j < k → upd b k r i x j ≤ x j := by
    intro j hj
    unfold upd
    split
    · have := hE.low j (by omega) hj; rw [hr] at this; omega
    · omega
  have at_k : upd b k r i x k = r := by unfold upd; rw [if_pos hle]; simp
  refine ⟨?_, ?_, ?_⟩
  · by_cases h : j = k
    · subst h; rw [at_k]; exact r1
    · have := ub j (by omega); have := (hK j (by omega)).1; omega
  · intro h0
    by_cases hji : i ≤ j - 1
    · -- both are on the way back
      have e1 : upd b k r i x j = r + (k - j : Int) * b.fast := by unfold upd; rw [if_pos (by omega)]
      have e2 : upd b k r i x (j - 1) = r + (k - j : Int) * b.fast + b.fast := by
        unfold upd; rw [if_pos hji]
        rw [show ((k : Int) - (j - 1 : Nat)) = (k - j : Int) + 1 by omega, Int.add_mul]; omega
      have := hb.slowfast
      omega
    · have e2 : upd b k r i x (j - 1) = x (j - 1) := by unfold upd; rw [if_neg hji]
      by_cases h : j = k
      · subst h
        rw [at_k, e2]
        have hi : i = j := by omega
        subst hi
        have := hE.stop h0
        rw [hr] at this
        rw [show ((i : Int) - (i - 1 : Nat)) = 1 by omega] at this
        have := r2 h0
        omega
      · have h1 := (hK j (by omega)).2.1 h0
        have h2 := ub j (by omega)
        rw [e2]
        refine ⟨by omega, ?_⟩
        by_cases hi : i ≤ j
        · have hij : i = j := by omega
          subst hij
          have := hE.stop h0
          rw [hr] at this
          have e3 : upd b k r i x i = r + (k - i : Int) * b.fast := by unfold upd; rw [if_pos (Nat.le_refl _)]
          rw [show ((k : Int) - (i - 1 : Nat)) = (k - i : Int) + 1 by omega, Int.add_mul] at this
          omega
        · have e3 : upd b k r i x j = x j := by unfold upd; rw [if_neg hi]
          omega
  · intro hper
    by_cases hm : i ≤ j - b.per.toNat
    · have e1 : upd b k r i x j = r + (k - j : Int) * b.fast := by unfold upd; rw [if_pos (by omega)]
      have e2 : upd b k r i x (j - b.per.toNat) = r + (k - j : Int) * b.fast + b.per * b.fast := by
        unfold upd; rw [if_pos hm]
        rw [show ((k : Int) - (j - b.per.toNat : Nat)) = (k - j : Int) + b.per by omega, Int.add_mul]; omega
      have := hN j hj hper
      omega
    · have e2 : upd b k r i x (j - b.per.toNat) = x (j - b.per.toNat) := by unfold upd; rw [if_neg hm]
      by_cases h : j = k
      · subst h
        rw [at_k, e2]
        exact r3 hper
      · have h1 := (hK j (by omega)).2.2 hper
        have h2 := ub j (by omega)
        rw [e2]; omega

theorem upper_k {b : Bk} {P : List Smp} {k : Nat} {x y : Nat → Int} (hU : Upper b P k x) (hb : BkOk b) (hy : Keeps b P (k + 1) y) : y k ≤ rk b P k x := by
  have h := hy k (by omega)
  have hp := hb.per1
  unfold rk; simp only
  split <;> split
  · rename_i h1 h2
    have := h.2.2 h2.1; have := hU y (hy.mono (by omega)) (k - b.per.toNat) (by omega); omega
  · rename_i h1 h2
    have := (h.2.1 h1.1).1; have := hU y (hy.mono (by omega)) (k - 1) (by omega); omega
  · rename_i h1 h2
    have := h.2.2 h2.1; have := hU y (hy.mono (by omega)) (k - b.per.toNat) (by omega); omega
  · exact h.1

theorem back_le {b : Bk} {P : List Smp} {k : Nat} {y : Nat → Int} (hy : Keeps b P (k + 1) y) : ∀ d, d ≤ k → y (k - d) ≤ y k + (d : Int) * b.fast := by
  intro d
  induction d with
  | zero => intro _; simp
  | succ d ih =>
    intro hd
    have h1 := ih (by omega)
    have h2 := ((hy (k - d) (by omega)).2.1 (by omega)).2
    rw [show k - (d + 1) = k - d - 1 by omega]
    rw [show ((d + 1 : Nat) : Int) = (d : Int) + 1 by omega, Int.add_mul]
    omega

theorem upper_upd {b : Bk} {P : List Smp} {k : Nat} {x : Nat → Int} (hb : BkOk b) (hU : Upper b P k x) {i : Nat} (hi : i ≤ k) : Upper b P (k + 1) (upd b k (rk b P k x) i x) := by
  intro y hy j hj
  unfold upd
  split
  · have h1 := upper_k hU hb hy
    have h2 := back_le hy (k - j) (by omega)
    rw [show k - (k - j) = j by omega] at h2
    rw [show ((k - j : Nat) : Int) = (k - j : Int) by omega] at h2
    omega
  · exact hU y (hy.mono (by omega)) j (by omega)

/-- The radii, as they lie above the greatest pitch, do not fall. -/
theorem lift_mono {b : Bk} {P : List Smp} {k : Nat} {x : Nat → Int} (hK : Keeps b P k x) : ∀ d j, j + d < k → x j + (j : Int) * b.fast ≤ x (j + d) + ((j + d : Nat) : Int) * b.fast := by
  intro d
  induction d with
  | zero => intro j _; exact Int.le_refl _
  | succ d ih =>
    intro j h
    have h1 := ih j (by omega)
    have h2 := ((hK (j + d + 1) (by omega)).2.1 (by omega)).2
    rw [show j + d + 1 - 1 = j + d by omega] at h2
    rw [show j + (d + 1) = j + d + 1 by omega, show ((j + d + 1 : Nat) : Int) = ((j + d : Nat) : Int) + 1 by omega, Int.add_mul]
    omega

theorem Ends.clip {b : Bk} {P : List Smp} {k i : Nat} {x : Nat → Int} (hK : Keeps b P k x) (hE : Ends b P k x i) {j : Nat} (hj : j < k) :
    upd b k (rk b P k x) i x j = if rk b P k x + (k - j : Int) * b.fast < x j then rk b P k x + (k - j : Int) * b.fast else x j := by
  unfold upd
  split
  · rename_i h; rw [if_pos (hE.low j h hj)]
  · rename_i h
    rw [if_neg]
    have h0 := hE.stop (by omega)
    have h1 := lift_mono hK (i - 1 - j) j (by have := hE.le; omega)
    rw [show j + (i - 1 - j) = i - 1 by omega] at h1
    have e1 : (k - j : Int) * b.fast = (k : Int) * b.fast - (j : Int) * b.fast := Int.sub_mul _ _ _
    have e2 : (k - (i - 1 : Nat) : Int) * b.fast = (k : Int) * b.fast - ((i - 1 : Nat) : Int) * b.fast := Int.sub_mul _ _ _
    omega

/-- A step's edge: from i to j, and its weight. -/
inductive Edg (b : Bk) (P : List Smp) : Smp → Nat → Nat → Int → Prop
  | slow (i : Nat) : Edg b P (3, ((i + 1 : Nat) : Int)) i (i + 1) (-b.slow)
  | fast (j : Nat) : Edg b P (4, ((j + 1 : Nat) : Int)) (j + 1) j b.fast
  | land (j : Nat) (h : b.per.toNat ≤ j) : Edg b P (5, (j : Int)) (j - b.per.toNat) j (wLand b P j)

/-- By its steps, and by those of the samples where they begin, the sample j is held at s; nothing on the way lies higher than c above the greatest pitch. -/
inductive Led (b : Bk) (P : List Smp) (n : Nat) (H : Nat → Smp) (c : Int) : Nat → Int → List Smp → Prop
  | rim {j : Nat} (hj : j < n) (h : H j = (1, (j : Int))) (hc : b.rim - pout P j + (j : Int) * b.fast ≤ c) : Led b P n H c j (b.rim - pout P j) [(1, (j : Int))]
  | step {j i : Nat} {st : Smp} {s w : Int} {l : List Smp} (hj : j < n) (h : H j = st) (he : Edg b P st i j w) (hl : Led b P n H c i s l) (hc : s + w + (j : Int) * b.fast ≤ c) : Led b P n H c j (s + w) (st :: l)

theorem Led.lt {b : Bk} {P : List Smp} {n : Nat} {H : Nat → Smp} {c : Int} {j : Nat} {s : Int} {l : List Smp} (h : Led b P n H c j s l) : j < n := by cases h <;> assumption
theorem Led.le {b : Bk} {P : List Smp} {n : Nat} {H : Nat → Smp} {c : Int} {j : Nat} {s : Int} {l : List Smp} (h : Led b P n H c j s l) : s + (j : Int) * b.fast ≤ c := by cases h <;> assumption
theorem Led.mono {b : Bk} {P : List Smp} {n m : Nat} {H : Nat → Smp} {c d : Int} {j : Nat} {s : Int} {l : List Smp} (h : Led b P n H c j s l) (hc : c ≤ d) (hn : n ≤ m) : Led b P m H d j s l := by
  induction h with
  | rim hj h hc' => exact .rim (by omega) h (by omega)
  | step hj h he hl hc' ih => exact .step (by omega) h he ih (by omega)

theorem Edg.det {b : Bk} {P : List Smp} {st : Smp} {i i' j : Nat} {w w' : Int} (h : Edg b P st i j w) (h' : Edg b P st i' j w') : i = i' ∧ w = w' := by
  cases h <;> cases h' <;> first | exact ⟨rfl, rfl⟩ | (exact ⟨by omega, rfl⟩)

theorem Led.det {b : Bk} {P : List Smp} {n : Nat} {H : Nat → Smp} {c : Int} {j : Nat} {s : Int} {l : List Smp} (h : Led b P n H c j s l) :
    ∀ {c' s' : Int} {l' : List Smp}, Led b P n H c' j s' l' → s = s' ∧ l = l' := by
  induction h with
  | rim hj h hc =>
    intro c' s' l' h'
    cases h' with
    | rim => exact ⟨rfl, rfl⟩
    | step hj2 h2 he hl2 hc2 => rw [h] at h2; subst h2; cases he
  | step hj h he hl hc ih =>
    intro c' s' l' h'
    cases h' with
    | rim hj2 h2 hc2 => rw [h] at h2; subst h2; cases he
    | step hj2 h2 he2 hl2 hc2 =>
      rw [h] at h2; subst h2
      obtain ⟨rfl, rfl⟩ := he.det he2
      obtain ⟨rfl, rfl⟩ := ih hl2
      exact ⟨rfl, rfl⟩

/-- Nothing on the way lies higher than the sample itself. -/
theorem Led.tight {b : Bk} {P : List Smp} {n : Nat} {H : Nat → Smp} {c : Int} {j : Nat} {s : Int} {l : List Smp} (hb : BkOk b) (hN : NoCirc b P n) (h : Led b P n H c j s l) : Led b P n H (s + (j : Int) * b.fast) j s l := by
  induction h with
  | rim hj h hc => exact .rim hj h (Int.le_refl _)
  | step hj h he hl hc ih =>
    rename_i j i st s w l
    refine .step hj h he (ih.mono ?_ (Nat.le_refl _)) (Int.le_refl _)
    have h1 := hb.slowfast
    have h2 := hb.per1
    cases he with
    | slow => rw [show ((i + 1 : Nat) : Int) = (i : Int) + 1 by omega, Int.add_mul]; omega
    | fast => rw [show ((j + 1 : Nat) : Int) = (j : Int) + 1 by omega, Int.add_mul]; omega
    | land _ hp =>
      have := hN j hj hp
      rw [show ((j - b.per.toNat : Nat) : Int) = (j : Int) - b.per by omega, Int.sub_mul]; omega

theorem Led.swap {b : Bk} {P : List Smp} {n m : Nat} {H H' : Nat → Smp} {c : Int} {j : Nat} {s : Int} {l : List Smp} (h : Led b P n H c j s l) (hn : n ≤ m) (hH : ∀ q s' l', Led b P n H c q s' l' → H' q = H q) : Led b P m H' c j s l := by
  induction h with
  | rim hj h hc => exact .rim (by omega) ((hH _ _ _ (.rim hj h hc)).trans h) hc
  | step hj h he hl hc ih => exact .step (by omega) ((hH _ _ _ (.step hj h he hl hc)).trans h) he ih hc

/-- What holds the next sample. -/
def hkS (b : Bk) (P : List Smp) (k : Nat) (x : Nat → Int) : Smp :=
  let a := b.rim - pout P k
  let a' := if 0 < k ∧ x (k - 1) - b.slow < a then x (k - 1) - b.slow else a
  if b.per.toNat ≤ k ∧ x (k - b.per.toNat) + wLand b P k < a' then (5, (k : Int)) else if 0 < k ∧ x (k - 1) - b.slow < a then (3, (k : Int)) else (1, (k : Int))

/-- The steps behind the next sample, from the index i on. -/
def hup (k : Nat) (h : Smp) (i : Nat) (H : Nat → Smp) : Nat → Smp := fun j => if j = k then h else if i ≤ j then (4, ((j + 1 : Nat) : Int)) else H j

def Leds (b : Bk) (P : List Smp) (n : Nat) (x : Nat → Int) (H : Nat → Smp) : Prop := ∀ j, j < n → ∃ c l, Led b P n H c j (x j) l

/-- The way of the next sample. -/
theorem led_k {b : Bk} {P : List Smp} {k i : Nat} {x : Nat → Int} {H : Nat → Smp} (hb : BkOk b) (hN : NoCirc b P (k + 1)) (hL : Leds b P k x H)
    (hlow : ∀ j, i ≤ j → j < k → rk b P k x + (k - j : Int) * b.fast < x j) :
    ∃ l, Led b P (k + 1) (hup k (hkS b P k x) i H) (rk b P k x + (k : Int) * b.fast) k (rk b P k x) l := by
  have hp := hb.per1
  have hNk : NoCirc b P k := fun j h => hN j (by omega)
  -- an old way that lies low enough is not turned
  have old : ∀ q c l, Led b P k H c q (x q) l → x q + (q : Int) * b.fast ≤ rk b P k x + (k : Int) * b.fast → Led b P (k + 1) (hup k (hkS b P k x) i H) (rk b P k x + (k : Int) * b.fast) q (x q) l := by
    intro q c l h hq
    refine ((h.tight hb hNk).mono hq (Nat.le_refl _)).swap (by omega) ?_
    intro q' s' l' h'
    have hq' := h'.lt
    obtain ⟨c2, l2, h2⟩ := hL q' hq'
    obtain ⟨rfl, -⟩ := h'.det h2
    have h3 := h'.le
    unfold hup
    rw [if_neg (by omega), if_neg]
    intro hi
    have := hlow q' hi hq'
    have e1 : (k - q' : Int) * b.fast = (k : Int) * b.fast - (q' : Int) * b.fast := Int.sub_mul _ _ _
    omega
  have hk1 : hup k (hkS b P k x) i H k = hkS b P k x := by unfold hup; rw [if_pos rfl]
  have hsf := hb.slowfast
  by_cases h2 : b.per.toNat ≤ k ∧ x (k - b.per.toNat) + wLand b P k < (if 0 < k ∧ x (k - 1) - b.slow < b.rim - pout P k then x (k - 1) - b.slow else b.rim - pout P k)
  · have er : rk b P k x = x (k - b.per.toNat) + wLand b P k := by unfold rk; simp only; rw [if_pos h2]
    have eh : hkS b P k x = (5, (k : Int)) := by unfold hkS; simp only; rw [if_pos h2]
    obtain ⟨c, l, h⟩ := hL (k - b.per.toNat) (by omega)
    have hc := hN k (by omega) h2.1
    have := old _ _ _ h (by rw [er, show ((k - b.per.toNat : Nat) : Int) = (k : Int) - b.per by omega, Int.sub_mul]; omega)
    have := Led.step (j := k) (st := (5, (k : Int))) (by omega) (hk1.trans eh) (.land k h2.1) this (by rw [er]; exact Int.le_refl _)
    rw [← er] at this
    exact ⟨_, this⟩
  · by_cases h1 : 0 < k ∧ x (k - 1) - b.slow < b.rim - pout P k
    · have er : rk b P k x = x (k - 1) - b.slow := by unfold rk; simp only; rw [if_neg h2, if_pos h1]
      have eh : hkS b P k x = (3, (k : Int)) := by unfold hkS; simp only; rw [if_neg h2, if_pos h1]
      obtain ⟨c, l, h⟩ := hL (k - 1) (by omega)
      have := old _ _ _ h (by rw [er, show ((k - 1 : Nat) : Int) = (k : Int) - 1 by omega, Int.sub_mul]; omega)
      have ed : Edg b P (3, (k : Int)) (k - 1) k (-b.slow) := by
        have := Edg.slow (b := b) (P := P) (k - 1)
        rwa [show k - 1 + 1 = k by omega] at this
      have := Led.step (j := k) (st := (3, (k : Int))) (by omega) (hk1.trans eh) ed this (by rw [er]; exact Int.le_refl _)
      rw [← Int.sub_eq_add_neg, ← er] at this
      exact ⟨_, this⟩
    · have er : rk b P k x = b.rim - pout P k := by unfold rk; simp only; rw [if_neg h2, if_neg h1]
      have eh : hkS b P k x = (1, (k : Int)) := by unfold hkS; simp only; rw [if_neg h2, if_neg h1]
      have := Led.rim (b := b) (P := P) (n := k + 1) (c := rk b P k x + (k : Int) * b.fast) (j := k) (by omega) (hk1.trans eh) (by rw [er]; exact Int.le_refl _)
      rw [← er] at this
      exact ⟨_, this⟩

/-- The ways of the samples on the way back. -/
theorem led_back {b : Bk} {P : List Smp} {k i : Nat} {x : Nat → Int} {H : Nat → Smp} (hb : BkOk b) (hN : NoCirc b P (k + 1)) (hL : Leds b P k x H)
    (hlow : ∀ j, i ≤ j → j < k → rk b P k x + (k - j : Int) * b.fast < x j) :
    ∀ d, d ≤ k - i → i ≤ k → ∃ l, Led b P (k + 1) (hup k (hkS b P k x) i H) (rk b P k x + (k : Int) * b.fast) (k - d) (rk b P k x + (k - (k - d : Nat) : Int) * b.fast) l := by
  intro d
  induction d with
  | zero =>
    intro _ _
    obtain ⟨l, h⟩ := led_k hb hN hL hlow
    exact ⟨l, by simpa using h⟩
  | succ d ih =>
    intro hd hik
    obtain ⟨l, h⟩ := ih (by omega) hik
    have ed := Edg.fast (b := b) (P := P) (k - (d + 1))
    rw [show k - (d + 1) + 1 = k - d by omega] at ed
    have hh : hup k (hkS b P k x) i H (k - (d + 1)) = (4, ((k - d : Nat) : Int)) := by
      unfold hup; rw [if_neg (by omega), if_pos (by omega), show k - (d + 1) + 1 = k - d by omega]
    have e : rk b P k x + (k - (k - d : Nat) : Int) * b.fast + b.fast = rk b P k x + (k - (k - (d + 1) : Nat) : Int) * b.fast := by
      rw [show (k - (k - (d + 1) : Nat) : Int) = (k - (k - d : Nat) : Int) + 1 by omega, Int.add_mul]; omega
    have := Led.step (by omega) hh ed h (by
      rw [e]
      have e1 : (k - (k - (d + 1) : Nat) : Int) * b.fast = (k : Int) * b.fast - ((k - (d + 1) : Nat) : Int) * b.fast := Int.sub_mul _ _ _
      omega)
    rw [e] at this
    exact ⟨_, this⟩

theorem leds_upd {b : Bk} {P : List Smp} {k i : Nat} {x : Nat → Int} {H : Nat → Smp} (hb : BkOk b) (hK : Keeps b P k x) (hN : NoCirc b P (k + 1)) (hL : Leds b P k x H) (hE : Ends b P k x i) :
    Leds b P (k + 1) (upd b k (rk b P k x) i x) (hup k (hkS b P k x) i H) := by
  intro j hj
  by_cases hi : i ≤ j
  · obtain ⟨l, h⟩ := led_back hb hN hL hE.low (k - j) (by omega) hE.le
    rw [show k - (k - j) = j by omega] at h
    exact ⟨_, l, by unfold upd; rw [if_pos hi]; exact h⟩
  · have hNk : NoCirc b P k := fun j h => hN j (by omega)
    have hjk : j < k := by have := hE.le; omega
    obtain ⟨c, l, h⟩ := hL j hjk
    refine ⟨rk b P k x + (k : Int) * b.fast, l, ?_⟩
    have e0 : upd b k (rk b P k x) i x j = x j := by unfold upd; rw [if_neg hi]
    rw [e0]
    have h0 := hE.stop (by omega)
    have h1 := lift_mono hK (i - 1 - j) j (by have := hE.le; omega)
    rw [show j + (i - 1 - j) = i - 1 by omega] at h1
    have e2 : (k - (i - 1 : Nat) : Int) * b.fast = (k : Int) * b.fast - ((i - 1 : Nat) : Int) * b.fast := Int.sub_mul _ _ _
    refine ((h.tight hb hNk).mono (show _ ≤ rk b P k x + (k : Int) * b.fast by omega) (Nat.le_refl _)).swap (by omega) ?_
    intro q' s' l' h'
    have hq' := h'.lt
    obtain ⟨c2, l2, h2⟩ := hL q' hq'
    obtain ⟨rfl, -⟩ := h'.det h2
    have h3 := h'.le
    unfold hup
    rw [if_neg (by omega), if_neg]
    intro hi
    have := hE.low q' hi hq'
    have e1 : (k - q' : Int) * b.fast = (k : Int) * b.fast - (q' : Int) * b.fast := Int.sub_mul _ _ _
    omega
end Go.Proofs.Ytgdkcbnpgpjnbaa
