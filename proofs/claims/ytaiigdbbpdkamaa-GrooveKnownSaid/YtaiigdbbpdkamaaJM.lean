/-
  Mathematics of grooves: when no rule is broken; farther out; milder limits; parts; turned round.
-/
import Derived.Test.YtaiigdbbpdkamaaJ7
namespace Go.Proofs.Ytaiigdbbpdkamaa
open Go.RowKit

/-- No rule is broken at a point, at a step, at a bend. -/
def okP (c : Ctr) (p : Smp) : Prop := c.thin ≤ wid p ∧ wid p ≤ c.wide
def okS (c : Ctr) (r per : Int) (p q : Smp) : Prop := 113000 * per * chg p q ≤ 710 * r * c.slope
def okB (c : Ctr) (r per : Int) (p q s : Smp) : Prop := bnd p q s ≤ c.jerk ∧ bnd p q s * c.stylus ≤ arcN r per

theorem arcN_nn {r per : Int} (h : SpOk r per) : 0 ≤ arcN r per := arcN_bd r per h
theorem brk_zero {c : Ctr} {l : List Smp} {r per : Int} {i : Nat} (hc : CtOk c) (hs : SpOk r per) :
    brk c l r per i = 0 ↔ okP c (gAt l i) ∧ (1 ≤ i → okS c r per (gAt l (i - 1)) (gAt l i)) ∧ (1 ≤ i → i ≠ l.length - 1 → okB c r per (gAt l (i - 1)) (gAt l i) (gAt l (i + 1))) := by
  have hsl : 0 ≤ 710 * r * c.slope := Int.mul_nonneg (by have := hs.r1; omega) hc.s1
  have ha := arcN_nn hs
  have hst : steepB c l r per i = false ↔ (1 ≤ i → okS c r per (gAt l (i - 1)) (gAt l i)) := by
    unfold steepB okS chgAt
    by_cases h : i = 0
    · subst h; simp; omega
    · rw [if_neg h]; simp; omega
  have hsu : suddenB c l i = false ∧ bentB c l r per i = false ↔ (1 ≤ i → i ≠ l.length - 1 → okB c r per (gAt l (i - 1)) (gAt l i) (gAt l (i + 1))) := by
    unfold suddenB bentB okB bndAt
    have := hc.j1
    by_cases h : i = 0 ∨ i = l.length - 1
    · rw [if_pos h]
      simp
      constructor
      · intro _ h1 h2; omega
      · intro _; omega
    · rw [if_neg h]
      simp
      constructor
      · intro h1 _ _; exact h1
      · intro h1; exact h1 (by omega) (by omega)
  rw [← hst, ← hsu]
  unfold brk
  have h1 : thinB c l i = false ∧ wideB c l i = false ↔ okP c (gAt l i) := by
    unfold thinB wideB okP; simp
  rw [← h1]
  cases thinB c l i <;> cases wideB c l i <;> cases steepB c l r per i <;> cases suddenB c l i <;> cases bentB c l r per i <;> simp

theorem fls_iff {c : Ctr} {l : List Smp} {r per : Int} : fls c l r per = true ↔ ∀ i, i < l.length → brk c l r per i = 0 := by
  unfold fls flt
  constructor
  · intro h i hi
    cases hf : (List.range l.length).find? (fun i => !(brk c l r per i == 0)) with
    | none => simpa using (List.find?_eq_none.1 hf) i (List.mem_range.2 hi)
    | some j =>
      rw [hf] at h
      have := List.find?_some hf
      simp at h this
      exact absurd h this
  · intro h
    have hn : (List.range l.length).find? (fun i => !(brk c l r per i == 0)) = none := List.find?_eq_none.2 (fun i hi => by simp [h i (List.mem_range.1 hi)])
    rw [hn]; rfl

/-- No rule is broken anywhere. -/
def okG (c : Ctr) (l : List Smp) (r per : Int) : Prop :=
  (∀ i, i < l.length → okP c (gAt l i)) ∧ (∀ i, i + 1 < l.length → okS c r per (gAt l i) (gAt l (i + 1))) ∧ (∀ i, i + 2 < l.length → okB c r per (gAt l i) (gAt l (i + 1)) (gAt l (i + 2)))
theorem fls_ok {c : Ctr} {l : List Smp} {r per : Int} (hc : CtOk c) (hs : SpOk r per) : fls c l r per = true ↔ okG c l r per := by
  rw [fls_iff]
  constructor
  · intro h
    refine ⟨fun i hi => ((brk_zero hc hs).1 (h i hi)).1, fun i hi => ?_, fun i hi => ?_⟩
    · have := ((brk_zero hc hs).1 (h (i + 1) hi)).2.1 (by omega)
      rwa [Nat.add_sub_cancel] at this
    · have := ((brk_zero hc hs).1 (h (i + 1) (by omega))).2.2 (by omega) (by omega)
      rwa [Nat.add_sub_cancel] at this
  · intro ⟨h1, h2, h3⟩ i hi
    rw [brk_zero hc hs]
    refine ⟨h1 i hi, fun h => ?_, fun h h' => ?_⟩
    · have := h2 (i - 1) (by omega)
      rwa [show i - 1 + 1 = i from by omega] at this
    · have := h3 (i - 1) (by omega)
      rwa [show i - 1 + 1 = i from by omega, show i - 1 + 2 = i + 1 from by omega] at this

theorem mul_mono {a b x y : Int} (h1 : 0 ≤ a) (h2 : a ≤ x) (h3 : 0 ≤ b) (h4 : b ≤ y) : a * b ≤ x * y := Int.mul_le_mul h2 h4 h3 (by omega)
theorem arcN_mono {r r' per per' : Int} (h1 : 0 ≤ r) (h2 : r ≤ r') (h3 : 1 ≤ per') (h4 : per' ≤ per) : arcN r per ≤ arcN r' per' := by
  unfold arcN
  have a1 : 710 * r * (710 * r) ≤ 710 * r' * (710 * r') := mul_mono (by omega) (by omega) (by omega) (by omega)
  have a0 : 0 ≤ 710 * r * (710 * r) := Int.mul_nonneg (by omega) (by omega)
  have b1 : 113 * per' * (113 * per') ≤ 113 * per * (113 * per) := mul_mono (by omega) (by omega) (by omega) (by omega)
  have b0 : 0 < 113 * per' * (113 * per') := Int.mul_pos (by omega) (by omega)
  refine Int.le_trans (Int.ediv_le_ediv (by omega) a1) ?_
  exact (Int.le_ediv_iff_mul_le b0).2 (Int.le_trans (Int.mul_le_mul_of_nonneg_left b1 (Int.ediv_nonneg (by omega) (by omega))) (Int.ediv_mul_le _ (by omega)))

/-- No limit of d is narrower than that of c. -/
def Milder (c d : Ctr) : Prop := d.thin ≤ c.thin ∧ c.wide ≤ d.wide ∧ c.slope ≤ d.slope ∧ c.jerk ≤ d.jerk ∧ d.stylus ≤ c.stylus
theorem Milder.refl (c : Ctr) : Milder c c := ⟨Int.le_refl _, Int.le_refl _, Int.le_refl _, Int.le_refl _, Int.le_refl _⟩
theorem okP_mono {c d : Ctr} {p : Smp} (hm : Milder c d) (h : okP c p) : okP d p := by
  obtain ⟨m1, m2, _⟩ := hm
  unfold okP at h ⊢; omega
theorem chg_nn (p q : Smp) : 0 ≤ chg p q := by unfold chg amL; simp; have := am_nn (q.1 - p.1); have := am_nn (q.2 - p.2); omega
theorem bnd_nn (p q s : Smp) : 0 ≤ bnd p q s := by unfold bnd amL; simp; have := am_nn (p.1 + s.1 - 2 * q.1); have := am_nn (p.2 + s.2 - 2 * q.2); omega
theorem okS_mono {c d : Ctr} {r r' per per' : Int} {p q : Smp} (hm : Milder c d) (hc : CtOk c) (h1 : 0 ≤ r) (h2 : r ≤ r') (h3 : 1 ≤ per') (h4 : per' ≤ per) (h : okS c r per p q) : okS d r' per' p q := by
  obtain ⟨_, _, m3, _⟩ := hm
  unfold okS at h ⊢
  have a : 113000 * per' * chg p q ≤ 113000 * per * chg p q := mul_mono (by omega) (by omega) (chg_nn p q) (Int.le_refl _)
  have b : 710 * r * c.slope ≤ 710 * r' * d.slope := mul_mono (by omega) (by omega) hc.s1 m3
  omega
theorem okB_mono {c d : Ctr} {r r' per per' : Int} {p q s : Smp} (hm : Milder c d) (hd : 0 ≤ d.stylus) (h1 : 0 ≤ r) (h2 : r ≤ r') (h3 : 1 ≤ per') (h4 : per' ≤ per) (h : okB c r per p q s) : okB d r' per' p q s := by
  obtain ⟨_, _, _, m4, m5⟩ := hm
  obtain ⟨h5, h6⟩ := h
  refine ⟨by omega, ?_⟩
  have a : bnd p q s * d.stylus ≤ bnd p q s * c.stylus := mul_mono (bnd_nn p q s) (Int.le_refl _) hd m5
  have b := arcN_mono (r := r) (r' := r') (per := per) (per' := per') h1 h2 h3 h4
  omega
theorem okG_mono {c d : Ctr} {l : List Smp} {r r' per per' : Int} (hm : Milder c d) (hc : CtOk c) (hd : CtOk d) (h1 : 0 ≤ r) (h2 : r ≤ r') (h3 : 1 ≤ per') (h4 : per' ≤ per) (h : okG c l r per) : okG d l r' per' :=
  ⟨fun i hi => okP_mono hm (h.1 i hi), fun i hi => okS_mono hm hc h1 h2 h3 h4 (h.2.1 i hi), fun i hi => okB_mono hm hd.y1 h1 h2 h3 h4 (h.2.2 i hi)⟩

end Go.Proofs.Ytaiigdbbpdkamaa
