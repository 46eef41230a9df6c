/-
  The mathematics of what is read back: the channel is the least amount that swings so far.
-/
import Derived.Test.YtaiigdbbpdkamaaO3
namespace Go.Proofs.Ytaiigdbbpdkamaa

/-- The first number whose product is not below. -/
theorem chN_first {c : Ctr} (hg : 0 < c.gain) (f : Int) : f * 1000 ≤ chN c f * c.gain ∧ (chN c f - 1) * c.gain < f * 1000 := by
  have e : chN c f = (f * 1000 + c.gain - 1) / c.gain := by unfold chN; rw [if_neg (by omega)]
  have h1 : (f * 1000 + c.gain - 1) / c.gain * c.gain ≤ f * 1000 + c.gain - 1 := Int.ediv_mul_le _ (by omega)
  have h2 : f * 1000 + c.gain - 1 < ((f * 1000 + c.gain - 1) / c.gain + 1) * c.gain := Int.lt_ediv_add_one_mul_self _ hg
  rw [e]
  rw [Int.add_mul, Int.one_mul] at h2
  rw [Int.sub_mul, Int.one_mul]
  omega
theorem swg_le_iff {c : Ctr} (hg : 0 ≤ c.gain) {x f : Int} (hx : 0 ≤ x) : f ≤ swg c x ↔ f * 1000 ≤ x * c.gain := by
  unfold swg
  rw [Int.tdiv_eq_ediv_of_nonneg (Int.mul_nonneg hx hg)]
  exact Int.le_ediv_iff_mul_le (by omega)
/-- Each amount below the channel's swings less far. -/
theorem swg_less {c : Ctr} (hg : 0 < c.gain) {f x : Int} (hx : 0 ≤ x) (h : x < chN c f) : swg c x < f := by
  have h2 := (chN_first hg f).2
  have h3 : x * c.gain ≤ (chN c f - 1) * c.gain := Int.mul_le_mul_of_nonneg_right (by omega) (by omega)
  have := mt (swg_le_iff (c := c) (by omega) (f := f) hx).1 (by omega)
  omega
/-- What swings just so far has no lesser amount than the channel, and this one swings so far. -/
theorem chN_least {c : Ctr} (hc : CtOk c) {f x : Int} (hf : 0 ≤ f) (hx : 0 ≤ x) (hx2 : x ≤ 32767) (h : swg c x = f) : chB c f = true ∧ 0 ≤ chN c f ∧ chN c f ≤ x ∧ swg c (chN c f) = f := by
  have g1 := hc.g1
  by_cases hg : c.gain = 0
  · have e : chN c f = 0 := by unfold chN; rw [if_pos hg]
    have z : ∀ y : Int, swg c y = 0 := fun y => by unfold swg; rw [hg]; simp
    have hf0 : f = 0 := by rw [← h, z]
    exact ⟨by unfold chB; rw [if_pos hg]; simpa using hf0, by omega, by omega, by rw [z, hf0]⟩
  · have hg' : 0 < c.gain := by omega
    have e : chN c f = (f * 1000 + c.gain - 1) / c.gain := by unfold chN; rw [if_neg hg]
    have h0 : 0 ≤ chN c f := by rw [e]; exact Int.ediv_nonneg (by omega) g1
    have hl : chN c f ≤ x := by
      rcases Int.lt_or_le x (chN c f) with hlt | hle
      · have := swg_less hg' hx hlt; omega
      · exact hle
    have h1 := (swg_le_iff g1 (c := c) (f := f) h0).2 (chN_first hg' f).1
    have h2 : swg c (chN c f) ≤ swg c x := by
      have := (swg_le_iff g1 (c := c) (f := swg c (chN c f)) h0).1 (Int.le_refl _)
      refine (swg_le_iff g1 hx).2 (Int.le_trans this (Int.mul_le_mul_of_nonneg_right hl g1))
    have h3 : swg c (chN c f) = f := by omega
    exact ⟨by unfold chB; rw [if_neg hg, h3]; simp; omega, h0, hl, h3⟩
theorem chB_ok {c : Ctr} (hc : CtOk c) {f : Int} (hf : 0 ≤ f) (h : chB c f = true) : 0 ≤ chN c f ∧ chN c f ≤ 32767 ∧ swg c (chN c f) = f := by
  have g1 := hc.g1
  unfold chB at h
  split at h
  · rename_i hg
    have e : chN c f = 0 := by unfold chN; rw [if_pos hg]
    have hf0 : f = 0 := by simpa using h
    exact ⟨by omega, by omega, by rw [e, hf0]; unfold swg; simp⟩
  · rename_i hg
    simp only [Bool.and_eq_true, decide_eq_true_eq] at h
    have e : chN c f = (f * 1000 + c.gain - 1) / c.gain := by unfold chN; rw [if_neg hg]
    exact ⟨by rw [e]; exact Int.ediv_nonneg (by omega) g1, h.1, h.2⟩
theorem swg_minus (c : Ctr) (x : Int) : swg c (-x) = -(swg c x) := by unfold swg; rw [Int.neg_mul, Int.neg_tdiv]
theorem swg_nn {c : Ctr} (hg : 0 ≤ c.gain) {x : Int} (hx : 0 ≤ x) : 0 ≤ swg c x := Int.tdiv_nonneg (Int.mul_nonneg hx hg) (by omega)
/-- With a gain of at least 1,000 no two amounts swing alike. -/
theorem chN_only {c : Ctr} (hg : 1000 ≤ c.gain) {f x : Int} (hx : 0 ≤ x) (_h0 : 0 ≤ chN c f) (hl : chN c f ≤ x) (h : swg c x = f) : chN c f = x := by
  rcases Int.lt_or_le (chN c f) x with hlt | hge
  · have h1 := (chN_first (c := c) (by omega) f).1
    have h2 : (chN c f + 1) * c.gain ≤ x * c.gain := Int.mul_le_mul_of_nonneg_right (by omega) (by omega)
    rw [Int.add_mul, Int.one_mul] at h2
    have h3 := (swg_le_iff (c := c) (by omega) (f := f + 1) hx).2 (by omega)
    omega
  · omega
/-- The sign serves both sides. -/
theorem chV_least {c : Ctr} (hc : CtOk c) {f x : Int} (h1 : -32767 ≤ x) (h2 : x ≤ 32767) (h : swg c x = f) :
    chF c f = true ∧ swg c (chV c f) = f ∧ am (chV c f) ≤ am x ∧ (1000 ≤ c.gain → chV c f = x) := by
  have g1 := hc.g1
  rcases Int.lt_or_le x 0 with hx | hx
  · have hs : swg c (-x) = -f := by rw [swg_minus, h]
    have hn := swg_nn g1 (x := -x) (by omega)
    obtain ⟨a1, a2, a3, a4⟩ := chN_least hc (f := -f) (x := -x) (by omega) (by omega) (by omega) hs
    by_cases hf : f < 0
    · have hv : chV c f = -(chN c (-f)) := by unfold chV; rw [if_pos hf]
      refine ⟨by unfold chF; rw [if_pos hf, a1], by rw [hv, swg_minus, a4]; omega, by rw [hv]; unfold am; omega, fun hg => ?_⟩
      have := chN_only hg (f := -f) (x := -x) (by omega) a2 a3 hs
      omega
    · obtain rfl : f = 0 := by omega
      have hv : chV c 0 = chN c 0 := by unfold chV; rw [if_neg hf]
      simp only [Int.neg_zero] at a1 a2 a3 a4
      refine ⟨by unfold chF; rw [if_neg hf, a1], by rw [hv, a4], by rw [hv]; unfold am; omega, fun hg => ?_⟩
      have h3 : (1 : Int) * c.gain ≤ -x * c.gain := Int.mul_le_mul_of_nonneg_right (by omega) g1
      have := (swg_le_iff g1 (f := 1) (x := -x) (by omega)).2 (by omega)
      omega
  · have hn := swg_nn g1 hx
    obtain ⟨a1, a2, a3, a4⟩ := chN_least hc (f := f) (x := x) (by omega) (by omega) (by omega) h
    have hf : ¬ f < 0 := by omega
    have hv : chV c f = chN c f := by unfold chV; rw [if_neg hf]
    refine ⟨by unfold chF; rw [if_neg hf, a1], by rw [hv, a4], by rw [hv]; unfold am; omega, fun hg => ?_⟩
    rw [hv]
    exact chN_only hg hx a2 a3 h
/-- What is found swings so far. -/
theorem chF_ok {c : Ctr} (hc : CtOk c) {f : Int} (h : chF c f = true) : -32767 ≤ chV c f ∧ chV c f ≤ 32767 ∧ swg c (chV c f) = f := by
  by_cases hf : f < 0
  · have hv : chV c f = -(chN c (-f)) := by unfold chV; rw [if_pos hf]
    unfold chF at h
    rw [if_pos hf] at h
    obtain ⟨a1, a2, a3⟩ := chB_ok hc (by omega) h
    exact ⟨by omega, by omega, by rw [hv, swg_minus, a3]; omega⟩
  · have hv : chV c f = chN c f := by unfold chV; rw [if_neg hf]
    unfold chF at h
    rw [if_neg hf] at h
    obtain ⟨a1, a2, a3⟩ := chB_ok hc (by omega) h
    exact ⟨by omega, by omega, by rw [hv, a3]⟩
/-- No lesser amount swings so far. -/
theorem chV_lesser {c : Ctr} (hc : CtOk c) {f x : Int} (h : chF c f = true) (hx : am x < am (chV c f)) : swg c x ≠ f := fun e => by
  have hk := chF_ok hc h
  have hb : -32767 ≤ x ∧ x ≤ 32767 := by have := hk.1; have := hk.2.1; unfold am at hx; omega
  have := (chV_least hc hb.1 hb.2 e).2.2.1
  omega
end Go.Proofs.Ytaiigdbbpdkamaa
