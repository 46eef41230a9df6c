/-
  The mathematics of GrooveBack: the point of a sample is read as a sample with this point and no greater amounts; what is read from a point has this point.
-/
import Derived.Test.YtaiigdbbpdkamaaO4
namespace Go.Proofs.Ytaiigdbbpdkamaa

theorem cut_one {c : Ctr} {s : Smp} : cutEr c [s] = 0 ↔ ckC c = 0 ∧ -32767 ≤ s.1 ∧ s.1 ≤ 32767 ∧ -32767 ≤ s.2 ∧ s.2 ≤ 32767 := by
  constructor
  · intro h
    have h' := orL_zero h
    exact ⟨h' _ (by simp), (ckS_ok (h' (ckS [s]) (by simp))).2 s (by simp)⟩
  · rintro ⟨h1, h2⟩
    have hs : ckS [s] = 0 := by
      unfold ckS vss vs win
      rw [if_neg (by simp), if_pos (by simp; omega)]
    unfold cutEr; rw [h1, hs]; rfl
theorem ckE_z {p : Smp} (h : EdOk p) : ckE p = 0 := by
  obtain ⟨h1, h2, h3, h4⟩ := h
  unfold ckE vE win
  rw [if_pos (by simp; omega)]
theorem bk_z {c : Ctr} {p : Smp} : bkEr c p = 0 ↔ ckC c = 0 ∧ EdOk p ∧ chF c (p.2 - c.half) = true ∧ chF c (p.1 + c.half) = true := by
  constructor
  · intro h
    have h0 : orL [ckC c, ckE p] = 0 := by
      by_cases hz : orL [ckC c, ckE p] = 0
      · exact hz
      · unfold bkEr at h; rw [if_neg hz] at h; exact absurd h hz
    have h' := orL_zero h0
    unfold bkEr at h
    rw [if_pos h0] at h
    have hE : EdOk p := edOk_of (by have := h' (ckE p) (by simp); unfold ckE at this; split at this <;> first | assumption | omega)
    split at h
    · rename_i hc
      simp only [Bool.and_eq_true] at hc
      exact ⟨h' _ (by simp), hE, hc.1, hc.2⟩
    · omega
  · rintro ⟨h1, h2, h3, h4⟩
    unfold bkEr
    rw [h1, ckE_z h2, h3, h4]; rfl
/-- The sample that is read from the point of a sample. -/
theorem back_of_wall {c : Ctr} {s : Smp} (h : cutEr c [s] = 0) :
    bkEr c (wallV c s) = 0 ∧ am (bkV c (wallV c s)).1 ≤ am s.1 ∧ am (bkV c (wallV c s)).2 ≤ am s.2 ∧ (1000 ≤ c.gain → bkV c (wallV c s) = s) ∧ cutEr c [bkV c (wallV c s)] = 0 ∧ wallV c (bkV c (wallV c s)) = wallV c s := by
  obtain ⟨hk, s1, s2, s3, s4⟩ := cut_one.1 h
  have hc := ckC_ok hk
  have hw : wallV c s = (swg c s.2 - c.half, swg c s.1 + c.half) := by unfold wallV; rw [if_pos h]; rfl
  obtain ⟨a1, a2, a3, a4⟩ := chV_least hc s1 s2 rfl
  obtain ⟨b1, b2, b3, b4⟩ := chV_least hc s3 s4 rfl
  have d1 := swg_bd hc s1 s2
  have d2 := swg_bd hc s3 s4
  have hh1 := hc.h1
  have hh2 := hc.h2
  have e1 : swg c s.1 + c.half - c.half = swg c s.1 := by omega
  have e2 : swg c s.2 - c.half + c.half = swg c s.2 := by omega
  have hz : bkEr c (wallV c s) = 0 := by
    rw [bk_z, hw]
    refine ⟨hk, ⟨?_, ?_, ?_, ?_⟩, ?_, ?_⟩
    · show _ ≤ swg c s.2 - c.half; omega
    · show swg c s.2 - c.half ≤ _; omega
    · show _ ≤ swg c s.1 + c.half; omega
    · show swg c s.1 + c.half ≤ _; omega
    · show chF c (swg c s.1 + c.half - c.half) = true; rw [e1]; exact a1
    · show chF c (swg c s.2 - c.half + c.half) = true; rw [e2]; exact b1
  have hv : bkV c (wallV c s) = (chV c (swg c s.1), chV c (swg c s.2)) := by
    unfold bkV; rw [if_pos hz, hw]; dsimp only; rw [e1, e2]
  have k1 := chF_ok hc a1
  have k2 := chF_ok hc b1
  have hz2 : cutEr c [(chV c (swg c s.1), chV c (swg c s.2))] = 0 := cut_one.2 ⟨hk, k1.1, k1.2.1, k2.1, k2.2.1⟩
  rw [hv]
  refine ⟨hz, a3, b3, fun hg => by rw [a4 hg, b4 hg], hz2, ?_⟩
  rw [hw]; unfold wallV; rw [if_pos hz2]; unfold wallP; dsimp only; rw [a2, b2]
/-- What is read from a point: it has this point. -/
theorem wall_of_back {c : Ctr} {p : Smp} (h : bkEr c p = 0) :
    cutEr c [bkV c p] = 0 ∧ wallV c (bkV c p) = p ∧ -32767 ≤ (bkV c p).1 ∧ (bkV c p).1 ≤ 32767 ∧ -32767 ≤ (bkV c p).2 ∧ (bkV c p).2 ≤ 32767 := by
  obtain ⟨hk, -, h3, h4⟩ := bk_z.1 h
  have hc := ckC_ok hk
  have hv : bkV c p = (chV c (p.2 - c.half), chV c (p.1 + c.half)) := by unfold bkV; rw [if_pos h]
  have k1 := chF_ok hc h3
  have k2 := chF_ok hc h4
  rw [hv]
  have hz : cutEr c [(chV c (p.2 - c.half), chV c (p.1 + c.half))] = 0 := cut_one.2 ⟨hk, k1.1, k1.2.1, k2.1, k2.2.1⟩
  refine ⟨hz, ?_, k1.1, k1.2.1, k2.1, k2.2.1⟩
  unfold wallV; rw [if_pos hz]; unfold wallP; dsimp only; rw [k1.2.2, k2.2.2]
  exact Prod.ext (by dsimp only; omega) (by dsimp only; omega)
/-- A lesser amount of the same sign. -/
def les (x b : Int) : Int := if x = 0 then x else x - (x.tdiv (am x)) * (min (am x) (1 + b))
theorem tdiv_am {x : Int} (h : ¬ x = 0) : x.tdiv (am x) = 1 ∨ x.tdiv (am x) = -1 := by
  rcases Int.lt_or_le x 0 with hx | hx
  · right
    have ha : am x = -x := by unfold am; omega
    rw [ha]
    have : x = -(-x) := by omega
    rw [this, Int.neg_tdiv, Int.neg_neg, Int.tdiv_self (by omega)]
  · left
    have ha : am x = x := by unfold am; omega
    rw [ha, Int.tdiv_self (by omega)]
theorem les_z {x b : Int} (h : x = 0) : les x b = x := by unfold les; rw [if_pos h]
theorem les_lt {x b : Int} (h : x ≠ 0) (hb : 0 ≤ b) : am (les x b) < am x := by
  unfold les
  rw [if_neg h]
  rcases Int.lt_or_le x 0 with hx | hx
  · have ha : am x = -x := by unfold am; omega
    have hd : x.tdiv (am x) = -1 := by
      rw [ha]
      have : x = -(-x) := by omega
      rw [this, Int.neg_tdiv, Int.neg_neg, Int.tdiv_self (by omega)]
    rw [hd, ha]; unfold am; omega
  · have ha : am x = x := by unfold am; omega
    have hd : x.tdiv (am x) = 1 := by rw [ha, Int.tdiv_self (by omega)]
    rw [hd, ha]; unfold am; omega
theorem les_le {x b : Int} (hb : 0 ≤ b) : am (les x b) ≤ am x := by
  by_cases h : x = 0
  · unfold les; rw [if_pos h]; omega
  · have := les_lt h hb; omega
/-- No sample with lesser amounts has the point. -/
theorem lesser_back {c : Ctr} {p : Smp} (h : bkEr c p = 0) {b0 b1 : Int} (h0 : 0 ≤ b0) (h1 : 0 ≤ b1) :
    cutEr c [(les (bkV c p).1 b0, les (bkV c p).2 b1)] = 0 ∧ ((bkV c p).1 ≠ 0 → (wallV c (les (bkV c p).1 b0, les (bkV c p).2 b1)).2 ≠ p.2) ∧ ((bkV c p).2 ≠ 0 → (wallV c (les (bkV c p).1 b0, les (bkV c p).2 b1)).1 ≠ p.1) := by
  obtain ⟨hk, -, h3, h4⟩ := bk_z.1 h
  obtain ⟨-, -, t1, t2, t3, t4⟩ := wall_of_back h
  have hc := ckC_ok hk
  have hv : bkV c p = (chV c (p.2 - c.half), chV c (p.1 + c.half)) := by unfold bkV; rw [if_pos h]
  have l1 := les_le (x := (bkV c p).1) h0
  have l2 := les_le (x := (bkV c p).2) h1
  have hz : cutEr c [(les (bkV c p).1 b0, les (bkV c p).2 b1)] = 0 := cut_one.2 ⟨hk, by dsimp only; unfold am at l1; omega, by dsimp only; unfold am at l1; omega, by dsimp only; unfold am at l2; omega, by dsimp only; unfold am at l2; omega⟩
  have hw : wallV c (les (bkV c p).1 b0, les (bkV c p).2 b1) = (swg c (les (bkV c p).2 b1) - c.half, swg c (les (bkV c p).1 b0) + c.half) := by unfold wallV; rw [if_pos hz]; rfl
  refine ⟨hz, fun hne => ?_, fun hne => ?_⟩
  · rw [hw]
    have h5 := les_lt hne h0
    have := chV_lesser hc h3 (x := les (bkV c p).1 b0) (by rw [hv] at h5 ⊢; exact h5)
    dsimp only; omega
  · rw [hw]
    have h5 := les_lt hne h1
    have := chV_lesser hc h4 (x := les (bkV c p).2 b1) (by rw [hv] at h5 ⊢; exact h5)
    dsimp only; omega
end Go.Proofs.Ytaiigdbbpdkamaa
