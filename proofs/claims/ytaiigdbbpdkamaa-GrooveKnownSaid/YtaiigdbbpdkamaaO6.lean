/-
  Louder samples, and the loudest step, as numbers.
-/
import Derived.Test.YtaiigdbbpdkamaaK7
namespace Go.Proofs.Ytaiigdbbpdkamaa
open Go.RowKit

/-- A sample at a step. -/
def lou (k : Int) (s : Smp) : Smp := ((s.1 * 50 * k).tdiv 1000, (s.2 * 50 * k).tdiv 1000)
theorem lou_p {x k : Int} (h1 : -32767 ≤ x) (h2 : x ≤ 32767) (h3 : 0 ≤ k) (h4 : k ≤ 40) : -65534000 ≤ x * 50 * k ∧ x * 50 * k ≤ 65534000 := by
  obtain ⟨a, b⟩ := mul_abs (x := x * 50) (b := 1638350) (g := k) (by omega) (by omega) h3 (by omega)
  omega
theorem lou_bd {x k : Int} (h1 : -32767 ≤ x) (h2 : x ≤ 32767) (h3 : 0 ≤ k) (h4 : k ≤ 40) : -65534 ≤ (x * 50 * k).tdiv 1000 ∧ (x * 50 * k).tdiv 1000 ≤ 65534 := by
  obtain ⟨a, b⟩ := lou_p h1 h2 h3 h4
  exact tdiv_bd (by omega) (by omega)
/-- Whether a step is not too loud. -/
def ldOk (c : Ctr) (xs : List Smp) (r per k : Int) : Bool := (cutEr c (xs.map (lou k)) == 0) && fls c ((xs.map (lou k)).map (wallP c)) r per
def ldEr (c : Ctr) (xs : List Smp) (r per : Int) : Int := orL [ckC c, ckS xs, ckR r, ckT per]
/-- The loudest step, and the error. -/
def ldQ (c : Ctr) (xs : List Smp) (r per : Int) (v er : Int) : Prop :=
  if ldEr c xs r per = 0 then ∃ k : Nat, k ≤ 41 ∧ (∀ j : Nat, j < k → ldOk c xs r per j = true) ∧ (k ≤ 40 → ldOk c xs r per k = false) ∧ (if k = 0 then v = 0 ∧ er = 14 else v = k - 1 ∧ er = 0) else v = 0 ∧ er = ldEr c xs r per
theorem ld_ok {c : Ctr} {xs : List Smp} {r per : Int} (h : ldEr c xs r per = 0) : CtOk c ∧ ckC c = 0 ∧ ckS xs = 0 ∧ SpOk r per := by
  have h' := orL_zero h
  obtain ⟨a1, a2⟩ := ckN_ok (h' (ckR r) (by simp))
  obtain ⟨a3, a4⟩ := ckN_ok (h' (ckT per) (by simp))
  exact ⟨ckC_ok (h' _ (by simp)), h' _ (by simp), h' (ckS xs) (by simp), ⟨a1, a2, a3, a4⟩⟩
theorem ldQ_uniq {c : Ctr} {xs : List Smp} {r per v er v' er' : Int} (h : ldQ c xs r per v er) (h' : ldQ c xs r per v' er') : v = v' ∧ er = er' := by
  unfold ldQ at h h'
  split at h
  · rename_i hz
    rw [if_pos hz] at h'
    obtain ⟨k, k1, k2, k3, k4⟩ := h
    obtain ⟨m, m1, m2, m3, m4⟩ := h'
    have hkm : k = m := by
      rcases Nat.lt_trichotomy k m with hl | hl | hl
      · have := m2 k hl; rw [k3 (by omega)] at this; cases this
      · exact hl
      · have := k2 m hl; rw [m3 (by omega)] at this; cases this
    subst hkm
    split at k4
    · rename_i h0; rw [if_pos h0] at m4; omega
    · rename_i h0; rw [if_neg h0] at m4; omega
  · rename_i hz
    rw [if_neg hz] at h'
    omega
/-- The points of samples that are not too great. -/
theorem wall_ed {c : Ctr} (hc : CtOk c) {s : Smp} (h : -32767 ≤ s.1 ∧ s.1 ≤ 32767 ∧ -32767 ≤ s.2 ∧ s.2 ≤ 32767) : EdOk (wallP c s) := by
  have s1 := swg_bd hc h.1 h.2.1
  have s2 := swg_bd hc h.2.2.1 h.2.2.2
  have h1 := hc.h1
  have h2 := hc.h2
  refine ⟨?_, ?_, ?_, ?_⟩ <;> (show _ ≤ _; simp only [wallP]; omega)
theorem walls_ed {c : Ctr} {xs : List Smp} (h : cutEr c xs = 0) : ∀ p ∈ xs.map (wallP c), EdOk p := by
  obtain ⟨hc, hs⟩ := cut_ok h
  intro p hp
  obtain ⟨s, hs', rfl⟩ := List.mem_map.1 hp
  exact wall_ed hc ((ckS_ok hs).2 s hs')
theorem louder_snoc (k : Int) (xs : List Smp) (j : Nat) (h : j < xs.length) : smpCells ((xs.take (j + 1)).map (lou k)) = smpCells ((xs.take j).map (lou k)) ++ [.int .i64 ((gAt xs j).1 * 50 * k |>.tdiv 1000), .int .i64 ((gAt xs j).2 * 50 * k |>.tdiv 1000)] := by
  rw [map_take_snoc _ _ _ h, smpCells_snoc, gAt_eq h]; rfl
end Go.Proofs.Ytaiigdbbpdkamaa
