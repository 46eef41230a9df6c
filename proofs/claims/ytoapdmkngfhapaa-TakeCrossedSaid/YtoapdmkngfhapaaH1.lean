/-
  Two parts that cross: plain mathematics.
-/
import Derived.Test.YtoapdmkngfhapaaCM
namespace Go.Proofs.Ytoapdmkngfhapaa
open Go.RowKit
set_option linter.unusedVariables false

theorem tdiv_same (s d : Int) (hd : 0 < d) : (s * d).tdiv d = s := Int.mul_tdiv_cancel s (by omega)
/-- A number that is divided in two shares, each rounded toward 0. -/
theorem shares (s u v d : Int) (hd : 0 < d) (hu : 0 ≤ u) (hv : 0 ≤ v) (h : u + v = d) :
    am ((s * u).tdiv d + (s * v).tdiv d) ≤ am s ∧ am ((s * u).tdiv d + (s * v).tdiv d - s) ≤ 1 := by
  have key : ∀ s : Int, 0 ≤ s → (s * u).tdiv d + (s * v).tdiv d ≤ s ∧ s - 1 ≤ (s * u).tdiv d + (s * v).tdiv d ∧ 0 ≤ (s * u).tdiv d + (s * v).tdiv d := by
    intro s hs
    have h1 : 0 ≤ s * u := Int.mul_nonneg hs hu
    have h2 : 0 ≤ s * v := Int.mul_nonneg hs hv
    rw [Int.tdiv_eq_ediv_of_nonneg h1, Int.tdiv_eq_ediv_of_nonneg h2]
    have e : s * u + s * v = s * d := by rw [← Int.mul_add, h]
    have a1 := Int.emod_nonneg (s * u) (show d ≠ 0 by omega)
    have a2 := Int.emod_nonneg (s * v) (show d ≠ 0 by omega)
    have a3 := Int.emod_lt_of_pos (s * u) hd
    have a4 := Int.emod_lt_of_pos (s * v) hd
    have a5 := Int.mul_ediv_add_emod (s * u) d
    have a6 := Int.mul_ediv_add_emod (s * v) d
    have a7 := Int.ediv_nonneg h1 (by omega : 0 ≤ d)
    have a8 := Int.ediv_nonneg h2 (by omega : 0 ≤ d)
    obtain ⟨x, hx⟩ : ∃ x, s * u / d = x := ⟨_, rfl⟩
    obtain ⟨y, hy⟩ : ∃ y, s * v / d = y := ⟨_, rfl⟩
    obtain ⟨p, hp⟩ : ∃ p, s * u % d = p := ⟨_, rfl⟩
    obtain ⟨q, hq⟩ : ∃ q, s * v % d = q := ⟨_, rfl⟩
    rw [hx, hp] at a5
    rw [hy, hq] at a6
    rw [hp] at a1 a3
    rw [hq] at a2 a4
    rw [hx, hy]
    rw [hx] at a7
    rw [hy] at a8
    have e2 : d * (s - x - y) = p + q := by rw [Int.mul_sub, Int.mul_sub, Int.mul_comm d s]; omega
    have b1 : 0 ≤ s - x - y := by
      rcases Int.lt_or_le (s - x - y) 0 with h | h
      · have := Int.mul_neg_of_pos_of_neg hd h; omega
      · exact h
    have b2 : s - x - y < 2 := by
      rcases Int.lt_or_le (s - x - y) 2 with h | h
      · exact h
      · have := Int.mul_le_mul_of_nonneg_left h (show 0 ≤ d by omega); omega
    omega
  rcases Int.le_total 0 s with hs | hs
  · have := key s hs
    unfold am
    omega
  · have := key (-s) (by omega)
    rw [Int.neg_mul, Int.neg_mul, Int.neg_tdiv, Int.neg_tdiv] at this
    unfold am
    omega

def crL (A : Option Addr) (n c : Nat) (xs : List Smp) : List TV := [⟨⟨#[120]⟩, A, n, c, xs⟩]
def crP (b m a : Int) : List Prt := [⟨0, 0, b + m, 0, 0, m, 1000⟩, ⟨0, b, b + m + a, -m, m, 0, 1000⟩]
theorem cr_place (b m a : Int) : placeL (crP b m a) 0 0 = [⟨⟨0, 0, b + m, 0, 0, m, 1000⟩, 0, 0⟩, ⟨⟨0, b, b + m + a, -m, m, 0, 1000⟩, 1, b⟩] := by
  simp only [crP, placeL]
  congr 3 <;> omega
theorem cr_len (b m a : Int) : lenP (placeL (crP b m a) 0 0) = b + m + a := by
  rw [cr_place]
  show b + (b + m + a - b) = _
  omega

theorem cr_ck (A : Option Addr) (n c : Nat) (xs : List Smp) (b m a : Int) (hn : n = xs.length) (h4 : n ≤ 300) (hv : ckS xs = 0) (hb : 0 ≤ b) (hb2 : b < 60) (hm : 0 ≤ m) (hm2 : m < 60) (ha : 0 ≤ a) (ha2 : a < 60) (h1 : 1 ≤ b + m) (h2 : 1 ≤ m + a) (h3 : b + m + a ≤ n) :
    ckP (crL A n c xs) (crP b m a) = 0 := by
  have hvs : vss xs = true := by
    unfold ckS at hv
    split at hv
    · omega
    · split at hv
      · assumption
      · omega
  have hT : ckT (crL A n c xs) = 0 := by
    unfold ckT
    rw [if_neg, if_neg, if_neg]
    · simp [crL, dupF, fi, pNm]
    · simp [crL, vTake, vName, okc, hvs, ByteArray.size]
      omega
    · simp [crL, pLong]
      omega
  have hP : (crP b m a).all (vPart (crL A n c xs)) = true := by
    simp [crP, vPart, crL, win]
    omega
  have hQ : poss (placeL (crP b m a) 0 0) = true := by
    unfold poss
    rw [cr_len, cr_place]
    simp only [List.length_cons, List.length_nil, Bool.and_eq_true, decide_eq_true_eq]
    refine ⟨?_, by omega⟩
    simp [List.range, List.range.loop, pc, pcA, pcB, pcC, Pl.len]
    omega
  unfold ckP
  rw [if_pos hT, if_neg (by simp [crP]), if_neg (by rw [hP]; simp), if_neg (by rw [hQ]; simp)]

theorem wrap_small (x : Int) (h1 : -4000000 ≤ x) (h2 : x ≤ 4000000) : wrap64 x = x := by unfold wrap64; omega
theorem am_bd (x : Int) (h1 : -32767 ≤ x) (h2 : x ≤ 32767) : am x ≤ 32767 := by unfold am; omega
theorem sum_one (s : Smp) (h : (-32767 ≤ s.1 ∧ s.1 ≤ 32767) ∧ (-32767 ≤ s.2 ∧ s.2 ≤ 32767)) : sumS [s] = s := by
  show (wrap64 (0 + s.1), wrap64 (0 + s.2)) = s
  rw [wrap_small _ (by omega) (by omega), wrap_small _ (by omega) (by omega), Int.zero_add, Int.zero_add]
theorem sum_two (s t : Smp) (h : (-40000 ≤ s.1 ∧ s.1 ≤ 40000) ∧ (-40000 ≤ s.2 ∧ s.2 ≤ 40000)) (h' : (-40000 ≤ t.1 ∧ t.1 ≤ 40000) ∧ (-40000 ≤ t.2 ∧ t.2 ≤ 40000)) : sumS [s, t] = (s.1 + t.1, s.2 + t.2) := by
  show (wrap64 (wrap64 (0 + s.1) + t.1), wrap64 (wrap64 (0 + s.2) + t.2)) = _
  rw [wrap_small (0 + s.1) (by omega) (by omega), wrap_small (0 + s.2) (by omega) (by omega), Int.zero_add, Int.zero_add, wrap_small _ (by omega) (by omega), wrap_small _ (by omega) (by omega)]

/-- A number that is multiplied by less than a whole is no greater. -/
theorem share_bd (s u d : Int) (hd : 0 < d) (hu : 0 ≤ u) (h : u ≤ d) (h1 : -32767 ≤ s) (h2 : s ≤ 32767) : -40000 ≤ (s * u).tdiv d ∧ (s * u).tdiv d ≤ 40000 := by
  have := (shares s u (d - u) d hd hu (by omega) (by omega)).1
  have e1 := (shares s u (d - u) d hd hu (by omega) (by omega)).2
  have key : ∀ s : Int, 0 ≤ s → s ≤ 32767 → 0 ≤ (s * u).tdiv d ∧ (s * u).tdiv d ≤ 32767 := by
    intro s hs hs2
    have h1 : 0 ≤ s * u := Int.mul_nonneg hs hu
    rw [Int.tdiv_eq_ediv_of_nonneg h1]
    refine ⟨Int.ediv_nonneg h1 (by omega), ?_⟩
    have : s * u ≤ s * d := Int.mul_le_mul_of_nonneg_left h hs
    have h5 : s * u / d ≤ s * d / d := Int.ediv_le_ediv hd this
    rw [Int.mul_ediv_cancel _ (by omega)] at h5
    omega
  rcases Int.le_total 0 s with hs | hs
  · have := key s hs h2; omega
  · have := key (-s) (by omega) (by omega)
    rw [Int.neg_mul, Int.neg_tdiv] at this
    omega

theorem cr_rend (A : Option Addr) (n c : Nat) (xs : List Smp) (b m a : Int) (hn : n = xs.length) (hx : ∀ s ∈ xs, (-32767 ≤ s.1 ∧ s.1 ≤ 32767) ∧ (-32767 ≤ s.2 ∧ s.2 ≤ 32767)) (hb : 0 ≤ b) (hm : 0 ≤ m) (hm2 : m < 60) (ha : 0 ≤ a) (h1 : 1 ≤ b + m) (h2 : 1 ≤ m + a) (h3 : b + m + a ≤ n)
    (k : Nat) (hk : (k : Int) < b + m + a) (hkx : k < xs.length) (z : Smp) (hz : z = rendAt (crL A n c xs) (placeL (crP b m a) 0 0) k) :
    (¬ (b ≤ k ∧ (k : Int) < b + m) → z = xs[k]) ∧ am z.1 ≤ am xs[k].1 ∧ am z.2 ≤ am xs[k].2 ∧ am (z.1 - xs[k].1) ≤ 1 ∧ am (z.2 - xs[k].2) ≤ 1 := by
  have hs := hx _ (List.getElem_mem hkx)
  have e0 : sndOf (crL A n c xs) ((⟨⟨0, 0, b + m, 0, 0, m, 1000⟩, 0, 0⟩ : Pl), (k : Int) - 0) = snd ⟨0, 0, b + m, 0, 0, m, 1000⟩ (b + m) k xs[k] := by
    simp only [sndOf, crL, Int.toNat_zero, List.getElem?_cons_zero, Pl.len]
    rw [show ((0 : Int) + ((k : Int) - 0)).toNat = k from by omega, List.getElem?_eq_getElem hkx]
    simp
  have e1 : b ≤ k → sndOf (crL A n c xs) ((⟨⟨0, b, b + m + a, -m, m, 0, 1000⟩, 1, b⟩ : Pl), (k : Int) - b) = snd ⟨0, b, b + m + a, -m, m, 0, 1000⟩ (m + a) (k - b) xs[k] := by
    intro hbk
    simp only [sndOf, crL, Int.toNat_zero, List.getElem?_cons_zero, Pl.len]
    rw [show (b + ((k : Int) - b)).toNat = k from by omega, List.getElem?_eq_getElem hkx]
    simp only []
    congr 1
    omega
  have q0 : sndB k ⟨⟨0, 0, b + m, 0, 0, m, 1000⟩, 0, 0⟩ = decide ((k : Int) < b + m) := by
    have : (0 : Int) ≤ (k : Int) := by omega
    simp [sndB, Pl.end_]
  have q1 : sndB k ⟨⟨0, b, b + m + a, -m, m, 0, 1000⟩, 1, b⟩ = decide (b ≤ (k : Int)) := by
    have he : (k : Int) < (⟨⟨0, b, b + m + a, -m, m, 0, 1000⟩, 1, b⟩ : Pl).end_ := by show (k : Int) < b + (b + m + a - b); omega
    unfold sndB
    rw [decide_eq_true he, Bool.and_true]
  unfold rendAt at hz
  rw [cr_place] at hz
  unfold sndL at hz
  simp only [List.filter_cons, List.filter_nil, q0, q1] at hz
  have same : ∀ x : Int, am x ≤ am x ∧ am (x - x) ≤ 1 := fun x => ⟨Int.le_refl _, by unfold am; omega⟩
  by_cases c0 : (k : Int) < b + m
  · rw [if_pos (decide_eq_true c0)] at hz
    by_cases c1 : b ≤ (k : Int)
    · rw [if_pos (decide_eq_true c1)] at hz
      simp only [List.map_cons, List.map_nil] at hz
      rw [e0, e1 c1] at hz
      have g0 : gUp ⟨0, 0, b + m, 0, 0, m, 1000⟩ (b + m) k = 1000 * (b + m - k) := by
        simp only [gUp]
        rw [Int.min_eq_right (by omega : (0 : Int) ≤ (k : Int)), Int.min_eq_left (by omega)]; omega
      have g1 : gUp ⟨0, b, b + m + a, -m, m, 0, 1000⟩ (m + a) (k - b) = 1000 * (k - b + 1) := by
        simp only [gUp]
        rw [Int.min_eq_left (by omega : (k : Int) - b ≤ m), Int.min_eq_right (by omega)]; omega
      have d0 : gDn ⟨0, 0, b + m, 0, 0, m, 1000⟩ = 1000 * (m + 1) := by simp [gDn]
      have d1 : gDn ⟨0, b, b + m + a, -m, m, 0, 1000⟩ = 1000 * (m + 1) := by simp [gDn]
      unfold snd at hz
      rw [g0, g1, d0, d1] at hz
      have b1 := share_bd xs[k].1 (1000 * (b + m - k)) (1000 * (m + 1)) (by omega) (by omega) (by omega) hs.1.1 hs.1.2
      have b2 := share_bd xs[k].2 (1000 * (b + m - k)) (1000 * (m + 1)) (by omega) (by omega) (by omega) hs.2.1 hs.2.2
      have b3 := share_bd xs[k].1 (1000 * (k - b + 1)) (1000 * (m + 1)) (by omega) (by omega) (by omega) hs.1.1 hs.1.2
      have b4 := share_bd xs[k].2 (1000 * (k - b + 1)) (1000 * (m + 1)) (by omega) (by omega) (by omega) hs.2.1 hs.2.2
      rw [sum_two _ _ ⟨b1, b2⟩ ⟨b3, b4⟩] at hz
      have s1 := shares xs[k].1 (1000 * (b + m - k)) (1000 * (k - b + 1)) (1000 * (m + 1)) (by omega) (by omega) (by omega) (by omega)
      have s2 := shares xs[k].2 (1000 * (b + m - k)) (1000 * (k - b + 1)) (1000 * (m + 1)) (by omega) (by omega) (by omega) (by omega)
      rw [hz]
      exact ⟨fun h => absurd ⟨c1, c0⟩ h, s1.1, s2.1, s1.2, s2.2⟩
    · rw [if_neg (by simpa using c1)] at hz
      simp only [List.map_cons, List.map_nil] at hz
      rw [e0] at hz
      have g0 : gUp ⟨0, 0, b + m, 0, 0, m, 1000⟩ (b + m) k = 1000 * (m + 1) := by
        simp only [gUp]
        rw [Int.min_eq_right (by omega : (0 : Int) ≤ (k : Int)), Int.min_eq_right (by omega)]; omega
      have d0 : gDn ⟨0, 0, b + m, 0, 0, m, 1000⟩ = 1000 * (m + 1) := by simp [gDn]
      have e : snd ⟨0, 0, b + m, 0, 0, m, 1000⟩ (b + m) k xs[k] = xs[k] := by
        unfold snd
        rw [g0, d0, tdiv_same _ _ (by omega), tdiv_same _ _ (by omega)]
      rw [e, sum_one _ hs] at hz
      rw [hz]
      exact ⟨fun _ => rfl, (same _).1, (same _).1, (same _).2, (same _).2⟩
  · rw [if_neg (by simpa using c0), if_pos (decide_eq_true (by omega : b ≤ (k : Int)))] at hz
    simp only [List.map_cons, List.map_nil] at hz
    rw [e1 (by omega)] at hz
    have g1 : gUp ⟨0, b, b + m + a, -m, m, 0, 1000⟩ (m + a) (k - b) = 1000 * (m + 1) := by
      simp only [gUp]
      rw [Int.min_eq_right (by omega : m ≤ (k : Int) - b), Int.min_eq_right (by omega)]; omega
    have d1 : gDn ⟨0, b, b + m + a, -m, m, 0, 1000⟩ = 1000 * (m + 1) := by simp [gDn]
    have e : snd ⟨0, b, b + m + a, -m, m, 0, 1000⟩ (m + a) (k - b) xs[k] = xs[k] := by
      unfold snd
      rw [g1, d1, tdiv_same _ _ (by omega), tdiv_same _ _ (by omega)]
    rw [e, sum_one _ hs] at hz
    rw [hz]
    exact ⟨fun _ => rfl, (same _).1, (same _).1, (same _).2, (same _).2⟩

/-- What Render makes of two parts that cross. -/
structure CrOk (xs Z : List Smp) (b m a : Int) : Prop where
  len : (Z.length : Int) = b + m + a
  le : Z.length ≤ xs.length
  at_ : ∀ (k : Nat) (hk : k < Z.length) (hx : k < xs.length), (¬ (b ≤ k ∧ (k : Int) < b + m) → Z[k] = xs[k]) ∧ am Z[k].1 ≤ am xs[k].1 ∧ am Z[k].2 ≤ am xs[k].2 ∧ am (Z[k].1 - xs[k].1) ≤ 1 ∧ am (Z[k].2 - xs[k].2) ≤ 1
theorem cr_ok (A : Option Addr) (n c : Nat) (xs : List Smp) (b m a : Int) (hn : n = xs.length) (h4 : n ≤ 300) (hv : ckS xs = 0) (hb : 0 ≤ b) (hb2 : b < 60) (hm : 0 ≤ m) (hm2 : m < 60) (ha : 0 ≤ a) (ha2 : a < 60) (h1 : 1 ≤ b + m) (h2 : 1 ≤ m + a) (h3 : b + m + a ≤ n) :
    CrOk xs (rend (crL A n c xs) (placeL (crP b m a) 0 0)) b m a ∧ vss (rend (crL A n c xs) (placeL (crP b m a) 0 0)) = true := by
  have hx : ∀ s ∈ xs, (-32767 ≤ s.1 ∧ s.1 ≤ 32767) ∧ (-32767 ≤ s.2 ∧ s.2 ≤ 32767) := by
    intro s hs
    obtain ⟨k, hk, rfl⟩ := List.getElem_of_mem hs
    have := ckS_bd xs hv k hk
    omega
  have hl : (rend (crL A n c xs) (placeL (crP b m a) 0 0)).length = (b + m + a).toNat := by
    unfold rend; rw [cr_len]; simp
  have hat : ∀ (k : Nat) (hk : k < (rend (crL A n c xs) (placeL (crP b m a) 0 0)).length) (hkx : k < xs.length), _ := fun k hk hkx =>
    cr_rend A n c xs b m a hn hx hb hm hm2 ha h1 h2 h3 k (by omega) hkx ((rend (crL A n c xs) (placeL (crP b m a) 0 0))[k]) (by simp [rend])
  refine ⟨⟨by omega, by omega, hat⟩, ?_⟩
  unfold vss
  rw [List.all_eq_true]
  intro s hs
  obtain ⟨k, hk, rfl⟩ := List.getElem_of_mem hs
  have hkx : k < xs.length := by omega
  have h := hat k hk hkx
  have hb := hx _ (List.getElem_mem hkx)
  have e1 := h.2.1
  have e2 := h.2.2.1
  unfold am at e1 e2
  simp only [vs, win, Bool.and_eq_true, decide_eq_true_eq]
  omega
end Go.Proofs.Ytoapdmkngfhapaa
