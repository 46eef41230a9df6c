/-
  The mathematics of a filter's memory: a ring of eight moments, the correction, the quotient that is rounded down.
-/
import Derived.Test.YtilihdkfflfniaaWords
namespace Go.Proofs.Ytilihdkfflfniaa

/-- The moment after which i others were remembered; none: zeros. -/
def hAt (h : List (Int × Int)) (i : Nat) : Int × Int := h[i]?.getD (0, 0)
/-- What lies at a place of the ring, when the next place is nx. -/
def ringAt (h : List (Int × Int)) (nx s : Nat) : Int × Int := hAt h ((nx + 7 - s) % 8)
theorem ring_ago (h : List (Int × Int)) {nx i : Nat} (hn : nx < 8) (hi : i < 8) : ringAt h nx ((nx + 7 - i) % 8) = hAt h i := by
  unfold ringAt; congr 1; omega
theorem ring_rem (h : List (Int × Int)) (m : Int × Int) {nx s : Nat} (hn : nx < 8) (hs : s < 8) : ringAt (m :: h) ((nx + 1) % 8) s = if s = nx then m else ringAt h nx s := by
  unfold ringAt hAt
  split
  · rename_i e
    rw [show ((nx + 1) % 8 + 7 - s) % 8 = 0 by omega]; rfl
  · rename_i e
    obtain ⟨a, ha⟩ : ∃ a, (nx + 7 - s) % 8 = a := ⟨_, rfl⟩
    rw [ha, show ((nx + 1) % 8 + 7 - s) % 8 = a + 1 by omega, List.getElem?_cons_succ]
/-- The ring as it lies in memory. -/
def ringCells (h : List (Int × Int)) (nx : Nat) : List Value := (List.range 8).flatMap fun s => [.int .i64 (ringAt h nx s).1, .int .i64 (ringAt h nx s).2]
theorem ring_zero : ringCells [] 0 = List.replicate 16 (.int .i64 0) := by rfl
theorem ringCells_length (h : List (Int × Int)) (nx : Nat) : (ringCells h nx).length = 16 := by rfl
/-- Storing a moment at the next place. -/
theorem ring_store (h : List (Int × Int)) (m : Int × Int) {nx : Nat} (hn : nx < 8) :
    ((ringCells h nx).set (nx * 2) (.int .i64 m.1)).set (nx * 2 + 1) (.int .i64 m.2) = ringCells (m :: h) ((nx + 1) % 8) := by
  have key : ∀ s, s < 8 → ringAt (m :: h) ((nx + 1) % 8) s = if s = nx then m else ringAt h nx s := fun s hs => ring_rem h m hn hs
  have e : ∀ h nx, ringCells h nx = [.int .i64 (ringAt h nx 0).1, .int .i64 (ringAt h nx 0).2, .int .i64 (ringAt h nx 1).1, .int .i64 (ringAt h nx 1).2, .int .i64 (ringAt h nx 2).1, .int .i64 (ringAt h nx 2).2, .int .i64 (ringAt h nx 3).1, .int .i64 (ringAt h nx 3).2, .int .i64 (ringAt h nx 4).1, .int .i64 (ringAt h nx 4).2, .int .i64 (ringAt h nx 5).1, .int .i64 (ringAt h nx 5).2, .int .i64 (ringAt h nx 6).1, .int .i64 (ringAt h nx 6).2, .int .i64 (ringAt h nx 7).1, .int .i64 (ringAt h nx 7).2] := fun _ _ => rfl
  rw [e, e, key 0 (by omega), key 1 (by omega), key 2 (by omega), key 3 (by omega), key 4 (by omega), key 5 (by omega), key 6 (by omega), key 7 (by omega)]
  have hc : nx = 0 ∨ nx = 1 ∨ nx = 2 ∨ nx = 3 ∨ nx = 4 ∨ nx = 5 ∨ nx = 6 ∨ nx = 7 := by omega
  rcases hc with rfl | rfl | rfl | rfl | rfl | rfl | rfl | rfl <;> rfl
theorem ring_cell (h : List (Int × Int)) {nx s : Nat} (hs : s < 8) : (ringCells h nx)[s * 2]? = some (.int .i64 (ringAt h nx s).1) ∧ (ringCells h nx)[s * 2 + 1]? = some (.int .i64 (ringAt h nx s).2) := by
  have hc : s = 0 ∨ s = 1 ∨ s = 2 ∨ s = 3 ∨ s = 4 ∨ s = 5 ∨ s = 6 ∨ s = 7 := by omega
  rcases hc with rfl | rfl | rfl | rfl | rfl | rfl | rfl | rfl <;> exact ⟨rfl, rfl⟩

/-- A sum of weights times numbers. -/
def sumTo (ws : List Int) (f : Nat → Int) : Nat → Int
  | 0 => 0
  | k + 1 => sumTo ws f k + ws[k]?.getD 0 * f k
theorem sumTo_bd {ws : List Int} {f : Nat → Int} {W F : Int} (hw : ∀ x ∈ ws, -W ≤ x ∧ x ≤ W) (h0 : 0 ≤ W) (hf : ∀ i, -F ≤ f i ∧ f i ≤ F) (k : Nat) : -(k * (W * F)) ≤ sumTo ws f k ∧ sumTo ws f k ≤ k * (W * F) := by
  have hF : 0 ≤ F := by have := hf 0; omega
  have hp : 0 ≤ W * F := Int.mul_nonneg h0 hF
  induction k with
  | zero => simp [sumTo]
  | succ k ih =>
    have hx : -W ≤ ws[k]?.getD 0 ∧ ws[k]?.getD 0 ≤ W := by
      cases h : ws[k]? with
      | none => simp; omega
      | some x => exact hw x (List.mem_of_getElem? h)
    have h1 := hf k
    have hb : -(W * F) ≤ ws[k]?.getD 0 * f k ∧ ws[k]?.getD 0 * f k ≤ W * F := by
      obtain ⟨x, hxx⟩ : ∃ x, ws[k]?.getD 0 = x := ⟨_, rfl⟩
      obtain ⟨y, hy⟩ : ∃ y, f k = y := ⟨_, rfl⟩
      rw [hxx] at hx ⊢
      rw [hy] at h1 ⊢
      rcases Int.le_total 0 x with h2 | h2 <;> rcases Int.le_total 0 y with h3 | h3
      · have a := Int.mul_le_mul hx.2 h1.2 h3 h0
        have b := Int.mul_nonneg h2 h3
        omega
      · have a := Int.mul_le_mul hx.2 (show -y ≤ F by omega) (by omega) h0
        have b := Int.mul_nonneg h2 (show 0 ≤ -y by omega)
        rw [Int.mul_neg] at a b; omega
      · have a := Int.mul_le_mul (show -x ≤ W by omega) h1.2 h3 h0
        have b := Int.mul_nonneg (show 0 ≤ -x by omega) h3
        rw [Int.neg_mul] at a b; omega
      · have a := Int.mul_le_mul (show -x ≤ W by omega) (show -y ≤ F by omega) (by omega) h0
        have b := Int.mul_nonneg (show 0 ≤ -x by omega) (show 0 ≤ -y by omega)
        rw [Int.neg_mul_neg] at a b; omega
    unfold sumTo
    have e : ((k + 1 : Nat) : Int) * (W * F) = (k : Int) * (W * F) + W * F := by rw [Int.natCast_add, Int.add_mul]; simp
    rw [e]; omega
/-- Go's quotient, rounded down. -/
theorem quo_down {a b : Int} (hb : 0 < b) : (if a.tmod b < 0 then a.tdiv b - 1 else a.tdiv b) = a / b := by
  have h1 : b * a.tdiv b + a.tmod b = a := by rw [Int.tmod_def]; omega
  have h2 := Int.mul_ediv_add_emod a b
  have h3 := Int.emod_nonneg a (show b ≠ 0 by omega)
  have h4 := Int.emod_lt_of_pos a hb
  rcases Int.le_total 0 a with h | h
  · rw [Int.tdiv_eq_ediv_of_nonneg h, if_neg]
    rw [Int.tmod_eq_emod_of_nonneg h]; omega
  · have h5 : a.tmod b ≤ 0 := by
      have := Int.tmod_nonneg b (show 0 ≤ -a by omega)
      rw [Int.neg_tmod] at this; omega
    have h6 : -b < a.tmod b := by
      have := Int.tmod_lt_of_pos (-a) hb
      rw [Int.neg_tmod] at this; omega
    obtain ⟨q, hq⟩ : ∃ q, a.tdiv b = q := ⟨_, rfl⟩
    obtain ⟨r, hr⟩ : ∃ r, a.tmod b = r := ⟨_, rfl⟩
    obtain ⟨q', hq'⟩ : ∃ q, a / b = q := ⟨_, rfl⟩
    obtain ⟨r', hr'⟩ : ∃ r, a % b = r := ⟨_, rfl⟩
    rw [hq, hr] at h1
    rw [hr] at h5 h6
    rw [hq', hr'] at h2
    rw [hr'] at h3 h4
    rw [hq, hr, hq']
    have key : ∀ d : Int, b * q + r = b * q' + r' → q - q' = d → r' - r = b * d := by
      intro d e1 e2
      have : q = q' + d := by omega
      rw [this, Int.mul_add] at e1; omega
    have e := key (q - q') (by omega) rfl
    have hd : q - q' = 0 ∨ q - q' = 1 := by
      rcases Int.lt_or_le (q - q') 0 with h7 | h7
      · have : b * (q - q') ≤ b * (-1) := Int.mul_le_mul_of_nonneg_left (by omega) (by omega)
        omega
      · rcases Int.lt_or_le 1 (q - q') with h8 | h8
        · have : b * 2 ≤ b * (q - q') := Int.mul_le_mul_of_nonneg_left (by omega) (by omega)
          omega
        · omega
    rcases hd with hd | hd
    · rw [hd] at e
      rw [if_neg (by omega)]; omega
    · rw [hd] at e
      rw [if_pos (by omega)]; omega
end Go.Proofs.Ytilihdkfflfniaa
