/-
  The mathematics of round tips: square roots, rounded down and up; round tips are valid, and blunter the greater their radius.
-/
import Derived.Test.YtjdnpgilinfkgaaM0
namespace Go.Proofs.Ytjdnpgilinfkgaa
open Go.RowKit

/-- The square root, rounded down. -/
def isq : Nat → Nat
  | 0 => 0
  | n + 1 => if (isq n + 1) * (isq n + 1) ≤ n + 1 then isq n + 1 else isq n
theorem sq_succ (s : Nat) : (s + 1) * (s + 1) = s * s + 2 * s + 1 := by rw [Nat.add_mul, Nat.mul_add]; omega
theorem isq_is : ∀ n, isq n * isq n ≤ n ∧ n < (isq n + 1) * (isq n + 1)
  | 0 => by decide
  | n + 1 => by
    obtain ⟨h1, h2⟩ := isq_is n
    unfold isq
    split
    · rename_i h
      refine ⟨h, ?_⟩
      rw [sq_succ (isq n + 1)]
      omega
    · rename_i h
      exact ⟨by omega, by omega⟩
theorem sq_le {a b : Nat} (h : a ≤ b) : a * a ≤ b * b := Nat.mul_le_mul h h
theorem isq_uniq {n s : Nat} (h1 : s * s ≤ n) (h2 : n < (s + 1) * (s + 1)) : isq n = s := by
  obtain ⟨h3, h4⟩ := isq_is n
  rcases Nat.lt_trichotomy (isq n) s with h | h | h
  · have := sq_le (a := isq n + 1) (b := s) h; omega
  · exact h
  · have := sq_le (a := s + 1) (b := isq n) h; omega
theorem isq_mono {n m : Nat} (h : n ≤ m) : isq n ≤ isq m := by
  obtain ⟨h1, _⟩ := isq_is n
  obtain ⟨_, h4⟩ := isq_is m
  rcases Nat.lt_or_ge (isq m) (isq n) with h5 | h5
  · have := sq_le (a := isq m + 1) (b := isq n) h5; omega
  · exact h5
theorem isq_sq (s : Nat) : isq (s * s) = s := isq_uniq (Nat.le_refl _) (by rw [sq_succ]; omega)
/-- The square root, rounded up. -/
def csq (n : Nat) : Nat := if isq n * isq n = n then isq n else isq n + 1
theorem csq_is (n : Nat) : n ≤ csq n * csq n ∧ (∀ c, c < csq n → c * c < n) := by
  obtain ⟨h1, h2⟩ := isq_is n
  unfold csq
  split
  · rename_i h
    refine ⟨by omega, fun c hc => ?_⟩
    have := sq_le (a := c + 1) (b := isq n) hc
    rw [sq_succ] at this; omega
  · rename_i h
    refine ⟨by omega, fun c hc => ?_⟩
    have := sq_le (a := c) (b := isq n) (by omega)
    omega
theorem csq_gt {n c : Nat} (h : c * c < n) : c < csq n := by
  obtain ⟨h1, _⟩ := csq_is n
  rcases Nat.lt_or_ge c (csq n) with h2 | h2
  · exact h2
  · have := sq_le h2; omega
theorem csq_le {n c : Nat} (h : n ≤ c * c) : csq n ≤ c := by
  rcases Nat.lt_or_ge c (csq n) with h2 | h2
  · have := (csq_is n).2 c h2; omega
  · exact h2
theorem csq_mono {n m : Nat} (h : n ≤ m) : csq n ≤ csq m := csq_le (Nat.le_trans h (csq_is m).1)
theorem csq_sq (s : Nat) : csq (s * s) = s := by unfold csq; rw [isq_sq, if_pos rfl]
theorem isq_csq (n : Nat) : isq n ≤ csq n ∧ csq n ≤ isq n + 1 := by unfold csq; split <;> omega

/-- How far the flank of a round tip is behind. -/
def bhL (R b : Nat) (up : Bool) : Int := (R : Int) - ((if up then isq (R * R - b * b) else csq (R * R - b * b) : Nat) : Int)
theorem bhL_bd (R b : Nat) (up : Bool) : 0 ≤ bhL R b up ∧ bhL R b up ≤ R := by
  have h1 : isq (R * R - b * b) ≤ R := by have := isq_mono (show R * R - b * b ≤ R * R by omega); rw [isq_sq] at this; exact this
  have h2 : csq (R * R - b * b) ≤ R := csq_le (by omega)
  unfold bhL
  cases up
  · simp only [Bool.false_eq_true, if_false]; omega
  · simp only [if_true]; omega
theorem bhL_mono {R b b' : Nat} (up : Bool) (h : b ≤ b') : bhL R b up ≤ bhL R b' up := by
  have h0 := sq_le h
  have h1 := isq_mono (show R * R - b' * b' ≤ R * R - b * b by omega)
  have h2 := csq_mono (show R * R - b' * b' ≤ R * R - b * b by omega)
  unfold bhL
  cases up
  · simp only [Bool.false_eq_true, if_false]; omega
  · simp only [if_true]; omega
theorem bhL_zero (R : Nat) (up : Bool) : bhL R 0 up = 0 := by
  unfold bhL
  cases up
  · simp only [Bool.false_eq_true, if_false, Nat.mul_zero, Nat.sub_zero, csq_sq]; omega
  · simp only [if_true, Nat.mul_zero, Nat.sub_zero, isq_sq]; omega
/-- Rounded down, a greater radius is nowhere farther behind. -/
theorem bhL_blunt1 {R b : Nat} (h : b ≤ R) : bhL (R + 1) b false ≤ bhL R b false := by
  have h0 := sq_le h
  have hs := sq_succ R
  obtain ⟨h1, h2⟩ := csq_is (R * R - b * b)
  have h3 : csq (R * R - b * b) ≤ R := csq_le (by omega)
  have h4 : csq (R * R - b * b) < csq ((R + 1) * (R + 1) - b * b) := by
    refine csq_gt ?_
    cases hc : csq (R * R - b * b) with
    | zero => omega
    | succ c =>
      have h5 := h2 c (by omega)
      rw [sq_succ]
      omega
  unfold bhL
  simp only [Bool.false_eq_true, if_false]
  omega
theorem bhL_blunt {R b : Nat} (h : b ≤ R) : ∀ d, bhL (R + d) b false ≤ bhL R b false
  | 0 => Int.le_refl _
  | d + 1 => Int.le_trans (bhL_blunt1 (R := R + d) (by omega)) (bhL_blunt h d)

/-- A round tip. -/
def rndL (R arc : Nat) (up : Bool) : List Int := (List.range (R / arc + 1)).map fun k => bhL R (k * arc) up
theorem rndL_len (R arc : Nat) (up : Bool) : (rndL R arc up).length = R / arc + 1 := by simp [rndL]
theorem rndL_at {R arc k : Nat} {up : Bool} (h : k < R / arc + 1) : atI (rndL R arc up) k = bhL R (k * arc) up := by
  rw [atI_eq (by rw [rndL_len]; exact h)]
  simp [rndL]
theorem rndL_in {R arc k : Nat} (h : k < R / arc + 1) : k * arc ≤ R := Nat.le_trans (Nat.mul_le_mul_right arc (by omega)) (Nat.div_mul_le_self R arc)
theorem rndL_shp {R arc : Nat} (up : Bool) (hR : R ≤ 1024) (hn : R / arc + 1 ≤ 64) : Shp (rndL R arc up) := by
  refine ⟨by rw [rndL_len]; exact Nat.le_add_left 1 _, by rw [rndL_len]; exact hn, ?_, fun i j hij hj => ?_, fun k => ?_⟩
  · rw [rndL_at (Nat.succ_pos _), Nat.zero_mul, bhL_zero]
  · rw [rndL_len] at hj
    rw [rndL_at (by omega), rndL_at hj]
    exact bhL_mono up (Nat.mul_le_mul_right arc hij)
  · rcases Nat.lt_or_ge k (R / arc + 1) with h | h
    · rw [rndL_at h]
      have := (bhL_bd R (k * arc) up).2
      omega
    · unfold atI
      rw [List.getElem?_eq_none (by rw [rndL_len]; exact h)]
      decide
/-- A round tip, rounded down, is sharper than each with a greater radius. -/
theorem rndL_sharper {R R' arc : Nat} (h : R ≤ R') : (rndL R arc false).length ≤ (rndL R' arc false).length ∧ ∀ k, k < (rndL R arc false).length → atI (rndL R' arc false) k ≤ atI (rndL R arc false) k := by
  have hd : R / arc ≤ R' / arc := Nat.div_le_div_right h
  refine ⟨by rw [rndL_len, rndL_len]; omega, fun k hk => ?_⟩
  rw [rndL_len] at hk
  rw [rndL_at hk, rndL_at (by omega)]
  have := bhL_blunt (rndL_in hk) (R' - R)
  rw [show R + (R' - R) = R' by omega] at this
  exact this
end Go.Proofs.Ytjdnpgilinfkgaa
