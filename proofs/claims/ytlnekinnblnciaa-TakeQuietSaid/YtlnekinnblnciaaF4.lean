/-
  The walk of TakeQuiet.
-/
import Derived.Test.YtlnekinnblnciaaE1
import Derived.Test.YtlnekinnblnciaaF1
namespace Go.Proofs.Ytlnekinnblnciaa
open Go.RowKit

set_option maxHeartbeats 400000 in
theorem lawAmount_any (x : Int) (w : World) (h1 : -9223372036854775807 ≤ x) (h2 : x ≤ 9223372036854775807) :
    Calls Try.prog 43 #[.int .i64 x] w fun e w' => e = .returned (.int .i64 (am x)) ∧ w = w' := by
  go_enter Try.func43, Try.ntmps43
  go_wp2
  all_goals
    go_ret
    exact ⟨ret_i (by unfold am; omega), rfl⟩

set_option maxRecDepth 100000 in
set_option maxHeartbeats 4000000 in
theorem quietLaw_long (A : Option Addr) (n c : Nat) (xs : List Smp) (li mo le : Int) (w : World) (h0 : RS w w.heap.size A n xs) (hl : n ≤ 9223372036854775807) (hi : I64s xs) (h1 : 300 < n ∨ ckS xs ≠ 0) :
    Calls Try.prog 9 #[.slice A n c, .int .u16 li, .int .u16 mo, .int .u8 le] w fun e w' => e = .returned (.bool true) ∧ Below w.heap.size w w' := by
  have H := Lib.hid h0
  clear h0
  by_cases h3 : 300 < n
  · clear h1
    go_enter Try.func9, Try.ntmps9
    go_wp2_with fail
    refine (Works_any _).mono ?_
    rintro e w1 ⟨rfl, hb1⟩
    go_wp2
    go_ret
    exact ⟨rfl, hb1⟩
  · have hc : ckS xs ≠ 0 := by omega
    have hc1 : (ckS xs == 0) = false := by simpa using hc
    have hc2 : (ckS xs != 0) = true := by simpa using hc
    obtain ⟨q, hq⟩ : ∃ q, q = ckS xs := ⟨_, rfl⟩
    rw [← hq] at hc1 hc2
    have HQ := Lib.hid hq
    clear hc h1 hq
    go_enter Try.func9, Try.ntmps9
    go_wp2_with fail
    refine (refCheckSamples_any _ A n c xs _ H.out (Nat.le_refl _) hl hi).mono ?_
    rintro e w1 ⟨rfl, hb1⟩
    rw [← HQ.out]
    go_wp2_with fail
    refine (Works_any _).mono ?_
    rintro e w2 ⟨rfl, hb2⟩
    go_wp2
    go_ret
    exact ⟨rfl, hb1.trans (hb2.mono hb1.size)⟩

/-- What the walk wants of three lists of silences. -/
structure QF (xs : List Smp) (n : Nat) (a nn : Int) (X Y Z : List (Nat × Nat)) : Prop where
  q : ∀ (j : Nat) (hj : j < xs.length), (∃ p ∈ X, p.1 ≤ j ∧ j < p.2) ↔ (decide (am xs[j].1 ≤ a) && decide (am xs[j].2 ≤ a)) = true
  s : X.Pairwise fun p r => p.2 < r.1
  b : ∀ p ∈ X, p.1 < p.2 ∧ p.2 ≤ n
  y : ∀ p ∈ X, ∃ p' ∈ Y, p'.1 ≤ p.1 ∧ p.2 ≤ p'.2
  z : Z = X.filter fun p => decide (nn ≤ (p.2 : Int) - p.1)
theorem qf_of (xs : List Smp) (n : Nat) (a b nn : Int) (hn : n = xs.length) (hab : a ≤ b) (h1 : 1 ≤ nn) : QF xs n a nn (tk 1 (qf a xs) 0 0) (tk 1 (qf b xs) 0 0) (tk nn (qf a xs) 0 0) where
  q := fun j hj => by
    rw [tk_iff (qf a xs) 0 0 j (Nat.le_refl _) (Nat.zero_le _)]
    constructor
    · rintro (h | ⟨_, h⟩)
      · omega
      · simpa [qf, List.getElem?_eq_getElem hj] using h
    · intro h
      refine .inr ⟨Nat.zero_le _, ?_⟩
      simpa [qf, List.getElem?_eq_getElem hj] using h
  s := tk_sorted 1 (by omega) _ _ _ (Nat.le_refl _)
  b := fun p hp => by
    have := tk_bd 1 (by omega) _ _ _ (Nat.le_refl _) p hp
    simp only [qf, List.length_map] at this
    omega
  y := fun p hp => tk_mono _ _ _ _ _ (by simp [qf]) (fun j hj => by
    simp only [qf, List.getElem?_map, Option.map_eq_some_iff] at hj ⊢
    obtain ⟨s, hs, h⟩ := hj
    refine ⟨s, hs, ?_⟩
    simp only [Bool.and_eq_true, decide_eq_true_eq] at h ⊢
    omega) (Nat.le_refl _) (Nat.le_refl _) p hp
  z := tk_filter nn h1 _ _ _ (Nat.le_refl _)
theorem QF.lt {xs : List Smp} {n : Nat} {a nn : Int} {X Y Z : List (Nat × Nat)} (h : QF xs n a nn X Y Z) {i j : Nat} (hij : i < j) (hj : j < X.length) : (X[i]'(by omega)).2 < X[j].1 :=
  List.pairwise_iff_getElem.1 h.s i j (by omega) hj hij
/-- Where index k stands, once all silences that end at k or before are left behind. -/
theorem QF.at_ {xs : List Smp} {n : Nat} {a nn : Int} {X Y Z : List (Nat × Nat)} (h : QF xs n a nn X Y Z) {k m : Nat} (hk : k < xs.length) (hm : ∀ (j : Nat) (hj : j < X.length), j < m → X[j].2 ≤ k) :
    (m < X.length → ∀ (hm' : m < X.length), k < X[m].2 → (decide (am xs[k].1 ≤ a) && decide (am xs[k].2 ≤ a)) = decide (X[m].1 ≤ k)) ∧ (X.length ≤ m → (decide (am xs[k].1 ≤ a) && decide (am xs[k].2 ≤ a)) = false) := by
  constructor
  · intro _ hm' hk2
    by_cases hx : X[m].1 ≤ k
    · rw [decide_eq_true hx]
      exact (h.q k hk).1 ⟨X[m], List.getElem_mem hm', hx, hk2⟩
    · rw [decide_eq_false hx, ← Bool.not_eq_true]
      intro hq
      obtain ⟨p, hp, h1, h2⟩ := (h.q k hk).2 hq
      obtain ⟨j, hj, rfl⟩ := List.getElem_of_mem hp
      rcases Nat.lt_trichotomy j m with hjm | rfl | hjm
      · have := hm j hj hjm; omega
      · exact hx h1
      · have := h.lt hjm hj; omega
  · intro hm'
    rw [← Bool.not_eq_true]
    intro hq
    obtain ⟨p, hp, h1, h2⟩ := (h.q k hk).2 hq
    obtain ⟨j, hj, rfl⟩ := List.getElem_of_mem hp
    have := hm j hj (by omega); omega

theorem any_take {α : Type} (P : α → Bool) (x : List α) (i : Nat) (hi : i < x.length) : (x.take (i + 1)).any P = ((x.take i).any P || P x[i]) := by
  rw [List.take_succ_eq_append_getElem hi, List.any_append]; simp
end Go.Proofs.Ytlnekinnblnciaa
