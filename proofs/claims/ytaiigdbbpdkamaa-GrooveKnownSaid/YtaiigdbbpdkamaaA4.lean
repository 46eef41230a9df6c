/-
  Contracts of the document's Valid and CheckSamples.
-/
import Derived.Test.YtaiigdbbpdkamaaAm
namespace Go.Proofs.Ytaiigdbbpdkamaa
open Go.RowKit

/-- A number that an int64 holds. -/
def I64 (x : Int) : Prop := -9223372036854775808 ≤ x ∧ x ≤ 9223372036854775807
theorem ram_eq (x : Int) (h : I64 x) : decide (ram x ≤ 32767 ∧ -1099511627776 < x) = win x (-32767) 32767 := by
  unfold I64 at h
  unfold ram win
  rw [← Bool.decide_and, decide_eq_decide]
  by_cases hm : x = -9223372036854775808
  · subst hm
    constructor
    · rintro ⟨_, h2⟩; exact absurd h2 (by decide)
    · rintro ⟨h2, _⟩; exact absurd h2 (by decide)
  · have : wrap64 (-x) = -x := by unfold wrap64; omega
    rw [this]; omega

set_option maxHeartbeats 1000000 in
theorem refValid_any (l r : Int) (w : World) (hl : I64 l) (hr : I64 r) :
    Calls Try.prog 42 #[.agg #[.int .i64 l, .int .i64 r]] w fun e w' => e = .returned (.bool (vs l r)) ∧ Below w.heap.size w w' := by
  have hv : vs l r = (decide (ram l ≤ 32767) && decide (ram r ≤ 32767) && decide (-1099511627776 < l) && decide (-1099511627776 < r)) := by
    unfold vs
    rw [← ram_eq l hl, ← ram_eq r hr, Bool.decide_and, Bool.decide_and]
    cases decide (ram l ≤ 32767) <;> cases decide (ram r ≤ 32767) <;> simp
  have HV := Lib.hid hv
  clear hv hl hr
  have hc : ¬ ram l ≤ 32767 ∨ (ram l ≤ 32767 ∧ ¬ ram r ≤ 32767) ∨ (ram l ≤ 32767 ∧ ram r ≤ 32767 ∧ ¬ -1099511627776 < l) ∨ (ram l ≤ 32767 ∧ ram r ≤ 32767 ∧ -1099511627776 < l ∧ ¬ -1099511627776 < r) ∨
      (ram l ≤ 32767 ∧ ram r ≤ 32767 ∧ -1099511627776 < l ∧ -1099511627776 < r) := by omega
  rcases hc with h1 | ⟨h1, h2⟩ | ⟨h1, h2, h3⟩ | ⟨h1, h2, h3, h4⟩ | ⟨h1, h2, h3, h4⟩
  all_goals
    go_enter Try.func42, Try.ntmps42
    go_wp2_with ((with_reducible refine (refAmount_any _ _).mono ?_); rintro e w' ⟨rfl, rfl⟩)
    go_ret
    exact ⟨ret_b (by rw [HV.out]; first | (simp [*]; done) | (simp; intros; omega)), (Below.refl _ _).alloc (Nat.le_refl _) _⟩

def I64s (xs : List Smp) : Prop := ∀ s ∈ xs, I64 s.1 ∧ I64 s.2

set_option maxHeartbeats 400000 in
theorem refCheckSamples_any (B : Nat) (A : Option Addr) (n c : Nat) (xs : List Smp) (w : World) (h0 : RS w B A n xs) (hB : B ≤ w.heap.size) (hl : n ≤ 9223372036854775807) (hi : I64s xs) :
    Calls Try.prog 38 #[.slice A n c] w fun e w' => e = .returned (.int .i64 (ckS xs)) ∧ Below w.heap.size w w' := by
  have H := Lib.hid (h0.more hB)
  obtain ⟨hn, -⟩ := h0
  clear hB
  have HN := Lib.hid hn
  by_cases h4 : 4096 < n
  · have hr : ckS xs = 6 := by unfold ckS; rw [if_pos (by omega)]
    have HR := Lib.hid hr
    clear hn hr
    go_enter Try.func38, Try.ntmps38
    go_wp2
    go_ret
    exact ⟨ret_i HR.out.symm, Below.refl _ _⟩
  · have hr : ckS xs = if vss xs then 0 else 2 := by unfold ckS; rw [if_neg (by omega)]
    have HR := Lib.hid hr
    clear hn hr
    go_enter Try.func38, Try.ntmps38
    go_wp2
    go_loopw [3] (fun i wr => ∃ k : Nat, k ≤ n ∧ i = .int .i64 k ∧ Below w.heap.size w wr ∧ vss (xs.take k) = true) (fun i wr => n - (intOf i).toNat)
    case atStart => exact ⟨0, Nat.zero_le _, rfl, Below.refl _ _, rfl⟩
    case round =>
      obtain ⟨k, hk, rfl, hb, hv⟩ := hrel
      by_cases hlt : k < n
      · obtain ⟨ad, hA, hbl, h1, h2⟩ := (H.out.below hb (Nat.le_refl _)).at_ (k := k) (by have := HN.out; omega)
        obtain rfl := hA
        have hi' := hi _ (List.getElem_mem (show k < xs.length by have := HN.out; omega))
        have HI1 := Lib.hid hi'.1
        have HI2 := Lib.hid hi'.2
        clear hi'
        cases hx : vs xs[k].1 xs[k].2
        all_goals
          have HX := Lib.hid hx
          clear hx
          go_wp2_with ((with_reducible refine (refValid_any _ _ _ HI1.out HI2.out).mono ?_); rintro e w' ⟨rfl, hb1⟩; (try rw [HX.out]))
        · go_ret
          exact ⟨ret_i (by rw [HR.out, vss_false xs k (by have := HN.out; omega) HX.out]; rfl), hb.trans (hb1.mono hb.size)⟩
        · go_roundw
          case rel =>
            refine ⟨k + 1, by omega, by go_num, hb.trans (hb1.mono hb.size), ?_⟩
            rw [vss_take xs k (by have := HN.out; omega), hv, HX.out]; rfl
          case measure => simp [intOf]; omega
      · go_wp2
        go_ret
        rw [List.take_of_length_le (by have := HN.out; omega)] at hv
        exact ⟨ret_i (by rw [HR.out, hv]; rfl), hb⟩

theorem ram_of_bd (x : Int) (h1 : -32767 ≤ x) (h2 : x ≤ 32767) : ram x = am x := by
  have : wrap64 (-x) = -x := by unfold wrap64; omega
  unfold ram am; rw [this]

end Go.Proofs.Ytaiigdbbpdkamaa
