/-
  Contracts of the document's edge and CheckPoints of a groove.
-/
import Derived.Test.YtjaomjbhkgijbaaMg12

namespace Go.Proofs.Ytjaomjbhkgijbaa
open Go.RowKit

set_option maxHeartbeats 400000 in
theorem refWithin_any (x lo hi : Int) (w : World) :
    Calls Try.prog 135 #[.int .i64 x, .int .i64 lo, .int .i64 hi] w fun e w' => e = .returned (.bool (win x lo hi)) ∧ w = w' := by
  by_cases h1 : lo ≤ x <;> by_cases h2 : x ≤ hi
  all_goals
    go_enter Try.func135, Try.ntmps135
    go_wp2
    go_ret
    exact ⟨by simp [win, h1, h2], rfl⟩

set_option maxHeartbeats 1000000 in
theorem refEdge_any (p : Smp) (w : World) :
    Calls Try.prog 132 #[.agg #[.int .i64 p.1, .int .i64 p.2]] w fun e w' => e = .returned (.bool (vE p)) ∧ Below w.heap.size w w' := by
  cases h1 : win p.1 (-4194304) 4194304 <;> cases h2 : win p.2 (-4194304) 4194304
  all_goals
    have H1 := Lib.hid h1
    have H2 := Lib.hid h2
    clear h1 h2
    go_enter Try.func132, Try.ntmps132
    go_wp2_with ((with_reducible refine (refWithin_any _ _ _ _).mono ?_); rintro e w' ⟨rfl, rfl⟩; (first | rw [H1.out] | rw [H2.out]))
    go_ret
    exact ⟨ret_b (by unfold vE; rw [H1.out, H2.out]; rfl), (Below.refl _ _).alloc (Nat.le_refl _) _⟩

set_option maxHeartbeats 1000000 in
theorem refCheckPoints_any (B : Nat) (A : Option Addr) (n c : Nat) (xs : List Smp) (w : World) (h0 : RS w B A n xs) (hB : B ≤ w.heap.size) (hl : n ≤ 9223372036854775807) :
    Calls Try.prog 68 #[.slice A n c] w fun e w' => e = .returned (.int .i64 (ckG xs)) ∧ Below w.heap.size w w' := by
  have H := Lib.hid (h0.more hB)
  obtain ⟨hn, -⟩ := h0
  clear hB
  have HN := Lib.hid hn
  by_cases h4 : 4096 < n
  · have hr : ckG xs = 6 := by unfold ckG; rw [if_pos (by omega)]
    have HR := Lib.hid hr
    clear hn hr
    go_enter Try.func68, Try.ntmps68
    go_wp2
    go_ret
    exact ⟨ret_i HR.out.symm, Below.refl _ _⟩
  · have hr : ckG xs = if vPs xs then 0 else 2 := by unfold ckG; rw [if_neg (by omega)]
    have HR := Lib.hid hr
    clear hn hr
    go_enter Try.func68, Try.ntmps68
    go_wp2
    go_loopw [3] (fun i wr => ∃ k : Nat, k ≤ n ∧ i = .int .i64 k ∧ Below w.heap.size w wr ∧ Hid (vPs (xs.take k) = true)) (fun i wr => n - (intOf i).toNat)
    case atStart => exact ⟨0, Nat.zero_le _, rfl, Below.refl _ _, Lib.hid rfl⟩
    case round =>
      obtain ⟨k, hk, rfl, hb, hv⟩ := hrel
      by_cases hlt : k < n
      · obtain ⟨ad, hA, hbl, h1, h2⟩ := (H.out.below hb (Nat.le_refl _)).at_ (k := k) (by have := HN.out; omega)
        obtain rfl := hA
        cases hx : vE (xs[k]'(by have := HN.out; omega))
        · have HX := Lib.hid hx
          clear hx
          go_wp2_with ((with_reducible refine (refEdge_any _ _).mono ?_); rintro e w' ⟨rfl, hb1⟩; rw [HX.out])
          go_ret
          exact ⟨ret_i (by rw [HR.out, vPs_false xs k (by have := HN.out; omega) HX.out]; rfl), hb.trans (hb1.mono hb.size)⟩
        · have HX := Lib.hid hx
          clear hx
          go_wp2_with ((with_reducible refine (refEdge_any _ _).mono ?_); rintro e w' ⟨rfl, hb1⟩; rw [HX.out])
          go_roundw
          case rel =>
            exact ⟨k + 1, by omega, by go_num, hb.trans (hb1.mono hb.size), Lib.hid (by rw [vPs_take xs k (by have := HN.out; omega), hv.out, HX.out]; rfl)⟩
          case measure => simp [intOf]; omega
      · go_wp2
        go_ret
        have hv' := hv.out
        rw [List.take_of_length_le (by have := HN.out; omega)] at hv'
        exact ⟨ret_i (by rw [HR.out, hv']; rfl), hb⟩
end Go.Proofs.Ytjaomjbhkgijbaa

/-
  Contracts of the document's Check and CheckPoints of a groove.
-/
namespace Go.Proofs.Ytjaomjbhkgijbaa
open Go.RowKit

theorem vC_eq (c : Ctr) : vC c = (win c.half 1 4096 && win c.gain 0 100000 && win c.thin 0 1048576 && win c.wide 0 1048576 && !decide (c.wide < c.thin) && win c.slope 0 10000 && win c.jerk 0 1048576 && win c.stylus 0 1024) := by
  rw [Bool.eq_iff_iff]
  unfold vC win
  simp only [Bool.and_eq_true, Bool.not_eq_true', decide_eq_true_eq, decide_eq_false_iff_not]
  omega
theorem bool8 : ∀ a b c d x e f g : Bool, a = false ∨ (a = true ∧ b = false) ∨ (a = true ∧ b = true ∧ c = false) ∨ (a = true ∧ b = true ∧ c = true ∧ d = false) ∨ (a = true ∧ b = true ∧ c = true ∧ d = true ∧ x = true) ∨ (a = true ∧ b = true ∧ c = true ∧ d = true ∧ x = false ∧ e = false) ∨
    (a = true ∧ b = true ∧ c = true ∧ d = true ∧ x = false ∧ e = true ∧ f = false) ∨ (a = true ∧ b = true ∧ c = true ∧ d = true ∧ x = false ∧ e = true ∧ f = true ∧ g = false) ∨ (a = true ∧ b = true ∧ c = true ∧ d = true ∧ x = false ∧ e = true ∧ f = true ∧ g = true) := by
  intro a b c d x e f g
  cases a <;> cases b <;> cases c <;> cases d <;> cases x <;> cases e <;> cases f <;> cases g <;> simp

set_option maxHeartbeats 2000000 in
theorem refCheck_any (c : Ctr) (w : World) :
    Calls Try.prog 66 #[.agg #[.int .i64 c.half, .int .i64 c.gain, .int .i64 c.thin, .int .i64 c.wide, .int .i64 c.slope, .int .i64 c.jerk, .int .i64 c.stylus]] w fun e w' => e = .returned (.int .i64 (ckC c)) ∧ Below w.heap.size w w' := by
  have hr : ckC c = if vC c = true then 0 else 2 := rfl
  rw [vC_eq] at hr
  rcases bool8 (win c.half 1 4096) (win c.gain 0 100000) (win c.thin 0 1048576) (win c.wide 0 1048576) (decide (c.wide < c.thin)) (win c.slope 0 10000) (win c.jerk 0 1048576) (win c.stylus 0 1024) with
    h1 | ⟨h1, h2⟩ | ⟨h1, h2, h3⟩ | ⟨h1, h2, h3, h4⟩ | ⟨h1, h2, h3, h4, hx⟩ | ⟨h1, h2, h3, h4, hx, h5⟩ | ⟨h1, h2, h3, h4, hx, h5, h6⟩ | ⟨h1, h2, h3, h4, hx, h5, h6, h7⟩ | ⟨h1, h2, h3, h4, hx, h5, h6, h7⟩
  all_goals
    simp only [*, Bool.and_true, Bool.and_false, Bool.false_and, Bool.not_true, Bool.not_false, if_true, if_false, Bool.false_eq_true] at hr
    have HR := Lib.hid hr
    clear hr
    have H1 := Lib.hid h1
    (try have H2 := Lib.hid h2); (try have H3 := Lib.hid h3); (try have H4 := Lib.hid h4); (try have H5 := Lib.hid h5); (try have H6 := Lib.hid h6); (try have H7 := Lib.hid h7)
    (try clear h1); (try clear h2); (try clear h3); (try clear h4); (try clear h5); (try clear h6); (try clear h7)
    go_enter Try.func66, Try.ntmps66
    go_wp2_with ((with_reducible refine (refWithin_any _ _ _ _).mono ?_); rintro e w' ⟨rfl, rfl⟩; (first | rw [H1.out] | rw [H2.out] | rw [H3.out] | rw [H4.out] | rw [H5.out] | rw [H6.out] | rw [H7.out]))
    go_ret
    exact ⟨ret_i HR.out.symm, (Below.refl _ _).alloc (Nat.le_refl _) _⟩

end Go.Proofs.Ytjaomjbhkgijbaa

