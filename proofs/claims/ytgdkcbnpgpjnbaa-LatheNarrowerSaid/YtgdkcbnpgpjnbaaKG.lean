/-
  Contracts of the document's edge and CheckPoints of a groove.
-/
import Derived.Test.YtgdkcbnpgpjnbaaJG
namespace Go.Proofs.Ytgdkcbnpgpjnbaa
open Go.RowKit

set_option maxHeartbeats 400000 in
theorem refWithin_any (x lo hi : Int) (w : World) :
    Calls Try.prog 78 #[.int .i64 x, .int .i64 lo, .int .i64 hi] w fun e w' => e = .returned (.bool (win x lo hi)) ∧ w = w' := by
  by_cases h1 : lo ≤ x <;> by_cases h2 : x ≤ hi
  all_goals
    go_enter Try.func78, Try.ntmps78
    go_wp2
    go_ret
    exact ⟨by simp [win, h1, h2], rfl⟩

set_option maxHeartbeats 1000000 in
theorem refEdge_any (p : Smp) (w : World) :
    Calls Try.prog 73 #[.agg #[.int .i64 p.1, .int .i64 p.2]] w fun e w' => e = .returned (.bool (vE p)) ∧ Below w.heap.size w w' := by
  cases h1 : win p.1 (-4194304) 4194304 <;> cases h2 : win p.2 (-4194304) 4194304
  all_goals
    have H1 := Lib.hid h1
    have H2 := Lib.hid h2
    clear h1 h2
    go_enter Try.func73, Try.ntmps73
    go_wp2_with ((with_reducible refine (refWithin_any _ _ _ _).mono ?_); rintro e w' ⟨rfl, rfl⟩; (first | rw [H1.out] | rw [H2.out]))
    go_ret
    exact ⟨ret_b (by unfold vE; rw [H1.out, H2.out]; rfl), (Below.refl _ _).alloc (Nat.le_refl _) _⟩

set_option maxHeartbeats 1000000 in
theorem refCheckPoints_any (B : Nat) (A : Option Addr) (n c : Nat) (xs : List Smp) (w : World) (h0 : RS w B A n xs) (hB : B ≤ w.heap.size) (hl : n ≤ 9223372036854775807) :
    Calls Try.prog 57 #[.slice A n c] w fun e w' => e = .returned (.int .i64 (ckG xs)) ∧ Below w.heap.size w w' := by
  have H := Lib.hid (h0.more hB)
  obtain ⟨hn, -⟩ := h0
  clear hB
  have HN := Lib.hid hn
  by_cases h4 : 4096 < n
  · have hr : ckG xs = 6 := by unfold ckG; rw [if_pos (by omega)]
    have HR := Lib.hid hr
    clear hn hr
    go_enter Try.func57, Try.ntmps57
    go_wp2
    go_ret
    exact ⟨ret_i HR.out.symm, Below.refl _ _⟩
  · have hr : ckG xs = if vPs xs then 0 else 2 := by unfold ckG; rw [if_neg (by omega)]
    have HR := Lib.hid hr
    clear hn hr
    go_enter Try.func57, Try.ntmps57
    go_wp2
    go_loopw [3] (fun i wr => ∃ k : Nat, k ≤ n ∧ i = .int .i64 k ∧ Below w.heap.size w wr ∧ Hid (vPs (xs.take k) = true)) (fun i wr => n - (intOf i).toNat)
    case atStart => exact ⟨0, Nat.zero_le _, rfl, Below.refl _ _, Lib.hid rfl⟩
    case round =>
      obtain ⟨k, hk, rfl, hb, hv⟩ := hrel
      by_cases hlt : k < n
      · obtain ⟨ad, hA, hbl, h1, h2⟩ := (H.out.below hb (Nat.le_refl _)).at_ (k := k) (by have := HN.out; omega)
        obtain rfl := hA
        cases hx : vE (xs[k]'(by have := HN.out; omega))
        · have HX := Lib.hid hx
          clear hx
          go_wp2_with ((with_reducible refine (refEdge_any _ _).mono ?_); rintro e w' ⟨rfl, hb1⟩; rw [HX.out])
          go_ret
          exact ⟨ret_i (by rw [HR.out, vPs_false xs k (by have := HN.out; omega) HX.out]; rfl), hb.trans (hb1.mono hb.size)⟩
        · have HX := Lib.hid hx
          clear hx
          go_wp2_with ((with_reducible refine (refEdge_any _ _).mono ?_); rintro e w' ⟨rfl, hb1⟩; rw [HX.out])
          go_roundw
          case rel =>
            exact ⟨k + 1, by omega, by go_num, hb.trans (hb1.mono hb.size), Lib.hid (by rw [vPs_take xs k (by have := HN.out; omega), hv.out, HX.out]; rfl)⟩
          case measure => simp [intOf]; omega
      · go_wp2
        go_ret
        have hv' := hv.out
        rw [List.take_of_length_le (by have := HN.out; omega)] at hv'
        exact ⟨ret_i (by rw [HR.out, hv']; rfl), hb⟩
end Go.Proofs.Ytgdkcbnpgpjnbaa
