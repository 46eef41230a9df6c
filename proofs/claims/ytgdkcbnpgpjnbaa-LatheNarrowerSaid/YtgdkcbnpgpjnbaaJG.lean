/-
  Contracts of between, checkEdges and CheckPoints of package groove.
-/
import Derived.Test.YtgdkcbnpgpjnbaaSm
import Derived.Test.YtgdkcbnpgpjnbaaOr
namespace Go.Proofs.Ytgdkcbnpgpjnbaa
open Go.RowKit

set_option maxHeartbeats 400000 in
theorem between_any (lo x hi : Int) (w : World) :
    Calls Try.prog 74 #[.int .i64 lo, .int .i64 x, .int .i64 hi] w fun e w' => e = .returned (.bool (win x lo hi)) ∧ w = w' := by
  by_cases h1 : lo ≤ x <;> by_cases h2 : x ≤ hi
  all_goals
    go_enter Try.func74, Try.ntmps74
    go_wp2
    go_ret
    exact ⟨by simp [win, h1, h2], rfl⟩

def vE (p : Smp) : Bool := win p.1 (-4194304) 4194304 && win p.2 (-4194304) 4194304
def ckE (p : Smp) : Int := if vE p = true then 0 else 2
def vPs (l : List Smp) : Bool := l.all vE
/-- 0: a groove · 6: too many · 2: an edge that is too far out. -/
def ckG (l : List Smp) : Int := if 4096 < l.length then 6 else if vPs l = true then 0 else 2

set_option maxHeartbeats 1000000 in
theorem checkEdges_any (p : Smp) (w : World) :
    Calls Try.prog 58 #[.agg #[.int .i64 p.1, .int .i64 p.2]] w fun e w' => e = .returned (.int .i64 (ckE p)) ∧ Below w.heap.size w w' := by
  cases h1 : win p.1 (-4194304) 4194304 <;> cases h2 : win p.2 (-4194304) 4194304
  all_goals
    have H1 := Lib.hid h1
    have H2 := Lib.hid h2
    have hr : ckE p = if vE p = true then 0 else 2 := rfl
    unfold vE at hr
    simp only [h1, h2, Bool.and_true, Bool.and_false, if_true, if_false, Bool.false_eq_true] at hr
    have HR := Lib.hid hr
    clear h1 h2 hr
    go_enter Try.func58, Try.ntmps58
    go_wp2_with ((with_reducible refine (between_any _ _ _ _).mono ?_); rintro e w' ⟨rfl, rfl⟩; (try rw [H1.out]); (try rw [H2.out]))
    go_ret
    exact ⟨ret_i HR.out.symm, (Below.refl _ _).alloc (Nat.le_refl _) _⟩

theorem vPs_take (xs : List Smp) (k : Nat) (h : k < xs.length) : vPs (xs.take (k + 1)) = (vPs (xs.take k) && vE xs[k]) := by
  unfold vPs
  rw [List.take_succ_eq_append_getElem h, List.all_append]; simp
theorem vPs_false (xs : List Smp) (k : Nat) (h : k < xs.length) (hv : vE xs[k] = false) : vPs xs = false := by
  unfold vPs
  rw [List.all_eq_false]
  exact ⟨xs[k], List.getElem_mem h, by simp [hv]⟩
theorem ckE_t {p : Smp} (h : vE p = true) : ckE p = 0 := by unfold ckE; rw [h]; rfl
theorem ckE_f {p : Smp} (h : vE p = false) : ckE p = 2 := by unfold ckE; rw [h]; rfl

set_option maxHeartbeats 1000000 in
theorem CheckPoints_any (B : Nat) (A : Option Addr) (n c : Nat) (xs : List Smp) (w : World) (h0 : RS w B A n xs) (hB : B ≤ w.heap.size) (hl : n ≤ 9223372036854775807) :
    Calls Try.prog 39 #[.slice A n c] w fun e w' => e = .returned (.int .i64 (ckG xs)) ∧ Below w.heap.size w w' := by
  have H := Lib.hid (h0.more hB)
  obtain ⟨hn, -⟩ := h0
  clear hB
  have HN := Lib.hid hn
  by_cases h4 : 4096 < n
  · have hr : ckG xs = 6 := by unfold ckG; rw [if_pos (by omega)]
    have HR := Lib.hid hr
    clear hn hr
    go_enter Try.func39, Try.ntmps39
    go_wp2
    go_ret
    exact ⟨ret_i HR.out.symm, Below.refl _ _⟩
  · have hr : ckG xs = if vPs xs then 0 else 2 := by unfold ckG; rw [if_neg (by omega)]
    have HR := Lib.hid hr
    clear hn hr
    go_enter Try.func39, Try.ntmps39
    go_wp2
    go_loopw [11] (fun i wr => ∃ k : Nat, k ≤ n ∧ i = .int .i64 k ∧ Below w.heap.size w wr ∧ Hid (vPs (xs.take k) = true)) (fun i wr => n - (intOf i).toNat)
    case atStart => exact ⟨0, Nat.zero_le _, rfl, Below.refl _ _, Lib.hid rfl⟩
    case round =>
      obtain ⟨k, hk, rfl, hb, hv⟩ := hrel
      by_cases hlt : k < n
      · obtain ⟨ad, hA, hbl, h1, h2⟩ := (H.out.below hb (Nat.le_refl _)).at_ (k := k) (by have := HN.out; omega)
        obtain rfl := hA
        cases hx : vE (xs[k]'(by have := HN.out; omega))
        · have HX := Lib.hid (ckE_f hx)
          have HXX := Lib.hid hx
          clear hx
          go_wp2_with ((with_reducible refine (checkEdges_any _ _).mono ?_); rintro e w' ⟨rfl, hb1⟩; rw [HX.out])
          go_ret
          exact ⟨ret_i (by rw [HR.out, vPs_false xs k (by have := HN.out; omega) HXX.out]; rfl), (hb.alloc hb.size _).trans (hb1.mono (by have := hb.size; simp; omega))⟩
        · have HX := Lib.hid (ckE_t hx)
          have HXX := Lib.hid hx
          clear hx
          go_wp2_with ((with_reducible refine (checkEdges_any _ _).mono ?_); rintro e w' ⟨rfl, hb1⟩; rw [HX.out])
          go_roundw
          case rel =>
            exact ⟨k + 1, by omega, by go_num, (hb.alloc hb.size _).trans (hb1.mono (by have := hb.size; simp; omega)), Lib.hid (by rw [vPs_take xs k (by have := HN.out; omega), hv.out, HXX.out]; rfl)⟩
          case measure => simp [intOf]; omega
      · go_wp2
        go_ret
        have hv' := hv.out
        rw [List.take_of_length_le (by have := HN.out; omega)] at hv'
        exact ⟨ret_i (by rw [HR.out, hv']; rfl), hb⟩

end Go.Proofs.Ytgdkcbnpgpjnbaa
