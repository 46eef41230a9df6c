/-
  Contracts of between, Check, checkEdges, CheckPoints, checkRange, checkRadius, checkTurn of package groove, and of cmp.Or over errors.
-/
import Derived.Test.YtaiigdbbpdkamaaA2
namespace Go.Proofs.Ytaiigdbbpdkamaa
open Go.RowKit

structure Ctr where
  half : Int
  gain : Int
  thin : Int
  wide : Int
  slope : Int
  jerk : Int
  stylus : Int

set_option maxHeartbeats 400000 in
theorem between_any (lo x hi : Int) (w : World) :
    Calls Try.prog 51 #[.int .i64 lo, .int .i64 x, .int .i64 hi] w fun e w' => e = .returned (.bool (win x lo hi)) ∧ w = w' := by
  by_cases h1 : lo ≤ x <;> by_cases h2 : x ≤ hi
  all_goals
    go_enter Try.func51, Try.ntmps51
    go_wp2
    go_ret
    exact ⟨by simp [win, h1, h2], rfl⟩

def vC (c : Ctr) : Bool := win c.half 1 4096 && win c.gain 0 100000 && win c.thin 0 c.wide && win c.wide 0 1048576 && win c.slope 0 10000 && win c.jerk 0 1048576 && win c.stylus 0 1024
/-- 0: the cutter is valid · 2: it is not. -/
def ckC (c : Ctr) : Int := if vC c = true then 0 else 2

theorem bool7 : ∀ a b c d e f g : Bool, a = false ∨ (a = true ∧ b = false) ∨ (a = true ∧ b = true ∧ c = false) ∨ (a = true ∧ b = true ∧ c = true ∧ d = false) ∨ (a = true ∧ b = true ∧ c = true ∧ d = true ∧ e = false) ∨
    (a = true ∧ b = true ∧ c = true ∧ d = true ∧ e = true ∧ f = false) ∨ (a = true ∧ b = true ∧ c = true ∧ d = true ∧ e = true ∧ f = true ∧ g = false) ∨ (a = true ∧ b = true ∧ c = true ∧ d = true ∧ e = true ∧ f = true ∧ g = true) := by
  intro a b c d e f g
  cases a <;> cases b <;> cases c <;> cases d <;> cases e <;> cases f <;> cases g <;> simp

set_option maxHeartbeats 1000000 in
theorem Check_any (c : Ctr) (w : World) :
    Calls Try.prog 23 #[.agg #[.int .i64 c.half, .int .i64 c.gain, .int .i64 c.thin, .int .i64 c.wide, .int .i64 c.slope, .int .i64 c.jerk, .int .i64 c.stylus]] w fun e w' => e = .returned (.int .i64 (ckC c)) ∧ Below w.heap.size w w' := by
  rcases bool7 (win c.half 1 4096) (win c.gain 0 100000) (win c.thin 0 c.wide) (win c.wide 0 1048576) (win c.slope 0 10000) (win c.jerk 0 1048576) (win c.stylus 0 1024) with
    h1 | ⟨h1, h2⟩ | ⟨h1, h2, h3⟩ | ⟨h1, h2, h3, h4⟩ | ⟨h1, h2, h3, h4, h5⟩ | ⟨h1, h2, h3, h4, h5, h6⟩ | ⟨h1, h2, h3, h4, h5, h6, h7⟩ | ⟨h1, h2, h3, h4, h5, h6, h7⟩
  all_goals
    have hr : ckC c = if vC c = true then 0 else 2 := rfl
    unfold vC at hr
    simp only [*, Bool.and_true, Bool.and_false, Bool.false_and, if_true, if_false, Bool.false_eq_true] at hr
    have HR := Lib.hid hr
    clear hr
    have H1 := Lib.hid h1
    (try have H2 := Lib.hid h2); (try have H3 := Lib.hid h3); (try have H4 := Lib.hid h4); (try have H5 := Lib.hid h5); (try have H6 := Lib.hid h6); (try have H7 := Lib.hid h7)
    (try clear h1); (try clear h2); (try clear h3); (try clear h4); (try clear h5); (try clear h6); (try clear h7)
    go_enter Try.func23, Try.ntmps23
    go_wp2_with ((with_reducible refine (between_any _ _ _ _).mono ?_); rintro e w' ⟨rfl, rfl⟩; (try rw [H1.out]); (try rw [H2.out]); (try rw [H3.out]); (try rw [H4.out]); (try rw [H5.out]); (try rw [H6.out]); (try rw [H7.out]))
    go_ret
    exact ⟨ret_i HR.out.symm, (Below.refl _ _).alloc (Nat.le_refl _) _⟩

def vE (p : Smp) : Bool := win p.1 (-4194304) 4194304 && win p.2 (-4194304) 4194304
def ckE (p : Smp) : Int := if vE p = true then 0 else 2
def vPs (l : List Smp) : Bool := l.all vE
/-- 0: a groove · 6: too many · 2: an edge that is too far out. -/
def ckG (l : List Smp) : Int := if 4096 < l.length then 6 else if vPs l = true then 0 else 2

set_option maxHeartbeats 1000000 in
theorem checkEdges_any (p : Smp) (w : World) :
    Calls Try.prog 47 #[.agg #[.int .i64 p.1, .int .i64 p.2]] w fun e w' => e = .returned (.int .i64 (ckE p)) ∧ Below w.heap.size w w' := by
  cases h1 : win p.1 (-4194304) 4194304 <;> cases h2 : win p.2 (-4194304) 4194304
  all_goals
    have H1 := Lib.hid h1
    have H2 := Lib.hid h2
    have hr : ckE p = if vE p = true then 0 else 2 := rfl
    unfold vE at hr
    simp only [h1, h2, Bool.and_true, Bool.and_false, if_true, if_false, Bool.false_eq_true] at hr
    have HR := Lib.hid hr
    clear h1 h2 hr
    go_enter Try.func47, Try.ntmps47
    go_wp2_with ((with_reducible refine (between_any _ _ _ _).mono ?_); rintro e w' ⟨rfl, rfl⟩; (try rw [H1.out]); (try rw [H2.out]))
    go_ret
    exact ⟨ret_i HR.out.symm, (Below.refl _ _).alloc (Nat.le_refl _) _⟩

theorem vPs_take (xs : List Smp) (k : Nat) (h : k < xs.length) : vPs (xs.take (k + 1)) = (vPs (xs.take k) && vE xs[k]) := by
  unfold vPs
  rw [List.take_succ_eq_append_getElem h, List.all_append]; simp
theorem vPs_false (xs : List Smp) (k : Nat) (h : k < xs.length) (hv : vE xs[k] = false) : vPs xs = false := by
  unfold vPs
  rw [List.all_eq_false]
  exact ⟨xs[k], List.getElem_mem h, by simp [hv]⟩
theorem ckE_t {p : Smp} (h : vE p = true) : ckE p = 0 := by unfold ckE; rw [h]; rfl
theorem ckE_f {p : Smp} (h : vE p = false) : ckE p = 2 := by unfold ckE; rw [h]; rfl

set_option maxHeartbeats 1000000 in
theorem CheckPoints_any (B : Nat) (A : Option Addr) (n c : Nat) (xs : List Smp) (w : World) (h0 : RS w B A n xs) (hB : B ≤ w.heap.size) (hl : n ≤ 9223372036854775807) :
    Calls Try.prog 25 #[.slice A n c] w fun e w' => e = .returned (.int .i64 (ckG xs)) ∧ Below w.heap.size w w' := by
  have H := Lib.hid (h0.more hB)
  obtain ⟨hn, -⟩ := h0
  clear hB
  have HN := Lib.hid hn
  by_cases h4 : 4096 < n
  · have hr : ckG xs = 6 := by unfold ckG; rw [if_pos (by omega)]
    have HR := Lib.hid hr
    clear hn hr
    go_enter Try.func25, Try.ntmps25
    go_wp2
    go_ret
    exact ⟨ret_i HR.out.symm, Below.refl _ _⟩
  · have hr : ckG xs = if vPs xs then 0 else 2 := by unfold ckG; rw [if_neg (by omega)]
    have HR := Lib.hid hr
    clear hn hr
    go_enter Try.func25, Try.ntmps25
    go_wp2
    go_loopw [11] (fun i wr => ∃ k : Nat, k ≤ n ∧ i = .int .i64 k ∧ Below w.heap.size w wr ∧ Hid (vPs (xs.take k) = true)) (fun i wr => n - (intOf i).toNat)
    case atStart => exact ⟨0, Nat.zero_le _, rfl, Below.refl _ _, Lib.hid rfl⟩
    case round =>
      obtain ⟨k, hk, rfl, hb, hv⟩ := hrel
      by_cases hlt : k < n
      · obtain ⟨ad, hA, hbl, h1, h2⟩ := (H.out.below hb (Nat.le_refl _)).at_ (k := k) (by have := HN.out; omega)
        obtain rfl := hA
        cases hx : vE (xs[k]'(by have := HN.out; omega))
        · have HX := Lib.hid (ckE_f hx)
          have HXX := Lib.hid hx
          clear hx
          go_wp2_with ((with_reducible refine (checkEdges_any _ _).mono ?_); rintro e w' ⟨rfl, hb1⟩; rw [HX.out])
          go_ret
          exact ⟨ret_i (by rw [HR.out, vPs_false xs k (by have := HN.out; omega) HXX.out]; rfl), (hb.alloc hb.size _).trans (hb1.mono (by have := hb.size; simp; omega))⟩
        · have HX := Lib.hid (ckE_t hx)
          have HXX := Lib.hid hx
          clear hx
          go_wp2_with ((with_reducible refine (checkEdges_any _ _).mono ?_); rintro e w' ⟨rfl, hb1⟩; rw [HX.out])
          go_roundw
          case rel =>
            exact ⟨k + 1, by omega, by go_num, (hb.alloc hb.size _).trans (hb1.mono (by have := hb.size; simp; omega)), Lib.hid (by rw [vPs_take xs k (by have := HN.out; omega), hv.out, HXX.out]; rfl)⟩
          case measure => simp [intOf]; omega
      · go_wp2
        go_ret
        have hv' := hv.out
        rw [List.take_of_length_le (by have := HN.out; omega)] at hv'
        exact ⟨ret_i (by rw [HR.out, hv']; rfl), hb⟩

def ckN (lo x hi : Int) : Int := if win x lo hi = true then 0 else 3
set_option maxHeartbeats 400000 in
theorem checkRange_any (lo x hi : Int) (w : World) :
    Calls Try.prog 72 #[.int .i64 lo, .int .i64 x, .int .i64 hi] w fun e w' => e = .returned (.int .i64 (ckN lo x hi)) ∧ w = w' := by
  cases h1 : win x lo hi
  all_goals
    have H1 := Lib.hid h1
    clear h1
    go_enter Try.func72, Try.ntmps72
    go_wp2_with ((with_reducible refine (between_any _ _ _ _).mono ?_); rintro e w' ⟨rfl, rfl⟩; (try rw [H1.out]))
    go_ret
    exact ⟨ret_i (by unfold ckN; rw [H1.out]; rfl), rfl⟩

def ckR (r : Int) : Int := ckN 0 r 4194304
def ckT (per : Int) : Int := ckN 1 per 65536
set_option maxHeartbeats 400000 in
theorem checkRadius_any (r : Int) (w : World) :
    Calls Try.prog 53 #[.int .i64 r] w fun e w' => e = .returned (.int .i64 (ckR r)) ∧ w = w' := by
  go_enter Try.func53, Try.ntmps53
  go_wp2_with ((with_reducible refine (checkRange_any _ _ _ _).mono ?_); rintro e w' ⟨rfl, rfl⟩)
  go_ret
  exact ⟨rfl, rfl⟩
set_option maxHeartbeats 400000 in
theorem checkTurn_any (r : Int) (w : World) :
    Calls Try.prog 54 #[.int .i64 r] w fun e w' => e = .returned (.int .i64 (ckT r)) ∧ w = w' := by
  go_enter Try.func54, Try.ntmps54
  go_wp2_with ((with_reducible refine (checkRange_any _ _ _ _).mono ?_); rintro e w' ⟨rfl, rfl⟩)
  go_ret
  exact ⟨rfl, rfl⟩

/-- The first of some errors that is not 0. -/
def orL : List Int → Int
  | [] => 0
  | x :: xs => if x = 0 then orL xs else x

set_option maxHeartbeats 1000000 in
theorem cmpOr_any (B : Nat) (A : Option Addr) (n c : Nat) (xs : List Int) (w : World) (h0 : n = xs.length) (h1 : Reads w B 1 A n (xs.map (Value.int .i64))) (_hB : B ≤ w.heap.size) (hl : n ≤ 9223372036854775807) :
    Calls Try.prog 44 #[.slice A n c] w fun e w' => e = .returned (.int .i64 (orL xs)) ∧ w = w' := by
  have HN := Lib.hid h0
  have H := Lib.hid h1
  obtain ⟨R, hR⟩ : ∃ R, orL xs = R := ⟨_, rfl⟩
  rw [hR]
  have HR := Lib.hid hR
  clear h0 h1 hR
  go_enter Try.func44, Try.ntmps44
  go_wp2
  go_loop [8] (fun i => ∃ k : Nat, k ≤ n ∧ i = .int .i64 k ∧ Hid (orL (xs.drop k) = R)) (fun i => n - (intOf i).toNat)
  case atStart => exact ⟨0, Nat.zero_le _, rfl, HR⟩
  case round =>
    clear HR
    obtain ⟨k, hk, rfl, hv⟩ := hrel
    by_cases hlt : k < n
    · have hd : xs.drop k = xs[k]'(by have := HN.out; omega) :: xs.drop (k + 1) := List.drop_eq_getElem_cons (by have := HN.out; omega)
      have HD := Lib.hid hd
      clear hd
      obtain ⟨ad, hA, hbl, hc⟩ := H.out.2 (by omega)
      have hc1 := hc k (.int .i64 (xs[k]'(by have := HN.out; omega))) (by simp)
      clear hc
      obtain rfl := hA
      by_cases hx : (xs[k]'(by have := HN.out; omega)) = 0
      · have HX := Lib.hid hx
        rw [hx] at hc1
        clear hx
        go_wp2
        go_round
        case rel => exact ⟨k + 1, by omega, by go_num, Lib.hid (by rw [← hv.out, HD.out, orL, if_pos HX.out])⟩
        case measure => simp [intOf]; omega
      · have hx2 : ((xs[k]'(by have := HN.out; omega)) == 0) = false := beq_eq_false_iff_ne.2 hx
        have hx3 : ((xs[k]'(by have := HN.out; omega)) != 0) = true := by rw [bne_iff_ne]; exact hx
        have HX := Lib.hid hx
        clear hx
        go_wp2
        go_ret
        exact ⟨ret_i (by rw [← hv.out, HD.out, orL, if_neg HX.out]), rfl⟩
    · go_wp2
      go_ret
      exact ⟨ret_i (by rw [← hv.out, List.drop_eq_nil_of_le (by have := HN.out; omega)]; rfl), rfl⟩
end Go.Proofs.Ytaiigdbbpdkamaa
