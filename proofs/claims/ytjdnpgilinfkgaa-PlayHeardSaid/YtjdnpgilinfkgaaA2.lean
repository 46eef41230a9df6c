/-
  Contracts of validSamples, CheckSamples.
-/
import Derived.Test.YtjdnpgilinfkgaaA1
namespace Go.Proofs.Ytjdnpgilinfkgaa
open Go.RowKit

set_option maxHeartbeats 400000 in
theorem validSamples_any (B : Nat) (A : Option Addr) (n c : Nat) (xs : List Smp) (w : World) (h0 : RS w B A n xs) (hB : B ≤ w.heap.size) (hl : n ≤ 9223372036854775807) :
    Calls Try.prog 117 #[.slice A n c] w fun e w' => e = .returned (.bool (vss xs)) ∧ Below w.heap.size w w' := by
  have H := Lib.hid (h0.more hB)
  obtain ⟨hn, -⟩ := h0
  clear hB
  have HN := Lib.hid hn
  clear hn
  go_enter Try.func117, Try.ntmps117
  go_wp2
  go_loopw [7] (fun i wr => ∃ k : Nat, k ≤ n ∧ i = .int .i64 k ∧ Below w.heap.size w wr ∧ vss (xs.take k) = true) (fun i wr => n - (intOf i).toNat)
  case atStart => exact ⟨0, Nat.zero_le _, rfl, Below.refl _ _, rfl⟩
  case round =>
    obtain ⟨k, hk, rfl, hb, hv⟩ := hrel
    by_cases hlt : k < n
    · obtain ⟨ad, hA, hbl, h1, h2⟩ := (H.out.below hb (Nat.le_refl _)).at_ (k := k) (by have := HN.out; omega)
      obtain rfl := hA
      cases hx : vs xs[k].1 xs[k].2
      all_goals
        have HX := Lib.hid hx
        clear hx
        go_wp2_with ((with_reducible refine (validSample_any _ _ _).mono ?_); rintro e w' ⟨rfl, hb1⟩; (try rw [HX.out]))
      · go_ret
        exact ⟨ret_b (vss_false xs k (by have := HN.out; omega) HX.out).symm, (hb.alloc hb.size _).trans (hb1.mono (by have := hb.size; simp; omega))⟩
      · go_roundw
        case rel =>
          refine ⟨k + 1, by omega, by go_num, (hb.alloc hb.size _).trans (hb1.mono (by have := hb.size; simp; omega)), ?_⟩
          rw [vss_take xs k (by have := HN.out; omega), hv, HX.out]; rfl
        case measure => simp [intOf]; omega
    · go_wp2
      go_ret
      rw [List.take_of_length_le (by have := HN.out; omega)] at hv
      exact ⟨ret_b hv.symm, hb⟩

/-- 0: fine · 6: too many · 2: not valid. -/
def ckS (xs : List Smp) : Int := if 4096 < xs.length then 6 else if vss xs then 0 else 2

set_option maxHeartbeats 400000 in
theorem CheckSamples_any (B : Nat) (A : Option Addr) (n c : Nat) (xs : List Smp) (w : World) (h0 : RS w B A n xs) (hB : B ≤ w.heap.size) (hl : n ≤ 9223372036854775807) :
    Calls Try.prog 108 #[.slice A n c] w fun e w' => e = .returned (.int .i64 (ckS xs)) ∧ Below w.heap.size w w' := by
  have H := Lib.hid (h0.more hB)
  obtain ⟨hn, -⟩ := h0
  clear hB
  by_cases h4 : 4096 < n
  · have hr : ckS xs = 6 := by unfold ckS; rw [if_pos (by omega)]
    have HR := Lib.hid hr
    clear hn hr
    go_enter Try.func108, Try.ntmps108
    go_wp2
    go_ret
    exact ⟨ret_i HR.out.symm, Below.refl _ _⟩
  · cases hv : vss xs
    all_goals
      have hr : ckS xs = if vss xs then 0 else 2 := by unfold ckS; rw [if_neg (by omega)]
      rw [hv] at hr
      have HR := Lib.hid hr
      have HV := Lib.hid hv
      clear hn hr hv
      go_enter Try.func108, Try.ntmps108
      go_wp2_with ((with_reducible refine (validSamples_any _ _ _ _ xs _ H.out (Nat.le_refl _) hl).mono ?_); rintro e w' ⟨rfl, hb1⟩; (try rw [HV.out]))
      go_ret
      exact ⟨ret_i HR.out.symm, hb1⟩

end Go.Proofs.Ytjdnpgilinfkgaa
