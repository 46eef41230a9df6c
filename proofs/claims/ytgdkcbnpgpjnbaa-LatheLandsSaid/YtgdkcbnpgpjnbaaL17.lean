/-
  The walk of LatheLands.
-/
import Derived.Test.YtgdkcbnpgpjnbaaL16
import Derived.Test.YtgdkcbnpgpjnbaaL9
import Derived.Test.YtgdkcbnpgpjnbaaL12
namespace Go.Proofs.Ytgdkcbnpgpjnbaa
open Go.RowKit

def lnG (n : Nat) : Bool := decide (40 < n ∧ n ≤ 4096 ∨ 4100 < n)
set_option maxHeartbeats 1000000 in
theorem long5_any (n : Nat) (w : World) : Calls Try.prog 15 #[.int .i64 n] w fun e w' => e = .returned (.bool (lnG n)) ∧ w = w' := by
  by_cases h1 : 40 < n <;> by_cases h2 : n ≤ 4096 <;> by_cases h3 : 4100 < n
  all_goals
    have k1 : (n : Int) > 40 ↔ 40 < n := by omega
    have k2 : (n : Int) ≤ 4096 ↔ n ≤ 4096 := by omega
    have k3 : (n : Int) > 4100 ↔ 4100 < n := by omega
    go_enter Try.func15, Try.ntmps15
    go_wp2
    go_ret
    exact ⟨ret_b (by simp [lnG, h1, h2, h3]), rfl⟩

set_option maxRecDepth 100000 in
set_option maxHeartbeats 8000000 in
theorem lands_walk (B : Nat) (A AR : Option Addr) (n c m d : Nat) (b : Bk) (P : List Smp) (R : List Int) (i : Int) (w : World) (h0 : RS w B A n P) (h1 : LI w B AR m R) (hB : B ≤ w.heap.size) (hl : n ≤ 9223372036854775807) (hl' : m ≤ 9223372036854775807) :
    Calls Try.prog 5 #[.agg #[.int .i64 b.per, .int .i64 b.rim, .int .i64 b.core, .int .i64 b.land, .int .i64 b.slow, .int .i64 b.fast], .slice A n c, .slice AR m d, .int .i64 i] w fun e w' => e = .returned (.bool true) ∧ Below w.heap.size w w' := by
  have HP := Lib.hid (h0.more hB)
  have HR := Lib.hid (h1.more hB)
  clear h0 h1 hB
  go_enter Try.func5, Try.ntmps5
  go_upto_region 1 with fail
  obtain ⟨w0, hW⟩ : ∃ W, w.alloc (.cells #[.int .i64 b.per, .int .i64 b.rim, .int .i64 b.core, .int .i64 b.land, .int .i64 b.slow, .int .i64 b.fast] 23) = W := ⟨_, rfl⟩
  have hb0 : Below w.heap.size w w0 := by rw [← hW]; exact below_a _ _
  have k0 : Blk w0 w.heap.size 23 #[.int .i64 b.per, .int .i64 b.rim, .int .i64 b.core, .int .i64 b.land, .int .i64 b.slow, .int .i64 b.fast] := by rw [← hW]; exact Blk.new _ _ _
  rw [hW]
  have HB := Lib.hid hb0
  have HK := Lib.hid k0
  obtain ⟨c0, c1, c2, c3, c4, c5⟩ := k0.six
  clear hW hb0 k0
  cases hg1 : lnG n with
  | true =>
    have G1 := Lib.hid hg1
    clear hg1
    go_wp2_with fail
    refine (long5_any _ _).mono ?_
    rintro e w' ⟨rfl, rfl⟩
    rw [G1.out]
    go_wp2_with fail
    refine (works5_any _).mono ?_
    rintro e w1 ⟨rfl, hb1⟩
    have HB1 := Lib.hid (HB.out.trans (hb1.mono HB.out.size))
    clear hb1
    go_wp2
    go_ret
    exact ⟨rfl, HB1.out⟩
  | false =>
    have G1 := Lib.hid hg1
    clear hg1
    cases hg2 : lnG m with
    | true =>
      have G2 := Lib.hid hg2
      clear hg2
      go_wp2_with fail
      refine (long5_any _ _).mono ?_
      rintro e w' ⟨rfl, rfl⟩
      rw [G1.out]
      go_wp2_with fail
      refine (long5_any _ _).mono ?_
      rintro e w' ⟨rfl, rfl⟩
      rw [G2.out]
      go_wp2_with fail
      refine (works5_any _).mono ?_
      rintro e w1 ⟨rfl, hb1⟩
      have HB1 := Lib.hid (HB.out.trans (hb1.mono HB.out.size))
      clear hb1
      go_wp2
      go_ret
      exact ⟨rfl, HB1.out⟩
    | false =>
      have G2 := Lib.hid hg2
      clear hg2
      go_wp2_with fail
      refine (long5_any _ _).mono ?_
      rintro e w' ⟨rfl, rfl⟩
      rw [G1.out]
      go_wp2_with fail
      refine (long5_any _ _).mono ?_
      rintro e w' ⟨rfl, rfl⟩
      rw [G2.out]
      go_wp2_with fail
      have CALL := Land_any w.heap.size A AR n c m d b P R i w0 (HP.out.below HB.out (Nat.le_refl _)) (HR.out.below HB.out (Nat.le_refl _)) HB.out.size hl hl'
      refine CALL.mono ?_
      rintro e w1 ⟨rfl, hb⟩
      clear CALL c0 c1 c2 c3 c4 c5
      replace HK := Lib.hid (HK.out.below hb HK.out.lt)
      replace HB := Lib.hid (HB.out.trans (hb.mono HB.out.size))
      clear hb
      obtain ⟨c0, c1, c2, c3, c4, c5⟩ := HK.out.six
      go_wp2_with fail
      have CALL := refLand_any w.heap.size A AR n c m d b P R i w1 (HP.out.below HB.out (Nat.le_refl _)) (HR.out.below HB.out (Nat.le_refl _)) HB.out.size hl hl'
      refine CALL.mono ?_
      rintro e w2 ⟨rfl, hb⟩
      clear CALL c0 c1 c2 c3 c4 c5
      replace HK := Lib.hid (HK.out.below hb HK.out.lt)
      replace HB := Lib.hid (HB.out.trans (hb.mono HB.out.size))
      clear hb
      obtain ⟨c0, c1, c2, c3, c4, c5⟩ := HK.out.six
      go_wp2_with fail
      have CALL := Tightest_any w.heap.size A AR n c m d b P R w2 (HP.out.below HB.out (Nat.le_refl _)) (HR.out.below HB.out (Nat.le_refl _)) HB.out.size hl hl'
      refine CALL.mono ?_
      rintro e w3 ⟨rfl, hb⟩
      clear CALL c0 c1 c2 c3 c4 c5
      replace HK := Lib.hid (HK.out.below hb HK.out.lt)
      replace HB := Lib.hid (HB.out.trans (hb.mono HB.out.size))
      clear hb
      obtain ⟨c0, c1, c2, c3, c4, c5⟩ := HK.out.six
      go_wp2_with fail
      have CALL := refTightest_any w.heap.size A AR n c m d b P R w3 (HP.out.below HB.out (Nat.le_refl _)) (HR.out.below HB.out (Nat.le_refl _)) HB.out.size hl hl'
      refine CALL.mono ?_
      rintro e w4 ⟨rfl, hb⟩
      clear CALL c0 c1 c2 c3 c4 c5
      replace HK := Lib.hid (HK.out.below hb HK.out.lt)
      replace HB := Lib.hid (HB.out.trans (hb.mono HB.out.size))
      clear hb
      obtain ⟨c0, c1, c2, c3, c4, c5⟩ := HK.out.six
      go_wp2_with fail
      refine (works5_any _).mono ?_
      rintro e w9 ⟨rfl, hb⟩
      replace HB := Lib.hid (HB.out.trans (hb.mono HB.out.size))
      clear hb
      go_wp2
      go_ret
      exact ⟨rfl, HB.out⟩
end Go.Proofs.Ytgdkcbnpgpjnbaa
