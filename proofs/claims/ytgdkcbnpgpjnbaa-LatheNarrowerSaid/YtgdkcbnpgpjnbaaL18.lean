/-
  Valid blanks and grooves of the law.
-/
import Derived.Test.YtgdkcbnpgpjnbaaLJ
import Derived.Test.YtgdkcbnpgpjnbaaKG
namespace Go.Proofs.Ytgdkcbnpgpjnbaa
open Go.RowKit

def vldG (b : Bk) (P : List Smp) : Bool := decide (P.length ≤ 40) && decide (ckB b = 0) && decide (ckG P = 0)
theorem vldG_ok {b : Bk} {P : List Smp} (h : vldG b P = true) : P.length ≤ 40 ∧ ckB b = 0 ∧ ckG P = 0 := by
  unfold vldG at h; simp only [Bool.and_eq_true, decide_eq_true_eq] at h; exact ⟨h.1.1, h.1.2, h.2⟩

set_option maxRecDepth 100000 in
set_option maxHeartbeats 8000000 in
theorem valid5_any (B : Nat) (A : Option Addr) (n c : Nat) (b : Bk) (P : List Smp) (w : World) (h0 : RS w B A n P) (hB : B ≤ w.heap.size) (hl : n ≤ 9223372036854775807) :
    Calls Try.prog 35 #[.agg #[.int .i64 b.per, .int .i64 b.rim, .int .i64 b.core, .int .i64 b.land, .int .i64 b.slow, .int .i64 b.fast], .slice A n c] w fun e w' => e = .returned (.bool (vldG b P)) ∧ Below w.heap.size w w' := by
  have HP := Lib.hid (h0.more hB)
  have HV : Hid (vldG b P = (decide (n ≤ 40) && decide (ckB b = 0) && decide (ckG P = 0))) := Lib.hid (by rw [h0.1]; rfl)
  clear h0 hB
  have C1 := Lib.hid (fun W => refCheck5_any b W)
  have C2 := Lib.hid (fun (W : World) (h : Below w.heap.size w W) => refCheckPoints_any w.heap.size A n c P W (HP.out.below h (Nat.le_refl _)) h.size hl)
  obtain ⟨x, hx⟩ : ∃ x, ckB b = x := ⟨_, rfl⟩
  obtain ⟨y, hy⟩ : ∃ x, ckG P = x := ⟨_, rfl⟩
  rw [hx] at C1 HV
  rw [hy] at C2 HV
  replace C1 := Lib.hid C1.out
  replace C2 := Lib.hid C2.out
  clear hx hy HP
  go_enter Try.func35, Try.ntmps35
  go_upto_region 1 with fail
  obtain ⟨w0, hW⟩ : ∃ W, w.alloc (.cells #[.int .i64 b.per, .int .i64 b.rim, .int .i64 b.core, .int .i64 b.land, .int .i64 b.slow, .int .i64 b.fast] 23) = W := ⟨_, rfl⟩
  have hb0 : Below w.heap.size w w0 := by rw [← hW]; exact below_a _ _
  have k0 : Blk w0 w.heap.size 23 #[.int .i64 b.per, .int .i64 b.rim, .int .i64 b.core, .int .i64 b.land, .int .i64 b.slow, .int .i64 b.fast] := by rw [← hW]; exact Blk.new _ _ _
  rw [hW]
  have HB := Lib.hid hb0
  obtain ⟨c0, c1, c2, c3, c4, c5⟩ := k0.six
  clear hW hb0 k0
  by_cases h1 : n ≤ 40
  · have k1 : ((n : Int) ≤ 40) := by omega
    by_cases h2 : x = 0
    · go_wp2_with fail
      refine (C1.out _).mono ?_
      rintro e w1 ⟨rfl, hb1⟩
      replace HB := Lib.hid (HB.out.trans (hb1.mono HB.out.size))
      clear hb1
      go_wp2_with fail
      refine (C2.out _ HB.out).mono ?_
      rintro e w2 ⟨rfl, hb1⟩
      replace HB := Lib.hid (HB.out.trans (hb1.mono HB.out.size))
      clear hb1
      go_wp2
      go_ret
      refine ⟨ret_b ?_, HB.out⟩
      rw [HV.out]
      by_cases h3 : y = 0 <;> simp [h1, h2, h3]
    · have k2 : (x == 0) = false := by simpa using h2
      go_wp2_with fail
      refine (C1.out _).mono ?_
      rintro e w1 ⟨rfl, hb1⟩
      replace HB := Lib.hid (HB.out.trans (hb1.mono HB.out.size))
      clear hb1
      go_wp2
      go_ret
      refine ⟨ret_b ?_, HB.out⟩
      rw [HV.out]
      simp [h2]
  · have k1 : ¬ ((n : Int) ≤ 40) := by omega
    go_wp2
    go_ret
    refine ⟨ret_b ?_, HB.out⟩
    rw [HV.out]
    simp [h1]
end Go.Proofs.Ytgdkcbnpgpjnbaa
