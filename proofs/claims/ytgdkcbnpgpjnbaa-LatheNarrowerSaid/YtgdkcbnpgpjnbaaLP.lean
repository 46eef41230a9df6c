/-
  Contracts of circles and circle.
-/
import Derived.Test.YtgdkcbnpgpjnbaaLO
namespace Go.Proofs.Ytgdkcbnpgpjnbaa
open Go.RowKit

theorem circ_land {b : Bk} {P : List Smp} {k : Nat} (hb : BkOk b) : circ b P k = (decide (b.per ≤ (k : Int)) && decide (wLand b P k + b.per * b.fast < 0)) := by
  have := hb.per1
  unfold circ
  congr 1
  simp only [decide_eq_decide]; omega
theorem perfast_bd {b : Bk} (hb : BkOk b) : 0 ≤ b.per * b.fast ∧ b.per * b.fast ≤ 4294967296 := by
  have h1 := hb.per1
  have h2 := hb.per2
  have h3 := hb.slow
  have h4 := hb.slowfast
  have h5 := hb.fast
  refine ⟨Int.mul_nonneg (by omega) (by omega), ?_⟩
  have := Int.mul_le_mul h2 h5 (by omega) (by omega)
  omega
theorem wLand_bd {b : Bk} {P : List Smp} (hb : BkOk b) (hP : PsOk P) (k : Nat) : -16777216 ≤ wLand b P k ∧ wLand b P k ≤ 16777216 := by
  have h1 := hP.at_ k
  have h2 := hP.at_ (k - b.per.toNat)
  have h3 := hb.land1
  have h4 := hb.land2
  unfold wLand; omega

set_option maxRecDepth 100000 in
set_option maxHeartbeats 8000000 in
theorem circles_any (g n c k B : Nat) (A : Option Addr) (b : Bk) (P : List Smp) (vr vh : Value) (ft : Int) (vp : Value) (w : World) (hC : Blk w g 71 #[.int .i64 b.per, .int .i64 b.rim, .int .i64 b.core, .int .i64 b.land, .int .i64 b.slow, .int .i64 b.fast, .slice A n c, vr, vh, .int .i64 ft, vp]) (hP : RS w B A n P) (hB : B ≤ w.heap.size) (hk : k < n) (hn : n ≤ 1000000) (hb : BkOk b) (hOk : PsOk P) :
    Calls Try.prog 59 #[.pointer (some ⟨g, 0, none⟩), .int .i64 k] w fun e w' => e = .returned (.bool (circ b P k)) ∧ Below w.heap.size w w' := by
  have HC := Lib.hid hC
  have CE := edge_any B A n c b P 5 (k : Int) w hP hB hn hb hOk
  have hkl : k < P.length := by have := hP.1; omega
  have HCL := Lib.hid (circ_land (P := P) (k := k) hb)
  have hpf := perfast_bd hb
  have hwl := wLand_bd hb hOk k
  obtain ⟨s0, s1, s2, s3, s4, s5, s6, -, -, -, -⟩ := hC.eleven
  by_cases hper : b.per ≤ (k : Int)
  · rw [edgO_land hkl hper] at CE
    simp only [edgV, Option.isSome_some] at CE
    obtain ⟨pf, hpf'⟩ : ∃ z, b.per * b.fast = z := ⟨_, rfl⟩
    obtain ⟨wl, hwl'⟩ : ∃ z, wLand b P k = z := ⟨_, rfl⟩
    have HR : Hid (circ b P k = decide (wl + pf < 0)) := Lib.hid (by rw [HCL.out, hpf', hwl', decide_eq_true hper, Bool.true_and])
    rw [hpf'] at hpf
    rw [hwl'] at hwl CE
    have CE := Lib.hid CE
    have w1 : IntKind.i64.wrap (b.per * b.fast) = pf := by rw [hpf']; exact IntWalk.i64_in _ (by omega)
    have w2 : IntKind.i64.wrap (wl + pf) = wl + pf := IntWalk.i64_in _ (by omega)
    clear hC hP hb hOk hpf' hwl' hkl
    go_enter Try.func59, Try.ntmps59
    go_wp2_with (refine CE.out.mono ?_; rintro e w1 ⟨rfl, hb1⟩; have HB1 := Lib.hid hb1; clear hb1)
    obtain ⟨W2, hW2⟩ : ∃ W2, w1.alloc (.cells #[.int .i64 5, .int .i64 k, .int .i64 ((k : Int) - b.per), .int .i64 k, .int .i64 wl] 78) = W2 := ⟨_, rfl⟩
    have hb2 : Below w.heap.size w W2 := by rw [← hW2]; exact (HB1.out.alloc HB1.out.size _)
    have ke : Blk W2 w1.heap.size 78 #[.int .i64 5, .int .i64 k, .int .i64 ((k : Int) - b.per), .int .i64 k, .int .i64 wl] := by rw [← hW2]; exact Blk.new _ _ _
    rw [hW2]
    have HB2 := Lib.hid hb2
    obtain ⟨y0, y1, y2, y3, y4, -⟩ := ke.five
    obtain ⟨t0, t1, t2, t3, t4, t5, t6, -, -, -, -⟩ := (HC.out.below hb2 HC.out.lt).eleven
    clear hW2 hb2 ke s0 s1 s2 s3 s4 s5 s6
    go_quiet (fail)
    go_wp2
    go_ret
    exact ⟨ret_b (by rw [HR.out]), by first | exact HB2.out | exact below_drewN_ HB2.out _⟩
  · rw [edgO_land0 (by omega)] at CE
    simp only [edgV, Option.isSome_none] at CE
    have HR : Hid (circ b P k = false) := Lib.hid (by rw [HCL.out, decide_eq_false hper, Bool.false_and])
    have CE := Lib.hid CE
    clear hC hP hb hOk hkl hpf hwl
    go_enter Try.func59, Try.ntmps59
    go_wp2_with (refine CE.out.mono ?_; rintro e w1 ⟨rfl, hb1⟩; have HB1 := Lib.hid hb1; clear hb1)
    obtain ⟨W2, hW2⟩ : ∃ W2, w1.alloc (.cells #[.int .i64 0, .int .i64 0, .int .i64 0, .int .i64 0, .int .i64 0] 78) = W2 := ⟨_, rfl⟩
    have hb2 : Below w.heap.size w W2 := by rw [← hW2]; exact (HB1.out.alloc HB1.out.size _)
    have ke : Blk W2 w1.heap.size 78 #[.int .i64 0, .int .i64 0, .int .i64 0, .int .i64 0, .int .i64 0] := by rw [← hW2]; exact Blk.new _ _ _
    rw [hW2]
    have HB2 := Lib.hid hb2
    obtain ⟨y0, y1, y2, y3, y4, -⟩ := ke.five
    obtain ⟨t0, t1, t2, t3, t4, t5, t6, -, -, -, -⟩ := (HC.out.below hb2 HC.out.lt).eleven
    clear hW2 hb2 ke s0 s1 s2 s3 s4 s5 s6
    go_quiet (fail)
    go_wp2
    go_ret
    exact ⟨ret_b (by rw [HR.out]), by first | exact HB2.out | exact below_drewN_ HB2.out _⟩
end Go.Proofs.Ytgdkcbnpgpjnbaa
