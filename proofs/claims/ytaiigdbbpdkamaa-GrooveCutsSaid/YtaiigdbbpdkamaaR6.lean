/-
  The verifier's long; the walks of GrooveFaults and GrooveRadii.
-/
import Derived.Test.YtaiigdbbpdkamaaK8
import Derived.Test.YtaiigdbbpdkamaaR7
namespace Go.Proofs.Ytaiigdbbpdkamaa
open Go.RowKit

def lng (n : Nat) : Bool := decide (200 < n ∧ n ≤ 4096) || decide (4100 < n)
set_option maxHeartbeats 400000 in
theorem long_any (n : Nat) (w : World) : Calls Try.prog 15 #[.int .i64 n] w fun e w' => e = .returned (.bool (lng n)) ∧ w = w' := by
  go_enter Try.func15, Try.ntmps15
  go_wp2
  all_goals
    go_ret
    exact ⟨ret_b (by unfold lng; rw [Bool.eq_iff_iff]; simp only [Bool.or_eq_true, decide_eq_true_eq]; (try simp); omega), rfl⟩
theorem lsQ_uniq {c : Ctr} {l : List Smp} {per v er v' er' : Int} (h : lsQ c l per v er) (h' : lsQ c l per v' er') : v = v' ∧ er = er' := by
  unfold lsQ at h h'
  split at h
  · rename_i hz; rw [if_pos hz] at h'; exact h.uniq h'
  · rename_i hz; rw [if_neg hz] at h'; omega
theorem ndQ_uniq {c : Ctr} {l : List Smp} {per i v er v' er' : Int} (h : ndQ c l per i v er) (h' : ndQ c l per i v' er') : v = v' ∧ er = er' := by
  unfold ndQ at h h'
  split at h
  · rename_i hz
    rw [if_pos hz] at h'
    split at h
    · rename_i hi; rw [if_pos hi] at h'; omega
    · rename_i hi; rw [if_neg hi] at h'; exact h.uniq h'
  · rename_i hz; rw [if_neg hz] at h'; omega

set_option maxRecDepth 100000 in
set_option maxHeartbeats 4000000 in
theorem faults_walk (B : Nat) (A : Option Addr) (n k : Nat) (c : Ctr) (l : List Smp) (r per : Int) (w : World) (h0 : RS w B A n l) (hB : B ≤ w.heap.size) (hl : n ≤ 9223372036854775807) (hk : n ≤ k) :
    Calls Try.prog 4 #[.agg #[.int .i64 c.half, .int .i64 c.gain, .int .i64 c.thin, .int .i64 c.wide, .int .i64 c.slope, .int .i64 c.jerk, .int .i64 c.stylus], .slice A n k, .int .i64 r, .int .i64 per] w fun e w' => e = .returned (.bool true) ∧ Below w.heap.size w w' := by
  have H := Lib.hid (h0.more hB)
  clear h0 hB
  have WK := Lib.hid (fun W => Works_any W)
  have LG := Lib.hid (fun W => long_any n W)
  have A1 := Lib.hid (fun W (_ : Below w.heap.size w W) => Arc_any r per W)
  have A2 := Lib.hid (fun W => refArcE_any r per W)
  have F1 := Lib.hid (fun W (hb : Below w.heap.size w W) => Fault_any w.heap.size A n k c l r per W (H.out.below hb (Nat.le_refl _)) hb.size hl)
  have F2 := Lib.hid (fun W (hb : Below w.heap.size w W) => refFaultE_any w.heap.size A n k c l r per W (H.out.below hb (Nat.le_refl _)) hb.size hl hk)
  obtain ⟨x1, h1⟩ : ∃ x, arV r per = x := ⟨_, rfl⟩
  obtain ⟨x2, h2⟩ : ∃ x, arEr r per = x := ⟨_, rfl⟩
  obtain ⟨x3, h3⟩ : ∃ x, fuR c l r per = x := ⟨_, rfl⟩
  rw [h1, h2] at A1 A2
  rw [h3] at F1 F2
  clear h1 h2 h3
  obtain ⟨b, hb⟩ : ∃ b, lng n = b := ⟨_, rfl⟩
  rw [hb] at LG
  clear hb
  cases b
  · go_enter Try.func4, Try.ntmps4
    go_wp2_with fail
    obtain ⟨W0, hW⟩ : ∃ W0, w.alloc (.cells #[.int .i64 c.half, .int .i64 c.gain, .int .i64 c.thin, .int .i64 c.wide, .int .i64 c.slope, .int .i64 c.jerk, .int .i64 c.stylus] 23) = W0 := ⟨_, rfl⟩
    have HK : Hid (Blk W0 w.heap.size 23 #[.int .i64 c.half, .int .i64 c.gain, .int .i64 c.thin, .int .i64 c.wide, .int .i64 c.slope, .int .i64 c.jerk, .int .i64 c.stylus]) := Lib.hid (by rw [← hW]; exact Blk.new _ _ _)
    have HB : Hid (Below w.heap.size w W0) := Lib.hid (by rw [← hW]; exact (Below.refl _ w).alloc (Nat.le_refl _) _)
    rw [hW]
    clear hW
    refine (LG.out _).mono ?_
    rintro e w' ⟨rfl, rfl⟩
    go_wp2_with fail
    refine (A1.out _ HB.out).mono ?_
    rintro e w1 ⟨rfl, hb1⟩
    replace HK := Lib.hid (HK.out.below hb1 HK.out.lt)
    replace HB := Lib.hid (HB.out.trans (hb1.mono HB.out.size))
    clear hb1
    go_wp2_with fail
    refine (A2.out _).mono ?_
    rintro e w' ⟨rfl, rfl⟩
    have hk_0 : w1.cell? ⟨w.heap.size, 0, none⟩ = some (.int .i64 c.half) := (HK.out.cell 0).trans rfl
    have hk_1 : w1.cell? ⟨w.heap.size, 1, none⟩ = some (.int .i64 c.gain) := (HK.out.cell 1).trans rfl
    have hk_2 : w1.cell? ⟨w.heap.size, 2, none⟩ = some (.int .i64 c.thin) := (HK.out.cell 2).trans rfl
    have hk_3 : w1.cell? ⟨w.heap.size, 3, none⟩ = some (.int .i64 c.wide) := (HK.out.cell 3).trans rfl
    have hk_4 : w1.cell? ⟨w.heap.size, 4, none⟩ = some (.int .i64 c.slope) := (HK.out.cell 4).trans rfl
    have hk_5 : w1.cell? ⟨w.heap.size, 5, none⟩ = some (.int .i64 c.jerk) := (HK.out.cell 5).trans rfl
    have hk_6 : w1.cell? ⟨w.heap.size, 6, none⟩ = some (.int .i64 c.stylus) := (HK.out.cell 6).trans rfl
    go_wp2_with fail
    refine (F1.out _ HB.out).mono ?_
    rintro e w2 ⟨rfl, hb1⟩
    replace HK := Lib.hid (HK.out.below hb1 HK.out.lt)
    replace HB := Lib.hid (HB.out.trans (hb1.mono HB.out.size))
    clear hb1
    clear hk_0 hk_1 hk_2 hk_3 hk_4 hk_5 hk_6
    have hk_0 : w2.cell? ⟨w.heap.size, 0, none⟩ = some (.int .i64 c.half) := (HK.out.cell 0).trans rfl
    have hk_1 : w2.cell? ⟨w.heap.size, 1, none⟩ = some (.int .i64 c.gain) := (HK.out.cell 1).trans rfl
    have hk_2 : w2.cell? ⟨w.heap.size, 2, none⟩ = some (.int .i64 c.thin) := (HK.out.cell 2).trans rfl
    have hk_3 : w2.cell? ⟨w.heap.size, 3, none⟩ = some (.int .i64 c.wide) := (HK.out.cell 3).trans rfl
    have hk_4 : w2.cell? ⟨w.heap.size, 4, none⟩ = some (.int .i64 c.slope) := (HK.out.cell 4).trans rfl
    have hk_5 : w2.cell? ⟨w.heap.size, 5, none⟩ = some (.int .i64 c.jerk) := (HK.out.cell 5).trans rfl
    have hk_6 : w2.cell? ⟨w.heap.size, 6, none⟩ = some (.int .i64 c.stylus) := (HK.out.cell 6).trans rfl
    go_wp2_with fail
    refine (F2.out _ HB.out).mono ?_
    rintro e w3 ⟨rfl, hb1⟩
    replace HK := Lib.hid (HK.out.below hb1 HK.out.lt)
    replace HB := Lib.hid (HB.out.trans (hb1.mono HB.out.size))
    clear hb1
    clear hk_0 hk_1 hk_2 hk_3 hk_4 hk_5 hk_6
    go_wp2_with fail
    refine (WK.out _).mono ?_
    rintro e v9 ⟨rfl, hb1⟩
    go_wp2
    go_ret
    exact ⟨rfl, HB.out.trans (hb1.mono HB.out.size)⟩
  · go_enter Try.func4, Try.ntmps4
    go_wp2_with fail
    obtain ⟨W0, hW⟩ : ∃ W0, w.alloc (.cells #[.int .i64 c.half, .int .i64 c.gain, .int .i64 c.thin, .int .i64 c.wide, .int .i64 c.slope, .int .i64 c.jerk, .int .i64 c.stylus] 23) = W0 := ⟨_, rfl⟩
    have HK : Hid (Blk W0 w.heap.size 23 #[.int .i64 c.half, .int .i64 c.gain, .int .i64 c.thin, .int .i64 c.wide, .int .i64 c.slope, .int .i64 c.jerk, .int .i64 c.stylus]) := Lib.hid (by rw [← hW]; exact Blk.new _ _ _)
    have HB : Hid (Below w.heap.size w W0) := Lib.hid (by rw [← hW]; exact (Below.refl _ w).alloc (Nat.le_refl _) _)
    rw [hW]
    clear hW
    refine (LG.out _).mono ?_
    rintro e w' ⟨rfl, rfl⟩
    go_wp2_with fail
    refine (WK.out _).mono ?_
    rintro e v9 ⟨rfl, hb1⟩
    go_wp2
    go_ret
    exact ⟨rfl, HB.out.trans (hb1.mono HB.out.size)⟩

set_option maxRecDepth 100000 in
set_option maxHeartbeats 4000000 in
theorem radii_walk (B : Nat) (A : Option Addr) (n k : Nat) (c : Ctr) (l : List Smp) (per i : Int) (w : World) (h0 : RS w B A n l) (hB : B ≤ w.heap.size) (hl : n ≤ 9223372036854775807) (hk : n ≤ k) :
    Calls Try.prog 5 #[.agg #[.int .i64 c.half, .int .i64 c.gain, .int .i64 c.thin, .int .i64 c.wide, .int .i64 c.slope, .int .i64 c.jerk, .int .i64 c.stylus], .slice A n k, .int .i64 per, .int .i64 i] w fun e w' => e = .returned (.bool true) ∧ Below w.heap.size w w' := by
  have H := Lib.hid (h0.more hB)
  clear h0 hB
  have WK := Lib.hid (fun W => Works_any W)
  have LG := Lib.hid (fun W => long_any n W)
  have L1 := Lib.hid (fun W (hb : Below w.heap.size w W) => Least_any w.heap.size A n k c l per W (H.out.below hb (Nat.le_refl _)) hb.size hl)
  have L2 := Lib.hid (fun W (hb : Below w.heap.size w W) => refLeastE_any w.heap.size A n k c l per W (H.out.below hb (Nat.le_refl _)) hb.size hl hk)
  have N1 := Lib.hid (fun W (hb : Below w.heap.size w W) => Needs_any w.heap.size A n k c l per i W (H.out.below hb (Nat.le_refl _)) hb.size hl)
  have N2 := Lib.hid (fun W (hb : Below w.heap.size w W) => refNeedsE_any w.heap.size A n k c l per i W (H.out.below hb (Nat.le_refl _)) hb.size hl hk)
  obtain ⟨b, hb⟩ : ∃ b, lng n = b := ⟨_, rfl⟩
  rw [hb] at LG
  clear hb
  cases b
  · go_enter Try.func5, Try.ntmps5
    go_wp2_with fail
    obtain ⟨W0, hW⟩ : ∃ W0, w.alloc (.cells #[.int .i64 c.half, .int .i64 c.gain, .int .i64 c.thin, .int .i64 c.wide, .int .i64 c.slope, .int .i64 c.jerk, .int .i64 c.stylus] 23) = W0 := ⟨_, rfl⟩
    have HK : Hid (Blk W0 w.heap.size 23 #[.int .i64 c.half, .int .i64 c.gain, .int .i64 c.thin, .int .i64 c.wide, .int .i64 c.slope, .int .i64 c.jerk, .int .i64 c.stylus]) := Lib.hid (by rw [← hW]; exact Blk.new _ _ _)
    have HB : Hid (Below w.heap.size w W0) := Lib.hid (by rw [← hW]; exact (Below.refl _ w).alloc (Nat.le_refl _) _)
    rw [hW]
    clear hW
    refine (LG.out _).mono ?_
    rintro e w' ⟨rfl, rfl⟩
    have hk_0 : W0.cell? ⟨w.heap.size, 0, none⟩ = some (.int .i64 c.half) := (HK.out.cell 0).trans rfl
    have hk_1 : W0.cell? ⟨w.heap.size, 1, none⟩ = some (.int .i64 c.gain) := (HK.out.cell 1).trans rfl
    have hk_2 : W0.cell? ⟨w.heap.size, 2, none⟩ = some (.int .i64 c.thin) := (HK.out.cell 2).trans rfl
    have hk_3 : W0.cell? ⟨w.heap.size, 3, none⟩ = some (.int .i64 c.wide) := (HK.out.cell 3).trans rfl
    have hk_4 : W0.cell? ⟨w.heap.size, 4, none⟩ = some (.int .i64 c.slope) := (HK.out.cell 4).trans rfl
    have hk_5 : W0.cell? ⟨w.heap.size, 5, none⟩ = some (.int .i64 c.jerk) := (HK.out.cell 5).trans rfl
    have hk_6 : W0.cell? ⟨w.heap.size, 6, none⟩ = some (.int .i64 c.stylus) := (HK.out.cell 6).trans rfl
    go_wp2_with fail
    refine (L1.out _ HB.out).mono ?_
    rintro e w1 ⟨a, ea, rfl, hq1, hb1⟩
    replace HK := Lib.hid (HK.out.below hb1 HK.out.lt)
    replace HB := Lib.hid (HB.out.trans (hb1.mono HB.out.size))
    clear hb1
    have HQ := Lib.hid hq1
    clear hq1
    clear hk_0 hk_1 hk_2 hk_3 hk_4 hk_5 hk_6
    have hk_0 : w1.cell? ⟨w.heap.size, 0, none⟩ = some (.int .i64 c.half) := (HK.out.cell 0).trans rfl
    have hk_1 : w1.cell? ⟨w.heap.size, 1, none⟩ = some (.int .i64 c.gain) := (HK.out.cell 1).trans rfl
    have hk_2 : w1.cell? ⟨w.heap.size, 2, none⟩ = some (.int .i64 c.thin) := (HK.out.cell 2).trans rfl
    have hk_3 : w1.cell? ⟨w.heap.size, 3, none⟩ = some (.int .i64 c.wide) := (HK.out.cell 3).trans rfl
    have hk_4 : w1.cell? ⟨w.heap.size, 4, none⟩ = some (.int .i64 c.slope) := (HK.out.cell 4).trans rfl
    have hk_5 : w1.cell? ⟨w.heap.size, 5, none⟩ = some (.int .i64 c.jerk) := (HK.out.cell 5).trans rfl
    have hk_6 : w1.cell? ⟨w.heap.size, 6, none⟩ = some (.int .i64 c.stylus) := (HK.out.cell 6).trans rfl
    go_wp2_with fail
    refine (L2.out _ HB.out).mono ?_
    rintro e w2 ⟨x, ex, rfl, hq2, hb1⟩
    replace HK := Lib.hid (HK.out.below hb1 HK.out.lt)
    replace HB := Lib.hid (HB.out.trans (hb1.mono HB.out.size))
    clear hb1
    obtain ⟨rfl, rfl⟩ := lsQ_uniq HQ.out hq2
    clear hq2 HQ
    clear hk_0 hk_1 hk_2 hk_3 hk_4 hk_5 hk_6
    have hk_0 : w2.cell? ⟨w.heap.size, 0, none⟩ = some (.int .i64 c.half) := (HK.out.cell 0).trans rfl
    have hk_1 : w2.cell? ⟨w.heap.size, 1, none⟩ = some (.int .i64 c.gain) := (HK.out.cell 1).trans rfl
    have hk_2 : w2.cell? ⟨w.heap.size, 2, none⟩ = some (.int .i64 c.thin) := (HK.out.cell 2).trans rfl
    have hk_3 : w2.cell? ⟨w.heap.size, 3, none⟩ = some (.int .i64 c.wide) := (HK.out.cell 3).trans rfl
    have hk_4 : w2.cell? ⟨w.heap.size, 4, none⟩ = some (.int .i64 c.slope) := (HK.out.cell 4).trans rfl
    have hk_5 : w2.cell? ⟨w.heap.size, 5, none⟩ = some (.int .i64 c.jerk) := (HK.out.cell 5).trans rfl
    have hk_6 : w2.cell? ⟨w.heap.size, 6, none⟩ = some (.int .i64 c.stylus) := (HK.out.cell 6).trans rfl
    go_wp2_with fail
    refine (N1.out _ HB.out).mono ?_
    rintro e w3 ⟨a, ea, rfl, hq1, hb1⟩
    replace HK := Lib.hid (HK.out.below hb1 HK.out.lt)
    replace HB := Lib.hid (HB.out.trans (hb1.mono HB.out.size))
    clear hb1
    have HQ := Lib.hid hq1
    clear hq1
    clear hk_0 hk_1 hk_2 hk_3 hk_4 hk_5 hk_6
    have hk_0 : w3.cell? ⟨w.heap.size, 0, none⟩ = some (.int .i64 c.half) := (HK.out.cell 0).trans rfl
    have hk_1 : w3.cell? ⟨w.heap.size, 1, none⟩ = some (.int .i64 c.gain) := (HK.out.cell 1).trans rfl
    have hk_2 : w3.cell? ⟨w.heap.size, 2, none⟩ = some (.int .i64 c.thin) := (HK.out.cell 2).trans rfl
    have hk_3 : w3.cell? ⟨w.heap.size, 3, none⟩ = some (.int .i64 c.wide) := (HK.out.cell 3).trans rfl
    have hk_4 : w3.cell? ⟨w.heap.size, 4, none⟩ = some (.int .i64 c.slope) := (HK.out.cell 4).trans rfl
    have hk_5 : w3.cell? ⟨w.heap.size, 5, none⟩ = some (.int .i64 c.jerk) := (HK.out.cell 5).trans rfl
    have hk_6 : w3.cell? ⟨w.heap.size, 6, none⟩ = some (.int .i64 c.stylus) := (HK.out.cell 6).trans rfl
    go_wp2_with fail
    refine (N2.out _ HB.out).mono ?_
    rintro e w4 ⟨x, ex, rfl, hq2, hb1⟩
    replace HK := Lib.hid (HK.out.below hb1 HK.out.lt)
    replace HB := Lib.hid (HB.out.trans (hb1.mono HB.out.size))
    clear hb1
    obtain ⟨rfl, rfl⟩ := ndQ_uniq HQ.out hq2
    clear hq2 HQ
    clear hk_0 hk_1 hk_2 hk_3 hk_4 hk_5 hk_6
    go_wp2_with fail
    refine (WK.out _).mono ?_
    rintro e v9 ⟨rfl, hb1⟩
    go_wp2
    go_ret
    exact ⟨rfl, HB.out.trans (hb1.mono HB.out.size)⟩
  · go_enter Try.func5, Try.ntmps5
    go_wp2_with fail
    obtain ⟨W0, hW⟩ : ∃ W0, w.alloc (.cells #[.int .i64 c.half, .int .i64 c.gain, .int .i64 c.thin, .int .i64 c.wide, .int .i64 c.slope, .int .i64 c.jerk, .int .i64 c.stylus] 23) = W0 := ⟨_, rfl⟩
    have HK : Hid (Blk W0 w.heap.size 23 #[.int .i64 c.half, .int .i64 c.gain, .int .i64 c.thin, .int .i64 c.wide, .int .i64 c.slope, .int .i64 c.jerk, .int .i64 c.stylus]) := Lib.hid (by rw [← hW]; exact Blk.new _ _ _)
    have HB : Hid (Below w.heap.size w W0) := Lib.hid (by rw [← hW]; exact (Below.refl _ w).alloc (Nat.le_refl _) _)
    rw [hW]
    clear hW
    refine (LG.out _).mono ?_
    rintro e w' ⟨rfl, rfl⟩
    go_wp2_with fail
    refine (WK.out _).mono ?_
    rintro e v9 ⟨rfl, hb1⟩
    go_wp2
    go_ret
    exact ⟨rfl, HB.out.trans (hb1.mono HB.out.size)⟩
end Go.Proofs.Ytaiigdbbpdkamaa
