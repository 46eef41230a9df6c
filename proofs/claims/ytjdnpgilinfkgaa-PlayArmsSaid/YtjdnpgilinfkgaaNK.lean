/-
  The walk of PlayArms.
-/
import Derived.Test.YtjdnpgilinfkgaaNE
import Derived.Test.YtjdnpgilinfkgaaNG
import Derived.Test.YtjdnpgilinfkgaaNH
import Derived.Test.YtjdnpgilinfkgaaNJ
import Derived.Test.YtjdnpgilinfkgaaNL
import Derived.Test.YtjdnpgilinfkgaaME
import Derived.Test.YtjdnpgilinfkgaaMF
import Derived.Deep.Cut
namespace Go.Proofs.Ytjdnpgilinfkgaa
open Go.RowKit

set_option maxRecDepth 100000 in
set_option maxHeartbeats 8000000 in
theorem arms_walk (B : Nat) (A Ar : Option Addr) (n k nr kr : Nat) (a : Int × Int) (l : List Smp) (rs : List Int) (per angle x : Int) (w : World) (h0 : RS w B A n l) (h1 : LI w B Ar nr rs) (hB : B ≤ w.heap.size) (hl : n ≤ 9223372036854775807) (hlr : nr ≤ 9223372036854775807) :
    Calls Try.prog 7 #[.agg #[.int .i64 a.1, .int .i64 a.2], .slice A n k, .slice Ar nr kr, .int .i64 per, .int .i64 angle, .int .i64 x] w fun e w' => e = .returned (.bool true) ∧ Below w.heap.size w w' := by
  have HN := Lib.hid h0.1
  have H := Lib.hid h0
  have HR := Lib.hid h1
  clear h0 h1
  obtain ⟨i1, hi1⟩ : ∃ y : Nat, jmI a l = y := ⟨_, rfl⟩
  obtain ⟨i2, hi2⟩ : ∃ y : Int, jmT a l = y := ⟨_, rfl⟩
  obtain ⟨i3, hi3⟩ : ∃ y : Int, jmE a l = y := ⟨_, rfl⟩
  obtain ⟨b1, hb1⟩ : ∃ y : Int, (if ckG l = 0 then (baL l).1 else 0) = y := ⟨_, rfl⟩
  obtain ⟨b2, hb2⟩ : ∃ y : Int, (if ckG l = 0 then (baL l).2 else 0) = y := ⟨_, rfl⟩
  obtain ⟨b3, hb3⟩ : ∃ y : Int, ckG l = y := ⟨_, rfl⟩
  have HJ := Lib.hid (And.intro hi1 (And.intro hi2 hi3))
  have HBB : Hid ((if ckG l = 0 then (baL l).1 else 0) = b1 ∧ (if ckG l = 0 then (baL l).2 else 0) = b2 ∧ ckG l = b3) := Lib.hid (And.intro hb1 (And.intro hb2 hb3))
  obtain ⟨d1, hd1⟩ : ∃ y : Nat, drI l rs per angle x = y := ⟨_, rfl⟩
  obtain ⟨d2, hd2⟩ : ∃ y : Int, drE l rs per angle x = y := ⟨_, rfl⟩
  have HD := Lib.hid (And.intro hd1 hd2)
  have eqa := fun W : World => eqArm b1 b2 W
  clear hi1 hi2 hi3 hb1 hb2 hb3 hd1 hd2
  cases hb_ : lng6 n 100
  · have c1 : nr ≤ 120 ∨ 120 < nr := by omega
    rcases c1 with c1 | c1
    · have g1 : ¬ ((120 : Int) < (nr : Int)) := by omega
      have g2 : decide ((120 : Int) < (nr : Int)) = false := decide_eq_false g1
      have g3 : decide (120 < nr) = false := decide_eq_false (by omega)
      go_enter Try.func7, Try.ntmps7
      go_wp2_with fail
      obtain ⟨w1, hW⟩ : ∃ W, w.alloc (.cells #[.int .i64 a.1, .int .i64 a.2] 52) = W := ⟨_, rfl⟩
      have hb : Below w.heap.size w w1 := by rw [← hW]; exact (Below.refl _ _).alloc (Nat.le_refl _) _
      have hsz1 := hb.size
      replace H := Lib.hid (H.out.below hb (by omega))
      replace HR := Lib.hid (HR.out.below hb (by omega))
      have HK : Hid (Blk w1 w.heap.size 52 #[.int .i64 a.1, .int .i64 a.2]) := Lib.hid (by rw [← hW]; exact Blk.new _ _ _)
      have HB := Lib.hid hb
      try rw [hW]
      clear hW hb
      obtain ⟨t0, t1, -, -, -⟩ := HK.out.two
      have CALL := long6_any A n k 100 w1
      rw [hb_] at CALL
      refine CALL.mono ?_
      rintro e w_ ⟨rfl, rfl⟩
      clear CALL
      go_wp2_with fail
      have CALL := Jump_any w1.heap.size A n k a l w1 (H.out.more (by omega)) (Nat.le_refl _) (by omega)
      rw [HJ.out.1, HJ.out.2.1, HJ.out.2.2] at CALL
      refine CALL.mono ?_
      rintro e w2 ⟨rfl, hb⟩
      clear CALL
      have hsz2 := hb.size
      replace H := Lib.hid (H.out.below hb (by omega))
      replace HR := Lib.hid (HR.out.below hb (by omega))
      replace HK := Lib.hid (HK.out.below hb HK.out.lt)
      replace HB := Lib.hid (HB.out.trans (hb.mono (by omega)))
      clear hb
      obtain ⟨t0, t1, -, -, -⟩ := HK.out.two
      go_wp2_with fail
      have CALL := refJump_any w2.heap.size A n k a l w2 (H.out.more (by omega)) (Nat.le_refl _) (by omega)
      rw [HJ.out.1, HJ.out.2.1, HJ.out.2.2] at CALL
      refine CALL.mono ?_
      rintro e w3 ⟨rfl, hb⟩
      clear CALL
      have hsz3 := hb.size
      replace H := Lib.hid (H.out.below hb (by omega))
      replace HR := Lib.hid (HR.out.below hb (by omega))
      replace HK := Lib.hid (HK.out.below hb HK.out.lt)
      replace HB := Lib.hid (HB.out.trans (hb.mono (by omega)))
      clear hb
      obtain ⟨t0, t1, -, -, -⟩ := HK.out.two
      go_wp2_with fail
      have CALL := Balance_any w3.heap.size A n k l w3 (H.out.more (by omega)) (Nat.le_refl _) (by omega)
      rw [HBB.out.1, HBB.out.2.1, HBB.out.2.2] at CALL
      refine CALL.mono ?_
      rintro e w4 ⟨rfl, hb⟩
      clear CALL
      have hsz4 := hb.size
      replace H := Lib.hid (H.out.below hb (by omega))
      replace HR := Lib.hid (HR.out.below hb (by omega))
      replace HK := Lib.hid (HK.out.below hb HK.out.lt)
      replace HB := Lib.hid (HB.out.trans (hb.mono (by omega)))
      clear hb
      obtain ⟨t0, t1, -, -, -⟩ := HK.out.two
      go_wp2_with fail
      obtain ⟨w5, hW⟩ : ∃ W, w4.alloc (.cells #[.int .i64 b1, .int .i64 b2] 52) = W := ⟨_, rfl⟩
      have hb : Below w4.heap.size w4 w5 := by rw [← hW]; exact (Below.refl _ _).alloc (Nat.le_refl _) _
      have hsz5 := hb.size
      replace H := Lib.hid (H.out.below hb (by omega))
      replace HR := Lib.hid (HR.out.below hb (by omega))
      replace HK := Lib.hid (HK.out.below hb HK.out.lt)
      replace HB := Lib.hid (HB.out.trans (hb.mono (by omega)))
      have HK1 : Hid (Blk w5 w4.heap.size 52 #[.int .i64 b1, .int .i64 b2]) := Lib.hid (by rw [← hW]; exact Blk.new _ _ _)
      try rw [hW]
      clear hW hb
      obtain ⟨t0, t1, -, -, -⟩ := HK.out.two
      obtain ⟨s0, s1, -, -, -⟩ := HK1.out.two
      have CALL := refBalance_any w5.heap.size A n k l w5 (H.out.more (by omega)) (Nat.le_refl _) (by omega)
      rw [HBB.out.1, HBB.out.2.1, HBB.out.2.2] at CALL
      refine CALL.mono ?_
      rintro e w6 ⟨rfl, hb⟩
      clear CALL
      have hsz6 := hb.size
      replace H := Lib.hid (H.out.below hb (by omega))
      replace HR := Lib.hid (HR.out.below hb (by omega))
      replace HK := Lib.hid (HK.out.below hb HK.out.lt)
      replace HK1 := Lib.hid (HK1.out.below hb HK1.out.lt)
      replace HB := Lib.hid (HB.out.trans (hb.mono (by omega)))
      clear hb
      obtain ⟨t0, t1, -, -, -⟩ := HK.out.two
      obtain ⟨s0, s1, -, -, -⟩ := HK1.out.two
      go_upto_region 7 with fail
      obtain ⟨w7, hW⟩ : ∃ W, w6.alloc (.cells #[.int .i64 b1, .int .i64 b2] 52) = W := ⟨_, rfl⟩
      have hb : Below w6.heap.size w6 w7 := by rw [← hW]; exact (Below.refl _ _).alloc (Nat.le_refl _) _
      have hsz7 := hb.size
      replace H := Lib.hid (H.out.below hb (by omega))
      replace HR := Lib.hid (HR.out.below hb (by omega))
      replace HK := Lib.hid (HK.out.below hb HK.out.lt)
      replace HK1 := Lib.hid (HK1.out.below hb HK1.out.lt)
      replace HB := Lib.hid (HB.out.trans (hb.mono (by omega)))
      have HK2 : Hid (Blk w7 w6.heap.size 52 #[.int .i64 b1, .int .i64 b2]) := Lib.hid (by rw [← hW]; exact Blk.new _ _ _)
      try rw [hW]
      clear hW hb
      obtain ⟨t0, t1, -, -, -⟩ := HK.out.two
      obtain ⟨s0, s1, -, -, -⟩ := HK1.out.two
      obtain ⟨v0, v1, -, -, -⟩ := HK2.out.two
      go_wp2_with fail
      have CALL := Drop_any w7.heap.size A Ar n k nr kr l rs per angle x w7 (H.out.more (by omega)) (HR.out.more (by omega)) (Nat.le_refl _) (by omega) (by omega)
      rw [HD.out.1, HD.out.2] at CALL
      refine CALL.mono ?_
      rintro e w8 ⟨rfl, hb⟩
      clear CALL
      have hsz8 := hb.size
      replace H := Lib.hid (H.out.below hb (by omega))
      replace HR := Lib.hid (HR.out.below hb (by omega))
      replace HK := Lib.hid (HK.out.below hb HK.out.lt)
      replace HK1 := Lib.hid (HK1.out.below hb HK1.out.lt)
      replace HK2 := Lib.hid (HK2.out.below hb HK2.out.lt)
      replace HB := Lib.hid (HB.out.trans (hb.mono (by omega)))
      clear hb
      obtain ⟨t0, t1, -, -, -⟩ := HK.out.two
      obtain ⟨s0, s1, -, -, -⟩ := HK1.out.two
      obtain ⟨v0, v1, -, -, -⟩ := HK2.out.two
      go_wp2_with fail
      have CALL := refDrop_any w8.heap.size A Ar n k nr kr l rs per angle x w8 (H.out.more (by omega)) (HR.out.more (by omega)) (Nat.le_refl _) (by omega) (by omega)
      rw [HD.out.1, HD.out.2] at CALL
      refine CALL.mono ?_
      rintro e w9 ⟨rfl, hb⟩
      clear CALL
      have hsz9 := hb.size
      replace H := Lib.hid (H.out.below hb (by omega))
      replace HR := Lib.hid (HR.out.below hb (by omega))
      replace HK := Lib.hid (HK.out.below hb HK.out.lt)
      replace HK1 := Lib.hid (HK1.out.below hb HK1.out.lt)
      replace HK2 := Lib.hid (HK2.out.below hb HK2.out.lt)
      replace HB := Lib.hid (HB.out.trans (hb.mono (by omega)))
      clear hb
      obtain ⟨t0, t1, -, -, -⟩ := HK.out.two
      obtain ⟨s0, s1, -, -, -⟩ := HK1.out.two
      obtain ⟨v0, v1, -, -, -⟩ := HK2.out.two
      go_wp2_with fail
      have CALL := works6_any w9
      refine CALL.mono ?_
      rintro e w10 ⟨rfl, hb⟩
      clear CALL
      have hsz10 := hb.size
      replace H := Lib.hid (H.out.below hb (by omega))
      replace HR := Lib.hid (HR.out.below hb (by omega))
      replace HK := Lib.hid (HK.out.below hb HK.out.lt)
      replace HK1 := Lib.hid (HK1.out.below hb HK1.out.lt)
      replace HK2 := Lib.hid (HK2.out.below hb HK2.out.lt)
      replace HB := Lib.hid (HB.out.trans (hb.mono (by omega)))
      clear hb
      obtain ⟨t0, t1, -, -, -⟩ := HK.out.two
      obtain ⟨s0, s1, -, -, -⟩ := HK1.out.two
      obtain ⟨v0, v1, -, -, -⟩ := HK2.out.two
      go_wp2
      go_ret
      exact ⟨rfl, HB.out⟩
    · by_cases c2 : nr = n
      · subst c2
        have g1 : (120 : Int) < (nr : Int) := by omega
        have g2 : decide ((120 : Int) < (nr : Int)) = true := decide_eq_true g1
        have g3 : decide (120 < nr) = true := decide_eq_true c1
        have g4 : ((nr : Int) != (nr : Int)) = false := by simp
        go_enter Try.func7, Try.ntmps7
        go_wp2_with fail
        obtain ⟨w1, hW⟩ : ∃ W, w.alloc (.cells #[.int .i64 a.1, .int .i64 a.2] 52) = W := ⟨_, rfl⟩
        have hb : Below w.heap.size w w1 := by rw [← hW]; exact (Below.refl _ _).alloc (Nat.le_refl _) _
        have hsz1 := hb.size
        replace H := Lib.hid (H.out.below hb (by omega))
        replace HR := Lib.hid (HR.out.below hb (by omega))
        have HK : Hid (Blk w1 w.heap.size 52 #[.int .i64 a.1, .int .i64 a.2]) := Lib.hid (by rw [← hW]; exact Blk.new _ _ _)
        have HB := Lib.hid hb
        try rw [hW]
        clear hW hb
        obtain ⟨t0, t1, -, -, -⟩ := HK.out.two
        have CALL := long6_any A nr k 100 w1
        rw [hb_] at CALL
        refine CALL.mono ?_
        rintro e w_ ⟨rfl, rfl⟩
        clear CALL
        go_wp2_with fail
        have CALL := Jump_any w1.heap.size A nr k a l w1 (H.out.more (by omega)) (Nat.le_refl _) (by omega)
        rw [HJ.out.1, HJ.out.2.1, HJ.out.2.2] at CALL
        refine CALL.mono ?_
        rintro e w2 ⟨rfl, hb⟩
        clear CALL
        have hsz2 := hb.size
        replace H := Lib.hid (H.out.below hb (by omega))
        replace HR := Lib.hid (HR.out.below hb (by omega))
        replace HK := Lib.hid (HK.out.below hb HK.out.lt)
        replace HB := Lib.hid (HB.out.trans (hb.mono (by omega)))
        clear hb
        obtain ⟨t0, t1, -, -, -⟩ := HK.out.two
        go_wp2_with fail
        have CALL := refJump_any w2.heap.size A nr k a l w2 (H.out.more (by omega)) (Nat.le_refl _) (by omega)
        rw [HJ.out.1, HJ.out.2.1, HJ.out.2.2] at CALL
        refine CALL.mono ?_
        rintro e w3 ⟨rfl, hb⟩
        clear CALL
        have hsz3 := hb.size
        replace H := Lib.hid (H.out.below hb (by omega))
        replace HR := Lib.hid (HR.out.below hb (by omega))
        replace HK := Lib.hid (HK.out.below hb HK.out.lt)
        replace HB := Lib.hid (HB.out.trans (hb.mono (by omega)))
        clear hb
        obtain ⟨t0, t1, -, -, -⟩ := HK.out.two
        go_wp2_with fail
        have CALL := Balance_any w3.heap.size A nr k l w3 (H.out.more (by omega)) (Nat.le_refl _) (by omega)
        rw [HBB.out.1, HBB.out.2.1, HBB.out.2.2] at CALL
        refine CALL.mono ?_
        rintro e w4 ⟨rfl, hb⟩
        clear CALL
        have hsz4 := hb.size
        replace H := Lib.hid (H.out.below hb (by omega))
        replace HR := Lib.hid (HR.out.below hb (by omega))
        replace HK := Lib.hid (HK.out.below hb HK.out.lt)
        replace HB := Lib.hid (HB.out.trans (hb.mono (by omega)))
        clear hb
        obtain ⟨t0, t1, -, -, -⟩ := HK.out.two
        go_wp2_with fail
        obtain ⟨w5, hW⟩ : ∃ W, w4.alloc (.cells #[.int .i64 b1, .int .i64 b2] 52) = W := ⟨_, rfl⟩
        have hb : Below w4.heap.size w4 w5 := by rw [← hW]; exact (Below.refl _ _).alloc (Nat.le_refl _) _
        have hsz5 := hb.size
        replace H := Lib.hid (H.out.below hb (by omega))
        replace HR := Lib.hid (HR.out.below hb (by omega))
        replace HK := Lib.hid (HK.out.below hb HK.out.lt)
        replace HB := Lib.hid (HB.out.trans (hb.mono (by omega)))
        have HK1 : Hid (Blk w5 w4.heap.size 52 #[.int .i64 b1, .int .i64 b2]) := Lib.hid (by rw [← hW]; exact Blk.new _ _ _)
        try rw [hW]
        clear hW hb
        obtain ⟨t0, t1, -, -, -⟩ := HK.out.two
        obtain ⟨s0, s1, -, -, -⟩ := HK1.out.two
        have CALL := refBalance_any w5.heap.size A nr k l w5 (H.out.more (by omega)) (Nat.le_refl _) (by omega)
        rw [HBB.out.1, HBB.out.2.1, HBB.out.2.2] at CALL
        refine CALL.mono ?_
        rintro e w6 ⟨rfl, hb⟩
        clear CALL
        have hsz6 := hb.size
        replace H := Lib.hid (H.out.below hb (by omega))
        replace HR := Lib.hid (HR.out.below hb (by omega))
        replace HK := Lib.hid (HK.out.below hb HK.out.lt)
        replace HK1 := Lib.hid (HK1.out.below hb HK1.out.lt)
        replace HB := Lib.hid (HB.out.trans (hb.mono (by omega)))
        clear hb
        obtain ⟨t0, t1, -, -, -⟩ := HK.out.two
        obtain ⟨s0, s1, -, -, -⟩ := HK1.out.two
        go_upto_region 7 with fail
        obtain ⟨w7, hW⟩ : ∃ W, w6.alloc (.cells #[.int .i64 b1, .int .i64 b2] 52) = W := ⟨_, rfl⟩
        have hb : Below w6.heap.size w6 w7 := by rw [← hW]; exact (Below.refl _ _).alloc (Nat.le_refl _) _
        have hsz7 := hb.size
        replace H := Lib.hid (H.out.below hb (by omega))
        replace HR := Lib.hid (HR.out.below hb (by omega))
        replace HK := Lib.hid (HK.out.below hb HK.out.lt)
        replace HK1 := Lib.hid (HK1.out.below hb HK1.out.lt)
        replace HB := Lib.hid (HB.out.trans (hb.mono (by omega)))
        have HK2 : Hid (Blk w7 w6.heap.size 52 #[.int .i64 b1, .int .i64 b2]) := Lib.hid (by rw [← hW]; exact Blk.new _ _ _)
        try rw [hW]
        clear hW hb
        obtain ⟨t0, t1, -, -, -⟩ := HK.out.two
        obtain ⟨s0, s1, -, -, -⟩ := HK1.out.two
        obtain ⟨v0, v1, -, -, -⟩ := HK2.out.two
        go_wp2_with fail
        have CALL := Drop_any w7.heap.size A Ar nr k nr kr l rs per angle x w7 (H.out.more (by omega)) (HR.out.more (by omega)) (Nat.le_refl _) (by omega) (by omega)
        rw [HD.out.1, HD.out.2] at CALL
        refine CALL.mono ?_
        rintro e w8 ⟨rfl, hb⟩
        clear CALL
        have hsz8 := hb.size
        replace H := Lib.hid (H.out.below hb (by omega))
        replace HR := Lib.hid (HR.out.below hb (by omega))
        replace HK := Lib.hid (HK.out.below hb HK.out.lt)
        replace HK1 := Lib.hid (HK1.out.below hb HK1.out.lt)
        replace HK2 := Lib.hid (HK2.out.below hb HK2.out.lt)
        replace HB := Lib.hid (HB.out.trans (hb.mono (by omega)))
        clear hb
        obtain ⟨t0, t1, -, -, -⟩ := HK.out.two
        obtain ⟨s0, s1, -, -, -⟩ := HK1.out.two
        obtain ⟨v0, v1, -, -, -⟩ := HK2.out.two
        go_wp2_with fail
        have CALL := refDrop_any w8.heap.size A Ar nr k nr kr l rs per angle x w8 (H.out.more (by omega)) (HR.out.more (by omega)) (Nat.le_refl _) (by omega) (by omega)
        rw [HD.out.1, HD.out.2] at CALL
        refine CALL.mono ?_
        rintro e w9 ⟨rfl, hb⟩
        clear CALL
        have hsz9 := hb.size
        replace H := Lib.hid (H.out.below hb (by omega))
        replace HR := Lib.hid (HR.out.below hb (by omega))
        replace HK := Lib.hid (HK.out.below hb HK.out.lt)
        replace HK1 := Lib.hid (HK1.out.below hb HK1.out.lt)
        replace HK2 := Lib.hid (HK2.out.below hb HK2.out.lt)
        replace HB := Lib.hid (HB.out.trans (hb.mono (by omega)))
        clear hb
        obtain ⟨t0, t1, -, -, -⟩ := HK.out.two
        obtain ⟨s0, s1, -, -, -⟩ := HK1.out.two
        obtain ⟨v0, v1, -, -, -⟩ := HK2.out.two
        go_wp2_with fail
        have CALL := works6_any w9
        refine CALL.mono ?_
        rintro e w10 ⟨rfl, hb⟩
        clear CALL
        have hsz10 := hb.size
        replace H := Lib.hid (H.out.below hb (by omega))
        replace HR := Lib.hid (HR.out.below hb (by omega))
        replace HK := Lib.hid (HK.out.below hb HK.out.lt)
        replace HK1 := Lib.hid (HK1.out.below hb HK1.out.lt)
        replace HK2 := Lib.hid (HK2.out.below hb HK2.out.lt)
        replace HB := Lib.hid (HB.out.trans (hb.mono (by omega)))
        clear hb
        obtain ⟨t0, t1, -, -, -⟩ := HK.out.two
        obtain ⟨s0, s1, -, -, -⟩ := HK1.out.two
        obtain ⟨v0, v1, -, -, -⟩ := HK2.out.two
        go_wp2
        go_ret
        exact ⟨rfl, HB.out⟩
      · have g1 : (120 : Int) < (nr : Int) := by omega
        have g2 : decide ((120 : Int) < (nr : Int)) = true := decide_eq_true g1
        have g3 : decide (120 < nr) = true := decide_eq_true c1
        have g4 : ((nr : Int) != (n : Int)) = true := by rw [bne_iff_ne]; omega
        go_enter Try.func7, Try.ntmps7
        go_wp2_with fail
        obtain ⟨w1, hW⟩ : ∃ W, w.alloc (.cells #[.int .i64 a.1, .int .i64 a.2] 52) = W := ⟨_, rfl⟩
        have hb : Below w.heap.size w w1 := by rw [← hW]; exact (Below.refl _ _).alloc (Nat.le_refl _) _
        have hsz1 := hb.size
        replace H := Lib.hid (H.out.below hb (by omega))
        replace HR := Lib.hid (HR.out.below hb (by omega))
        have HK : Hid (Blk w1 w.heap.size 52 #[.int .i64 a.1, .int .i64 a.2]) := Lib.hid (by rw [← hW]; exact Blk.new _ _ _)
        have HB := Lib.hid hb
        try rw [hW]
        clear hW hb
        obtain ⟨t0, t1, -, -, -⟩ := HK.out.two
        have CALL := long6_any A n k 100 w1
        rw [hb_] at CALL
        refine CALL.mono ?_
        rintro e w_ ⟨rfl, rfl⟩
        clear CALL
        go_wp2_with fail
        have CALL := works6_any w1
        refine CALL.mono ?_
        rintro e w2 ⟨rfl, hb⟩
        clear CALL
        have hsz2 := hb.size
        replace H := Lib.hid (H.out.below hb (by omega))
        replace HR := Lib.hid (HR.out.below hb (by omega))
        replace HK := Lib.hid (HK.out.below hb HK.out.lt)
        replace HB := Lib.hid (HB.out.trans (hb.mono (by omega)))
        clear hb
        obtain ⟨t0, t1, -, -, -⟩ := HK.out.two
        go_wp2
        go_ret
        exact ⟨rfl, HB.out⟩
  · go_enter Try.func7, Try.ntmps7
    go_wp2_with fail
    obtain ⟨w1, hW⟩ : ∃ W, w.alloc (.cells #[.int .i64 a.1, .int .i64 a.2] 52) = W := ⟨_, rfl⟩
    have hb : Below w.heap.size w w1 := by rw [← hW]; exact (Below.refl _ _).alloc (Nat.le_refl _) _
    have hsz1 := hb.size
    replace H := Lib.hid (H.out.below hb (by omega))
    replace HR := Lib.hid (HR.out.below hb (by omega))
    have HK : Hid (Blk w1 w.heap.size 52 #[.int .i64 a.1, .int .i64 a.2]) := Lib.hid (by rw [← hW]; exact Blk.new _ _ _)
    have HB := Lib.hid hb
    try rw [hW]
    clear hW hb
    obtain ⟨t0, t1, -, -, -⟩ := HK.out.two
    have CALL := long6_any A n k 100 w1
    rw [hb_] at CALL
    refine CALL.mono ?_
    rintro e w_ ⟨rfl, rfl⟩
    clear CALL
    go_wp2_with fail
    have CALL := works6_any w1
    refine CALL.mono ?_
    rintro e w2 ⟨rfl, hb⟩
    clear CALL
    have hsz2 := hb.size
    replace H := Lib.hid (H.out.below hb (by omega))
    replace HR := Lib.hid (HR.out.below hb (by omega))
    replace HK := Lib.hid (HK.out.below hb HK.out.lt)
    replace HB := Lib.hid (HB.out.trans (hb.mono (by omega)))
    clear hb
    obtain ⟨t0, t1, -, -, -⟩ := HK.out.two
    go_wp2
    go_ret
    exact ⟨rfl, HB.out⟩
end Go.Proofs.Ytjdnpgilinfkgaa
