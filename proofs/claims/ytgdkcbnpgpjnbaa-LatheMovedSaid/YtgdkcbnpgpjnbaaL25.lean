/-
  The walk of LatheMoved.
-/
import Derived.Test.YtgdkcbnpgpjnbaaL16
import Derived.Test.YtgdkcbnpgpjnbaaL24
namespace Go.Proofs.Ytgdkcbnpgpjnbaa
open Go.RowKit

set_option maxRecDepth 100000 in
set_option maxHeartbeats 8000000 in
theorem moved_walk (B : Nat) (A : Option Addr) (n c : Nat) (b : Bk) (P : List Smp) (by_ m0 m1 m2 m3 m4 : Int) (w : World) (h0 : RS w B A n P) (hB : B ≤ w.heap.size) (hl : n ≤ 9223372036854775807) (p0 : 0 ≤ by_) (p1 : by_ ≤ 65535) (q0 : 0 ≤ m0) (q0' : m0 ≤ 65535) (q1 : 0 ≤ m1) (q1' : m1 ≤ 65535) (q2 : 0 ≤ m2) (q2' : m2 ≤ 65535) (q3 : 0 ≤ m3) (q3' : m3 ≤ 65535) (q4 : 0 ≤ m4) (q4' : m4 ≤ 65535) :
    Calls Try.prog 12 #[.agg #[.int .i64 b.per, .int .i64 b.rim, .int .i64 b.core, .int .i64 b.land, .int .i64 b.slow, .int .i64 b.fast], .slice A n c, .int .u16 by_, .agg #[.int .u16 m0, .int .u16 m1, .int .u16 m2, .int .u16 m3, .int .u16 m4]] w fun e w' => e = .returned (.bool true) ∧ Below w.heap.size w w' := by
  have HP := Lib.hid (h0.more hB)
  have HN := Lib.hid h0.1
  clear h0 hB
  go_enter Try.func12, Try.ntmps12
  go_upto_region 1 with fail
  obtain ⟨w0, hW⟩ : ∃ W, (w.alloc (.cells #[.int .i64 b.per, .int .i64 b.rim, .int .i64 b.core, .int .i64 b.land, .int .i64 b.slow, .int .i64 b.fast] 23)).alloc (.cells #[.int .u16 m0, .int .u16 m1, .int .u16 m2, .int .u16 m3, .int .u16 m4] 61) = W := ⟨_, rfl⟩
  have hb0 : Below w.heap.size w w0 := by rw [← hW]; exact (below_a _ _).alloc (below_a _ _).size _
  have k0 : Blk w0 w.heap.size 23 #[.int .i64 b.per, .int .i64 b.rim, .int .i64 b.core, .int .i64 b.land, .int .i64 b.slow, .int .i64 b.fast] := by rw [← hW]; exact (Blk.new _ _ _).alloc _
  have k1 : Blk w0 (w.heap.size + 1) 61 #[.int .u16 m0, .int .u16 m1, .int .u16 m2, .int .u16 m3, .int .u16 m4] := by rw [← hW]; have := Blk.new (w.alloc (.cells #[.int .i64 b.per, .int .i64 b.rim, .int .i64 b.core, .int .i64 b.land, .int .i64 b.slow, .int .i64 b.fast] 23)) 61 #[.int .u16 m0, .int .u16 m1, .int .u16 m2, .int .u16 m3, .int .u16 m4]; simp only [World.size_alloc] at this; exact this
  rw [hW]
  have HB := Lib.hid hb0
  have HK := Lib.hid k0
  have HV5 := Lib.hid k1
  obtain ⟨c0, c1, c2, c3, c4, c5⟩ := k0.six
  obtain ⟨d0, d1, d2, d3, d4⟩ := k1.five
  clear hW hb0 k0 k1
  cases hv : vldG b P with
  | false =>
    have HV := Lib.hid hv
    clear hv
    go_wp2_with fail
    have CALL := valid5_any w.heap.size A n c b P w0 (HP.out.below HB.out (Nat.le_refl _)) HB.out.size hl
    refine CALL.mono ?_
    rintro e w1 ⟨rfl, hb⟩
    clear CALL
    replace HK := Lib.hid (HK.out.below hb HK.out.lt)
    replace HV5 := Lib.hid (HV5.out.below hb HV5.out.lt)
    replace HB := Lib.hid (HB.out.trans (hb.mono HB.out.size))
    clear hb
    clear c0 c1 c2 c3 c4 c5 d0 d1 d2 d3 d4
    obtain ⟨c0, c1, c2, c3, c4, c5⟩ := HK.out.six
    obtain ⟨d0, d1, d2, d3, d4⟩ := HV5.out.five
    rw [HV.out]
    go_wp2_with fail
    refine (works5_any _).mono ?_
    rintro e w2 ⟨rfl, hb⟩
    replace HB := Lib.hid (HB.out.trans (hb.mono HB.out.size))
    clear hb
    go_wp2
    go_ret
    exact ⟨rfl, HB.out⟩
  | true =>
    have HV := Lib.hid hv
    have HVE := Lib.hid (vld_er hv)
    have r1 := HVE.out.2.1.core
    have r2 := HVE.out.2.1.corim
    have r3 := HVE.out.2.1.rim
    have r4 := HVE.out.2.1.land1
    have r5 := HVE.out.2.1.land2
    have r6 := HVE.out.2.1.slow
    have r7 := HVE.out.2.1.slowfast
    have r8 := HVE.out.2.1.fast
    obtain ⟨far, hfar⟩ : ∃ x, (if 4194304 - b.rim < by_ then 4194304 - b.rim else by_) = x := ⟨_, rfl⟩
    obtain ⟨rm, hrm⟩ : ∃ x, (if b.rim + m0 < 4194304 then b.rim + m0 else 4194304) = x := ⟨_, rfl⟩
    obtain ⟨co, hco⟩ : ∃ x, (if m1 < b.core then b.core - m1 else 0) = x := ⟨_, rfl⟩
    obtain ⟨la, hla⟩ : ∃ x, (if m2 < b.land then b.land - m2 else 0) = x := ⟨_, rfl⟩
    obtain ⟨sl, hsl⟩ : ∃ x, (if m3 < b.slow then b.slow - m3 else 0) = x := ⟨_, rfl⟩
    obtain ⟨fa, hfa⟩ : ∃ x, (if b.fast + m4 < 65536 then b.fast + m4 else 65536) = x := ⟨_, rfl⟩
    have f1 : 0 ≤ far ∧ far ≤ 4194304 - b.rim := by rw [← hfar]; split <;> omega
    have f2 : b.rim ≤ rm ∧ rm ≤ 4194304 := by rw [← hrm]; split <;> omega
    have f3 : 0 ≤ co ∧ co ≤ b.core := by rw [← hco]; split <;> omega
    have f4 : 0 ≤ la ∧ la ≤ b.land := by rw [← hla]; split <;> omega
    have f5 : 0 ≤ sl ∧ sl ≤ b.slow := by rw [← hsl]; split <;> omega
    have f6 : b.fast ≤ fa ∧ fa ≤ 65536 := by rw [← hfa]; split <;> omega
    have hbm : BkOk (mvB b far) := ⟨HVE.out.2.1.per1, HVE.out.2.1.per2, show 0 ≤ b.core + far by omega, show b.core + far ≤ b.rim + far by omega, show b.rim + far ≤ 4194304 by omega, r4, r5, r6, r7, r8⟩
    have hbi : BkOk ⟨b.per, rm, co, la, sl, fa⟩ := ⟨HVE.out.2.1.per1, HVE.out.2.1.per2, f3.1, show co ≤ rm by omega, f2.2, f4.1, show la ≤ 65536 by omega, f5.1, show sl ≤ fa by omega, f6.2⟩
    have hmi : Mild b ⟨b.per, rm, co, la, sl, fa⟩ := ⟨rfl, f2.1, f3.2, f4.2, f5.2, f6.1⟩
    have HBM := Lib.hid hbm
    have HBI := Lib.hid hbi
    have HMI := Lib.hid hmi
    have HVM := Lib.hid (vld_of hv hbm)
    have HVI := Lib.hid (vld_of hv hbi)
    clear hbm hbi hmi
    obtain ⟨f1a, f1b⟩ := f1
    clear f2 f3 f4 f5 f6
    cases hs : sol b P P.length with
    | none =>
      have HS := Lib.hid (outE_none hv hs)
      have HSM := Lib.hid (outE_none HVM.out (sol_mv_none HVE.out.2.1 HBM.out hs))
      clear hv hs
      go_wp2_with fail
      have CALL := valid5_any w.heap.size A n c b P w0 (HP.out.below HB.out (Nat.le_refl _)) HB.out.size hl
      refine CALL.mono ?_
      rintro e w3 ⟨rfl, hb⟩
      clear CALL
      replace HK := Lib.hid (HK.out.below hb HK.out.lt)
      replace HV5 := Lib.hid (HV5.out.below hb HV5.out.lt)
      replace HB := Lib.hid (HB.out.trans (hb.mono HB.out.size))
      clear hb
      clear c0 c1 c2 c3 c4 c5 d0 d1 d2 d3 d4
      obtain ⟨c0, c1, c2, c3, c4, c5⟩ := HK.out.six
      obtain ⟨d0, d1, d2, d3, d4⟩ := HV5.out.five
      rw [HV.out]
      go_wp2_with fail
      have CALL := Outermost_any w.heap.size A n c b P w3 (HP.out.below HB.out (Nat.le_refl _)) HB.out.size hl
      refine CALL.mono ?_
      rintro e w4 ⟨v, EO, rfl, hEO, ho, hb⟩
      clear CALL
      rw [HS.out.2, List.length_nil] at ho
      rw [HS.out.1] at hEO
      subst hEO
      obtain ⟨AO, kO, rfl, hO⟩ := li_own ho
      have HO := Lib.hid hO
      clear ho hO
      replace HK := Lib.hid (HK.out.below hb HK.out.lt)
      replace HV5 := Lib.hid (HV5.out.below hb HV5.out.lt)
      replace HB := Lib.hid (HB.out.trans (hb.mono HB.out.size))
      clear hb
      clear c0 c1 c2 c3 c4 c5 d0 d1 d2 d3 d4
      obtain ⟨c0, c1, c2, c3, c4, c5⟩ := HK.out.six
      obtain ⟨d0, d1, d2, d3, d4⟩ := HV5.out.five
      go_upto_region 5 with fail
      obtain ⟨w5, hWA⟩ : ∃ W, w4.alloc (.cells #[.int .i64 b.per, .int .i64 b.rim, .int .i64 b.core, .int .i64 b.land, .int .i64 b.slow, .int .i64 b.fast] 23) = W := ⟨_, rfl⟩
      have hb : Below w4.heap.size w4 w5 := by rw [← hWA]; exact below_a _ _
      have ka : Blk w5 w4.heap.size 23 #[.int .i64 b.per, .int .i64 b.rim, .int .i64 b.core, .int .i64 b.land, .int .i64 b.slow, .int .i64 b.fast] := by rw [← hWA]; exact Blk.new _ _ _
      rw [hWA]
      obtain ⟨gA, hg⟩ : ∃ g, w4.heap.size = g := ⟨_, rfl⟩
      have HGA : Hid (w.heap.size + 1 < gA) := Lib.hid (by rw [← hg]; exact HV5.out.lt)
      rw [hg] at ka ⊢
      have HKA := Lib.hid ka
      clear hWA ka
      rw [hg] at hb
      rw [hg] at HO
      clear hg
      replace HK := Lib.hid (HK.out.below hb (by have := HGA.out; omega))
      replace HV5 := Lib.hid (HV5.out.below hb (by have := HGA.out; omega))
      replace HO := Lib.hid (HO.out.below hb (by have := HGA.out; omega))
      replace HB := Lib.hid (HB.out.trans (hb.mono (by have := HGA.out; omega)))
      clear hb
      clear c0 c1 c2 c3 c4 c5 d0 d1 d2 d3 d4
      obtain ⟨c0, c1, c2, c3, c4, c5⟩ := HK.out.six
      obtain ⟨d0, d1, d2, d3, d4⟩ := HV5.out.five
      obtain ⟨a0, a1, a2, a3, a4, a5⟩ := HKA.out.six
      have aF1 := HKA.out.frozen 1
      have aF2 := HKA.out.frozen 2
      have aF3 := HKA.out.frozen 3
      have aF4 := HKA.out.frozen 4
      have aF5 := HKA.out.frozen 5
      go_upto_region 6 with fail
      clear hfar
      go_upto_region 7 with fail
      obtain ⟨w6, hWA⟩ : ∃ W, w5.setCell ⟨gA, 1, none⟩ (.int .i64 (b.rim + far)) = W := ⟨_, rfl⟩
      have hb : Below gA w5 w6 := by rw [← hWA]; exact (Below.refl _ _).setCell (p := ⟨gA, 1, none⟩) (Nat.le_refl _) _
      have ka : Blk w6 gA 23 #[.int .i64 b.per, .int .i64 (b.rim + far), .int .i64 b.core, .int .i64 b.land, .int .i64 b.slow, .int .i64 b.fast] := by rw [← hWA]; exact (HKA.out.set_ 1 _).cast rfl
      rw [hWA]
      replace HKA := Lib.hid ka
      clear hWA ka
      replace HK := Lib.hid (HK.out.below hb (by have := HGA.out; omega))
      replace HV5 := Lib.hid (HV5.out.below hb (by have := HGA.out; omega))
      replace HO := Lib.hid (HO.out.below hb (Nat.le_refl _))
      replace HB := Lib.hid (HB.out.trans (hb.mono (by have := HGA.out; omega)))
      clear hb
      clear c0 c1 c2 c3 c4 c5 d0 d1 d2 d3 d4 a0 a1 a2 a3 a4 a5 aF1 aF2 aF3 aF4 aF5
      obtain ⟨c0, c1, c2, c3, c4, c5⟩ := HK.out.six
      obtain ⟨d0, d1, d2, d3, d4⟩ := HV5.out.five
      obtain ⟨a0, a1, a2, a3, a4, a5⟩ := HKA.out.six
      have aF1 := HKA.out.frozen 1
      have aF2 := HKA.out.frozen 2
      have aF3 := HKA.out.frozen 3
      have aF4 := HKA.out.frozen 4
      have aF5 := HKA.out.frozen 5
      go_upto_region 8 with fail
      obtain ⟨w7, hWA⟩ : ∃ W, w6.setCell ⟨gA, 2, none⟩ (.int .i64 (b.core + far)) = W := ⟨_, rfl⟩
      have hb : Below gA w6 w7 := by rw [← hWA]; exact (Below.refl _ _).setCell (p := ⟨gA, 2, none⟩) (Nat.le_refl _) _
      have ka : Blk w7 gA 23 #[.int .i64 b.per, .int .i64 (b.rim + far), .int .i64 (b.core + far), .int .i64 b.land, .int .i64 b.slow, .int .i64 b.fast] := by rw [← hWA]; exact (HKA.out.set_ 2 _).cast rfl
      rw [hWA]
      replace HKA := Lib.hid ka
      clear hWA ka
      replace HK := Lib.hid (HK.out.below hb (by have := HGA.out; omega))
      replace HV5 := Lib.hid (HV5.out.below hb (by have := HGA.out; omega))
      replace HO := Lib.hid (HO.out.below hb (Nat.le_refl _))
      replace HB := Lib.hid (HB.out.trans (hb.mono (by have := HGA.out; omega)))
      clear hb
      clear c0 c1 c2 c3 c4 c5 d0 d1 d2 d3 d4 a0 a1 a2 a3 a4 a5 aF1 aF2 aF3 aF4 aF5
      obtain ⟨c0, c1, c2, c3, c4, c5⟩ := HK.out.six
      obtain ⟨d0, d1, d2, d3, d4⟩ := HV5.out.five
      obtain ⟨a0, a1, a2, a3, a4, a5⟩ := HKA.out.six
      have aF1 := HKA.out.frozen 1
      have aF2 := HKA.out.frozen 2
      have aF3 := HKA.out.frozen 3
      have aF4 := HKA.out.frozen 4
      have aF5 := HKA.out.frozen 5
      go_wp2_with fail
      have CALL := Outermost_any w.heap.size A n c (mvB b far) P w7 (HP.out.below HB.out (Nat.le_refl _)) HB.out.size hl
      refine CALL.mono ?_
      rintro e w8 ⟨v, EY, rfl, hEY, ho, hb⟩
      clear CALL
      rw [HSM.out.2, List.length_nil] at ho
      rw [HSM.out.1] at hEY
      subst hEY
      obtain ⟨AY, kY, rfl, hO⟩ := li_own ho
      have HY := Lib.hid hO
      clear ho hO
      replace HK := Lib.hid (HK.out.below hb HK.out.lt)
      replace HV5 := Lib.hid (HV5.out.below hb HV5.out.lt)
      replace HO := Lib.hid (HO.out.below hb (by have := HKA.out.lt; omega))
      replace HKA := Lib.hid (HKA.out.below hb HKA.out.lt)
      replace HB := Lib.hid (HB.out.trans (hb.mono HB.out.size))
      clear hb
      clear c0 c1 c2 c3 c4 c5 d0 d1 d2 d3 d4 a0 a1 a2 a3 a4 a5 aF1 aF2 aF3 aF4 aF5
      obtain ⟨c0, c1, c2, c3, c4, c5⟩ := HK.out.six
      obtain ⟨d0, d1, d2, d3, d4⟩ := HV5.out.five
      obtain ⟨a0, a1, a2, a3, a4, a5⟩ := HKA.out.six
      have aF1 := HKA.out.frozen 1
      have aF2 := HKA.out.frozen 2
      have aF3 := HKA.out.frozen 3
      have aF4 := HKA.out.frozen 4
      have aF5 := HKA.out.frozen 5
      go_wp2_with fail
      go_loopw [15] (fun z wr => ∃ i : Nat, i ≤ 0 ∧ z = .int .i64 i ∧ Hid (Below w8.heap.size w8 wr)) (fun z _ => 0 - (intOf z).toNat)
      case atStart => exact ⟨0, Nat.zero_le _, rfl, Lib.hid (Below.refl _ _)⟩
      case round =>
        obtain ⟨i, hi, rfl, HB2⟩ := hrel
        obtain rfl : i = 0 := by omega
        have hb := HB2.out
        clear HB2 HY
        replace HK := Lib.hid (HK.out.below hb HK.out.lt)
        replace HV5 := Lib.hid (HV5.out.below hb HV5.out.lt)
        replace HO := Lib.hid (HO.out.below hb (by have := HKA.out.lt; omega))
        replace HKA := Lib.hid (HKA.out.below hb HKA.out.lt)
        replace HB := Lib.hid (HB.out.trans (hb.mono HB.out.size))
        clear hb
        clear c0 c1 c2 c3 c4 c5 d0 d1 d2 d3 d4 a0 a1 a2 a3 a4 a5 aF1 aF2 aF3 aF4 aF5
        obtain ⟨c0, c1, c2, c3, c4, c5⟩ := HK.out.six
        obtain ⟨d0, d1, d2, d3, d4⟩ := HV5.out.five
        obtain ⟨a0, a1, a2, a3, a4, a5⟩ := HKA.out.six
        have aF1 := HKA.out.frozen 1
        have aF2 := HKA.out.frozen 2
        have aF3 := HKA.out.frozen 3
        have aF4 := HKA.out.frozen 4
        have aF5 := HKA.out.frozen 5
        go_upto_region 17 with fail
        obtain ⟨w9, hWA⟩ : ∃ W, wr.alloc (.cells #[.int .i64 b.per, .int .i64 b.rim, .int .i64 b.core, .int .i64 b.land, .int .i64 b.slow, .int .i64 b.fast] 23) = W := ⟨_, rfl⟩
        have hb : Below wr.heap.size wr w9 := by rw [← hWA]; exact below_a _ _
        have ka : Blk w9 wr.heap.size 23 #[.int .i64 b.per, .int .i64 b.rim, .int .i64 b.core, .int .i64 b.land, .int .i64 b.slow, .int .i64 b.fast] := by rw [← hWA]; exact Blk.new _ _ _
        rw [hWA]
        obtain ⟨gM, hg⟩ : ∃ g, wr.heap.size = g := ⟨_, rfl⟩
        have HGM : Hid (w.heap.size + 1 < gM ∧ gA < gM) := Lib.hid (by rw [← hg]; exact ⟨HV5.out.lt, HKA.out.lt⟩)
        rw [hg] at ka ⊢
        have HKM := Lib.hid ka
        clear hWA ka
        rw [hg] at hb
        clear hg
        replace HK := Lib.hid (HK.out.below hb (by have := HGM.out; omega))
        replace HV5 := Lib.hid (HV5.out.below hb (by have := HGM.out; omega))
        replace HKA := Lib.hid (HKA.out.below hb (by have := HGM.out; omega))
        replace HO := Lib.hid (HO.out.below hb (by have := HGM.out; omega))
        replace HB := Lib.hid (HB.out.trans (hb.mono (by have := HGM.out; omega)))
        clear hb
        clear c0 c1 c2 c3 c4 c5 d0 d1 d2 d3 d4 a0 a1 a2 a3 a4 a5 aF1 aF2 aF3 aF4 aF5
        obtain ⟨c0, c1, c2, c3, c4, c5⟩ := HK.out.six
        obtain ⟨d0, d1, d2, d3, d4⟩ := HV5.out.five
        obtain ⟨a0, a1, a2, a3, a4, a5⟩ := HKA.out.six
        have aF1 := HKA.out.frozen 1
        have aF2 := HKA.out.frozen 2
        have aF3 := HKA.out.frozen 3
        have aF4 := HKA.out.frozen 4
        have aF5 := HKA.out.frozen 5
        obtain ⟨e0, e1, e2, e3, e4, e5⟩ := HKM.out.six
        have eF1 := HKM.out.frozen 1
        have eF2 := HKM.out.frozen 2
        have eF3 := HKM.out.frozen 3
        have eF4 := HKM.out.frozen 4
        have eF5 := HKM.out.frozen 5
        go_upto_region 18 with fail
        obtain ⟨w10, hWA⟩ : ∃ W, w9.setCell ⟨gM, 1, none⟩ (.int .i64 rm) = W := ⟨_, rfl⟩
        have hb : Below gM w9 w10 := by rw [← hWA]; exact (Below.refl _ _).setCell (p := ⟨gM, 1, none⟩) (Nat.le_refl _) _
        have ka : Blk w10 gM 23 #[.int .i64 b.per, .int .i64 rm, .int .i64 b.core, .int .i64 b.land, .int .i64 b.slow, .int .i64 b.fast] := by rw [← hWA]; exact (HKM.out.set_ 1 _).cast rfl
        rw [hWA]
        replace HKM := Lib.hid ka
        clear hWA ka
        replace HK := Lib.hid (HK.out.below hb (by have := HGM.out; omega))
        replace HV5 := Lib.hid (HV5.out.below hb (by have := HGM.out; omega))
        replace HO := Lib.hid (HO.out.below hb (by have := HGM.out; omega))
        replace HKA := Lib.hid (HKA.out.below hb (by have := HGM.out; omega))
        replace HB := Lib.hid (HB.out.trans (hb.mono (by have := HGM.out; omega)))
        clear hb
        clear c0 c1 c2 c3 c4 c5 d0 d1 d2 d3 d4 a0 a1 a2 a3 a4 a5 aF1 aF2 aF3 aF4 aF5 e0 e1 e2 e3 e4 e5 eF1 eF2 eF3 eF4 eF5
        obtain ⟨c0, c1, c2, c3, c4, c5⟩ := HK.out.six
        obtain ⟨d0, d1, d2, d3, d4⟩ := HV5.out.five
        obtain ⟨a0, a1, a2, a3, a4, a5⟩ := HKA.out.six
        have aF1 := HKA.out.frozen 1
        have aF2 := HKA.out.frozen 2
        have aF3 := HKA.out.frozen 3
        have aF4 := HKA.out.frozen 4
        have aF5 := HKA.out.frozen 5
        obtain ⟨e0, e1, e2, e3, e4, e5⟩ := HKM.out.six
        have eF1 := HKM.out.frozen 1
        have eF2 := HKM.out.frozen 2
        have eF3 := HKM.out.frozen 3
        have eF4 := HKM.out.frozen 4
        have eF5 := HKM.out.frozen 5
        go_upto_region 19 with fail
        obtain ⟨w11, hWA⟩ : ∃ W, w10.setCell ⟨gM, 2, none⟩ (.int .i64 co) = W := ⟨_, rfl⟩
        have hb : Below gM w10 w11 := by rw [← hWA]; exact (Below.refl _ _).setCell (p := ⟨gM, 2, none⟩) (Nat.le_refl _) _
        have ka : Blk w11 gM 23 #[.int .i64 b.per, .int .i64 rm, .int .i64 co, .int .i64 b.land, .int .i64 b.slow, .int .i64 b.fast] := by rw [← hWA]; exact (HKM.out.set_ 2 _).cast rfl
        rw [hWA]
        replace HKM := Lib.hid ka
        clear hWA ka
        replace HK := Lib.hid (HK.out.below hb (by have := HGM.out; omega))
        replace HV5 := Lib.hid (HV5.out.below hb (by have := HGM.out; omega))
        replace HO := Lib.hid (HO.out.below hb (by have := HGM.out; omega))
        replace HKA := Lib.hid (HKA.out.below hb (by have := HGM.out; omega))
        replace HB := Lib.hid (HB.out.trans (hb.mono (by have := HGM.out; omega)))
        clear hb
        clear c0 c1 c2 c3 c4 c5 d0 d1 d2 d3 d4 a0 a1 a2 a3 a4 a5 aF1 aF2 aF3 aF4 aF5 e0 e1 e2 e3 e4 e5 eF1 eF2 eF3 eF4 eF5
        obtain ⟨c0, c1, c2, c3, c4, c5⟩ := HK.out.six
        obtain ⟨d0, d1, d2, d3, d4⟩ := HV5.out.five
        obtain ⟨a0, a1, a2, a3, a4, a5⟩ := HKA.out.six
        have aF1 := HKA.out.frozen 1
        have aF2 := HKA.out.frozen 2
        have aF3 := HKA.out.frozen 3
        have aF4 := HKA.out.frozen 4
        have aF5 := HKA.out.frozen 5
        obtain ⟨e0, e1, e2, e3, e4, e5⟩ := HKM.out.six
        have eF1 := HKM.out.frozen 1
        have eF2 := HKM.out.frozen 2
        have eF3 := HKM.out.frozen 3
        have eF4 := HKM.out.frozen 4
        have eF5 := HKM.out.frozen 5
        go_upto_region 20 with fail
        obtain ⟨w12, hWA⟩ : ∃ W, w11.setCell ⟨gM, 3, none⟩ (.int .i64 la) = W := ⟨_, rfl⟩
        have hb : Below gM w11 w12 := by rw [← hWA]; exact (Below.refl _ _).setCell (p := ⟨gM, 3, none⟩) (Nat.le_refl _) _
        have ka : Blk w12 gM 23 #[.int .i64 b.per, .int .i64 rm, .int .i64 co, .int .i64 la, .int .i64 b.slow, .int .i64 b.fast] := by rw [← hWA]; exact (HKM.out.set_ 3 _).cast rfl
        rw [hWA]
        replace HKM := Lib.hid ka
        clear hWA ka
        replace HK := Lib.hid (HK.out.below hb (by have := HGM.out; omega))
        replace HV5 := Lib.hid (HV5.out.below hb (by have := HGM.out; omega))
        replace HO := Lib.hid (HO.out.below hb (by have := HGM.out; omega))
        replace HKA := Lib.hid (HKA.out.below hb (by have := HGM.out; omega))
        replace HB := Lib.hid (HB.out.trans (hb.mono (by have := HGM.out; omega)))
        clear hb
        clear c0 c1 c2 c3 c4 c5 d0 d1 d2 d3 d4 a0 a1 a2 a3 a4 a5 aF1 aF2 aF3 aF4 aF5 e0 e1 e2 e3 e4 e5 eF1 eF2 eF3 eF4 eF5
        obtain ⟨c0, c1, c2, c3, c4, c5⟩ := HK.out.six
        obtain ⟨d0, d1, d2, d3, d4⟩ := HV5.out.five
        obtain ⟨a0, a1, a2, a3, a4, a5⟩ := HKA.out.six
        have aF1 := HKA.out.frozen 1
        have aF2 := HKA.out.frozen 2
        have aF3 := HKA.out.frozen 3
        have aF4 := HKA.out.frozen 4
        have aF5 := HKA.out.frozen 5
        obtain ⟨e0, e1, e2, e3, e4, e5⟩ := HKM.out.six
        have eF1 := HKM.out.frozen 1
        have eF2 := HKM.out.frozen 2
        have eF3 := HKM.out.frozen 3
        have eF4 := HKM.out.frozen 4
        have eF5 := HKM.out.frozen 5
        go_upto_region 21 with fail
        obtain ⟨w13, hWA⟩ : ∃ W, w12.setCell ⟨gM, 4, none⟩ (.int .i64 sl) = W := ⟨_, rfl⟩
        have hb : Below gM w12 w13 := by rw [← hWA]; exact (Below.refl _ _).setCell (p := ⟨gM, 4, none⟩) (Nat.le_refl _) _
        have ka : Blk w13 gM 23 #[.int .i64 b.per, .int .i64 rm, .int .i64 co, .int .i64 la, .int .i64 sl, .int .i64 b.fast] := by rw [← hWA]; exact (HKM.out.set_ 4 _).cast rfl
        rw [hWA]
        replace HKM := Lib.hid ka
        clear hWA ka
        replace HK := Lib.hid (HK.out.below hb (by have := HGM.out; omega))
        replace HV5 := Lib.hid (HV5.out.below hb (by have := HGM.out; omega))
        replace HO := Lib.hid (HO.out.below hb (by have := HGM.out; omega))
        replace HKA := Lib.hid (HKA.out.below hb (by have := HGM.out; omega))
        replace HB := Lib.hid (HB.out.trans (hb.mono (by have := HGM.out; omega)))
        clear hb
        clear c0 c1 c2 c3 c4 c5 d0 d1 d2 d3 d4 a0 a1 a2 a3 a4 a5 aF1 aF2 aF3 aF4 aF5 e0 e1 e2 e3 e4 e5 eF1 eF2 eF3 eF4 eF5
        obtain ⟨c0, c1, c2, c3, c4, c5⟩ := HK.out.six
        obtain ⟨d0, d1, d2, d3, d4⟩ := HV5.out.five
        obtain ⟨a0, a1, a2, a3, a4, a5⟩ := HKA.out.six
        have aF1 := HKA.out.frozen 1
        have aF2 := HKA.out.frozen 2
        have aF3 := HKA.out.frozen 3
        have aF4 := HKA.out.frozen 4
        have aF5 := HKA.out.frozen 5
        obtain ⟨e0, e1, e2, e3, e4, e5⟩ := HKM.out.six
        have eF1 := HKM.out.frozen 1
        have eF2 := HKM.out.frozen 2
        have eF3 := HKM.out.frozen 3
        have eF4 := HKM.out.frozen 4
        have eF5 := HKM.out.frozen 5
        go_upto_region 22 with fail
        obtain ⟨w14, hWA⟩ : ∃ W, w13.setCell ⟨gM, 5, none⟩ (.int .i64 fa) = W := ⟨_, rfl⟩
        have hb : Below gM w13 w14 := by rw [← hWA]; exact (Below.refl _ _).setCell (p := ⟨gM, 5, none⟩) (Nat.le_refl _) _
        have ka : Blk w14 gM 23 #[.int .i64 b.per, .int .i64 rm, .int .i64 co, .int .i64 la, .int .i64 sl, .int .i64 fa] := by rw [← hWA]; exact (HKM.out.set_ 5 _).cast rfl
        rw [hWA]
        replace HKM := Lib.hid ka
        clear hWA ka
        replace HK := Lib.hid (HK.out.below hb (by have := HGM.out; omega))
        replace HV5 := Lib.hid (HV5.out.below hb (by have := HGM.out; omega))
        replace HO := Lib.hid (HO.out.below hb (by have := HGM.out; omega))
        replace HKA := Lib.hid (HKA.out.below hb (by have := HGM.out; omega))
        replace HB := Lib.hid (HB.out.trans (hb.mono (by have := HGM.out; omega)))
        clear hb
        clear c0 c1 c2 c3 c4 c5 d0 d1 d2 d3 d4 a0 a1 a2 a3 a4 a5 aF1 aF2 aF3 aF4 aF5 e0 e1 e2 e3 e4 e5 eF1 eF2 eF3 eF4 eF5
        obtain ⟨c0, c1, c2, c3, c4, c5⟩ := HK.out.six
        obtain ⟨d0, d1, d2, d3, d4⟩ := HV5.out.five
        obtain ⟨a0, a1, a2, a3, a4, a5⟩ := HKA.out.six
        have aF1 := HKA.out.frozen 1
        have aF2 := HKA.out.frozen 2
        have aF3 := HKA.out.frozen 3
        have aF4 := HKA.out.frozen 4
        have aF5 := HKA.out.frozen 5
        obtain ⟨e0, e1, e2, e3, e4, e5⟩ := HKM.out.six
        have eF1 := HKM.out.frozen 1
        have eF2 := HKM.out.frozen 2
        have eF3 := HKM.out.frozen 3
        have eF4 := HKM.out.frozen 4
        have eF5 := HKM.out.frozen 5
        go_wp2_with fail
        have CALL := Outermost_any w.heap.size A n c ⟨b.per, rm, co, la, sl, fa⟩ P w14 (HP.out.below HB.out (Nat.le_refl _)) HB.out.size hl
        refine CALL.mono ?_
        rintro e w15 ⟨v, EZ, rfl, hEZ, ho, hb⟩
        clear CALL
        obtain ⟨AZ, kZ, rfl, hO⟩ := li_own ho
        have HZ := Lib.hid hO
        clear ho hO
        replace HK := Lib.hid (HK.out.below hb HK.out.lt)
        replace HV5 := Lib.hid (HV5.out.below hb HV5.out.lt)
        replace HO := Lib.hid (HO.out.below hb (by have := HKA.out.lt; omega))
        replace HKA := Lib.hid (HKA.out.below hb HKA.out.lt)
        replace HKM := Lib.hid (HKM.out.below hb HKM.out.lt)
        replace HB := Lib.hid (HB.out.trans (hb.mono HB.out.size))
        clear hb
        clear c0 c1 c2 c3 c4 c5 d0 d1 d2 d3 d4 a0 a1 a2 a3 a4 a5 aF1 aF2 aF3 aF4 aF5 e0 e1 e2 e3 e4 e5 eF1 eF2 eF3 eF4 eF5
        obtain ⟨c0, c1, c2, c3, c4, c5⟩ := HK.out.six
        obtain ⟨d0, d1, d2, d3, d4⟩ := HV5.out.five
        obtain ⟨a0, a1, a2, a3, a4, a5⟩ := HKA.out.six
        have aF1 := HKA.out.frozen 1
        have aF2 := HKA.out.frozen 2
        have aF3 := HKA.out.frozen 3
        have aF4 := HKA.out.frozen 4
        have aF5 := HKA.out.frozen 5
        obtain ⟨e0, e1, e2, e3, e4, e5⟩ := HKM.out.six
        have eF1 := HKM.out.frozen 1
        have eF2 := HKM.out.frozen 2
        have eF3 := HKM.out.frozen 3
        have eF4 := HKM.out.frozen 4
        have eF5 := HKM.out.frozen 5
        clear hEZ
        go_wp2_with fail
        refine (works5_any _).mono ?_
        rintro e w16 ⟨rfl, hb⟩
        replace HB := Lib.hid (HB.out.trans (hb.mono HB.out.size))
        clear hb
        go_wp2
        go_ret
        exact ⟨rfl, HB.out⟩
    | some X =>
      have HS := Lib.hid (outE_some hv hs)
      have HT := Lib.hid (top_of hv hs)
      have HSM := Lib.hid (outE_some HVM.out (sol_mv HVE.out.2.1 HBM.out hs))
      have HMP : Hid ((X.map (· + far)).length = P.length ∧ ∀ i, i < P.length → fx (X.map (· + far)) i = fx X i + far) := Lib.hid ⟨by rw [List.length_map]; exact HT.out.len, fun i hi => fx_map (by rw [HT.out.len]; exact hi)⟩
      obtain ⟨Z, hZ, hZl, hZu⟩ := sol_mild HVE.out.2.1 HBI.out HMI.out hs
      have HSZ := Lib.hid (outE_some HVI.out hZ)
      have HZL := Lib.hid hZl
      have HZU := Lib.hid hZu
      clear hv hs hZ hZl hZu
      go_wp2_with fail
      have CALL := valid5_any w.heap.size A n c b P w0 (HP.out.below HB.out (Nat.le_refl _)) HB.out.size hl
      refine CALL.mono ?_
      rintro e w17 ⟨rfl, hb⟩
      clear CALL
      replace HK := Lib.hid (HK.out.below hb HK.out.lt)
      replace HV5 := Lib.hid (HV5.out.below hb HV5.out.lt)
      replace HB := Lib.hid (HB.out.trans (hb.mono HB.out.size))
      clear hb
      clear c0 c1 c2 c3 c4 c5 d0 d1 d2 d3 d4
      obtain ⟨c0, c1, c2, c3, c4, c5⟩ := HK.out.six
      obtain ⟨d0, d1, d2, d3, d4⟩ := HV5.out.five
      rw [HV.out]
      go_wp2_with fail
      have CALL := Outermost_any w.heap.size A n c b P w17 (HP.out.below HB.out (Nat.le_refl _)) HB.out.size hl
      refine CALL.mono ?_
      rintro e w18 ⟨v, EO, rfl, hEO, ho, hb⟩
      clear CALL
      rw [HS.out.2, HT.out.len, ← HN.out] at ho
      rw [HS.out.1] at hEO
      subst hEO
      obtain ⟨AO, kO, rfl, hO⟩ := li_own ho
      have HO := Lib.hid hO
      clear ho hO
      replace HK := Lib.hid (HK.out.below hb HK.out.lt)
      replace HV5 := Lib.hid (HV5.out.below hb HV5.out.lt)
      replace HB := Lib.hid (HB.out.trans (hb.mono HB.out.size))
      clear hb
      clear c0 c1 c2 c3 c4 c5 d0 d1 d2 d3 d4
      obtain ⟨c0, c1, c2, c3, c4, c5⟩ := HK.out.six
      obtain ⟨d0, d1, d2, d3, d4⟩ := HV5.out.five
      go_upto_region 5 with fail
      obtain ⟨w19, hWA⟩ : ∃ W, w18.alloc (.cells #[.int .i64 b.per, .int .i64 b.rim, .int .i64 b.core, .int .i64 b.land, .int .i64 b.slow, .int .i64 b.fast] 23) = W := ⟨_, rfl⟩
      have hb : Below w18.heap.size w18 w19 := by rw [← hWA]; exact below_a _ _
      have ka : Blk w19 w18.heap.size 23 #[.int .i64 b.per, .int .i64 b.rim, .int .i64 b.core, .int .i64 b.land, .int .i64 b.slow, .int .i64 b.fast] := by rw [← hWA]; exact Blk.new _ _ _
      rw [hWA]
      obtain ⟨gA, hg⟩ : ∃ g, w18.heap.size = g := ⟨_, rfl⟩
      have HGA : Hid (w.heap.size + 1 < gA) := Lib.hid (by rw [← hg]; exact HV5.out.lt)
      rw [hg] at ka ⊢
      have HKA := Lib.hid ka
      clear hWA ka
      rw [hg] at hb
      rw [hg] at HO
      clear hg
      replace HK := Lib.hid (HK.out.below hb (by have := HGA.out; omega))
      replace HV5 := Lib.hid (HV5.out.below hb (by have := HGA.out; omega))
      replace HO := Lib.hid (HO.out.below hb (by have := HGA.out; omega))
      replace HB := Lib.hid (HB.out.trans (hb.mono (by have := HGA.out; omega)))
      clear hb
      clear c0 c1 c2 c3 c4 c5 d0 d1 d2 d3 d4
      obtain ⟨c0, c1, c2, c3, c4, c5⟩ := HK.out.six
      obtain ⟨d0, d1, d2, d3, d4⟩ := HV5.out.five
      obtain ⟨a0, a1, a2, a3, a4, a5⟩ := HKA.out.six
      have aF1 := HKA.out.frozen 1
      have aF2 := HKA.out.frozen 2
      have aF3 := HKA.out.frozen 3
      have aF4 := HKA.out.frozen 4
      have aF5 := HKA.out.frozen 5
      go_upto_region 6 with fail
      clear hfar
      go_upto_region 7 with fail
      obtain ⟨w20, hWA⟩ : ∃ W, w19.setCell ⟨gA, 1, none⟩ (.int .i64 (b.rim + far)) = W := ⟨_, rfl⟩
      have hb : Below gA w19 w20 := by rw [← hWA]; exact (Below.refl _ _).setCell (p := ⟨gA, 1, none⟩) (Nat.le_refl _) _
      have ka : Blk w20 gA 23 #[.int .i64 b.per, .int .i64 (b.rim + far), .int .i64 b.core, .int .i64 b.land, .int .i64 b.slow, .int .i64 b.fast] := by rw [← hWA]; exact (HKA.out.set_ 1 _).cast rfl
      rw [hWA]
      replace HKA := Lib.hid ka
      clear hWA ka
      replace HK := Lib.hid (HK.out.below hb (by have := HGA.out; omega))
      replace HV5 := Lib.hid (HV5.out.below hb (by have := HGA.out; omega))
      replace HO := Lib.hid (HO.out.below hb (Nat.le_refl _))
      replace HB := Lib.hid (HB.out.trans (hb.mono (by have := HGA.out; omega)))
      clear hb
      clear c0 c1 c2 c3 c4 c5 d0 d1 d2 d3 d4 a0 a1 a2 a3 a4 a5 aF1 aF2 aF3 aF4 aF5
      obtain ⟨c0, c1, c2, c3, c4, c5⟩ := HK.out.six
      obtain ⟨d0, d1, d2, d3, d4⟩ := HV5.out.five
      obtain ⟨a0, a1, a2, a3, a4, a5⟩ := HKA.out.six
      have aF1 := HKA.out.frozen 1
      have aF2 := HKA.out.frozen 2
      have aF3 := HKA.out.frozen 3
      have aF4 := HKA.out.frozen 4
      have aF5 := HKA.out.frozen 5
      go_upto_region 8 with fail
      obtain ⟨w21, hWA⟩ : ∃ W, w20.setCell ⟨gA, 2, none⟩ (.int .i64 (b.core + far)) = W := ⟨_, rfl⟩
      have hb : Below gA w20 w21 := by rw [← hWA]; exact (Below.refl _ _).setCell (p := ⟨gA, 2, none⟩) (Nat.le_refl _) _
      have ka : Blk w21 gA 23 #[.int .i64 b.per, .int .i64 (b.rim + far), .int .i64 (b.core + far), .int .i64 b.land, .int .i64 b.slow, .int .i64 b.fast] := by rw [← hWA]; exact (HKA.out.set_ 2 _).cast rfl
      rw [hWA]
      replace HKA := Lib.hid ka
      clear hWA ka
      replace HK := Lib.hid (HK.out.below hb (by have := HGA.out; omega))
      replace HV5 := Lib.hid (HV5.out.below hb (by have := HGA.out; omega))
      replace HO := Lib.hid (HO.out.below hb (Nat.le_refl _))
      replace HB := Lib.hid (HB.out.trans (hb.mono (by have := HGA.out; omega)))
      clear hb
      clear c0 c1 c2 c3 c4 c5 d0 d1 d2 d3 d4 a0 a1 a2 a3 a4 a5 aF1 aF2 aF3 aF4 aF5
      obtain ⟨c0, c1, c2, c3, c4, c5⟩ := HK.out.six
      obtain ⟨d0, d1, d2, d3, d4⟩ := HV5.out.five
      obtain ⟨a0, a1, a2, a3, a4, a5⟩ := HKA.out.six
      have aF1 := HKA.out.frozen 1
      have aF2 := HKA.out.frozen 2
      have aF3 := HKA.out.frozen 3
      have aF4 := HKA.out.frozen 4
      have aF5 := HKA.out.frozen 5
      go_wp2_with fail
      have CALL := Outermost_any w.heap.size A n c (mvB b far) P w21 (HP.out.below HB.out (Nat.le_refl _)) HB.out.size hl
      refine CALL.mono ?_
      rintro e w22 ⟨v, EY, rfl, hEY, ho, hb⟩
      clear CALL
      rw [HSM.out.2, HMP.out.1, ← HN.out] at ho
      rw [HSM.out.1] at hEY
      subst hEY
      obtain ⟨AY, kY, rfl, hO⟩ := li_own ho
      have HY := Lib.hid hO
      clear ho hO
      replace HK := Lib.hid (HK.out.below hb HK.out.lt)
      replace HV5 := Lib.hid (HV5.out.below hb HV5.out.lt)
      replace HO := Lib.hid (HO.out.below hb (by have := HKA.out.lt; omega))
      replace HKA := Lib.hid (HKA.out.below hb HKA.out.lt)
      replace HB := Lib.hid (HB.out.trans (hb.mono HB.out.size))
      clear hb
      clear c0 c1 c2 c3 c4 c5 d0 d1 d2 d3 d4 a0 a1 a2 a3 a4 a5 aF1 aF2 aF3 aF4 aF5
      obtain ⟨c0, c1, c2, c3, c4, c5⟩ := HK.out.six
      obtain ⟨d0, d1, d2, d3, d4⟩ := HV5.out.five
      obtain ⟨a0, a1, a2, a3, a4, a5⟩ := HKA.out.six
      have aF1 := HKA.out.frozen 1
      have aF2 := HKA.out.frozen 2
      have aF3 := HKA.out.frozen 3
      have aF4 := HKA.out.frozen 4
      have aF5 := HKA.out.frozen 5
      go_wp2_with fail
      go_loopw [15] (fun z wr => ∃ i : Nat, i ≤ n ∧ z = .int .i64 i ∧ Hid (Below w22.heap.size w22 wr)) (fun z _ => n - (intOf z).toNat)
      case atStart => exact ⟨0, Nat.zero_le _, rfl, Lib.hid (Below.refl _ _)⟩
      case round =>
        obtain ⟨i, hi, rfl, HB2⟩ := hrel
        by_cases hlt : i < n
        · obtain ⟨ad, hA, -, g1⟩ := (HO.out.below HB2.out (by have := HKA.out.lt; omega)).fx hlt
          obtain ⟨ad', hA', -, g2⟩ := (HY.out.below HB2.out (Nat.le_refl _)).fx hlt
          subst hA hA'
          have hu := HMP.out.2 i (by rw [← HN.out]; exact hlt)
          have hx8 := top_bd HVE.out.2.1 HVE.out.2.2.1 HT.out.keeps HT.out.cores (i := i) (by rw [← HN.out]; exact hlt)
          obtain ⟨x, hx⟩ : ∃ x, fx X i = x := ⟨_, rfl⟩
          rw [hu] at g2
          rw [hx] at g1 g2 hx8
          clear hx hu
          obtain ⟨hx9, hx10⟩ := hx8
          have e1 : IntKind.i64.wrap (x + far) = x + far := IntWalk.i64_in _ (by omega)
          go_wp2_with fail
          go_quiet (fail)
          go_wp2_with fail
          go_roundw
          case rel => exact ⟨i + 1, by omega, by go_num, Lib.hid (below_drewN_ HB2.out _)⟩
          case measure => simp [intOf]; omega
        · obtain rfl : n = i := by omega
          have hb := HB2.out
          clear HB2 HY
          replace HK := Lib.hid (HK.out.below hb HK.out.lt)
          replace HV5 := Lib.hid (HV5.out.below hb HV5.out.lt)
          replace HO := Lib.hid (HO.out.below hb (by have := HKA.out.lt; omega))
          replace HKA := Lib.hid (HKA.out.below hb HKA.out.lt)
          replace HB := Lib.hid (HB.out.trans (hb.mono HB.out.size))
          clear hb
          clear c0 c1 c2 c3 c4 c5 d0 d1 d2 d3 d4 a0 a1 a2 a3 a4 a5 aF1 aF2 aF3 aF4 aF5
          obtain ⟨c0, c1, c2, c3, c4, c5⟩ := HK.out.six
          obtain ⟨d0, d1, d2, d3, d4⟩ := HV5.out.five
          obtain ⟨a0, a1, a2, a3, a4, a5⟩ := HKA.out.six
          have aF1 := HKA.out.frozen 1
          have aF2 := HKA.out.frozen 2
          have aF3 := HKA.out.frozen 3
          have aF4 := HKA.out.frozen 4
          have aF5 := HKA.out.frozen 5
          go_upto_region 17 with fail
          obtain ⟨w23, hWA⟩ : ∃ W, wr.alloc (.cells #[.int .i64 b.per, .int .i64 b.rim, .int .i64 b.core, .int .i64 b.land, .int .i64 b.slow, .int .i64 b.fast] 23) = W := ⟨_, rfl⟩
          have hb : Below wr.heap.size wr w23 := by rw [← hWA]; exact below_a _ _
          have ka : Blk w23 wr.heap.size 23 #[.int .i64 b.per, .int .i64 b.rim, .int .i64 b.core, .int .i64 b.land, .int .i64 b.slow, .int .i64 b.fast] := by rw [← hWA]; exact Blk.new _ _ _
          rw [hWA]
          obtain ⟨gM, hg⟩ : ∃ g, wr.heap.size = g := ⟨_, rfl⟩
          have HGM : Hid (w.heap.size + 1 < gM ∧ gA < gM) := Lib.hid (by rw [← hg]; exact ⟨HV5.out.lt, HKA.out.lt⟩)
          rw [hg] at ka ⊢
          have HKM := Lib.hid ka
          clear hWA ka
          rw [hg] at hb
          clear hg
          replace HK := Lib.hid (HK.out.below hb (by have := HGM.out; omega))
          replace HV5 := Lib.hid (HV5.out.below hb (by have := HGM.out; omega))
          replace HKA := Lib.hid (HKA.out.below hb (by have := HGM.out; omega))
          replace HO := Lib.hid (HO.out.below hb (by have := HGM.out; omega))
          replace HB := Lib.hid (HB.out.trans (hb.mono (by have := HGM.out; omega)))
          clear hb
          clear c0 c1 c2 c3 c4 c5 d0 d1 d2 d3 d4 a0 a1 a2 a3 a4 a5 aF1 aF2 aF3 aF4 aF5
          obtain ⟨c0, c1, c2, c3, c4, c5⟩ := HK.out.six
          obtain ⟨d0, d1, d2, d3, d4⟩ := HV5.out.five
          obtain ⟨a0, a1, a2, a3, a4, a5⟩ := HKA.out.six
          have aF1 := HKA.out.frozen 1
          have aF2 := HKA.out.frozen 2
          have aF3 := HKA.out.frozen 3
          have aF4 := HKA.out.frozen 4
          have aF5 := HKA.out.frozen 5
          obtain ⟨e0, e1, e2, e3, e4, e5⟩ := HKM.out.six
          have eF1 := HKM.out.frozen 1
          have eF2 := HKM.out.frozen 2
          have eF3 := HKM.out.frozen 3
          have eF4 := HKM.out.frozen 4
          have eF5 := HKM.out.frozen 5
          go_upto_region 18 with fail
          obtain ⟨w24, hWA⟩ : ∃ W, w23.setCell ⟨gM, 1, none⟩ (.int .i64 rm) = W := ⟨_, rfl⟩
          have hb : Below gM w23 w24 := by rw [← hWA]; exact (Below.refl _ _).setCell (p := ⟨gM, 1, none⟩) (Nat.le_refl _) _
          have ka : Blk w24 gM 23 #[.int .i64 b.per, .int .i64 rm, .int .i64 b.core, .int .i64 b.land, .int .i64 b.slow, .int .i64 b.fast] := by rw [← hWA]; exact (HKM.out.set_ 1 _).cast rfl
          rw [hWA]
          replace HKM := Lib.hid ka
          clear hWA ka
          replace HK := Lib.hid (HK.out.below hb (by have := HGM.out; omega))
          replace HV5 := Lib.hid (HV5.out.below hb (by have := HGM.out; omega))
          replace HO := Lib.hid (HO.out.below hb (by have := HGM.out; omega))
          replace HKA := Lib.hid (HKA.out.below hb (by have := HGM.out; omega))
          replace HB := Lib.hid (HB.out.trans (hb.mono (by have := HGM.out; omega)))
          clear hb
          clear c0 c1 c2 c3 c4 c5 d0 d1 d2 d3 d4 a0 a1 a2 a3 a4 a5 aF1 aF2 aF3 aF4 aF5 e0 e1 e2 e3 e4 e5 eF1 eF2 eF3 eF4 eF5
          obtain ⟨c0, c1, c2, c3, c4, c5⟩ := HK.out.six
          obtain ⟨d0, d1, d2, d3, d4⟩ := HV5.out.five
          obtain ⟨a0, a1, a2, a3, a4, a5⟩ := HKA.out.six
          have aF1 := HKA.out.frozen 1
          have aF2 := HKA.out.frozen 2
          have aF3 := HKA.out.frozen 3
          have aF4 := HKA.out.frozen 4
          have aF5 := HKA.out.frozen 5
          obtain ⟨e0, e1, e2, e3, e4, e5⟩ := HKM.out.six
          have eF1 := HKM.out.frozen 1
          have eF2 := HKM.out.frozen 2
          have eF3 := HKM.out.frozen 3
          have eF4 := HKM.out.frozen 4
          have eF5 := HKM.out.frozen 5
          go_upto_region 19 with fail
          obtain ⟨w25, hWA⟩ : ∃ W, w24.setCell ⟨gM, 2, none⟩ (.int .i64 co) = W := ⟨_, rfl⟩
          have hb : Below gM w24 w25 := by rw [← hWA]; exact (Below.refl _ _).setCell (p := ⟨gM, 2, none⟩) (Nat.le_refl _) _
          have ka : Blk w25 gM 23 #[.int .i64 b.per, .int .i64 rm, .int .i64 co, .int .i64 b.land, .int .i64 b.slow, .int .i64 b.fast] := by rw [← hWA]; exact (HKM.out.set_ 2 _).cast rfl
          rw [hWA]
          replace HKM := Lib.hid ka
          clear hWA ka
          replace HK := Lib.hid (HK.out.below hb (by have := HGM.out; omega))
          replace HV5 := Lib.hid (HV5.out.below hb (by have := HGM.out; omega))
          replace HO := Lib.hid (HO.out.below hb (by have := HGM.out; omega))
          replace HKA := Lib.hid (HKA.out.below hb (by have := HGM.out; omega))
          replace HB := Lib.hid (HB.out.trans (hb.mono (by have := HGM.out; omega)))
          clear hb
          clear c0 c1 c2 c3 c4 c5 d0 d1 d2 d3 d4 a0 a1 a2 a3 a4 a5 aF1 aF2 aF3 aF4 aF5 e0 e1 e2 e3 e4 e5 eF1 eF2 eF3 eF4 eF5
          obtain ⟨c0, c1, c2, c3, c4, c5⟩ := HK.out.six
          obtain ⟨d0, d1, d2, d3, d4⟩ := HV5.out.five
          obtain ⟨a0, a1, a2, a3, a4, a5⟩ := HKA.out.six
          have aF1 := HKA.out.frozen 1
          have aF2 := HKA.out.frozen 2
          have aF3 := HKA.out.frozen 3
          have aF4 := HKA.out.frozen 4
          have aF5 := HKA.out.frozen 5
          obtain ⟨e0, e1, e2, e3, e4, e5⟩ := HKM.out.six
          have eF1 := HKM.out.frozen 1
          have eF2 := HKM.out.frozen 2
          have eF3 := HKM.out.frozen 3
          have eF4 := HKM.out.frozen 4
          have eF5 := HKM.out.frozen 5
          go_upto_region 20 with fail
          obtain ⟨w26, hWA⟩ : ∃ W, w25.setCell ⟨gM, 3, none⟩ (.int .i64 la) = W := ⟨_, rfl⟩
          have hb : Below gM w25 w26 := by rw [← hWA]; exact (Below.refl _ _).setCell (p := ⟨gM, 3, none⟩) (Nat.le_refl _) _
          have ka : Blk w26 gM 23 #[.int .i64 b.per, .int .i64 rm, .int .i64 co, .int .i64 la, .int .i64 b.slow, .int .i64 b.fast] := by rw [← hWA]; exact (HKM.out.set_ 3 _).cast rfl
          rw [hWA]
          replace HKM := Lib.hid ka
          clear hWA ka
          replace HK := Lib.hid (HK.out.below hb (by have := HGM.out; omega))
          replace HV5 := Lib.hid (HV5.out.below hb (by have := HGM.out; omega))
          replace HO := Lib.hid (HO.out.below hb (by have := HGM.out; omega))
          replace HKA := Lib.hid (HKA.out.below hb (by have := HGM.out; omega))
          replace HB := Lib.hid (HB.out.trans (hb.mono (by have := HGM.out; omega)))
          clear hb
          clear c0 c1 c2 c3 c4 c5 d0 d1 d2 d3 d4 a0 a1 a2 a3 a4 a5 aF1 aF2 aF3 aF4 aF5 e0 e1 e2 e3 e4 e5 eF1 eF2 eF3 eF4 eF5
          obtain ⟨c0, c1, c2, c3, c4, c5⟩ := HK.out.six
          obtain ⟨d0, d1, d2, d3, d4⟩ := HV5.out.five
          obtain ⟨a0, a1, a2, a3, a4, a5⟩ := HKA.out.six
          have aF1 := HKA.out.frozen 1
          have aF2 := HKA.out.frozen 2
          have aF3 := HKA.out.frozen 3
          have aF4 := HKA.out.frozen 4
          have aF5 := HKA.out.frozen 5
          obtain ⟨e0, e1, e2, e3, e4, e5⟩ := HKM.out.six
          have eF1 := HKM.out.frozen 1
          have eF2 := HKM.out.frozen 2
          have eF3 := HKM.out.frozen 3
          have eF4 := HKM.out.frozen 4
          have eF5 := HKM.out.frozen 5
          go_upto_region 21 with fail
          obtain ⟨w27, hWA⟩ : ∃ W, w26.setCell ⟨gM, 4, none⟩ (.int .i64 sl) = W := ⟨_, rfl⟩
          have hb : Below gM w26 w27 := by rw [← hWA]; exact (Below.refl _ _).setCell (p := ⟨gM, 4, none⟩) (Nat.le_refl _) _
          have ka : Blk w27 gM 23 #[.int .i64 b.per, .int .i64 rm, .int .i64 co, .int .i64 la, .int .i64 sl, .int .i64 b.fast] := by rw [← hWA]; exact (HKM.out.set_ 4 _).cast rfl
          rw [hWA]
          replace HKM := Lib.hid ka
          clear hWA ka
          replace HK := Lib.hid (HK.out.below hb (by have := HGM.out; omega))
          replace HV5 := Lib.hid (HV5.out.below hb (by have := HGM.out; omega))
          replace HO := Lib.hid (HO.out.below hb (by have := HGM.out; omega))
          replace HKA := Lib.hid (HKA.out.below hb (by have := HGM.out; omega))
          replace HB := Lib.hid (HB.out.trans (hb.mono (by have := HGM.out; omega)))
          clear hb
          clear c0 c1 c2 c3 c4 c5 d0 d1 d2 d3 d4 a0 a1 a2 a3 a4 a5 aF1 aF2 aF3 aF4 aF5 e0 e1 e2 e3 e4 e5 eF1 eF2 eF3 eF4 eF5
          obtain ⟨c0, c1, c2, c3, c4, c5⟩ := HK.out.six
          obtain ⟨d0, d1, d2, d3, d4⟩ := HV5.out.five
          obtain ⟨a0, a1, a2, a3, a4, a5⟩ := HKA.out.six
          have aF1 := HKA.out.frozen 1
          have aF2 := HKA.out.frozen 2
          have aF3 := HKA.out.frozen 3
          have aF4 := HKA.out.frozen 4
          have aF5 := HKA.out.frozen 5
          obtain ⟨e0, e1, e2, e3, e4, e5⟩ := HKM.out.six
          have eF1 := HKM.out.frozen 1
          have eF2 := HKM.out.frozen 2
          have eF3 := HKM.out.frozen 3
          have eF4 := HKM.out.frozen 4
          have eF5 := HKM.out.frozen 5
          go_upto_region 22 with fail
          obtain ⟨w28, hWA⟩ : ∃ W, w27.setCell ⟨gM, 5, none⟩ (.int .i64 fa) = W := ⟨_, rfl⟩
          have hb : Below gM w27 w28 := by rw [← hWA]; exact (Below.refl _ _).setCell (p := ⟨gM, 5, none⟩) (Nat.le_refl _) _
          have ka : Blk w28 gM 23 #[.int .i64 b.per, .int .i64 rm, .int .i64 co, .int .i64 la, .int .i64 sl, .int .i64 fa] := by rw [← hWA]; exact (HKM.out.set_ 5 _).cast rfl
          rw [hWA]
          replace HKM := Lib.hid ka
          clear hWA ka
          replace HK := Lib.hid (HK.out.below hb (by have := HGM.out; omega))
          replace HV5 := Lib.hid (HV5.out.below hb (by have := HGM.out; omega))
          replace HO := Lib.hid (HO.out.below hb (by have := HGM.out; omega))
          replace HKA := Lib.hid (HKA.out.below hb (by have := HGM.out; omega))
          replace HB := Lib.hid (HB.out.trans (hb.mono (by have := HGM.out; omega)))
          clear hb
          clear c0 c1 c2 c3 c4 c5 d0 d1 d2 d3 d4 a0 a1 a2 a3 a4 a5 aF1 aF2 aF3 aF4 aF5 e0 e1 e2 e3 e4 e5 eF1 eF2 eF3 eF4 eF5
          obtain ⟨c0, c1, c2, c3, c4, c5⟩ := HK.out.six
          obtain ⟨d0, d1, d2, d3, d4⟩ := HV5.out.five
          obtain ⟨a0, a1, a2, a3, a4, a5⟩ := HKA.out.six
          have aF1 := HKA.out.frozen 1
          have aF2 := HKA.out.frozen 2
          have aF3 := HKA.out.frozen 3
          have aF4 := HKA.out.frozen 4
          have aF5 := HKA.out.frozen 5
          obtain ⟨e0, e1, e2, e3, e4, e5⟩ := HKM.out.six
          have eF1 := HKM.out.frozen 1
          have eF2 := HKM.out.frozen 2
          have eF3 := HKM.out.frozen 3
          have eF4 := HKM.out.frozen 4
          have eF5 := HKM.out.frozen 5
          go_wp2_with fail
          have CALL := Outermost_any w.heap.size A n c ⟨b.per, rm, co, la, sl, fa⟩ P w28 (HP.out.below HB.out (Nat.le_refl _)) HB.out.size hl
          refine CALL.mono ?_
          rintro e w29 ⟨v, EZ, rfl, hEZ, ho, hb⟩
          clear CALL
          rw [HSZ.out.2, HZL.out, ← HN.out] at ho
          rw [HSZ.out.1] at hEZ
          subst hEZ
          obtain ⟨AZ, kZ, rfl, hO⟩ := li_own ho
          have HZ := Lib.hid hO
          clear ho hO
          replace HK := Lib.hid (HK.out.below hb HK.out.lt)
          replace HV5 := Lib.hid (HV5.out.below hb HV5.out.lt)
          replace HO := Lib.hid (HO.out.below hb (by have := HKA.out.lt; omega))
          replace HKA := Lib.hid (HKA.out.below hb HKA.out.lt)
          replace HKM := Lib.hid (HKM.out.below hb HKM.out.lt)
          replace HB := Lib.hid (HB.out.trans (hb.mono HB.out.size))
          clear hb
          clear c0 c1 c2 c3 c4 c5 d0 d1 d2 d3 d4 a0 a1 a2 a3 a4 a5 aF1 aF2 aF3 aF4 aF5 e0 e1 e2 e3 e4 e5 eF1 eF2 eF3 eF4 eF5
          obtain ⟨c0, c1, c2, c3, c4, c5⟩ := HK.out.six
          obtain ⟨d0, d1, d2, d3, d4⟩ := HV5.out.five
          obtain ⟨a0, a1, a2, a3, a4, a5⟩ := HKA.out.six
          have aF1 := HKA.out.frozen 1
          have aF2 := HKA.out.frozen 2
          have aF3 := HKA.out.frozen 3
          have aF4 := HKA.out.frozen 4
          have aF5 := HKA.out.frozen 5
          obtain ⟨e0, e1, e2, e3, e4, e5⟩ := HKM.out.six
          have eF1 := HKM.out.frozen 1
          have eF2 := HKM.out.frozen 2
          have eF3 := HKM.out.frozen 3
          have eF4 := HKM.out.frozen 4
          have eF5 := HKM.out.frozen 5
          go_wp2_with fail
          go_loopw [19] (fun z wr => ∃ i : Nat, i ≤ n ∧ z = .int .i64 i ∧ Hid (Below w29.heap.size w29 wr)) (fun z _ => n - (intOf z).toNat)
          case atStart => exact ⟨0, Nat.zero_le _, rfl, Lib.hid (Below.refl _ _)⟩
          case round =>
            obtain ⟨i, hi, rfl, HB2⟩ := hrel
            by_cases hlt : i < n
            · obtain ⟨ad, hA, -, g1⟩ := (HO.out.below HB2.out (by have := HKA.out.lt; omega)).fx hlt
              obtain ⟨ad', hA', -, g2⟩ := (HZ.out.below HB2.out (Nat.le_refl _)).fx hlt
              subst hA hA'
              have hu := HZU.out i (by rw [← HN.out]; exact hlt)
              obtain ⟨x, hx⟩ : ∃ x, fx X i = x := ⟨_, rfl⟩
              obtain ⟨y, hy⟩ : ∃ x, fx Z i = x := ⟨_, rfl⟩
              rw [hx] at g1 hu
              rw [hy] at g2 hu
              clear hx hy
              have hxy : ¬ y < x := by omega
              clear hu
              go_wp2_with fail
              go_quiet (fail)
              go_wp2_with fail
              go_roundw
              case rel => exact ⟨i + 1, by omega, by go_num, Lib.hid (below_drewN_ HB2.out _)⟩
              case measure => simp [intOf]; omega
            · obtain rfl : i = n := by omega
              replace HB := Lib.hid (HB.out.trans (HB2.out.mono HB.out.size))
              go_wp2_with fail
              refine (works5_any _).mono ?_
              rintro e w30 ⟨rfl, hb⟩
              replace HB := Lib.hid (HB.out.trans (hb.mono HB.out.size))
              clear hb
              go_wp2
              go_ret
              exact ⟨rfl, HB.out⟩
end Go.Proofs.Ytgdkcbnpgpjnbaa
