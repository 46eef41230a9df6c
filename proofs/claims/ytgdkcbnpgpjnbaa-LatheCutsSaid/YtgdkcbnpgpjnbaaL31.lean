/-
  The walk of LatheCuts.
-/
import Derived.Test.YtgdkcbnpgpjnbaaL16
import Derived.Test.YtgdkcbnpgpjnbaaL30
import Derived.Test.YtgdkcbnpgpjnbaaL10
namespace Go.Proofs.Ytgdkcbnpgpjnbaa
open Go.RowKit

set_option maxRecDepth 100000 in
set_option maxHeartbeats 8000000 in
theorem lcuts_walk (B : Nat) (A AR : Option Addr) (n c m d : Nat) (b : Bk) (P : List Smp) (R : List Int) (w : World) (h0 : RS w B A n P) (h1 : LI w B AR m R) (hB : B ≤ w.heap.size) (hl : n ≤ 9223372036854775807) (hl' : m ≤ 9223372036854775807) :
    Calls Try.prog 3 #[.agg #[.int .i64 b.per, .int .i64 b.rim, .int .i64 b.core, .int .i64 b.land, .int .i64 b.slow, .int .i64 b.fast], .slice A n c, .slice AR m d] w fun e w' => e = .returned (.bool true) ∧ Below w.heap.size w w' := by
  have HP := Lib.hid (h0.more hB)
  have HR := Lib.hid (h1.more hB)
  have HN := Lib.hid h0.1
  have HM := Lib.hid h1.1
  clear h0 h1 hB
  go_enter Try.func3, Try.ntmps3
  go_upto_region 1 with fail
  obtain ⟨w0, hW⟩ : ∃ W, w.alloc (.cells #[.int .i64 b.per, .int .i64 b.rim, .int .i64 b.core, .int .i64 b.land, .int .i64 b.slow, .int .i64 b.fast] 23) = W := ⟨_, rfl⟩
  have hb0 : Below w.heap.size w w0 := by rw [← hW]; exact below_a _ _
  have k0 : Blk w0 w.heap.size 23 #[.int .i64 b.per, .int .i64 b.rim, .int .i64 b.core, .int .i64 b.land, .int .i64 b.slow, .int .i64 b.fast] := by rw [← hW]; exact Blk.new _ _ _
  rw [hW]
  have HB := Lib.hid hb0
  have HK := Lib.hid k0
  obtain ⟨c0, c1, c2, c3, c4, c5⟩ := k0.six
  clear hW hb0 k0
  cases hg1 : lnK n with
  | true =>
    have G1 := Lib.hid hg1
    clear hg1
    go_wp2_with fail
    refine (long5K_any _ _).mono ?_
    rintro e w' ⟨rfl, rfl⟩
    rw [G1.out]
    go_wp2_with fail
    refine (works5_any _).mono ?_
    rintro e w1 ⟨rfl, hb⟩
    replace HB := Lib.hid (HB.out.trans (hb.mono HB.out.size))
    clear hb
    go_wp2
    go_ret
    exact ⟨rfl, HB.out⟩
  | false =>
    have G1 := Lib.hid hg1
    clear hg1
    cases hg2 : lnK m with
    | true =>
      have G2 := Lib.hid hg2
      clear hg2
      go_wp2_with fail
      refine (long5K_any _ _).mono ?_
      rintro e w' ⟨rfl, rfl⟩
      rw [G1.out]
      go_wp2_with fail
      refine (long5K_any _ _).mono ?_
      rintro e w' ⟨rfl, rfl⟩
      rw [G2.out]
      go_wp2_with fail
      refine (works5_any _).mono ?_
      rintro e w2 ⟨rfl, hb⟩
      replace HB := Lib.hid (HB.out.trans (hb.mono HB.out.size))
      clear hb
      go_wp2
      go_ret
      exact ⟨rfl, HB.out⟩
    | false =>
      have G2 := Lib.hid hg2
      clear hg2
      go_wp2_with fail
      refine (long5K_any _ _).mono ?_
      rintro e w' ⟨rfl, rfl⟩
      rw [G1.out]
      go_wp2_with fail
      refine (long5K_any _ _).mono ?_
      rintro e w' ⟨rfl, rfl⟩
      rw [G2.out]
      go_wp2_with fail
      have CALL := Outermost_any w.heap.size A n c b P w0 (HP.out.below HB.out (Nat.le_refl _)) HB.out.size hl
      refine CALL.mono ?_
      rintro e w3 ⟨vX, EX, rfl, hE, ho, hb⟩
      clear CALL
      subst hE
      have hleX := own_le ho
      obtain ⟨AX, kX, rfl, hO⟩ := li_own ho
      have HX := Lib.hid hO
      clear ho hO
      replace HK := Lib.hid (HK.out.below hb HK.out.lt)
      replace HB := Lib.hid (HB.out.trans (hb.mono HB.out.size))
      clear hb c0 c1 c2 c3 c4 c5
      obtain ⟨c0, c1, c2, c3, c4, c5⟩ := HK.out.six
      go_wp2_with fail
      have CALL := refOutermost_any w.heap.size A n c b P w3 (HP.out.below HB.out (Nat.le_refl _)) HB.out.size hl
      refine CALL.mono ?_
      rintro e w4 ⟨vY, EY, rfl, hE, ho, hb⟩
      clear CALL
      subst hE
      have hleY := own_le ho
      obtain ⟨AY, kY, rfl, hO⟩ := li_own ho
      have HY := Lib.hid hO
      clear ho hO
      replace HK := Lib.hid (HK.out.below hb HK.out.lt)
      replace HX := Lib.hid ((HX.out.below hb (Nat.le_refl _)).more hb.size)
      replace HB := Lib.hid (HB.out.trans (hb.mono HB.out.size))
      clear hb c0 c1 c2 c3 c4 c5
      obtain ⟨c0, c1, c2, c3, c4, c5⟩ := HK.out.six
      go_wp2_with fail
      have CALL := CheckCut_any w.heap.size A AR n c m d b P R w4 (HP.out.below HB.out (Nat.le_refl _)) (HR.out.below HB.out (Nat.le_refl _)) HB.out.size hl hl'
      refine CALL.mono ?_
      rintro e w5 ⟨rfl, hb⟩
      clear CALL
      replace HK := Lib.hid (HK.out.below hb HK.out.lt)
      replace HX := Lib.hid ((HX.out.below hb (Nat.le_refl _)).more hb.size)
      replace HY := Lib.hid ((HY.out.below hb (Nat.le_refl _)).more hb.size)
      replace HB := Lib.hid (HB.out.trans (hb.mono HB.out.size))
      clear hb c0 c1 c2 c3 c4 c5
      obtain ⟨c0, c1, c2, c3, c4, c5⟩ := HK.out.six
      go_wp2_with fail
      have CALL := refCheckCut_any w.heap.size A AR n c m d b P R w5 (HP.out.below HB.out (Nat.le_refl _)) (HR.out.below HB.out (Nat.le_refl _)) HB.out.size hl hl'
      refine CALL.mono ?_
      rintro e w6 ⟨rfl, hb⟩
      clear CALL
      replace HK := Lib.hid (HK.out.below hb HK.out.lt)
      replace HX := Lib.hid ((HX.out.below hb (Nat.le_refl _)).more hb.size)
      replace HY := Lib.hid ((HY.out.below hb (Nat.le_refl _)).more hb.size)
      replace HB := Lib.hid (HB.out.trans (hb.mono HB.out.size))
      clear hb c0 c1 c2 c3 c4 c5
      obtain ⟨c0, c1, c2, c3, c4, c5⟩ := HK.out.six
      have K1 := Lib.hid (fun z : Lat w6 => Calls.lat (CheckL_any b z.w))
      have K2 := Lib.hid (fun z : Lat w6 => Calls.lat (refCheck5_any b z.w))
      have K3 := Lib.hid (fun z : Lat w6 => Calls.lat (Radii_any w6.heap.size w6.heap.size AX AY _ kX _ kY (outR b P) (outR b P) z.w (HX.out.below z.below (Nat.le_refl _)) (HY.out.below z.below (Nat.le_refl _)) z.below.size z.below.size hleX))
      have K4 := Lib.hid (fun z : Lat w6 => Calls.lat (works5_any z.w))
      rw [show decide (outR b P = outR b P) = true from by simp] at K3
      have p0 := Lat.cell c0
      have p1 := Lat.cell c1
      have p2 := Lat.cell c2
      have p3 := Lat.cell c3
      have p4 := Lat.cell c4
      have p5 := Lat.cell c5
      clear c0 c1 c2 c3 c4 c5
      go_wp2_with fail
      try dsimp only [List.append]
      refine wp_region_lat (by kernel_rfl) (by kernel_rfl) ?_
      repeat (go_big_quiet_step ((first | (with_reducible exact K1.out _) | (with_reducible exact K2.out _) | (with_reducible exact K3.out _) | (with_reducible exact K4.out _))))
      refine wpQuiet_nil ?_
      intro w7 hw'
      have hb7 := lat_out hw'
      replace HB := Lib.hid (HB.out.trans (hb7.mono HB.out.size))
      clear hb7 hw'
      go_wp2
      go_ret
      exact ⟨rfl, HB.out⟩
end Go.Proofs.Ytgdkcbnpgpjnbaa
