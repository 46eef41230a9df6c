/-
  The walk of LatheKnown.
-/
import Derived.Test.YtgdkcbnpgpjnbaaL16
import Derived.Test.YtgdkcbnpgpjnbaaL35
import Derived.Test.YtgdkcbnpgpjnbaaL11
namespace Go.Proofs.Ytgdkcbnpgpjnbaa
open Go.RowKit

def kB2 : Bk := ⟨2, 1000, 100, 10, 1, 39⟩
def kB3 : Bk := ⟨2, 1000, 861, 10, 1, 100⟩
def kB4 : Bk := ⟨2, 1000, 860, 10, 1, 100⟩
def kS : List Smp := [(1, 0), (5, 2), (5, 4), (2, 4)]
theorem kn_1 : cutE exB exP exR = 0 := by decide +kernel
theorem kn_2 : tigE exB exP exR = 0 := by decide +kernel
theorem kn_3 : tigA exB exP exR = 2 := by decide +kernel
theorem kn_4 : tigV exB exP exR = 10 := by decide +kernel
theorem kn_5 : lanE exB exP exR 4 = 0 := by decide +kernel
theorem kn_6 : lanV exB exP exR 4 = 10 := by decide +kernel
theorem kn_7 : fitE exB exP = 0 := by decide +kernel
theorem kn_8 : fitV exB exP = 5 := by decide +kernel
theorem kn_9 : fitE kB2 exP = 0 := by decide +kernel
theorem kn_10 : fitV kB2 exP = 3 := by decide +kernel
theorem kn_11 : fitE kB3 exP = 0 := by decide +kernel
theorem kn_12 : fitV kB3 exP = 4 := by decide +kernel
theorem kn_13 : crfE kB3 exP kS = 0 := by decide +kernel
theorem kn_14 : refE kB4 exP = 5 := by decide +kernel
theorem kn_15 : crfE kB4 exP kS = 16 := by decide +kernel
theorem kn_16 : ckB kB4 = 0 := by decide +kernel

set_option maxRecDepth 100000 in
set_option maxHeartbeats 8000000 in
theorem lknown_walk (w : World) : Calls Try.prog 14 #[] w fun e w' => e = .returned (.bool true) ∧ Below w.heap.size w w' := by
  go_enter Try.func14, Try.ntmps14
  go_wp2_with fail
  refine (Example_any w).mono ?_
  rintro e w1 ⟨A, k, rfl, hR, hb1⟩
  obtain ⟨g, hg⟩ : ∃ g, w1.heap.size = g := ⟨_, rfl⟩
  have HB1 := Lib.hid hb1
  have HG : Hid (w.heap.size ≤ g) := Lib.hid (by rw [← hg]; exact hb1.size)
  have HP1 := Lib.hid hR
  clear hb1 hR
  go_upto_region 3 with fail
  obtain ⟨w2, hW⟩ : ∃ W, (w1.alloc (.cells #[.int .i64 exB.per, .int .i64 exB.rim, .int .i64 exB.core, .int .i64 exB.land, .int .i64 exB.slow, .int .i64 exB.fast] 23)).alloc (.cells #[.int .i64 980, .int .i64 979, .int .i64 930, .int .i64 899, .int .i64 880] 2) = W := ⟨_, rfl⟩
  have hb : Below w1.heap.size w1 w2 := by rw [← hW]; exact (below_a _ _).alloc (below_a _ _).size _
  have k0 : Blk w2 w1.heap.size 23 #[.int .i64 exB.per, .int .i64 exB.rim, .int .i64 exB.core, .int .i64 exB.land, .int .i64 exB.slow, .int .i64 exB.fast] := by rw [← hW]; exact (Blk.new _ _ _).alloc _
  have k1 : Blk w2 (w1.heap.size + 1) 2 (nums exR).toArray := by rw [← hW]; exact blk_al (by simp)
  rw [hW]
  rw [hg] at k0 k1 hb
  try rw [hg]
  have HB := Lib.hid (HB1.out.trans (hb.mono HG.out))
  have HP1' := HP1.out
  rw [hg] at HP1'
  have HP := Lib.hid (HP1'.below hb (Nat.le_refl _))
  have HK := Lib.hid k0
  have HR := Lib.hid k1
  obtain ⟨c0, c1, c2, c3, c4, c5⟩ := k0.six
  clear hW hb k0 k1 HB1 HP1 HP1' hg
  go_wp2_with fail
  have CALL := CheckCut_any w2.heap.size A (some ⟨g + 1, 0, none⟩) 5 k 5 5 exB exP exR w2 (HP.out.more (Nat.le_of_lt HK.out.lt)) (li_blk HR.out HR.out.lt rfl rfl) (Nat.le_refl _) (by omega) (by omega)
  rw [kn_1] at CALL
  refine CALL.mono ?_
  rintro e w3 ⟨rfl, hb⟩
  clear CALL
  replace HP := Lib.hid (HP.out.below hb (Nat.le_of_lt HK.out.lt))
  replace HK := Lib.hid (HK.out.below hb HK.out.lt)
  replace HR := Lib.hid (HR.out.below hb HR.out.lt)
  replace HB := Lib.hid (HB.out.trans (hb.mono HB.out.size))
  clear hb c0 c1 c2 c3 c4 c5
  obtain ⟨c0, c1, c2, c3, c4, c5⟩ := HK.out.six
  go_wp2_with fail
  have CALL := Tightest_any w3.heap.size A (some ⟨g + 1, 0, none⟩) 5 k 5 5 exB exP exR w3 (HP.out.more (Nat.le_of_lt HK.out.lt)) (li_blk HR.out HR.out.lt rfl rfl) (Nat.le_refl _) (by omega) (by omega)
  rw [kn_2, kn_3, kn_4] at CALL
  refine CALL.mono ?_
  rintro e w4 ⟨rfl, hb⟩
  clear CALL
  replace HP := Lib.hid (HP.out.below hb (Nat.le_of_lt HK.out.lt))
  replace HK := Lib.hid (HK.out.below hb HK.out.lt)
  replace HR := Lib.hid (HR.out.below hb HR.out.lt)
  replace HB := Lib.hid (HB.out.trans (hb.mono HB.out.size))
  clear hb c0 c1 c2 c3 c4 c5
  obtain ⟨c0, c1, c2, c3, c4, c5⟩ := HK.out.six
  go_wp2_with fail
  have CALL := Land_any w4.heap.size A (some ⟨g + 1, 0, none⟩) 5 k 5 5 exB exP exR 4 w4 (HP.out.more (Nat.le_of_lt HK.out.lt)) (li_blk HR.out HR.out.lt rfl rfl) (Nat.le_refl _) (by omega) (by omega)
  rw [kn_5, kn_6] at CALL
  refine CALL.mono ?_
  rintro e w5 ⟨rfl, hb⟩
  clear CALL
  replace HP := Lib.hid (HP.out.below hb (Nat.le_of_lt HK.out.lt))
  replace HK := Lib.hid (HK.out.below hb HK.out.lt)
  replace HR := Lib.hid (HR.out.below hb HR.out.lt)
  replace HB := Lib.hid (HB.out.trans (hb.mono HB.out.size))
  clear hb c0 c1 c2 c3 c4 c5
  obtain ⟨c0, c1, c2, c3, c4, c5⟩ := HK.out.six
  go_wp2_with fail
  have CALL := Fits_any w5.heap.size A 5 k exB exP w5 (HP.out.more (Nat.le_of_lt HK.out.lt)) (Nat.le_refl _) (by omega)
  rw [kn_7, kn_8] at CALL
  refine CALL.mono ?_
  rintro e w6 ⟨rfl, hb⟩
  clear CALL
  replace HP := Lib.hid (HP.out.below hb (Nat.le_of_lt HK.out.lt))
  replace HK := Lib.hid (HK.out.below hb HK.out.lt)
  replace HR := Lib.hid (HR.out.below hb HR.out.lt)
  replace HB := Lib.hid (HB.out.trans (hb.mono HB.out.size))
  clear hb c0 c1 c2 c3 c4 c5
  obtain ⟨c0, c1, c2, c3, c4, c5⟩ := HK.out.six
  have f2 := HK.out.frozen 2
  have f5 := HK.out.frozen 5
  go_upto_region 8 with fail
  obtain ⟨w7, hW⟩ : ∃ W, w6.setCell ⟨g, 5, none⟩ (.int .i64 39) = W := ⟨_, rfl⟩
  have hb : Below g w6 w7 := by rw [← hW]; exact (Below.refl _ _).setCell (p := ⟨g, 5, none⟩) (Nat.le_refl _) _
  have kb : Blk w7 g 23 #[.int .i64 exB.per, .int .i64 exB.rim, .int .i64 exB.core, .int .i64 exB.land, .int .i64 exB.slow, .int .i64 39] := by rw [← hW]; exact (HK.out.set_ 5 _).cast rfl
  have kr : Blk w7 (g + 1) 2 (nums exR).toArray := by rw [← hW]; exact HR.out.far (p := ⟨g, 5, none⟩) (by simp) _
  rw [hW]
  replace HP := Lib.hid (HP.out.below hb (Nat.le_refl _))
  replace HK := Lib.hid kb
  replace HR := Lib.hid kr
  replace HB := Lib.hid (HB.out.trans (hb.mono HG.out))
  clear hb hW kb kr c0 c1 c2 c3 c4 c5
  obtain ⟨c0, c1, c2, c3, c4, c5⟩ := HK.out.six
  have f2 := HK.out.frozen 2
  have f5 := HK.out.frozen 5
  go_wp2_with fail
  have CALL := Fits_any w7.heap.size A 5 k kB2 exP w7 (HP.out.more (Nat.le_of_lt HK.out.lt)) (Nat.le_refl _) (by omega)
  rw [kn_9, kn_10] at CALL
  refine CALL.mono ?_
  rintro e w8 ⟨rfl, hb⟩
  clear CALL
  replace HP := Lib.hid (HP.out.below hb (Nat.le_of_lt HK.out.lt))
  replace HK := Lib.hid (HK.out.below hb HK.out.lt)
  replace HR := Lib.hid (HR.out.below hb HR.out.lt)
  replace HB := Lib.hid (HB.out.trans (hb.mono HB.out.size))
  clear hb c0 c1 c2 c3 c4 c5
  obtain ⟨c0, c1, c2, c3, c4, c5⟩ := HK.out.six
  have f2 := HK.out.frozen 2
  have f5 := HK.out.frozen 5
  go_upto_region 10 with fail
  obtain ⟨wm, hWm⟩ : ∃ W, w8.setCell ⟨g, 5, none⟩ (.int .i64 100) = W := ⟨_, rfl⟩
  try rw [hWm]
  have hb : Below g w8 wm := by rw [← hWm]; exact (Below.refl _ _).setCell (p := ⟨g, 5, none⟩) (Nat.le_refl _) _
  have kb : Blk wm g 23 #[.int .i64 exB.per, .int .i64 exB.rim, .int .i64 exB.core, .int .i64 exB.land, .int .i64 exB.slow, .int .i64 100] := by rw [← hWm]; exact (HK.out.set_ 5 _).cast rfl
  have kr : Blk wm (g + 1) 2 (nums exR).toArray := by rw [← hWm]; exact HR.out.far (p := ⟨g, 5, none⟩) (by simp) _
  replace HP := Lib.hid (HP.out.below hb (Nat.le_refl _))
  replace HK := Lib.hid kb
  replace HR := Lib.hid kr
  replace HB := Lib.hid (HB.out.trans (hb.mono HG.out))
  clear hb hWm kb kr c0 c1 c2 c3 c4 c5 f2 f5
  obtain ⟨c0, c1, c2, c3, c4, c5⟩ := HK.out.six
  obtain ⟨w10, hW⟩ : ∃ W, wm.setCell ⟨g, 2, none⟩ (.int .i64 861) = W := ⟨_, rfl⟩
  have hb : Below g wm w10 := by rw [← hW]; exact (Below.refl _ _).setCell (p := ⟨g, 2, none⟩) (Nat.le_refl _) _
  have kb : Blk w10 g 23 #[.int .i64 exB.per, .int .i64 exB.rim, .int .i64 861, .int .i64 exB.land, .int .i64 exB.slow, .int .i64 100] := by rw [← hW]; exact (HK.out.set_ 2 _).cast rfl
  have kr : Blk w10 (g + 1) 2 (nums exR).toArray := by rw [← hW]; exact HR.out.far (p := ⟨g, 2, none⟩) (by simp) _
  rw [hW]
  replace HP := Lib.hid (HP.out.below hb (Nat.le_refl _))
  replace HK := Lib.hid kb
  replace HR := Lib.hid kr
  replace HB := Lib.hid (HB.out.trans (hb.mono HG.out))
  clear hb hW kb kr c0 c1 c2 c3 c4 c5
  obtain ⟨c0, c1, c2, c3, c4, c5⟩ := HK.out.six
  have f2 := HK.out.frozen 2
  have f5 := HK.out.frozen 5
  go_wp2_with fail
  have CALL := Fits_any w10.heap.size A 5 k kB3 exP w10 (HP.out.more (Nat.le_of_lt HK.out.lt)) (Nat.le_refl _) (by omega)
  rw [kn_11, kn_12] at CALL
  refine CALL.mono ?_
  rintro e w11 ⟨rfl, hb⟩
  clear CALL
  replace HP := Lib.hid (HP.out.below hb (Nat.le_of_lt HK.out.lt))
  replace HK := Lib.hid (HK.out.below hb HK.out.lt)
  replace HR := Lib.hid (HR.out.below hb HR.out.lt)
  replace HB := Lib.hid (HB.out.trans (hb.mono HB.out.size))
  clear hb c0 c1 c2 c3 c4 c5
  obtain ⟨c0, c1, c2, c3, c4, c5⟩ := HK.out.six
  go_upto_region 12 with fail
  obtain ⟨gs, hgs⟩ : ∃ g, w11.heap.size = g := ⟨_, rfl⟩
  have HGS : Hid (g + 1 < gs) := Lib.hid (by rw [← hgs]; exact HR.out.lt)
  obtain ⟨w12, hW⟩ : ∃ W, w11.alloc (.cells #[.int .i64 1, .int .i64 0, .int .i64 5, .int .i64 2, .int .i64 5, .int .i64 4, .int .i64 2, .int .i64 4] 52) = W := ⟨_, rfl⟩
  have hb : Below w11.heap.size w11 w12 := by rw [← hW]; exact below_a _ _
  have ks : Blk w12 gs 52 (smpCells kS).toArray := by rw [← hW, ← hgs]; exact Blk.new _ _ _
  rw [hW]
  try rw [hgs]
  replace HP := Lib.hid (HP.out.below hb (Nat.le_of_lt HK.out.lt))
  replace HK := Lib.hid (HK.out.below hb HK.out.lt)
  replace HR := Lib.hid (HR.out.below hb HR.out.lt)
  replace HB := Lib.hid (HB.out.trans (hb.mono HB.out.size))
  clear hb c0 c1 c2 c3 c4 c5
  obtain ⟨c0, c1, c2, c3, c4, c5⟩ := HK.out.six
  have HS := Lib.hid ks
  clear ks hW hgs
  go_wp2_with fail
  have CALL := CheckRefusal_any w12.heap.size A (some ⟨gs, 0, none⟩) 5 k 4 4 kB3 exP kS w12 (HP.out.more (Nat.le_of_lt HK.out.lt)) (rs_blk HS.out HS.out.lt rfl rfl) (Nat.le_refl _) (by omega) (by omega)
  rw [kn_13] at CALL
  refine CALL.mono ?_
  rintro e w13 ⟨rfl, hb⟩
  clear CALL
  replace HP := Lib.hid (HP.out.below hb (Nat.le_of_lt HK.out.lt))
  replace HK := Lib.hid (HK.out.below hb HK.out.lt)
  replace HR := Lib.hid (HR.out.below hb HR.out.lt)
  replace HS := Lib.hid (HS.out.below hb HS.out.lt)
  replace HB := Lib.hid (HB.out.trans (hb.mono HB.out.size))
  clear hb c0 c1 c2 c3 c4 c5
  obtain ⟨c0, c1, c2, c3, c4, c5⟩ := HK.out.six
  have f2 := HK.out.frozen 2
  have f5 := HK.out.frozen 5
  go_upto_region 15 with fail
  obtain ⟨w14, hW⟩ : ∃ W, w13.setCell ⟨g, 2, none⟩ (.int .i64 860) = W := ⟨_, rfl⟩
  have hb : Below g w13 w14 := by rw [← hW]; exact (Below.refl _ _).setCell (p := ⟨g, 2, none⟩) (Nat.le_refl _) _
  have kb : Blk w14 g 23 #[.int .i64 exB.per, .int .i64 exB.rim, .int .i64 860, .int .i64 exB.land, .int .i64 exB.slow, .int .i64 100] := by rw [← hW]; exact (HK.out.set_ 2 _).cast rfl
  have kr : Blk w14 (g + 1) 2 (nums exR).toArray := by rw [← hW]; exact HR.out.far (p := ⟨g, 2, none⟩) (by simp) _
  have ks : Blk w14 gs 52 (smpCells kS).toArray := by rw [← hW]; exact HS.out.far (p := ⟨g, 2, none⟩) (by have := HGS.out; simp; omega) _
  replace HS := Lib.hid ks
  clear ks
  rw [hW]
  replace HP := Lib.hid (HP.out.below hb (Nat.le_refl _))
  replace HK := Lib.hid kb
  replace HR := Lib.hid kr
  replace HB := Lib.hid (HB.out.trans (hb.mono HG.out))
  clear hb hW kb kr c0 c1 c2 c3 c4 c5
  obtain ⟨c0, c1, c2, c3, c4, c5⟩ := HK.out.six
  have f2 := HK.out.frozen 2
  have f5 := HK.out.frozen 5
  go_wp2_with fail
  have CALL := Refuse_any w14.heap.size A 5 k kB4 exP w14 (HP.out.more (Nat.le_of_lt HK.out.lt)) (Nat.le_refl _) (by omega)
  refine CALL.mono ?_
  rintro e w15 ⟨v, E, l, rfl, hE, -, -, -, hb⟩
  clear CALL
  rw [kn_14] at hE
  subst hE
  replace HP := Lib.hid (HP.out.below hb (Nat.le_of_lt HK.out.lt))
  replace HK := Lib.hid (HK.out.below hb HK.out.lt)
  replace HR := Lib.hid (HR.out.below hb HR.out.lt)
  replace HS := Lib.hid (HS.out.below hb HS.out.lt)
  replace HB := Lib.hid (HB.out.trans (hb.mono HB.out.size))
  clear hb c0 c1 c2 c3 c4 c5
  obtain ⟨c0, c1, c2, c3, c4, c5⟩ := HK.out.six
  go_wp2_with fail
  have CALL := CheckRefusal_any w15.heap.size A (some ⟨gs, 0, none⟩) 5 k 4 4 kB4 exP kS w15 (HP.out.more (Nat.le_of_lt HK.out.lt)) (rs_blk HS.out HS.out.lt rfl rfl) (Nat.le_refl _) (by omega) (by omega)
  rw [kn_15] at CALL
  refine CALL.mono ?_
  rintro e w16 ⟨rfl, hb⟩
  clear CALL
  replace HP := Lib.hid (HP.out.below hb (Nat.le_of_lt HK.out.lt))
  replace HK := Lib.hid (HK.out.below hb HK.out.lt)
  replace HR := Lib.hid (HR.out.below hb HR.out.lt)
  replace HS := Lib.hid (HS.out.below hb HS.out.lt)
  replace HB := Lib.hid (HB.out.trans (hb.mono HB.out.size))
  clear hb c0 c1 c2 c3 c4 c5
  obtain ⟨c0, c1, c2, c3, c4, c5⟩ := HK.out.six
  go_wp2_with fail
  have CALL := refCheck5_any kB4 w16
  rw [kn_16] at CALL
  refine CALL.mono ?_
  rintro e w17 ⟨rfl, hb⟩
  clear CALL
  replace HP := Lib.hid (HP.out.below hb (Nat.le_of_lt HK.out.lt))
  replace HK := Lib.hid (HK.out.below hb HK.out.lt)
  replace HR := Lib.hid (HR.out.below hb HR.out.lt)
  replace HS := Lib.hid (HS.out.below hb HS.out.lt)
  replace HB := Lib.hid (HB.out.trans (hb.mono HB.out.size))
  clear hb c0 c1 c2 c3 c4 c5
  obtain ⟨c0, c1, c2, c3, c4, c5⟩ := HK.out.six
  go_wp2_with fail
  refine (works5_any _).mono ?_
  rintro e w18 ⟨rfl, hb⟩
  replace HB := Lib.hid (HB.out.trans (hb.mono HB.out.size))
  clear hb
  go_wp2
  go_ret
  exact ⟨rfl, HB.out⟩
end Go.Proofs.Ytgdkcbnpgpjnbaa
