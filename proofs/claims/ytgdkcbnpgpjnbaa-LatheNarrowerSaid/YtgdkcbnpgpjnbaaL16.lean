/-
  Works of layer 5's law.
-/
import Derived.Test.YtgdkcbnpgpjnbaaL15
import Derived.Test.YtgdkcbnpgpjnbaaLX
namespace Go.Proofs.Ytgdkcbnpgpjnbaa
open Go.RowKit

set_option maxRecDepth 100000 in
set_option maxHeartbeats 8000000 in
theorem works5_any (w : World) : Calls Try.prog 16 #[] w fun e w' => e = .returned (.bool true) ∧ Below w.heap.size w w' := by
  go_enter Try.func16, Try.ntmps16
  go_wp2_with fail
  refine (Example_any w).mono ?_
  rintro e w1 ⟨A, k, rfl, hR, hb1⟩
  have HB := Lib.hid hb1
  have HR := Lib.hid hR
  clear hb1 hR
  go_upto_region 2 with fail
  obtain ⟨w2, hW⟩ : ∃ W, w1.alloc (.cells #[.int .i64 exB.per, .int .i64 exB.rim, .int .i64 exB.core, .int .i64 exB.land, .int .i64 exB.slow, .int .i64 exB.fast] 23) = W := ⟨_, rfl⟩
  have hb2 : Below w1.heap.size w1 w2 := by rw [← hW]; exact below_a _ _
  have K0 : Blk w2 w1.heap.size 23 #[.int .i64 exB.per, .int .i64 exB.rim, .int .i64 exB.core, .int .i64 exB.land, .int .i64 exB.slow, .int .i64 exB.fast] := by rw [← hW]; exact Blk.new _ _ _
  rw [hW]
  clear hW
  replace HR := Lib.hid ((HR.out.below hb2 (Nat.le_refl _)).more hb2.size)
  replace HB := Lib.hid (HB.out.trans (hb2.mono HB.out.size))
  have HK := Lib.hid K0
  obtain ⟨c0, c1, c2, c3, c4, c5⟩ := K0.six
  clear hb2 K0
  go_wp2_with fail
  refine (Outermost_any w2.heap.size A 5 k exB exP w2 HR.out (Nat.le_refl _) (by omega)).mono ?_
  rintro e w3 ⟨v, E, rfl, hE, ho, hb3⟩
  rw [ex_outE] at hE
  subst hE
  rw [ex_outR, show exR.length = 5 from rfl] at ho
  obtain ⟨AO, cO, rfl, hO⟩ := li_own ho
  have HO := Lib.hid hO
  replace HR := Lib.hid ((HR.out.below hb3 (Nat.le_refl _)).more hb3.size)
  replace HB := Lib.hid (HB.out.trans (hb3.mono HB.out.size))
  replace HK := Lib.hid (HK.out.below hb3 HK.out.lt)
  clear hb3 ho hO c0 c1 c2 c3 c4 c5
  obtain ⟨c0, c1, c2, c3, c4, c5⟩ := HK.out.six
  have hL3 : LI (w3.alloc (.cells #[.int .i64 980, .int .i64 979, .int .i64 930, .int .i64 900, .int .i64 880] 2)) (w3.heap.size + 1) (some ⟨w3.heap.size, 0, none⟩) 5 exC := li_new w3 exC
  have hb4 : Below w3.heap.size w3 (w3.alloc (.cells #[.int .i64 980, .int .i64 979, .int .i64 930, .int .i64 900, .int .i64 880] 2)) := below_a _ _
  have CC1 := CheckCut_any (w3.heap.size + 1) A (some ⟨w3.heap.size, 0, none⟩) 5 k 5 5 exB exP exC (w3.alloc (.cells #[.int .i64 980, .int .i64 979, .int .i64 930, .int .i64 900, .int .i64 880] 2)) ((HR.out.below hb4 (Nat.le_refl _)).more (by omega)) hL3 (by simp) (by omega) (by omega)
  rw [ex_cutI, ex_cutQ, ex_cutE] at CC1
  have CC2 := Lib.hid CC1
  have HB4 := Lib.hid hb4
  clear CC1 hL3 hb4
  go_wp2_with fail
  refine CC2.out.mono ?_
  rintro e w5 ⟨rfl, hb5⟩
  have hb35 := HB4.out.trans (hb5.mono HB4.out.size)
  replace HR := Lib.hid ((HR.out.below hb35 (Nat.le_refl _)).more hb35.size)
  replace HO := Lib.hid ((HO.out.below hb35 (Nat.le_refl _)).more hb35.size)
  replace HB := Lib.hid (HB.out.trans (hb35.mono HB.out.size))
  replace HK := Lib.hid (HK.out.below hb35 HK.out.lt)
  clear hb5 hb35 c0 c1 c2 c3 c4 c5 CC2 HB4
  obtain ⟨c0, c1, c2, c3, c4, c5⟩ := HK.out.six
  have hL3 : LI (w5.alloc (.cells #[.int .i64 980, .int .i64 979, .int .i64 930, .int .i64 899, .int .i64 880] 2)) (w5.heap.size + 1) (some ⟨w5.heap.size, 0, none⟩) 5 exR := li_new w5 exR
  have hb4 : Below w5.heap.size w5 (w5.alloc (.cells #[.int .i64 980, .int .i64 979, .int .i64 930, .int .i64 899, .int .i64 880] 2)) := below_a _ _
  have CC1 := Locked_any (w5.heap.size + 1) A (some ⟨w5.heap.size, 0, none⟩) 5 k 5 5 exB exP exR 20 (w5.alloc (.cells #[.int .i64 980, .int .i64 979, .int .i64 930, .int .i64 899, .int .i64 880] 2)) ((HR.out.below hb4 (Nat.le_refl _)).more (by omega)) hL3 (by simp) (by omega) (by omega)
  rw [ex_locE, ex_locV] at CC1
  have CC2 := Lib.hid CC1
  have HB4 := Lib.hid hb4
  clear CC1 hL3 hb4
  go_wp2_with fail
  refine CC2.out.mono ?_
  rintro e w7 ⟨rfl, hb5⟩
  have hb35 := HB4.out.trans (hb5.mono HB4.out.size)
  replace HO := Lib.hid ((HO.out.below hb35 (Nat.le_refl _)).more hb35.size)
  replace HB := Lib.hid (HB.out.trans (hb35.mono HB.out.size))
  clear hb5 hb35 c0 c1 c2 c3 c4 c5 CC2 HB4
  have hL3 : LI (w7.alloc (.cells #[.int .i64 980, .int .i64 979, .int .i64 930, .int .i64 899, .int .i64 880] 2)) (w7.heap.size + 1) (some ⟨w7.heap.size, 0, none⟩) 5 exR := li_new w7 exR
  have hb4 : Below w7.heap.size w7 (w7.alloc (.cells #[.int .i64 980, .int .i64 979, .int .i64 930, .int .i64 899, .int .i64 880] 2)) := below_a _ _
  have CC1 := Radii_any w7.heap.size (w7.heap.size + 1) AO (some ⟨w7.heap.size, 0, none⟩) 5 cO 5 5 exR exR (w7.alloc (.cells #[.int .i64 980, .int .i64 979, .int .i64 930, .int .i64 899, .int .i64 880] 2)) (HO.out.below hb4 (Nat.le_refl _)) hL3 (by simp) (by simp) (by omega)
  rw [show decide (exR = exR) = true from by simp] at CC1
  have CC2 := Lib.hid CC1
  have HB4 := Lib.hid (HB.out.trans (hb4.mono HB.out.size))
  clear CC1 hL3 hb4
  go_wp2_with fail
  refine CC2.out.mono ?_
  rintro e w9 ⟨rfl, hb9⟩
  have HB9 := Lib.hid (HB4.out.trans (hb9.mono HB4.out.size))
  clear hb9
  go_wp2
  go_ret
  exact ⟨rfl, HB9.out⟩
end Go.Proofs.Ytgdkcbnpgpjnbaa
