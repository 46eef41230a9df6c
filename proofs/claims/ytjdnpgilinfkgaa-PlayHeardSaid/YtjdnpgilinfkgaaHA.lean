/-
  The extents of what can be heard: extent, mirrored.
-/
import Derived.Test.YtjdnpgilinfkgaaNZ
import Derived.Test.YtjdnpgilinfkgaaMD
import Derived.Deep.Cut
namespace Go.Proofs.Ytjdnpgilinfkgaa
open Go.RowKit

set_option maxRecDepth 100000 in
set_option maxHeartbeats 4000000 in
theorem extent_any (gi : Nat) (lb : Array Value) (g T g' T' : Nat) (mn mn' : String) (rv rv' : Value) (us : List Nat) (f f' : Nat → Int) (w : World) (hs : SeqIs w gi lb us) (hf : MetIs w g T mn rv us f) (hf' : MetIs w g' T' mn' rv' us f') (hne : us ≠ [])
    (hb : ∀ u ∈ us, -4611686018427387904 ≤ f' u ∧ f' u ≤ 4611686018427387904) :
    Calls Try.prog 94 #[.func (.func gi) #[] lb, .func (.method mn) #[.iface T rv] #[], .func (.method mn') #[.iface T' rv'] #[]] w fun e w' => e = .returned (.agg #[.int .i64 (mnL f us), .int .i64 (-mnL (fun u => -f' u) us)]) ∧ Below w.heap.size w w' := by
  have LO := Lib.hid (fun W (h : Below w.heap.size w W) => leastM_any gi lb g T mn rv us f W (hs.below h) (hf.below h))
  have HI := Lib.hid (fun W (h : Below w.heap.size w W) => greatestM_any gi lb g' T' mn' rv' us f' W (hs.below h) (hf'.below h) hne hb)
  obtain ⟨lo, hlo⟩ : ∃ lo, mnL f us = lo := ⟨_, rfl⟩
  obtain ⟨hi, hhi⟩ : ∃ hi, -mnL (fun u => -f' u) us = hi := ⟨_, rfl⟩
  rw [hlo] at LO
  rw [hhi] at HI
  rw [hlo, hhi]
  clear hlo hhi hs hf hf' hne hb
  go_enter Try.func94, Try.ntmps94
  go_wp2_with fail
  obtain ⟨W, hW⟩ : ∃ W, w.alloc (.cells #[.int .i64 0, .int .i64 0] 42) = W := ⟨_, rfl⟩
  have hbw : Below w.heap.size w W := by rw [← hW]; exact (Below.refl _ _).alloc (Nat.le_refl _) _
  have KA : Hid (Blk W w.heap.size 42 #[.int .i64 0, .int .i64 0]) := Lib.hid (by rw [← hW]; exact Blk.new _ _ _)
  have HB := Lib.hid hbw
  rw [hW]
  clear hW hbw
  go_wp2_with fail
  refine (LO.out _ HB.out).mono ?_
  rintro e w3 ⟨rfl, hb1⟩
  replace KA := Lib.hid (KA.out.below hb1 KA.out.lt)
  replace HB := Lib.hid (HB.out.trans (hb1.mono HB.out.size))
  clear hb1
  go_wp2_with fail
  refine (HI.out _ HB.out).mono ?_
  rintro e w5 ⟨rfl, hb1⟩
  replace KA := Lib.hid (KA.out.below hb1 KA.out.lt)
  replace HB := Lib.hid (HB.out.trans (hb1.mono HB.out.size))
  clear hb1 LO HI
  obtain ⟨z0, z1, z2, z3, z4⟩ := KA.out.two
  go_wp2
  have KF := Lib.hid ((KA.out.set_ 0 (.int .i64 lo)).set_ 1 (.int .i64 hi))
  have g0 := (KF.out.cell 0).trans rfl
  have g1 := (KF.out.cell 1).trans rfl
  refine ⟨rfl, .agg #[.int .i64 lo, .int .i64 hi], ?_, rfl, (HB.out.setCell (p := ⟨w.heap.size, 0, none⟩) (Nat.le_refl _) _).setCell (p := ⟨w.heap.size, 1, none⟩) (Nat.le_refl _) _⟩
  simp [results, Try.results94, go_sem, g0, g1]

set_option maxRecDepth 100000 in
set_option maxHeartbeats 4000000 in
theorem mirrored_any (lo hi : Int) (w : World) (h1 : -4611686018427387904 ≤ lo ∧ lo ≤ 4611686018427387904) (h2 : -4611686018427387904 ≤ hi ∧ hi ≤ 4611686018427387904) :
    Calls Try.prog 93 #[.agg #[.int .i64 lo, .int .i64 hi]] w fun e w' => e = .returned (.agg #[.int .i64 (-hi), .int .i64 (-lo)]) ∧ Below w.heap.size w w' := by
  have e1 : IntKind.i64.wrap (-lo) = -lo := IntWalk.i64_in _ (by omega)
  have e2 : IntKind.i64.wrap (-hi) = -hi := IntWalk.i64_in _ (by omega)
  clear h1 h2
  go_enter Try.func93, Try.ntmps93
  go_upto_region 1 with fail
  obtain ⟨W0, hW0⟩ : ∃ W, w.alloc (.cells #[.int .i64 lo, .int .i64 hi] 42) = W := ⟨_, rfl⟩
  have hb0 : Below w.heap.size w W0 := by rw [← hW0]; exact (Below.refl _ _).alloc (Nat.le_refl _) _
  have hz0 : w.heap.size + 1 = W0.heap.size := by rw [← hW0]; simp
  have KX : Hid (Blk W0 w.heap.size 42 #[.int .i64 lo, .int .i64 hi]) := Lib.hid (by rw [← hW0]; exact Blk.new _ _ _)
  try rw [hW0]
  obtain ⟨W, hW⟩ : ∃ W, W0.alloc (.cells #[.int .i64 0, .int .i64 0] 42) = W := ⟨_, rfl⟩
  have hb1 : Below W0.heap.size W0 W := by rw [← hW]; exact (Below.refl _ _).alloc (Nat.le_refl _) _
  have KA : Hid (Blk W W0.heap.size 42 #[.int .i64 0, .int .i64 0]) := Lib.hid (by rw [← hW]; exact Blk.new _ _ _)
  replace KX := Lib.hid (KX.out.below hb1 KX.out.lt)
  have HB := Lib.hid (hb0.trans (hb1.mono hb0.size))
  have hs0 := hb0.size
  try rw [hW]
  clear hW hb1 hW0 hb0
  rw [← hz0] at KA hs0
  clear hz0
  obtain ⟨x0, x1, x2, x3, x4⟩ := KX.out.two
  obtain ⟨z0, z1, z2, z3, z4⟩ := KA.out.two
  go_wp2
  have KF := Lib.hid ((KA.out.set_ 0 (.int .i64 (-hi))).set_ 1 (.int .i64 (-lo)))
  have g0 := (KF.out.cell 0).trans rfl
  have g1 := (KF.out.cell 1).trans rfl
  refine ⟨rfl, .agg #[.int .i64 (-hi), .int .i64 (-lo)], ?_, rfl, (HB.out.setCell (p := ⟨w.heap.size + 1, 0, none⟩) hs0 _).setCell (p := ⟨w.heap.size + 1, 1, none⟩) hs0 _⟩
  simp [results, Try.results93, go_sem, g0, g1]
end Go.Proofs.Ytjdnpgilinfkgaa
