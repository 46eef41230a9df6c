/-
  Whether radii are as an edge says: keptBy; lower.
-/
import Derived.Test.YtgdkcbnpgpjnbaaLD
import Derived.Test.YtgdkcbnpgpjnbaaQ0
namespace Go.Proofs.Ytgdkcbnpgpjnbaa
open Go.RowKit

set_option maxRecDepth 100000 in
set_option maxHeartbeats 4000000 in
theorem keptBy_any (B : Nat) (A : Option Addr) (n c : Nat) (R : List Int) (r i f t k : Int) (w : World) (h0 : LI w B A n R) (hB : B ≤ w.heap.size) (hf : f = -1 ∨ (0 ≤ f ∧ f < n)) (ht : t = -1 ∨ (0 ≤ t ∧ t < n))
    (hk : -1073741824 ≤ k ∧ k ≤ 1073741824) (hr : -1152921504606846976 ≤ rad R f ∧ rad R f ≤ 1152921504606846976) :
    Calls Try.prog 47 #[.agg #[.int .i64 r, .int .i64 i, .int .i64 f, .int .i64 t, .int .i64 k], .slice A n c] w fun e w' => e = .returned (.bool (kpt R f t k)) ∧ Below w.heap.size w w' := by
  have H := Lib.hid (h0.more hB)
  have RF := Lib.hid (fun W (h : Below w.heap.size w W) => radius_any w.heap.size A n c R f W (H.out.below h (Nat.le_refl _)) hf)
  have RT := Lib.hid (fun W (h : Below w.heap.size w W) => radius_any w.heap.size A n c R t W (H.out.below h (Nat.le_refl _)) ht)
  obtain ⟨x, hx⟩ : ∃ x, rad R f = x := ⟨_, rfl⟩
  obtain ⟨y, hy⟩ : ∃ y, rad R t = y := ⟨_, rfl⟩
  have HK : Hid (kpt R f t k = decide (y ≤ x + k)) := Lib.hid (by unfold kpt; rw [hx, hy])
  rw [hx] at RF hr
  rw [hy] at RT
  have e1 : IntKind.i64.wrap (x + k) = x + k := IntWalk.i64_in _ (by omega)
  clear h0 hB hf ht hx hy
  go_enter Try.func47, Try.ntmps47
  go_upto_region 1 with fail
  obtain ⟨W, hW⟩ : ∃ W, w.alloc (.cells #[.int .i64 r, .int .i64 i, .int .i64 f, .int .i64 t, .int .i64 k] 78) = W := ⟨_, rfl⟩
  have hb0 : Below w.heap.size w W := by rw [← hW]; exact (Below.refl _ _).alloc (Nat.le_refl _) _
  have k0 : Blk W w.heap.size 78 #[.int .i64 r, .int .i64 i, .int .i64 f, .int .i64 t, .int .i64 k] := by rw [← hW]; exact Blk.new _ _ _
  rw [hW]
  clear hW
  have HBW := Lib.hid hb0
  have CF : Hid (∀ z : Lat W, Calls Try.prog 71 #[.slice A n c, .int .i64 f] z.w (fun e w'' => e = .returned (.int .i64 x) ∧ ∃ y : Lat W, w'' = y.w)) := Lib.hid (fun z => Calls.lat_ (RF.out _ (HBW.out.trans (z.below.mono HBW.out.size))))
  have CT : Hid (∀ z : Lat W, Calls Try.prog 71 #[.slice A n c, .int .i64 t] z.w (fun e w'' => e = .returned (.int .i64 y) ∧ ∃ y : Lat W, w'' = y.w)) := Lib.hid (fun z => Calls.lat_ (RT.out _ (HBW.out.trans (z.below.mono HBW.out.size))))
  have c2 := Lat.cell (k0.five.2.2.1)
  have c3 := Lat.cell (k0.five.2.2.2.1)
  have c4 := Lat.cell (k0.five.2.2.2.2.1)
  clear k0 hb0 RF RT H
  refine wp_region_lat (by kernel_rfl) (by kernel_rfl) ?_
  repeat (go_big_quiet_step ((first | (with_reducible exact CF.out _) | (with_reducible exact CT.out _))))
  refine wpQuiet_nil ?_
  intro _ hw'
  obtain ⟨⟨w2, hb2⟩, hw''⟩ := hw'
  subst hw''
  go_wp2
  go_ret
  exact ⟨ret_b HK.out.symm, HBW.out.trans (hb2.mono HBW.out.size)⟩
end Go.Proofs.Ytgdkcbnpgpjnbaa
