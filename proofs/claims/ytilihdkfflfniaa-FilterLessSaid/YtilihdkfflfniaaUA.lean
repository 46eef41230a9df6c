/-
  One curve forwards: Apply.
-/
import Derived.Test.YtilihdkfflfniaaU9
namespace Go.Proofs.Ytilihdkfflfniaa
open Go.RowKit

/-- What one curve makes of a signal, forwards (d) or back. -/
def oneEr (c : Cur) (xs : List Int) : Int := chEr [c] xs
def oneRes (d : Bool) (c : Cur) (xs : List Int) : List Int := chRes d [c] xs
def oneErr (d : Bool) (c : Cur) (xs : List Int) : Int := chErr d [c] xs
/-- A box with a curve, as a list of one. -/
theorem rc_one {W : World} {B g : Nat} {t : CV} (hb : Blk W g 24 #[.slice t.Af t.nf t.kf, .slice t.Ab t.nb t.kb, .int .i64 t.c.share]) (hg : g < B) (hc : CI W B t) : RC W B (some ⟨g, 0, none⟩) 1 [t] :=
  ⟨rfl, reads_cells hb hg rfl rfl, fun u hu => by rw [List.mem_singleton.1 hu]; exact hc⟩

set_option maxRecDepth 100000 in
set_option maxHeartbeats 1000000 in
theorem Apply_any (B : Nat) (t : CV) (Ax : Option Addr) (nx kx : Nat) (xs : List Int) (w : World) (hc : CI w B t) (hX : LI w B Ax nx xs) (hB : B ≤ w.heap.size) (hlx : nx ≤ 9223372036854775807) (hs : t.nf ≤ 9223372036854775807 ∧ t.nb ≤ 9223372036854775807) :
    Calls Try.prog 15 #[.agg #[.slice t.Af t.nf t.kf, .slice t.Ab t.nb t.kb, .int .i64 t.c.share], .slice Ax nx kx] w (OutPost w.heap.size w (oneRes true t.c xs) (oneErr true t.c xs)) := by
  have HC := Lib.hid (hc.more hB)
  have HX := Lib.hid (hX.more hB)
  have HS := Lib.hid (show CSm [t] from fun u hu => by rw [List.mem_singleton.1 hu]; exact hs)
  clear hc hX hB hs
  obtain ⟨R, hR⟩ : ∃ R, oneRes true t.c xs = R := ⟨_, rfl⟩
  obtain ⟨E, hE⟩ : ∃ R, oneErr true t.c xs = R := ⟨_, rfl⟩
  rw [hR, hE]
  have HR := Lib.hid hR
  have HE := Lib.hid hE
  clear hR hE
  go_enter Try.func15, Try.ntmps15
  go_upto_region 1 with fail
  obtain ⟨W, hW⟩ : ∃ W, w.alloc (.cells #[.slice t.Af t.nf t.kf, .slice t.Ab t.nb t.kb, .int .i64 t.c.share] 24) = W := ⟨_, rfl⟩
  have hbw : Below w.heap.size w W := by rw [← hW]; exact (Below.refl _ _).alloc (Nat.le_refl _) _
  have hk : Blk W w.heap.size 24 #[.slice t.Af t.nf t.kf, .slice t.Ab t.nb t.kb, .int .i64 t.c.share] := by rw [← hW]; exact Blk.new _ _ _
  rw [hW]
  clear hW
  have HBW := Lib.hid hbw
  obtain ⟨c0, c1, c2⟩ := hk.three_
  clear hk hbw
  go_wp2_with fail
  obtain ⟨V, hV⟩ : ∃ V, W.alloc (.cells #[.slice t.Af t.nf t.kf, .slice t.Ab t.nb t.kb, .int .i64 t.c.share] 24) = V := ⟨_, rfl⟩
  have hbv : Below W.heap.size W V := by rw [← hV]; exact (Below.refl _ _).alloc (Nat.le_refl _) _
  have hk : Blk V W.heap.size 24 #[.slice t.Af t.nf t.kf, .slice t.Ab t.nb t.kb, .int .i64 t.c.share] := by rw [← hV]; exact Blk.new _ _ _
  rw [hV]
  clear hV
  have hbw := HBW.out.trans (hbv.mono HBW.out.size)
  have hlt := hk.lt
  have hsw := HBW.out.size
  have AA := ApplyAll_any V.heap.size (some ⟨W.heap.size, 0, none⟩) 1 1 [t] Ax nx kx xs V (rc_one hk hlt ((HC.out.below hbw (Nat.le_refl _)).more hbw.size)) ((HX.out.below hbw (Nat.le_refl _)).more hbw.size) (Nat.le_refl _) (by omega) hlx HS.out
  have AA' : Calls Try.prog 20 #[.slice (some ⟨W.heap.size, 0, none⟩) 1 1, .slice Ax nx kx] V (OutPost V.heap.size V R E) := by rw [← HR.out, ← HE.out]; exact AA
  clear AA
  have AX := Lib.hid AA'
  have HBV := Lib.hid hbw
  clear AA' hbw hbv hk HC HX HS HR HE
  refine AX.out.mono ?_
  rintro e w5 ⟨v, rfl, ho5, hb5⟩
  go_wp2
  go_ret2
  exact ⟨_, rfl, own_base_ ho5 HBV.out.size, HBV.out.trans (hb5.mono HBV.out.size)⟩
end Go.Proofs.Ytilihdkfflfniaa
