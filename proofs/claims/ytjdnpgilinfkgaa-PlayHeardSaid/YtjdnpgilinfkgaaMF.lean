/-
  The examples of layer 6 (Works).
-/
import Derived.Test.YtjdnpgilinfkgaaME
namespace Go.Proofs.Ytjdnpgilinfkgaa
open Go.RowKit

def exS : List Int := [0, 2, 10]
def exG : List Smp := [(-100, 100), (-100, 90), (-95, 100)]
def exR : List Smp := [(-100, 92), (-97, 90), (-95, 92)]
theorem exE : rdEr exS exG = 0 := by decide
theorem exRes : rdRes exS exG = exR := by decide
theorem exBal : ckG exG = 0 ∧ (baL exG).1 = 0 ∧ (baL exG).2 = 25 := by decide
theorem eqArm (a b : Int) (w : World) : Sem.run Try.prog (Op.equalIn 10000 52 (.agg #[.int .i64 a, .int .i64 b]) (.agg #[.int .i64 a, .int .i64 b])) w = .ok true w := by
  simp [go_sem, Op.eqFields]
/-- The tip and the groove of the examples, in memory. -/
def ExPost (w : World) (e : Ending) (w' : World) : Prop :=
  ∃ Af kf A k, e = .returned (.tuple #[.agg #[.slice Af 3 kf], .slice A 3 k]) ∧ LI w' w'.heap.size Af 3 exS ∧ RS w' w'.heap.size A 3 exG ∧ Below w.heap.size w w'

set_option maxRecDepth 100000 in
set_option maxHeartbeats 1000000 in
theorem Example6_any (w : World) : Calls Try.prog 47 #[] w (ExPost w) := by
  go_enter Try.func47, Try.ntmps47
  go_wp2
  obtain ⟨W, hW⟩ : ∃ W, ((w.alloc (.cells #[.slice (some ⟨w.heap.size + 1, 0, none⟩) 3 3] 24)).alloc (.cells #[.int .i64 0, .int .i64 2, .int .i64 10] 2)).alloc (.cells #[.int .i64 (-100), .int .i64 100, .int .i64 (-100), .int .i64 90, .int .i64 (-95), .int .i64 100] 69) = W := ⟨_, rfl⟩
  have hb : Below w.heap.size w W := by rw [← hW]; exact (((Below.refl _ _).alloc (Nat.le_refl _) _).alloc (by simp) _).alloc (by simp; omega) _
  have k0 : Blk W w.heap.size 24 #[.slice (some ⟨w.heap.size + 1, 0, none⟩) 3 3] := by rw [← hW]; exact ((Blk.new _ _ _).alloc _).alloc _
  have k1 : Blk W (w.heap.size + 1) 2 #[.int .i64 0, .int .i64 2, .int .i64 10] := by rw [← hW]; exact (blk_al (by simp)).alloc _
  have k2 : Blk W (w.heap.size + 1 + 1) 69 #[.int .i64 (-100), .int .i64 100, .int .i64 (-100), .int .i64 90, .int .i64 (-95), .int .i64 100] := by rw [← hW]; exact blk_al (by simp)
  rw [hW]
  have g0 := (k0.cell 0).trans rfl
  refine ⟨rfl, .tuple #[.agg #[.slice (some ⟨w.heap.size + 1, 0, none⟩) 3 3], .slice (some ⟨w.heap.size + 1 + 1, 0, none⟩) 3 3], ?_, _, 3, _, 3, rfl, li_blk k1 k1.lt rfl rfl, rs_blk k2 k2.lt rfl rfl, hb⟩
  simp [results, Try.results47, go_sem, g0]

set_option maxRecDepth 100000 in
set_option maxHeartbeats 2000000 in
theorem works6_any (w : World) : Calls Try.prog 15 #[] w fun e w' => e = .returned (.bool true) ∧ Below w.heap.size w w' := by
  go_enter Try.func15, Try.ntmps15
  go_wp2_with fail
  refine (Example6_any w).mono ?_
  rintro e w1 ⟨Af, kf, A, k, rfl, h1, h2, hb1⟩
  have H1 := Lib.hid h1
  have H2 := Lib.hid h2
  have HB := Lib.hid hb1
  clear h1 h2 hb1
  go_wp2_with fail
  obtain ⟨W, hW⟩ : ∃ W, w1.alloc (.cells #[.slice Af 3 kf] 24) = W := ⟨_, rfl⟩
  have hbw : Below w1.heap.size w1 W := by rw [← hW]; exact (Below.refl _ _).alloc (Nat.le_refl _) _
  rw [hW]
  replace H1 := Lib.hid (H1.out.below hbw (Nat.le_refl _))
  replace H2 := Lib.hid (H2.out.below hbw (Nat.le_refl _))
  have hs := hbw.size
  replace HB := Lib.hid (HB.out.trans (hbw.mono HB.out.size))
  clear hW hbw
  have CALL := Read_any w1.heap.size Af A 3 kf 3 k exS exG W H1.out H2.out hs (by omega) (by omega)
  rw [exE, exRes] at CALL
  refine CALL.mono ?_
  clear CALL
  rintro e w2 ⟨A2, n2, k2, rfl, h2, -, hb2⟩
  have hn2 : n2 = 3 := h2.1
  subst hn2
  have H3 := Lib.hid h2
  replace H2 := Lib.hid (H2.out.below hb2 hs)
  have hs2 := hb2.size
  replace HB := Lib.hid (HB.out.trans (hb2.mono HB.out.size))
  clear h2 hb2 H1
  go_wp2_with fail
  have CALL := Balance_any w1.heap.size A 3 k exG w2 H2.out (by omega) (by omega)
  rw [exBal.1, if_pos rfl, if_pos rfl, exBal.2.1, exBal.2.2] at CALL
  refine CALL.mono ?_
  clear CALL
  rintro e w3 ⟨rfl, hb3⟩
  replace H3 := Lib.hid (H3.out.below hb3 (Nat.le_refl _))
  have hs3 := hb3.size
  replace HB := Lib.hid (HB.out.trans (hb3.mono HB.out.size))
  clear hb3 H2
  go_wp2_with fail
  obtain ⟨W4, hW⟩ : ∃ W, (w3.alloc (.cells #[.int .i64 0, .int .i64 25] 52)).alloc (.cells #[.int .i64 (-100), .int .i64 92, .int .i64 (-97), .int .i64 90, .int .i64 (-95), .int .i64 92] 69) = W := ⟨_, rfl⟩
  have hb4 : Below w3.heap.size w3 W4 := by rw [← hW]; exact ((Below.refl _ _).alloc (Nat.le_refl _) _).alloc (by simp) _
  have ka : Blk W4 w3.heap.size 52 #[.int .i64 0, .int .i64 25] := by rw [← hW]; exact (Blk.new _ _ _).alloc _
  have kp : Blk W4 (w3.heap.size + 1) 69 #[.int .i64 (-100), .int .i64 92, .int .i64 (-97), .int .i64 90, .int .i64 (-95), .int .i64 92] := by rw [← hW]; exact blk_al (by simp)
  rw [hW]
  replace H3 := Lib.hid (H3.out.below hb4 hs3)
  have KA := Lib.hid ka
  have HP : Hid (RS W4 W4.heap.size (some ⟨w3.heap.size + 1, 0, none⟩) 3 exR) := Lib.hid (rs_blk kp kp.lt rfl rfl)
  have hs4 := hb4.size
  replace HB := Lib.hid (HB.out.trans (hb4.mono HB.out.size))
  clear hW hb4 ka kp
  have CALL := refSameP_any W4.heap.size A2 (some ⟨w3.heap.size + 1, 0, none⟩) 3 k2 3 3 exR exR W4 (H3.out.more (by omega)) HP.out (Nat.le_refl _) (by omega) (by omega)
  rw [sameP_self] at CALL
  refine CALL.mono ?_
  clear CALL
  rintro e w5 ⟨rfl, hb5⟩
  replace KA := Lib.hid (KA.out.below hb5 KA.out.lt)
  replace HB := Lib.hid (HB.out.trans (hb5.mono HB.out.size))
  clear hb5
  obtain ⟨z0, z1, -, -, -⟩ := KA.out.two
  have eqa := fun W : World => eqArm 0 25 W
  go_wp2
  go_ret
  exact ⟨rfl, HB.out⟩
end Go.Proofs.Ytjdnpgilinfkgaa
