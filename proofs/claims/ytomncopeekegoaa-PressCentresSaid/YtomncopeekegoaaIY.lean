/-
  The walk of PressCentres.
-/
import Derived.Test.YtomncopeekegoaaIX
import Derived.Test.YtomncopeekegoaaIC
namespace Go.Proofs.Ytomncopeekegoaa
open Go.RowKit

set_option maxRecDepth 100000 in
set_option maxHeartbeats 8000000 in
theorem centres_walk (a b c : Smp) (lim : Int) (w : World) :
    Calls Try.prog 7 #[.agg #[.int .i64 a.1, .int .i64 a.2], .agg #[.int .i64 b.1, .int .i64 b.2], .agg #[.int .i64 c.1, .int .i64 c.2], .int .i64 lim] w fun e w' => e = .returned (.bool true) ∧ Below w.heap.size w w' := by
  obtain ⟨⟨x, y, d⟩, hR⟩ : ∃ R, cenR a b c = R := ⟨_, rfl⟩
  obtain ⟨E, hE⟩ : ∃ E, cenE a b c = E := ⟨_, rfl⟩
  obtain ⟨⟨m, g⟩, hV⟩ : ∃ V, cdV a b c lim = V := ⟨_, rfl⟩
  have H1 : Hid (∀ W : World, Calls Try.prog 33 #[.agg #[.int .i64 a.1, .int .i64 a.2], .agg #[.int .i64 b.1, .int .i64 b.2], .agg #[.int .i64 c.1, .int .i64 c.2]] W fun e w' => e = .returned (.tuple #[.int .i64 x, .int .i64 y, .int .i64 d, .int .i64 E]) ∧ Below W.heap.size W w') := Lib.hid (fun W => by have h := Centre_any a b c W; rw [hR, hE] at h; exact h)
  have H2 : Hid (∀ W : World, Calls Try.prog 34 #[.agg #[.int .i64 a.1, .int .i64 a.2], .agg #[.int .i64 b.1, .int .i64 b.2], .agg #[.int .i64 c.1, .int .i64 c.2]] W fun e w' => e = .returned (.tuple #[.int .i64 x, .int .i64 y, .int .i64 d, .int .i64 E]) ∧ Below W.heap.size W w') := Lib.hid (fun W => by have h := refCentre_any a b c W; rw [hR, hE] at h; exact h)
  have H3 : Hid (∀ W : World, Calls Try.prog 35 #[.agg #[.int .i64 a.1, .int .i64 a.2], .agg #[.int .i64 b.1, .int .i64 b.2], .agg #[.int .i64 c.1, .int .i64 c.2], .int .i64 lim] W fun e w' => e = .returned (.tuple #[.bool m, .int .i64 g]) ∧ Below W.heap.size W w') := Lib.hid (fun W => by have h := Centred_any a b c lim W; rw [hV] at h; exact h)
  have H4 : Hid (∀ W : World, Calls Try.prog 36 #[.agg #[.int .i64 a.1, .int .i64 a.2], .agg #[.int .i64 b.1, .int .i64 b.2], .agg #[.int .i64 c.1, .int .i64 c.2], .int .i64 lim] W fun e w' => e = .returned (.tuple #[.bool m, .int .i64 g]) ∧ Below W.heap.size W w') := Lib.hid (fun W => by have h := refCentred_any a b c lim W; rw [hV] at h; exact h)
  have q1 : ((x : Int) == x) = true := by simp
  have q2 : ((y : Int) == y) = true := by simp
  have q3 : ((d : Int) == d) = true := by simp
  have q4 : ((E : Int) == E) = true := by simp
  have q5 : (m == m) = true := by simp
  have q6 : ((g : Int) == g) = true := by simp
  clear hR hE hV
  go_enter Try.func7, Try.ntmps7
  go_upto_region 1 with fail
  obtain ⟨W, hW⟩ : ∃ W, ((w.alloc (.cells #[.int .i64 a.1, .int .i64 a.2] 66)).alloc (.cells #[.int .i64 b.1, .int .i64 b.2] 66)).alloc (.cells #[.int .i64 c.1, .int .i64 c.2] 66) = W := ⟨_, rfl⟩
  have hb0 : Below w.heap.size w W := by rw [← hW]; exact ((below_a _ _).alloc (by simp) _).alloc (by simp; omega) _
  have k0 : Blk W w.heap.size 66 #[.int .i64 a.1, .int .i64 a.2] := by rw [← hW]; exact ((Blk.new _ _ _).alloc _).alloc _
  have k1 : Blk W (w.heap.size + 1) 66 #[.int .i64 b.1, .int .i64 b.2] := by rw [← hW]; exact (blk_al (by simp)).alloc _
  have k2 : Blk W (w.heap.size + 1 + 1) 66 #[.int .i64 c.1, .int .i64 c.2] := by rw [← hW]; exact blk_al (by simp)
  rw [hW]
  have K0 := Lib.hid k0
  have K1 := Lib.hid k1
  have K2 := Lib.hid k2
  have HB := Lib.hid hb0
  clear hW k0 k1 k2 hb0
  obtain ⟨c0, c1⟩ := K0.out.two_
  obtain ⟨c2, c3⟩ := K1.out.two_
  obtain ⟨c4, c5⟩ := K2.out.two_
  go_wp2_with fail
  refine (H1.out _).mono ?_
  rintro e w1 ⟨rfl, hb⟩
  replace K0 := Lib.hid (K0.out.below hb K0.out.lt)
  replace K1 := Lib.hid (K1.out.below hb K1.out.lt)
  replace K2 := Lib.hid (K2.out.below hb K2.out.lt)
  replace HB := Lib.hid (HB.out.trans (hb.mono HB.out.size))
  clear hb c0 c1 c2 c3 c4 c5
  obtain ⟨c0, c1⟩ := K0.out.two_
  obtain ⟨c2, c3⟩ := K1.out.two_
  obtain ⟨c4, c5⟩ := K2.out.two_
  go_wp2_with fail
  refine (H2.out _).mono ?_
  rintro e w2 ⟨rfl, hb⟩
  replace K0 := Lib.hid (K0.out.below hb K0.out.lt)
  replace K1 := Lib.hid (K1.out.below hb K1.out.lt)
  replace K2 := Lib.hid (K2.out.below hb K2.out.lt)
  replace HB := Lib.hid (HB.out.trans (hb.mono HB.out.size))
  clear hb c0 c1 c2 c3 c4 c5
  obtain ⟨c0, c1⟩ := K0.out.two_
  obtain ⟨c2, c3⟩ := K1.out.two_
  obtain ⟨c4, c5⟩ := K2.out.two_
  go_wp2_with fail
  refine (H3.out _).mono ?_
  rintro e w3 ⟨rfl, hb⟩
  replace K0 := Lib.hid (K0.out.below hb K0.out.lt)
  replace K1 := Lib.hid (K1.out.below hb K1.out.lt)
  replace K2 := Lib.hid (K2.out.below hb K2.out.lt)
  replace HB := Lib.hid (HB.out.trans (hb.mono HB.out.size))
  clear hb c0 c1 c2 c3 c4 c5
  obtain ⟨c0, c1⟩ := K0.out.two_
  obtain ⟨c2, c3⟩ := K1.out.two_
  obtain ⟨c4, c5⟩ := K2.out.two_
  go_wp2_with fail
  refine (H4.out _).mono ?_
  rintro e w4 ⟨rfl, hb⟩
  replace K0 := Lib.hid (K0.out.below hb K0.out.lt)
  replace K1 := Lib.hid (K1.out.below hb K1.out.lt)
  replace K2 := Lib.hid (K2.out.below hb K2.out.lt)
  replace HB := Lib.hid (HB.out.trans (hb.mono HB.out.size))
  clear hb c0 c1 c2 c3 c4 c5
  go_wp2_with ((refine (works8_any _).mono ?_); rintro e w5 ⟨rfl, hb⟩)
  go_ret
  exact ⟨rfl, HB.out.trans (hb.mono HB.out.size)⟩
end Go.Proofs.Ytomncopeekegoaa
