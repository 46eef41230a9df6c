/-
  What a step says: edge of package lathe; keptBy; land.
-/
import Derived.Test.YtgdkcbnpgpjnbaaLC
import Derived.Deep.Cut
import Derived.StillTailTactics
namespace Go.Proofs.Ytgdkcbnpgpjnbaa
open Go.RowKit

def edgV (r i : Int) : Option (Int × Int × Int) → Value
  | none => .agg #[.int .i64 0, .int .i64 0, .int .i64 0, .int .i64 0, .int .i64 0]
  | some e => .agg #[.int .i64 r, .int .i64 i, .int .i64 e.1, .int .i64 e.2.1, .int .i64 e.2.2]

theorem Blk.seven {w : World} {g : Nat} {t : TypeId} {a b c d e f h : Value} (hB : Blk w g t #[a, b, c, d, e, f, h]) : w.cell? ⟨g, 0, none⟩ = some a ∧ w.cell? ⟨g, 1, none⟩ = some b ∧ w.cell? ⟨g, 2, none⟩ = some c ∧ w.cell? ⟨g, 3, none⟩ = some d ∧ w.cell? ⟨g, 4, none⟩ = some e ∧ w.cell? ⟨g, 5, none⟩ = some f ∧ w.cell? ⟨g, 6, none⟩ = some h :=
  ⟨(hB.cell 0).trans rfl, (hB.cell 1).trans rfl, (hB.cell 2).trans rfl, (hB.cell 3).trans rfl, (hB.cell 4).trans rfl, (hB.cell 5).trans rfl, (hB.cell 6).trans rfl⟩
theorem Blk.five {w : World} {g : Nat} {t : TypeId} {a b c d e : Value} (hB : Blk w g t #[a, b, c, d, e]) : w.cell? ⟨g, 0, none⟩ = some a ∧ w.cell? ⟨g, 1, none⟩ = some b ∧ w.cell? ⟨g, 2, none⟩ = some c ∧ w.cell? ⟨g, 3, none⟩ = some d ∧ w.cell? ⟨g, 4, none⟩ = some e ∧ w.frozen? ⟨g, 0, none⟩ = false ∧ w.frozen? ⟨g, 1, none⟩ = false ∧ w.frozen? ⟨g, 2, none⟩ = false ∧ w.frozen? ⟨g, 3, none⟩ = false ∧ w.frozen? ⟨g, 4, none⟩ = false ∧ g < w.heap.size :=
  ⟨(hB.cell 0).trans rfl, (hB.cell 1).trans rfl, (hB.cell 2).trans rfl, (hB.cell 3).trans rfl, (hB.cell 4).trans rfl, hB.frozen 0, hB.frozen 1, hB.frozen 2, hB.frozen 3, hB.frozen 4, hB.lt⟩
/-- The cell of a result, written whole. -/
theorem edge_fin {w W : World} {t : TypeId} {u0 u1 u2 u3 u4 a b c d e : Value} (hb : Below w.heap.size w W) (hk : Blk W (w.heap.size + 1 + 1) t #[u0, u1, u2, u3, u4]) :
    ∃ V, Blk V (w.heap.size + 1 + 1) t #[a, b, c, d, e] ∧ Below w.heap.size w V ∧ V = ((((W.setCell ⟨w.heap.size + 1 + 1, 0, none⟩ a).setCell ⟨w.heap.size + 1 + 1, 1, none⟩ b).setCell ⟨w.heap.size + 1 + 1, 2, none⟩ c).setCell ⟨w.heap.size + 1 + 1, 3, none⟩ d).setCell ⟨w.heap.size + 1 + 1, 4, none⟩ e :=
  ⟨_, ((((hk.set_ 0 a).set_ 1 b).set_ 2 c).set_ 3 d).set_ 4 e, ((((hb.setCell (by simp; omega) _).setCell (by simp; omega) _).setCell (by simp; omega) _).setCell (by simp; omega) _).setCell (by simp; omega) _, rfl⟩

set_option maxRecDepth 100000 in
set_option maxHeartbeats 8000000 in
theorem edge_any (B : Nat) (A : Option Addr) (n c : Nat) (b : Bk) (P : List Smp) (r i : Int) (w : World) (h0 : RS w B A n P) (hB : B ≤ w.heap.size) (hn : n ≤ 1000000) (hb : BkOk b) (hP : PsOk P) :
    Calls Try.prog 62 #[.agg #[.int .i64 b.per, .int .i64 b.rim, .int .i64 b.core, .int .i64 b.land, .int .i64 b.slow, .int .i64 b.fast, .slice A n c], .agg #[.int .i64 r, .int .i64 i]] w fun e w' => e = .returned (.tuple #[edgV r i (edgO b P (r, i)), .bool (edgO b P (r, i)).isSome]) ∧ Below w.heap.size w w' := by
  have H := Lib.hid (h0.more hB)
  have hl : n = P.length := h0.1
  have p1 := hb.per1
  have p2 := hb.per2
  have p3 := hb.core
  have p4 := hb.corim
  have p5 := hb.rim
  have p6 := hb.land1
  have p7 := hb.land2
  have p8 := hb.slow
  have p9 := hb.slowfast
  have p10 := hb.fast
  clear h0 hB hb
  by_cases c1 : i < 0
  · have HE := Lib.hid (edgO_neg (b := b) (P := P) (r := r) c1)
    clear hl
    go_enter Try.func62, Try.ntmps62
    go_upto_region 1 with fail
    obtain ⟨W, hW⟩ : ∃ W, ((w.alloc (.cells #[.int .i64 b.per, .int .i64 b.rim, .int .i64 b.core, .int .i64 b.land, .int .i64 b.slow, .int .i64 b.fast, .slice A n c] 69)).alloc (.cells #[.int .i64 r, .int .i64 i] 52)).alloc (.cells #[.int .i64 0, .int .i64 0, .int .i64 0, .int .i64 0, .int .i64 0] 78) = W := ⟨_, rfl⟩
    have hb0 : Below w.heap.size w W := by rw [← hW]; exact (((Below.refl _ _).alloc (Nat.le_refl _) _).alloc (by simp) _).alloc (by simp; omega) _
    have k0 : Blk W w.heap.size 69 #[.int .i64 b.per, .int .i64 b.rim, .int .i64 b.core, .int .i64 b.land, .int .i64 b.slow, .int .i64 b.fast, .slice A n c] := by rw [← hW]; exact ((Blk.new _ _ _).alloc _).alloc _
    have kx : Blk W (w.heap.size + 1) 52 #[.int .i64 r, .int .i64 i] := by rw [← hW]; exact (blk_al (by simp)).alloc _
    have k2 : Blk W (w.heap.size + 1 + 1) 78 #[.int .i64 0, .int .i64 0, .int .i64 0, .int .i64 0, .int .i64 0] := by rw [← hW]; exact blk_al (by simp)
    rw [hW]
    clear hW
    have HBW := Lib.hid hb0
    have HK2 := Lib.hid k2
    obtain ⟨s0, s1, s2, s3, s4, s5, s6⟩ := k0.seven
    obtain ⟨x0, x1, -, -, -⟩ := kx.two
    obtain ⟨z0, z1, z2, z3, z4, z5, z6, z7, z8, z9, z10⟩ := k2.five
    have H3 := Lib.hid (H.out.below hb0 (Nat.le_refl _))
    clear k0 kx k2 hb0
    go_wp2
    refine bodyPost_ret (v := .tuple #[.agg #[.int .i64 0, .int .i64 0, .int .i64 0, .int .i64 0, .int .i64 0], .bool false]) ?_ rfl ⟨by rw [HE.out]; rfl, by first | exact HBW.out | (repeat (refine Below.setCell ?_ (by simp <;> omega) _)) <;> exact HBW.out⟩
    simp [results, Try.results62, go_sem, z0, z1, z2, z3, z4]
  by_cases c2 : (n : Int) ≤ i
  · have HE := Lib.hid (edgO_far (b := b) (P := P) (r := r) (i := i) (by omega))
    clear hl
    go_enter Try.func62, Try.ntmps62
    go_upto_region 1 with fail
    obtain ⟨W, hW⟩ : ∃ W, ((w.alloc (.cells #[.int .i64 b.per, .int .i64 b.rim, .int .i64 b.core, .int .i64 b.land, .int .i64 b.slow, .int .i64 b.fast, .slice A n c] 69)).alloc (.cells #[.int .i64 r, .int .i64 i] 52)).alloc (.cells #[.int .i64 0, .int .i64 0, .int .i64 0, .int .i64 0, .int .i64 0] 78) = W := ⟨_, rfl⟩
    have hb0 : Below w.heap.size w W := by rw [← hW]; exact (((Below.refl _ _).alloc (Nat.le_refl _) _).alloc (by simp) _).alloc (by simp; omega) _
    have k0 : Blk W w.heap.size 69 #[.int .i64 b.per, .int .i64 b.rim, .int .i64 b.core, .int .i64 b.land, .int .i64 b.slow, .int .i64 b.fast, .slice A n c] := by rw [← hW]; exact ((Blk.new _ _ _).alloc _).alloc _
    have kx : Blk W (w.heap.size + 1) 52 #[.int .i64 r, .int .i64 i] := by rw [← hW]; exact (blk_al (by simp)).alloc _
    have k2 : Blk W (w.heap.size + 1 + 1) 78 #[.int .i64 0, .int .i64 0, .int .i64 0, .int .i64 0, .int .i64 0] := by rw [← hW]; exact blk_al (by simp)
    rw [hW]
    clear hW
    have HBW := Lib.hid hb0
    have HK2 := Lib.hid k2
    obtain ⟨s0, s1, s2, s3, s4, s5, s6⟩ := k0.seven
    obtain ⟨x0, x1, -, -, -⟩ := kx.two
    obtain ⟨z0, z1, z2, z3, z4, z5, z6, z7, z8, z9, z10⟩ := k2.five
    have H3 := Lib.hid (H.out.below hb0 (Nat.le_refl _))
    clear k0 kx k2 hb0
    go_wp2
    refine bodyPost_ret (v := .tuple #[.agg #[.int .i64 0, .int .i64 0, .int .i64 0, .int .i64 0, .int .i64 0], .bool false]) ?_ rfl ⟨by rw [HE.out]; rfl, by first | exact HBW.out | (repeat (refine Below.setCell ?_ (by simp <;> omega) _)) <;> exact HBW.out⟩
    simp [results, Try.results62, go_sem, z0, z1, z2, z3, z4]
  obtain ⟨k, rfl⟩ : ∃ k : Nat, i = (k : Int) := ⟨i.toNat, by omega⟩
  have hk : k < n := by omega
  have c3 : (k : Int) < (n : Int) := by omega
  obtain ⟨ad, hA, hbl, -, -⟩ := H.out.pt hk
  have q1 := (hP.at_ k).1
  have q2 := (hP.at_ k).2.1
  have q3 := (hP.at_ k).2.2.1
  have q4 := (hP.at_ k).2.2.2
  subst hA
  by_cases e1 : r = 1
  · subst e1
    have HE := Lib.hid (edgO_rim (b := b) (P := P) (k := k) (by omega))
    clear hl
    go_enter Try.func62, Try.ntmps62
    go_upto_region 1 with fail
    obtain ⟨W, hW⟩ : ∃ W, ((w.alloc (.cells #[.int .i64 b.per, .int .i64 b.rim, .int .i64 b.core, .int .i64 b.land, .int .i64 b.slow, .int .i64 b.fast, .slice (some ad) n c] 69)).alloc (.cells #[.int .i64 1, .int .i64 (k : Int)] 52)).alloc (.cells #[.int .i64 0, .int .i64 0, .int .i64 0, .int .i64 0, .int .i64 0] 78) = W := ⟨_, rfl⟩
    have hb0 : Below w.heap.size w W := by rw [← hW]; exact (((Below.refl _ _).alloc (Nat.le_refl _) _).alloc (by simp) _).alloc (by simp; omega) _
    have k0 : Blk W w.heap.size 69 #[.int .i64 b.per, .int .i64 b.rim, .int .i64 b.core, .int .i64 b.land, .int .i64 b.slow, .int .i64 b.fast, .slice (some ad) n c] := by rw [← hW]; exact ((Blk.new _ _ _).alloc _).alloc _
    have kx : Blk W (w.heap.size + 1) 52 #[.int .i64 1, .int .i64 (k : Int)] := by rw [← hW]; exact (blk_al (by simp)).alloc _
    have k2 : Blk W (w.heap.size + 1 + 1) 78 #[.int .i64 0, .int .i64 0, .int .i64 0, .int .i64 0, .int .i64 0] := by rw [← hW]; exact blk_al (by simp)
    rw [hW]
    clear hW
    have HBW := Lib.hid hb0
    have HK2 := Lib.hid k2
    obtain ⟨s0, s1, s2, s3, s4, s5, s6⟩ := k0.seven
    obtain ⟨x0, x1, -, -, -⟩ := kx.two
    obtain ⟨z0, z1, z2, z3, z4, z5, z6, z7, z8, z9, z10⟩ := k2.five
    have H3 := Lib.hid (H.out.below hb0 (Nat.le_refl _))
    clear k0 kx k2 hb0
    obtain ⟨ad1, hA1, -, g1, g2⟩ := H3.out.pt hk
    cases hA1
    go_wp2_with fail
    go_still_tail 13, (by kernel_rfl)
    repeat still_step
    try refine wpStill_nil ?_
    change wpList _ _ _ _ _ W.drew
    go_wp2
    obtain ⟨V, KV, HBV, hV⟩ := edge_fin (a := .int .i64 (1)) (b := .int .i64 ((k : Int))) (c := .int .i64 (-1)) (d := .int .i64 ((k : Int))) (e := .int .i64 (b.rim - pout P k)) HBW.out HK2.out
    rw [← hV]
    obtain ⟨v0, v1, v2, v3, v4, -⟩ := (show Blk V.drew _ _ _ from KV).five
    refine bodyPost_ret (v := .tuple #[.agg #[.int .i64 (1), .int .i64 ((k : Int)), .int .i64 (-1), .int .i64 ((k : Int)), .int .i64 (b.rim - pout P k)], .bool true]) ?_ rfl ⟨by rw [HE.out]; rfl, HBV.drew⟩
    simp [results, Try.results62, go_sem, v0, v1, v2, v3, v4]
  by_cases e2 : r = 2
  · subst e2
    have HE := Lib.hid (edgO_core (b := b) (P := P) (k := k) (by omega))
    clear hl
    go_enter Try.func62, Try.ntmps62
    go_upto_region 1 with fail
    obtain ⟨W, hW⟩ : ∃ W, ((w.alloc (.cells #[.int .i64 b.per, .int .i64 b.rim, .int .i64 b.core, .int .i64 b.land, .int .i64 b.slow, .int .i64 b.fast, .slice (some ad) n c] 69)).alloc (.cells #[.int .i64 2, .int .i64 (k : Int)] 52)).alloc (.cells #[.int .i64 0, .int .i64 0, .int .i64 0, .int .i64 0, .int .i64 0] 78) = W := ⟨_, rfl⟩
    have hb0 : Below w.heap.size w W := by rw [← hW]; exact (((Below.refl _ _).alloc (Nat.le_refl _) _).alloc (by simp) _).alloc (by simp; omega) _
    have k0 : Blk W w.heap.size 69 #[.int .i64 b.per, .int .i64 b.rim, .int .i64 b.core, .int .i64 b.land, .int .i64 b.slow, .int .i64 b.fast, .slice (some ad) n c] := by rw [← hW]; exact ((Blk.new _ _ _).alloc _).alloc _
    have kx : Blk W (w.heap.size + 1) 52 #[.int .i64 2, .int .i64 (k : Int)] := by rw [← hW]; exact (blk_al (by simp)).alloc _
    have k2 : Blk W (w.heap.size + 1 + 1) 78 #[.int .i64 0, .int .i64 0, .int .i64 0, .int .i64 0, .int .i64 0] := by rw [← hW]; exact blk_al (by simp)
    rw [hW]
    clear hW
    have HBW := Lib.hid hb0
    have HK2 := Lib.hid k2
    obtain ⟨s0, s1, s2, s3, s4, s5, s6⟩ := k0.seven
    obtain ⟨x0, x1, -, -, -⟩ := kx.two
    obtain ⟨z0, z1, z2, z3, z4, z5, z6, z7, z8, z9, z10⟩ := k2.five
    have H3 := Lib.hid (H.out.below hb0 (Nat.le_refl _))
    clear k0 kx k2 hb0
    obtain ⟨ad1, hA1, -, g1, g2⟩ := H3.out.pt hk
    cases hA1
    go_wp2_with fail
    go_still_tail 13, (by kernel_rfl)
    repeat still_step
    try refine wpStill_nil ?_
    change wpList _ _ _ _ _ W.drew
    go_wp2
    obtain ⟨V, KV, HBV, hV⟩ := edge_fin (a := .int .i64 (2)) (b := .int .i64 ((k : Int))) (c := .int .i64 ((k : Int))) (d := .int .i64 (-1)) (e := .int .i64 (pin P k - b.core)) HBW.out HK2.out
    rw [← hV]
    obtain ⟨v0, v1, v2, v3, v4, -⟩ := (show Blk V.drew _ _ _ from KV).five
    refine bodyPost_ret (v := .tuple #[.agg #[.int .i64 (2), .int .i64 ((k : Int)), .int .i64 ((k : Int)), .int .i64 (-1), .int .i64 (pin P k - b.core)], .bool true]) ?_ rfl ⟨by rw [HE.out]; rfl, HBV.drew⟩
    simp [results, Try.results62, go_sem, v0, v1, v2, v3, v4]
  by_cases e3 : r = 3
  · subst e3
    by_cases k0 : k = 0
    · subst k0
      have HE := Lib.hid (edgO_slow0 (b := b) (P := P))
      clear hl
      rw [show ((0 : Nat) : Int) = 0 from rfl]
      go_enter Try.func62, Try.ntmps62
      go_upto_region 1 with fail
      obtain ⟨W, hW⟩ : ∃ W, ((w.alloc (.cells #[.int .i64 b.per, .int .i64 b.rim, .int .i64 b.core, .int .i64 b.land, .int .i64 b.slow, .int .i64 b.fast, .slice (some ad) n c] 69)).alloc (.cells #[.int .i64 3, .int .i64 0] 52)).alloc (.cells #[.int .i64 0, .int .i64 0, .int .i64 0, .int .i64 0, .int .i64 0] 78) = W := ⟨_, rfl⟩
      have hb0 : Below w.heap.size w W := by rw [← hW]; exact (((Below.refl _ _).alloc (Nat.le_refl _) _).alloc (by simp) _).alloc (by simp; omega) _
      have k0 : Blk W w.heap.size 69 #[.int .i64 b.per, .int .i64 b.rim, .int .i64 b.core, .int .i64 b.land, .int .i64 b.slow, .int .i64 b.fast, .slice (some ad) n c] := by rw [← hW]; exact ((Blk.new _ _ _).alloc _).alloc _
      have kx : Blk W (w.heap.size + 1) 52 #[.int .i64 3, .int .i64 0] := by rw [← hW]; exact (blk_al (by simp)).alloc _
      have k2 : Blk W (w.heap.size + 1 + 1) 78 #[.int .i64 0, .int .i64 0, .int .i64 0, .int .i64 0, .int .i64 0] := by rw [← hW]; exact blk_al (by simp)
      rw [hW]
      clear hW
      have HBW := Lib.hid hb0
      have HK2 := Lib.hid k2
      obtain ⟨s0, s1, s2, s3, s4, s5, s6⟩ := k0.seven
      obtain ⟨x0, x1, -, -, -⟩ := kx.two
      obtain ⟨z0, z1, z2, z3, z4, z5, z6, z7, z8, z9, z10⟩ := k2.five
      have H3 := Lib.hid (H.out.below hb0 (Nat.le_refl _))
      clear k0 kx k2 hb0
      go_wp2
      refine bodyPost_ret (v := .tuple #[.agg #[.int .i64 0, .int .i64 0, .int .i64 0, .int .i64 0, .int .i64 0], .bool false]) ?_ rfl ⟨by rw [HE.out]; rfl, by first | exact HBW.out | (repeat (refine Below.setCell ?_ (by simp <;> omega) _)) <;> exact HBW.out⟩
      simp [results, Try.results62, go_sem, z0, z1, z2, z3, z4]
    · have k1 : (0 : Int) < (k : Int) := by omega
      have HE := Lib.hid (edgO_slow (b := b) (P := P) (k := k) (by omega) (by omega))
      clear hl
      go_enter Try.func62, Try.ntmps62
      go_upto_region 1 with fail
      obtain ⟨W, hW⟩ : ∃ W, ((w.alloc (.cells #[.int .i64 b.per, .int .i64 b.rim, .int .i64 b.core, .int .i64 b.land, .int .i64 b.slow, .int .i64 b.fast, .slice (some ad) n c] 69)).alloc (.cells #[.int .i64 3, .int .i64 (k : Int)] 52)).alloc (.cells #[.int .i64 0, .int .i64 0, .int .i64 0, .int .i64 0, .int .i64 0] 78) = W := ⟨_, rfl⟩
      have hb0 : Below w.heap.size w W := by rw [← hW]; exact (((Below.refl _ _).alloc (Nat.le_refl _) _).alloc (by simp) _).alloc (by simp; omega) _
      have k0 : Blk W w.heap.size 69 #[.int .i64 b.per, .int .i64 b.rim, .int .i64 b.core, .int .i64 b.land, .int .i64 b.slow, .int .i64 b.fast, .slice (some ad) n c] := by rw [← hW]; exact ((Blk.new _ _ _).alloc _).alloc _
      have kx : Blk W (w.heap.size + 1) 52 #[.int .i64 3, .int .i64 (k : Int)] := by rw [← hW]; exact (blk_al (by simp)).alloc _
      have k2 : Blk W (w.heap.size + 1 + 1) 78 #[.int .i64 0, .int .i64 0, .int .i64 0, .int .i64 0, .int .i64 0] := by rw [← hW]; exact blk_al (by simp)
      rw [hW]
      clear hW
      have HBW := Lib.hid hb0
      have HK2 := Lib.hid k2
      obtain ⟨s0, s1, s2, s3, s4, s5, s6⟩ := k0.seven
      obtain ⟨x0, x1, -, -, -⟩ := kx.two
      obtain ⟨z0, z1, z2, z3, z4, z5, z6, z7, z8, z9, z10⟩ := k2.five
      have H3 := Lib.hid (H.out.below hb0 (Nat.le_refl _))
      clear k0 kx k2 hb0
      obtain ⟨ad1, hA1, -, g1, g2⟩ := H3.out.pt hk
      cases hA1
      go_wp2
      obtain ⟨V, KV, HBV, hV⟩ := edge_fin (a := .int .i64 (3)) (b := .int .i64 ((k : Int))) (c := .int .i64 ((k : Int) - 1)) (d := .int .i64 ((k : Int))) (e := .int .i64 (-b.slow)) HBW.out HK2.out
      rw [← hV]
      obtain ⟨v0, v1, v2, v3, v4, -⟩ := (show Blk V _ _ _ from KV).five
      refine bodyPost_ret (v := .tuple #[.agg #[.int .i64 (3), .int .i64 ((k : Int)), .int .i64 ((k : Int) - 1), .int .i64 ((k : Int)), .int .i64 (-b.slow)], .bool true]) ?_ rfl ⟨by rw [HE.out]; rfl, HBV⟩
      simp [results, Try.results62, go_sem, v0, v1, v2, v3, v4]
  by_cases e4 : r = 4
  · subst e4
    by_cases k0 : k = 0
    · subst k0
      have HE := Lib.hid (edgO_fast0 (b := b) (P := P))
      clear hl
      rw [show ((0 : Nat) : Int) = 0 from rfl]
      go_enter Try.func62, Try.ntmps62
      go_upto_region 1 with fail
      obtain ⟨W, hW⟩ : ∃ W, ((w.alloc (.cells #[.int .i64 b.per, .int .i64 b.rim, .int .i64 b.core, .int .i64 b.land, .int .i64 b.slow, .int .i64 b.fast, .slice (some ad) n c] 69)).alloc (.cells #[.int .i64 4, .int .i64 0] 52)).alloc (.cells #[.int .i64 0, .int .i64 0, .int .i64 0, .int .i64 0, .int .i64 0] 78) = W := ⟨_, rfl⟩
      have hb0 : Below w.heap.size w W := by rw [← hW]; exact (((Below.refl _ _).alloc (Nat.le_refl _) _).alloc (by simp) _).alloc (by simp; omega) _
      have k0 : Blk W w.heap.size 69 #[.int .i64 b.per, .int .i64 b.rim, .int .i64 b.core, .int .i64 b.land, .int .i64 b.slow, .int .i64 b.fast, .slice (some ad) n c] := by rw [← hW]; exact ((Blk.new _ _ _).alloc _).alloc _
      have kx : Blk W (w.heap.size + 1) 52 #[.int .i64 4, .int .i64 0] := by rw [← hW]; exact (blk_al (by simp)).alloc _
      have k2 : Blk W (w.heap.size + 1 + 1) 78 #[.int .i64 0, .int .i64 0, .int .i64 0, .int .i64 0, .int .i64 0] := by rw [← hW]; exact blk_al (by simp)
      rw [hW]
      clear hW
      have HBW := Lib.hid hb0
      have HK2 := Lib.hid k2
      obtain ⟨s0, s1, s2, s3, s4, s5, s6⟩ := k0.seven
      obtain ⟨x0, x1, -, -, -⟩ := kx.two
      obtain ⟨z0, z1, z2, z3, z4, z5, z6, z7, z8, z9, z10⟩ := k2.five
      have H3 := Lib.hid (H.out.below hb0 (Nat.le_refl _))
      clear k0 kx k2 hb0
      go_wp2
      refine bodyPost_ret (v := .tuple #[.agg #[.int .i64 0, .int .i64 0, .int .i64 0, .int .i64 0, .int .i64 0], .bool false]) ?_ rfl ⟨by rw [HE.out]; rfl, by first | exact HBW.out | (repeat (refine Below.setCell ?_ (by simp <;> omega) _)) <;> exact HBW.out⟩
      simp [results, Try.results62, go_sem, z0, z1, z2, z3, z4]
    · have k1 : (0 : Int) < (k : Int) := by omega
      have HE := Lib.hid (edgO_fast (b := b) (P := P) (k := k) (by omega) (by omega))
      clear hl
      go_enter Try.func62, Try.ntmps62
      go_upto_region 1 with fail
      obtain ⟨W, hW⟩ : ∃ W, ((w.alloc (.cells #[.int .i64 b.per, .int .i64 b.rim, .int .i64 b.core, .int .i64 b.land, .int .i64 b.slow, .int .i64 b.fast, .slice (some ad) n c] 69)).alloc (.cells #[.int .i64 4, .int .i64 (k : Int)] 52)).alloc (.cells #[.int .i64 0, .int .i64 0, .int .i64 0, .int .i64 0, .int .i64 0] 78) = W := ⟨_, rfl⟩
      have hb0 : Below w.heap.size w W := by rw [← hW]; exact (((Below.refl _ _).alloc (Nat.le_refl _) _).alloc (by simp) _).alloc (by simp; omega) _
      have k0 : Blk W w.heap.size 69 #[.int .i64 b.per, .int .i64 b.rim, .int .i64 b.core, .int .i64 b.land, .int .i64 b.slow, .int .i64 b.fast, .slice (some ad) n c] := by rw [← hW]; exact ((Blk.new _ _ _).alloc _).alloc _
      have kx : Blk W (w.heap.size + 1) 52 #[.int .i64 4, .int .i64 (k : Int)] := by rw [← hW]; exact (blk_al (by simp)).alloc _
      have k2 : Blk W (w.heap.size + 1 + 1) 78 #[.int .i64 0, .int .i64 0, .int .i64 0, .int .i64 0, .int .i64 0] := by rw [← hW]; exact blk_al (by simp)
      rw [hW]
      clear hW
      have HBW := Lib.hid hb0
      have HK2 := Lib.hid k2
      obtain ⟨s0, s1, s2, s3, s4, s5, s6⟩ := k0.seven
      obtain ⟨x0, x1, -, -, -⟩ := kx.two
      obtain ⟨z0, z1, z2, z3, z4, z5, z6, z7, z8, z9, z10⟩ := k2.five
      have H3 := Lib.hid (H.out.below hb0 (Nat.le_refl _))
      clear k0 kx k2 hb0
      obtain ⟨ad1, hA1, -, g1, g2⟩ := H3.out.pt hk
      cases hA1
      go_wp2
      obtain ⟨V, KV, HBV, hV⟩ := edge_fin (a := .int .i64 (4)) (b := .int .i64 ((k : Int))) (c := .int .i64 ((k : Int))) (d := .int .i64 ((k : Int) - 1)) (e := .int .i64 (b.fast)) HBW.out HK2.out
      rw [← hV]
      obtain ⟨v0, v1, v2, v3, v4, -⟩ := (show Blk V _ _ _ from KV).five
      refine bodyPost_ret (v := .tuple #[.agg #[.int .i64 (4), .int .i64 ((k : Int)), .int .i64 ((k : Int)), .int .i64 ((k : Int) - 1), .int .i64 (b.fast)], .bool true]) ?_ rfl ⟨by rw [HE.out]; rfl, HBV⟩
      simp [results, Try.results62, go_sem, v0, v1, v2, v3, v4]
  by_cases e5 : r = 5
  · subst e5
    by_cases k0 : (k : Int) < b.per
    · have HE := Lib.hid (edgO_land0 (b := b) (P := P) (k := k) k0)
      clear hl
      go_enter Try.func62, Try.ntmps62
      go_upto_region 1 with fail
      obtain ⟨W, hW⟩ : ∃ W, ((w.alloc (.cells #[.int .i64 b.per, .int .i64 b.rim, .int .i64 b.core, .int .i64 b.land, .int .i64 b.slow, .int .i64 b.fast, .slice (some ad) n c] 69)).alloc (.cells #[.int .i64 5, .int .i64 (k : Int)] 52)).alloc (.cells #[.int .i64 0, .int .i64 0, .int .i64 0, .int .i64 0, .int .i64 0] 78) = W := ⟨_, rfl⟩
      have hb0 : Below w.heap.size w W := by rw [← hW]; exact (((Below.refl _ _).alloc (Nat.le_refl _) _).alloc (by simp) _).alloc (by simp; omega) _
      have k0 : Blk W w.heap.size 69 #[.int .i64 b.per, .int .i64 b.rim, .int .i64 b.core, .int .i64 b.land, .int .i64 b.slow, .int .i64 b.fast, .slice (some ad) n c] := by rw [← hW]; exact ((Blk.new _ _ _).alloc _).alloc _
      have kx : Blk W (w.heap.size + 1) 52 #[.int .i64 5, .int .i64 (k : Int)] := by rw [← hW]; exact (blk_al (by simp)).alloc _
      have k2 : Blk W (w.heap.size + 1 + 1) 78 #[.int .i64 0, .int .i64 0, .int .i64 0, .int .i64 0, .int .i64 0] := by rw [← hW]; exact blk_al (by simp)
      rw [hW]
      clear hW
      have HBW := Lib.hid hb0
      have HK2 := Lib.hid k2
      obtain ⟨s0, s1, s2, s3, s4, s5, s6⟩ := k0.seven
      obtain ⟨x0, x1, -, -, -⟩ := kx.two
      obtain ⟨z0, z1, z2, z3, z4, z5, z6, z7, z8, z9, z10⟩ := k2.five
      have H3 := Lib.hid (H.out.below hb0 (Nat.le_refl _))
      clear k0 kx k2 hb0
      obtain ⟨ad1, hA1, -, g1, g2⟩ := H3.out.pt hk
      cases hA1
      go_wp2
      refine bodyPost_ret (v := .tuple #[.agg #[.int .i64 0, .int .i64 0, .int .i64 0, .int .i64 0, .int .i64 0], .bool false]) ?_ rfl ⟨by rw [HE.out]; rfl, by first | exact HBW.out | (repeat (refine Below.setCell ?_ (by simp <;> omega) _)) <;> exact HBW.out⟩
      simp [results, Try.results62, go_sem, z0, z1, z2, z3, z4]
    · have k1 : b.per ≤ (k : Int) := by omega
      have HE := Lib.hid (edgO_land (b := b) (P := P) (k := k) (by omega) (by omega))
      obtain ⟨m, hm⟩ : ∃ m : Nat, (k : Int) - b.per = (m : Int) := ⟨((k : Int) - b.per).toNat, by omega⟩
      have hmn : m < n := by omega
      have hmp : m = k - b.per.toNat := by omega
      have q5 := (hP.at_ m).1
      have q6 := (hP.at_ m).2.1
      have hw : wLand b P k = pin P m - pout P k - b.land := by unfold wLand; rw [← hmp]
      rw [hw, hm] at HE
      have e9 : IntKind.i64.wrap ((k : Int) - b.per) = (m : Int) := by rw [hm]; exact IntWalk.i64_in _ (by omega)
      have e8 : (m : Int) < (n : Int) := by omega
      have e7 : (0 : Int) ≤ (m : Int) := by omega
      clear hl hmp hw hm
      go_enter Try.func62, Try.ntmps62
      go_upto_region 1 with fail
      obtain ⟨W, hW⟩ : ∃ W, ((w.alloc (.cells #[.int .i64 b.per, .int .i64 b.rim, .int .i64 b.core, .int .i64 b.land, .int .i64 b.slow, .int .i64 b.fast, .slice (some ad) n c] 69)).alloc (.cells #[.int .i64 5, .int .i64 (k : Int)] 52)).alloc (.cells #[.int .i64 0, .int .i64 0, .int .i64 0, .int .i64 0, .int .i64 0] 78) = W := ⟨_, rfl⟩
      have hb0 : Below w.heap.size w W := by rw [← hW]; exact (((Below.refl _ _).alloc (Nat.le_refl _) _).alloc (by simp) _).alloc (by simp; omega) _
      have k0 : Blk W w.heap.size 69 #[.int .i64 b.per, .int .i64 b.rim, .int .i64 b.core, .int .i64 b.land, .int .i64 b.slow, .int .i64 b.fast, .slice (some ad) n c] := by rw [← hW]; exact ((Blk.new _ _ _).alloc _).alloc _
      have kx : Blk W (w.heap.size + 1) 52 #[.int .i64 5, .int .i64 (k : Int)] := by rw [← hW]; exact (blk_al (by simp)).alloc _
      have k2 : Blk W (w.heap.size + 1 + 1) 78 #[.int .i64 0, .int .i64 0, .int .i64 0, .int .i64 0, .int .i64 0] := by rw [← hW]; exact blk_al (by simp)
      rw [hW]
      clear hW
      have HBW := Lib.hid hb0
      have HK2 := Lib.hid k2
      obtain ⟨s0, s1, s2, s3, s4, s5, s6⟩ := k0.seven
      obtain ⟨x0, x1, -, -, -⟩ := kx.two
      obtain ⟨z0, z1, z2, z3, z4, z5, z6, z7, z8, z9, z10⟩ := k2.five
      have H3 := Lib.hid (H.out.below hb0 (Nat.le_refl _))
      clear k0 kx k2 hb0
      obtain ⟨ad1, hA1, -, g1, g2⟩ := H3.out.pt hk
      cases hA1
      obtain ⟨ad2, hA2, -, g3, g4⟩ := H3.out.pt hmn
      cases hA2
      go_wp2_with fail
      go_still_tail 25, (by kernel_rfl)
      repeat still_step
      try refine wpStill_nil ?_
      change wpList _ _ _ _ _ W.drew
      go_wp2
      obtain ⟨V, KV, HBV, hV⟩ := edge_fin (a := .int .i64 (5)) (b := .int .i64 ((k : Int))) (c := .int .i64 ((m : Int))) (d := .int .i64 ((k : Int))) (e := .int .i64 (pin P m - pout P k - b.land)) HBW.out HK2.out
      rw [← hV]
      obtain ⟨v0, v1, v2, v3, v4, -⟩ := (show Blk V.drew _ _ _ from KV).five
      refine bodyPost_ret (v := .tuple #[.agg #[.int .i64 (5), .int .i64 ((k : Int)), .int .i64 ((m : Int)), .int .i64 ((k : Int)), .int .i64 (pin P m - pout P k - b.land)], .bool true]) ?_ rfl ⟨by rw [HE.out]; rfl, HBV.drew⟩
      simp [results, Try.results62, go_sem, v0, v1, v2, v3, v4]
  have HE := Lib.hid (edgO_other (b := b) (P := P) (i := (k : Int)) e1 e2 e3 e4 e5)
  have d1 : (r == 1) = false := by simpa using e1
  have d2 : (r == 2) = false := by simpa using e2
  have d3 : (r == 3) = false := by simpa using e3
  have d4 : (r == 4) = false := by simpa using e4
  have d5 : (r == 5) = false := by simpa using e5
  clear hl
  go_enter Try.func62, Try.ntmps62
  go_upto_region 1 with fail
  obtain ⟨W, hW⟩ : ∃ W, ((w.alloc (.cells #[.int .i64 b.per, .int .i64 b.rim, .int .i64 b.core, .int .i64 b.land, .int .i64 b.slow, .int .i64 b.fast, .slice (some ad) n c] 69)).alloc (.cells #[.int .i64 r, .int .i64 (k : Int)] 52)).alloc (.cells #[.int .i64 0, .int .i64 0, .int .i64 0, .int .i64 0, .int .i64 0] 78) = W := ⟨_, rfl⟩
  have hb0 : Below w.heap.size w W := by rw [← hW]; exact (((Below.refl _ _).alloc (Nat.le_refl _) _).alloc (by simp) _).alloc (by simp; omega) _
  have k0 : Blk W w.heap.size 69 #[.int .i64 b.per, .int .i64 b.rim, .int .i64 b.core, .int .i64 b.land, .int .i64 b.slow, .int .i64 b.fast, .slice (some ad) n c] := by rw [← hW]; exact ((Blk.new _ _ _).alloc _).alloc _
  have kx : Blk W (w.heap.size + 1) 52 #[.int .i64 r, .int .i64 (k : Int)] := by rw [← hW]; exact (blk_al (by simp)).alloc _
  have k2 : Blk W (w.heap.size + 1 + 1) 78 #[.int .i64 0, .int .i64 0, .int .i64 0, .int .i64 0, .int .i64 0] := by rw [← hW]; exact blk_al (by simp)
  rw [hW]
  clear hW
  have HBW := Lib.hid hb0
  have HK2 := Lib.hid k2
  obtain ⟨s0, s1, s2, s3, s4, s5, s6⟩ := k0.seven
  obtain ⟨x0, x1, -, -, -⟩ := kx.two
  obtain ⟨z0, z1, z2, z3, z4, z5, z6, z7, z8, z9, z10⟩ := k2.five
  have H3 := Lib.hid (H.out.below hb0 (Nat.le_refl _))
  clear k0 kx k2 hb0
  obtain ⟨ad1, hA1, -, g1, g2⟩ := H3.out.pt hk
  cases hA1
  go_wp2
  refine bodyPost_ret (v := .tuple #[.agg #[.int .i64 0, .int .i64 0, .int .i64 0, .int .i64 0, .int .i64 0], .bool false]) ?_ rfl ⟨by rw [HE.out]; rfl, by first | exact HBW.out | (repeat (refine Below.setCell ?_ (by simp <;> omega) _)) <;> exact HBW.out⟩
  simp [results, Try.results62, go_sem, z0, z1, z2, z3, z4]

end Go.Proofs.Ytgdkcbnpgpjnbaa
