/-
  The document's Centre.
-/
import Derived.Test.YtomncopeekegoaaIA
import Derived.StillTailTactics
namespace Go.Proofs.Ytomncopeekegoaa
open Go.RowKit

theorem c_bd {a b c : Smp} (ha : SpB a) (hb : SpB b) (hc : SpB c) : (-288230376151711744 ≤ cX a b c ∧ cX a b c ≤ 288230376151711744) ∧ (-288230376151711744 ≤ cY a b c ∧ cY a b c ≤ 288230376151711744) ∧ (-1099511627776 ≤ cD a b c ∧ cD a b c ≤ 1099511627776) := by
  have h := p_bd ha hb hc 3
  rw [(p_three a b c).1, (p_three a b c).2.1, (p_three a b c).2.2] at h
  omega
set_option maxRecDepth 100000 in
set_option maxHeartbeats 8000000 in
theorem refCentre_any (a b c : Smp) (w : World) :
    Calls Try.prog 34 #[.agg #[.int .i64 a.1, .int .i64 a.2], .agg #[.int .i64 b.1, .int .i64 b.2], .agg #[.int .i64 c.1, .int .i64 c.2]] w fun e w' =>
      e = .returned (.tuple #[.int .i64 (cenR a b c).1, .int .i64 (cenR a b c).2.1, .int .i64 (cenR a b c).2.2, .int .i64 (cenE a b c)]) ∧ Below w.heap.size w w' := by
  have HE0 : Hid ((spW a && spW b && spW c) = false → cenE a b c = 3 ∧ cenR a b c = (0, 0, 0)) := Lib.hid (fun h => by
    have : cenE a b c = 3 := by unfold cenE; rw [h]; rfl
    exact ⟨this, by unfold cenR; rw [this]; rfl⟩)
  cases h1 : spW a
  · have HF := Lib.hid (HE0.out (by rw [h1]; rfl))
    have H1 := Lib.hid h1
    clear h1 HE0
    --<1
    go_enter Try.func34, Try.ntmps34
    go_upto_region 1 with fail
    obtain ⟨W, hW⟩ : ∃ W, ((w.alloc (.cells #[.int .i64 a.1, .int .i64 a.2] 66)).alloc (.cells #[.int .i64 b.1, .int .i64 b.2] 66)).alloc (.cells #[.int .i64 c.1, .int .i64 c.2] 66) = W := ⟨_, rfl⟩
    have hb0 : Below w.heap.size w W := by rw [← hW]; exact ((below_a _ _).alloc (by simp) _).alloc (by simp; omega) _
    have k0 : Blk W w.heap.size 66 #[.int .i64 a.1, .int .i64 a.2] := by rw [← hW]; exact ((Blk.new _ _ _).alloc _).alloc _
    have k1 : Blk W (w.heap.size + 1) 66 #[.int .i64 b.1, .int .i64 b.2] := by rw [← hW]; exact (blk_al (by simp)).alloc _
    have k2 : Blk W (w.heap.size + 1 + 1) 66 #[.int .i64 c.1, .int .i64 c.2] := by rw [← hW]; exact blk_al (by simp)
    rw [hW]
    have hs0 := hb0.size
    have K0 := Lib.hid k0
    have K1 := Lib.hid k1
    have K2 := Lib.hid k2
    have HB := Lib.hid hb0
    clear hW k0 k1 k2 hb0
    obtain ⟨c0, c1⟩ := K0.out.two_
    obtain ⟨c2, c3⟩ := K1.out.two_
    obtain ⟨c4, c5⟩ := K2.out.two_
    go_wp2_with fail
    refine (spot_any a.1 a.2 _).mono ?_
    rintro e w1 ⟨rfl, hb⟩
    rw [show ((a.1, a.2) : Smp) = a from rfl, H1.out]
    replace K0 := Lib.hid (K0.out.below hb K0.out.lt)
    replace K1 := Lib.hid (K1.out.below hb K1.out.lt)
    replace K2 := Lib.hid (K2.out.below hb K2.out.lt)
    replace HB := Lib.hid (HB.out.trans (hb.mono HB.out.size))
    clear hb c0 c1 c2 c3 c4 c5
    go_wp2
    (try simp only [Exit.inBlock, Exit.then])
    refine bodyPost_ret (results_tmp4 rfl _ _ _) rfl ?_
    rw [HF.out.1, HF.out.2]
    exact ⟨rfl, HB.out⟩
    --1>
  cases h2 : spW b
  · have HF := Lib.hid (HE0.out (by rw [h1, h2]; rfl))
    have H1 := Lib.hid h1
    have H2 := Lib.hid h2
    clear h1 h2 HE0
    --<2
    go_enter Try.func34, Try.ntmps34
    go_upto_region 1 with fail
    obtain ⟨W, hW⟩ : ∃ W, ((w.alloc (.cells #[.int .i64 a.1, .int .i64 a.2] 66)).alloc (.cells #[.int .i64 b.1, .int .i64 b.2] 66)).alloc (.cells #[.int .i64 c.1, .int .i64 c.2] 66) = W := ⟨_, rfl⟩
    have hb0 : Below w.heap.size w W := by rw [← hW]; exact ((below_a _ _).alloc (by simp) _).alloc (by simp; omega) _
    have k0 : Blk W w.heap.size 66 #[.int .i64 a.1, .int .i64 a.2] := by rw [← hW]; exact ((Blk.new _ _ _).alloc _).alloc _
    have k1 : Blk W (w.heap.size + 1) 66 #[.int .i64 b.1, .int .i64 b.2] := by rw [← hW]; exact (blk_al (by simp)).alloc _
    have k2 : Blk W (w.heap.size + 1 + 1) 66 #[.int .i64 c.1, .int .i64 c.2] := by rw [← hW]; exact blk_al (by simp)
    rw [hW]
    have hs0 := hb0.size
    have K0 := Lib.hid k0
    have K1 := Lib.hid k1
    have K2 := Lib.hid k2
    have HB := Lib.hid hb0
    clear hW k0 k1 k2 hb0
    obtain ⟨c0, c1⟩ := K0.out.two_
    obtain ⟨c2, c3⟩ := K1.out.two_
    obtain ⟨c4, c5⟩ := K2.out.two_
    go_wp2_with fail
    refine (spot_any a.1 a.2 _).mono ?_
    rintro e w1 ⟨rfl, hb⟩
    rw [show ((a.1, a.2) : Smp) = a from rfl, H1.out]
    replace K0 := Lib.hid (K0.out.below hb K0.out.lt)
    replace K1 := Lib.hid (K1.out.below hb K1.out.lt)
    replace K2 := Lib.hid (K2.out.below hb K2.out.lt)
    replace HB := Lib.hid (HB.out.trans (hb.mono HB.out.size))
    clear hb c0 c1 c2 c3 c4 c5
    obtain ⟨c0, c1⟩ := K0.out.two_
    obtain ⟨c2, c3⟩ := K1.out.two_
    obtain ⟨c4, c5⟩ := K2.out.two_
    go_wp2_with fail
    refine (spot_any b.1 b.2 _).mono ?_
    rintro e w2 ⟨rfl, hb⟩
    rw [show ((b.1, b.2) : Smp) = b from rfl, H2.out]
    replace K0 := Lib.hid (K0.out.below hb K0.out.lt)
    replace K1 := Lib.hid (K1.out.below hb K1.out.lt)
    replace K2 := Lib.hid (K2.out.below hb K2.out.lt)
    replace HB := Lib.hid (HB.out.trans (hb.mono HB.out.size))
    clear hb c0 c1 c2 c3 c4 c5
    go_wp2
    (try simp only [Exit.inBlock, Exit.then])
    refine bodyPost_ret (results_tmp4 rfl _ _ _) rfl ?_
    rw [HF.out.1, HF.out.2]
    exact ⟨rfl, HB.out⟩
    --2>
  cases h3 : spW c
  · have HF := Lib.hid (HE0.out (by rw [h1, h2, h3]; rfl))
    have H1 := Lib.hid h1
    have H2 := Lib.hid h2
    have H3 := Lib.hid h3
    clear h1 h2 h3 HE0
    --<3
    go_enter Try.func34, Try.ntmps34
    go_upto_region 1 with fail
    obtain ⟨W, hW⟩ : ∃ W, ((w.alloc (.cells #[.int .i64 a.1, .int .i64 a.2] 66)).alloc (.cells #[.int .i64 b.1, .int .i64 b.2] 66)).alloc (.cells #[.int .i64 c.1, .int .i64 c.2] 66) = W := ⟨_, rfl⟩
    have hb0 : Below w.heap.size w W := by rw [← hW]; exact ((below_a _ _).alloc (by simp) _).alloc (by simp; omega) _
    have k0 : Blk W w.heap.size 66 #[.int .i64 a.1, .int .i64 a.2] := by rw [← hW]; exact ((Blk.new _ _ _).alloc _).alloc _
    have k1 : Blk W (w.heap.size + 1) 66 #[.int .i64 b.1, .int .i64 b.2] := by rw [← hW]; exact (blk_al (by simp)).alloc _
    have k2 : Blk W (w.heap.size + 1 + 1) 66 #[.int .i64 c.1, .int .i64 c.2] := by rw [← hW]; exact blk_al (by simp)
    rw [hW]
    have hs0 := hb0.size
    have K0 := Lib.hid k0
    have K1 := Lib.hid k1
    have K2 := Lib.hid k2
    have HB := Lib.hid hb0
    clear hW k0 k1 k2 hb0
    obtain ⟨c0, c1⟩ := K0.out.two_
    obtain ⟨c2, c3⟩ := K1.out.two_
    obtain ⟨c4, c5⟩ := K2.out.two_
    go_wp2_with fail
    refine (spot_any a.1 a.2 _).mono ?_
    rintro e w1 ⟨rfl, hb⟩
    rw [show ((a.1, a.2) : Smp) = a from rfl, H1.out]
    replace K0 := Lib.hid (K0.out.below hb K0.out.lt)
    replace K1 := Lib.hid (K1.out.below hb K1.out.lt)
    replace K2 := Lib.hid (K2.out.below hb K2.out.lt)
    replace HB := Lib.hid (HB.out.trans (hb.mono HB.out.size))
    clear hb c0 c1 c2 c3 c4 c5
    obtain ⟨c0, c1⟩ := K0.out.two_
    obtain ⟨c2, c3⟩ := K1.out.two_
    obtain ⟨c4, c5⟩ := K2.out.two_
    go_wp2_with fail
    refine (spot_any b.1 b.2 _).mono ?_
    rintro e w2 ⟨rfl, hb⟩
    rw [show ((b.1, b.2) : Smp) = b from rfl, H2.out]
    replace K0 := Lib.hid (K0.out.below hb K0.out.lt)
    replace K1 := Lib.hid (K1.out.below hb K1.out.lt)
    replace K2 := Lib.hid (K2.out.below hb K2.out.lt)
    replace HB := Lib.hid (HB.out.trans (hb.mono HB.out.size))
    clear hb c0 c1 c2 c3 c4 c5
    obtain ⟨c0, c1⟩ := K0.out.two_
    obtain ⟨c2, c3⟩ := K1.out.two_
    obtain ⟨c4, c5⟩ := K2.out.two_
    go_wp2_with fail
    refine (spot_any c.1 c.2 _).mono ?_
    rintro e w3 ⟨rfl, hb⟩
    rw [show ((c.1, c.2) : Smp) = c from rfl, H3.out]
    replace K0 := Lib.hid (K0.out.below hb K0.out.lt)
    replace K1 := Lib.hid (K1.out.below hb K1.out.lt)
    replace K2 := Lib.hid (K2.out.below hb K2.out.lt)
    replace HB := Lib.hid (HB.out.trans (hb.mono HB.out.size))
    clear hb c0 c1 c2 c3 c4 c5
    go_wp2
    (try simp only [Exit.inBlock, Exit.then])
    refine bodyPost_ret (results_tmp4 rfl _ _ _) rfl ?_
    rw [HF.out.1, HF.out.2]
    exact ⟨rfl, HB.out⟩
    --3>
  have HE : Hid (cenE a b c = (if cD a b c = 0 then 9 else 0)) := Lib.hid (by unfold cenE; rw [h1, h2, h3]; rfl)
  have HR : Hid (cenR a b c = if cenE a b c = 0 then cenV a b c else (0, 0, 0)) := Lib.hid rfl
  have HV : Hid (cenV a b c = if cD a b c < 0 then (-cX a b c, -cY a b c, -cD a b c) else (cX a b c, cY a b c, cD a b c)) := Lib.hid rfl
  have H1 := Lib.hid h1
  have H2 := Lib.hid h2
  have H3 := Lib.hid h3
  have sa := spW_iff.1 h1
  have sb := spW_iff.1 h2
  have sc := spW_iff.1 h3
  have B0 := c_bd sa sb sc
  have t1 := stp_bd sa sb sc
  have t2 := stp_bd sb sc sa
  have t3 := stp_bd sc sa sb
  have qa := sq_bd sa
  have qb := sq_bd sb
  have qc := sq_bd sc
  have m1 := mul_bd (a := b.1 - a.1) (A := 524288) (b := c.2 - a.2) (B := 524288) (by have := sa.1; have := sb.1; omega) (by have := sa.2; have := sc.2; omega)
  have m2 := mul_bd (a := b.2 - a.2) (A := 524288) (b := c.1 - a.1) (B := 524288) (by have := sa.2; have := sb.2; omega) (by have := sa.1; have := sc.1; omega)
  have ey : ∀ s x y : Int, s * (x - y) = -(s * (y - x)) := fun s x y => by rw [← Int.mul_neg]; congr 1; omega
  have y1 := ey (sqS a) c.1 b.1
  have y2 := ey (sqS b) a.1 c.1
  have y3 := ey (sqS c) b.1 a.1
  --<W
  have v1 : IntKind.i64.wrap (b.1 - a.1) = b.1 - a.1 := IntWalk.i64_in _ (by have := sb.1; have := sa.1; omega)
  have v2 : IntKind.i64.wrap (c.2 - a.2) = c.2 - a.2 := IntWalk.i64_in _ (by have := sc.2; have := sa.2; omega)
  have v3 : IntKind.i64.wrap (b.2 - a.2) = b.2 - a.2 := IntWalk.i64_in _ (by have := sb.2; have := sa.2; omega)
  have v4 : IntKind.i64.wrap (c.1 - a.1) = c.1 - a.1 := IntWalk.i64_in _ (by have := sc.1; have := sa.1; omega)
  have v5 : IntKind.i64.wrap (b.2 - c.2) = b.2 - c.2 := IntWalk.i64_in _ (by have := sb.2; have := sc.2; omega)
  have v6 : IntKind.i64.wrap (a.2 - b.2) = a.2 - b.2 := IntWalk.i64_in _ (by have := sa.2; have := sb.2; omega)
  have v7 : IntKind.i64.wrap (c.1 - b.1) = c.1 - b.1 := IntWalk.i64_in _ (by have := sc.1; have := sb.1; omega)
  have v8 : IntKind.i64.wrap (a.1 - c.1) = a.1 - c.1 := IntWalk.i64_in _ (by have := sa.1; have := sc.1; omega)
  have v9 : IntKind.i64.wrap ((b.1 - a.1) * (c.2 - a.2)) = (b.1 - a.1) * (c.2 - a.2) := IntWalk.i64_in _ (by omega)
  have v10 : IntKind.i64.wrap ((b.2 - a.2) * (c.1 - a.1)) = (b.2 - a.2) * (c.1 - a.1) := IntWalk.i64_in _ (by omega)
  have v11 : IntKind.i64.wrap ((b.1 - a.1) * (c.2 - a.2) - (b.2 - a.2) * (c.1 - a.1)) = (b.1 - a.1) * (c.2 - a.2) - (b.2 - a.2) * (c.1 - a.1) := IntWalk.i64_in _ (by omega)
  have dd : IntKind.i64.wrap (2 * ((b.1 - a.1) * (c.2 - a.2) - (b.2 - a.2) * (c.1 - a.1))) = cD a b c := IntWalk.i64_in _ (by omega)
  have v12 : IntKind.i64.wrap (a.1 * a.1) = a.1 * a.1 := IntWalk.i64_in _ (by omega)
  have v13 : IntKind.i64.wrap (a.2 * a.2) = a.2 * a.2 := IntWalk.i64_in _ (by omega)
  have v14 : IntKind.i64.wrap (a.1 * a.1 + a.2 * a.2) = sqS a := IntWalk.i64_in _ (by omega)
  have v15 : IntKind.i64.wrap (b.1 * b.1) = b.1 * b.1 := IntWalk.i64_in _ (by omega)
  have v16 : IntKind.i64.wrap (b.2 * b.2) = b.2 * b.2 := IntWalk.i64_in _ (by omega)
  have v17 : IntKind.i64.wrap (b.1 * b.1 + b.2 * b.2) = sqS b := IntWalk.i64_in _ (by omega)
  have v18 : IntKind.i64.wrap (c.1 * c.1) = c.1 * c.1 := IntWalk.i64_in _ (by omega)
  have v19 : IntKind.i64.wrap (c.2 * c.2) = c.2 * c.2 := IntWalk.i64_in _ (by omega)
  have v20 : IntKind.i64.wrap (c.1 * c.1 + c.2 * c.2) = sqS c := IntWalk.i64_in _ (by omega)
  have v21 : IntKind.i64.wrap (sqS a * (b.2 - c.2)) = sqS a * (b.2 - c.2) := IntWalk.i64_in _ (by omega)
  have v22 : IntKind.i64.wrap (sqS b * (c.2 - a.2)) = sqS b * (c.2 - a.2) := IntWalk.i64_in _ (by omega)
  have v23 : IntKind.i64.wrap (sqS c * (a.2 - b.2)) = sqS c * (a.2 - b.2) := IntWalk.i64_in _ (by omega)
  have v24 : IntKind.i64.wrap (sqS a * (c.1 - b.1)) = sqS a * (c.1 - b.1) := IntWalk.i64_in _ (by omega)
  have v25 : IntKind.i64.wrap (sqS b * (a.1 - c.1)) = sqS b * (a.1 - c.1) := IntWalk.i64_in _ (by omega)
  have v26 : IntKind.i64.wrap (sqS c * (b.1 - a.1)) = sqS c * (b.1 - a.1) := IntWalk.i64_in _ (by omega)
  have v27 : IntKind.i64.wrap (sqS a * (b.2 - c.2) + sqS b * (c.2 - a.2)) = sqS a * (b.2 - c.2) + sqS b * (c.2 - a.2) := IntWalk.i64_in _ (by omega)
  have xx : IntKind.i64.wrap (sqS a * (b.2 - c.2) + sqS b * (c.2 - a.2) + sqS c * (a.2 - b.2)) = cX a b c := IntWalk.i64_in _ (by omega)
  have v28 : IntKind.i64.wrap (sqS a * (c.1 - b.1) + sqS b * (a.1 - c.1)) = sqS a * (c.1 - b.1) + sqS b * (a.1 - c.1) := IntWalk.i64_in _ (by omega)
  have yy : IntKind.i64.wrap (sqS a * (c.1 - b.1) + sqS b * (a.1 - c.1) + sqS c * (b.1 - a.1)) = cY a b c := IntWalk.i64_in _ (by omega)
  --W>
  obtain ⟨X, hX⟩ : ∃ X, cX a b c = X := ⟨_, rfl⟩
  obtain ⟨Y, hY⟩ : ∃ Y, cY a b c = Y := ⟨_, rfl⟩
  obtain ⟨D, hD⟩ : ∃ D, cD a b c = D := ⟨_, rfl⟩
  rw [hX] at HV B0 xx
  rw [hY] at HV B0 yy
  rw [hD] at HV HE B0 dd
  have n1 : IntKind.i64.wrap (-X) = -X := IntWalk.i64_in _ (by omega)
  have n2 : IntKind.i64.wrap (-Y) = -Y := IntWalk.i64_in _ (by omega)
  have n3 : IntKind.i64.wrap (-D) = -D := IntWalk.i64_in _ (by omega)
  clear h1 h2 h3 HE0 sa sb sc t1 t2 t3 qa qb qc m1 m2 ey y1 y2 y3 hX hY hD B0
  by_cases hd : D = 0
  · have HF : Hid (cenE a b c = 9 ∧ cenR a b c = (0, 0, 0)) := Lib.hid (by
      have : cenE a b c = 9 := by rw [HE.out, if_pos hd]
      exact ⟨this, by rw [HR.out, this]; rfl⟩)
    --<4
    go_enter Try.func34, Try.ntmps34
    go_upto_region 1 with fail
    obtain ⟨W, hW⟩ : ∃ W, ((w.alloc (.cells #[.int .i64 a.1, .int .i64 a.2] 66)).alloc (.cells #[.int .i64 b.1, .int .i64 b.2] 66)).alloc (.cells #[.int .i64 c.1, .int .i64 c.2] 66) = W := ⟨_, rfl⟩
    have hb0 : Below w.heap.size w W := by rw [← hW]; exact ((below_a _ _).alloc (by simp) _).alloc (by simp; omega) _
    have k0 : Blk W w.heap.size 66 #[.int .i64 a.1, .int .i64 a.2] := by rw [← hW]; exact ((Blk.new _ _ _).alloc _).alloc _
    have k1 : Blk W (w.heap.size + 1) 66 #[.int .i64 b.1, .int .i64 b.2] := by rw [← hW]; exact (blk_al (by simp)).alloc _
    have k2 : Blk W (w.heap.size + 1 + 1) 66 #[.int .i64 c.1, .int .i64 c.2] := by rw [← hW]; exact blk_al (by simp)
    rw [hW]
    have hs0 := hb0.size
    have K0 := Lib.hid k0
    have K1 := Lib.hid k1
    have K2 := Lib.hid k2
    have HB := Lib.hid hb0
    clear hW k0 k1 k2 hb0
    obtain ⟨c0, c1⟩ := K0.out.two_
    obtain ⟨c2, c3⟩ := K1.out.two_
    obtain ⟨c4, c5⟩ := K2.out.two_
    go_wp2_with fail
    refine (spot_any a.1 a.2 _).mono ?_
    rintro e w1 ⟨rfl, hb⟩
    rw [show ((a.1, a.2) : Smp) = a from rfl, H1.out]
    replace K0 := Lib.hid (K0.out.below hb K0.out.lt)
    replace K1 := Lib.hid (K1.out.below hb K1.out.lt)
    replace K2 := Lib.hid (K2.out.below hb K2.out.lt)
    replace HB := Lib.hid (HB.out.trans (hb.mono HB.out.size))
    clear hb c0 c1 c2 c3 c4 c5
    obtain ⟨c0, c1⟩ := K0.out.two_
    obtain ⟨c2, c3⟩ := K1.out.two_
    obtain ⟨c4, c5⟩ := K2.out.two_
    go_wp2_with fail
    refine (spot_any b.1 b.2 _).mono ?_
    rintro e w2 ⟨rfl, hb⟩
    rw [show ((b.1, b.2) : Smp) = b from rfl, H2.out]
    replace K0 := Lib.hid (K0.out.below hb K0.out.lt)
    replace K1 := Lib.hid (K1.out.below hb K1.out.lt)
    replace K2 := Lib.hid (K2.out.below hb K2.out.lt)
    replace HB := Lib.hid (HB.out.trans (hb.mono HB.out.size))
    clear hb c0 c1 c2 c3 c4 c5
    obtain ⟨c0, c1⟩ := K0.out.two_
    obtain ⟨c2, c3⟩ := K1.out.two_
    obtain ⟨c4, c5⟩ := K2.out.two_
    go_wp2_with fail
    refine (spot_any c.1 c.2 _).mono ?_
    rintro e w3 ⟨rfl, hb⟩
    rw [show ((c.1, c.2) : Smp) = c from rfl, H3.out]
    replace K0 := Lib.hid (K0.out.below hb K0.out.lt)
    replace K1 := Lib.hid (K1.out.below hb K1.out.lt)
    replace K2 := Lib.hid (K2.out.below hb K2.out.lt)
    replace HB := Lib.hid (HB.out.trans (hb.mono HB.out.size))
    clear hb c0 c1 c2 c3 c4 c5
    obtain ⟨c0, c1⟩ := K0.out.two_
    obtain ⟨c2, c3⟩ := K1.out.two_
    obtain ⟨c4, c5⟩ := K2.out.two_
    go_wp2
    (try simp only [Exit.inBlock, Exit.then])
    refine bodyPost_ret (results_tmp4 rfl _ _ _) rfl ?_
    rw [HF.out.1, HF.out.2]
    exact ⟨rfl, HB.out⟩
    --4>
  by_cases hn : D < 0
  · have HF : Hid (cenE a b c = 0 ∧ cenR a b c = (-X, -Y, -D)) := Lib.hid (by
      have : cenE a b c = 0 := by rw [HE.out, if_neg hd]
      exact ⟨this, by rw [HR.out, this, HV.out, if_pos hn]; rfl⟩)
    --<5
    go_enter Try.func34, Try.ntmps34
    go_upto_region 1 with fail
    obtain ⟨W, hW⟩ : ∃ W, ((w.alloc (.cells #[.int .i64 a.1, .int .i64 a.2] 66)).alloc (.cells #[.int .i64 b.1, .int .i64 b.2] 66)).alloc (.cells #[.int .i64 c.1, .int .i64 c.2] 66) = W := ⟨_, rfl⟩
    have hb0 : Below w.heap.size w W := by rw [← hW]; exact ((below_a _ _).alloc (by simp) _).alloc (by simp; omega) _
    have k0 : Blk W w.heap.size 66 #[.int .i64 a.1, .int .i64 a.2] := by rw [← hW]; exact ((Blk.new _ _ _).alloc _).alloc _
    have k1 : Blk W (w.heap.size + 1) 66 #[.int .i64 b.1, .int .i64 b.2] := by rw [← hW]; exact (blk_al (by simp)).alloc _
    have k2 : Blk W (w.heap.size + 1 + 1) 66 #[.int .i64 c.1, .int .i64 c.2] := by rw [← hW]; exact blk_al (by simp)
    rw [hW]
    have hs0 := hb0.size
    have K0 := Lib.hid k0
    have K1 := Lib.hid k1
    have K2 := Lib.hid k2
    have HB := Lib.hid hb0
    clear hW k0 k1 k2 hb0
    obtain ⟨c0, c1⟩ := K0.out.two_
    obtain ⟨c2, c3⟩ := K1.out.two_
    obtain ⟨c4, c5⟩ := K2.out.two_
    go_wp2_with fail
    refine (spot_any a.1 a.2 _).mono ?_
    rintro e w1 ⟨rfl, hb⟩
    rw [show ((a.1, a.2) : Smp) = a from rfl, H1.out]
    replace K0 := Lib.hid (K0.out.below hb K0.out.lt)
    replace K1 := Lib.hid (K1.out.below hb K1.out.lt)
    replace K2 := Lib.hid (K2.out.below hb K2.out.lt)
    replace HB := Lib.hid (HB.out.trans (hb.mono HB.out.size))
    clear hb c0 c1 c2 c3 c4 c5
    obtain ⟨c0, c1⟩ := K0.out.two_
    obtain ⟨c2, c3⟩ := K1.out.two_
    obtain ⟨c4, c5⟩ := K2.out.two_
    go_wp2_with fail
    refine (spot_any b.1 b.2 _).mono ?_
    rintro e w2 ⟨rfl, hb⟩
    rw [show ((b.1, b.2) : Smp) = b from rfl, H2.out]
    replace K0 := Lib.hid (K0.out.below hb K0.out.lt)
    replace K1 := Lib.hid (K1.out.below hb K1.out.lt)
    replace K2 := Lib.hid (K2.out.below hb K2.out.lt)
    replace HB := Lib.hid (HB.out.trans (hb.mono HB.out.size))
    clear hb c0 c1 c2 c3 c4 c5
    obtain ⟨c0, c1⟩ := K0.out.two_
    obtain ⟨c2, c3⟩ := K1.out.two_
    obtain ⟨c4, c5⟩ := K2.out.two_
    go_wp2_with fail
    refine (spot_any c.1 c.2 _).mono ?_
    rintro e w3 ⟨rfl, hb⟩
    rw [show ((c.1, c.2) : Smp) = c from rfl, H3.out]
    replace K0 := Lib.hid (K0.out.below hb K0.out.lt)
    replace K1 := Lib.hid (K1.out.below hb K1.out.lt)
    replace K2 := Lib.hid (K2.out.below hb K2.out.lt)
    replace HB := Lib.hid (HB.out.trans (hb.mono HB.out.size))
    clear hb c0 c1 c2 c3 c4 c5
    obtain ⟨c0, c1⟩ := K0.out.two_
    obtain ⟨c2, c3⟩ := K1.out.two_
    obtain ⟨c4, c5⟩ := K2.out.two_
    go_wp2_with fail
    go_quiet (fail)
    go_wp2
    (try simp only [Exit.inBlock, Exit.then])
    refine bodyPost_ret (results_tmp4 rfl _ _ _) rfl ?_
    rw [HF.out.1, HF.out.2]
    exact ⟨rfl, below_drewN_ HB.out _⟩
    --5>
  · have HF : Hid (cenE a b c = 0 ∧ cenR a b c = (X, Y, D)) := Lib.hid (by
      have : cenE a b c = 0 := by rw [HE.out, if_neg hd]
      exact ⟨this, by rw [HR.out, this, HV.out, if_neg hn]; rfl⟩)
    --<6
    go_enter Try.func34, Try.ntmps34
    go_upto_region 1 with fail
    obtain ⟨W, hW⟩ : ∃ W, ((w.alloc (.cells #[.int .i64 a.1, .int .i64 a.2] 66)).alloc (.cells #[.int .i64 b.1, .int .i64 b.2] 66)).alloc (.cells #[.int .i64 c.1, .int .i64 c.2] 66) = W := ⟨_, rfl⟩
    have hb0 : Below w.heap.size w W := by rw [← hW]; exact ((below_a _ _).alloc (by simp) _).alloc (by simp; omega) _
    have k0 : Blk W w.heap.size 66 #[.int .i64 a.1, .int .i64 a.2] := by rw [← hW]; exact ((Blk.new _ _ _).alloc _).alloc _
    have k1 : Blk W (w.heap.size + 1) 66 #[.int .i64 b.1, .int .i64 b.2] := by rw [← hW]; exact (blk_al (by simp)).alloc _
    have k2 : Blk W (w.heap.size + 1 + 1) 66 #[.int .i64 c.1, .int .i64 c.2] := by rw [← hW]; exact blk_al (by simp)
    rw [hW]
    have hs0 := hb0.size
    have K0 := Lib.hid k0
    have K1 := Lib.hid k1
    have K2 := Lib.hid k2
    have HB := Lib.hid hb0
    clear hW k0 k1 k2 hb0
    obtain ⟨c0, c1⟩ := K0.out.two_
    obtain ⟨c2, c3⟩ := K1.out.two_
    obtain ⟨c4, c5⟩ := K2.out.two_
    go_wp2_with fail
    refine (spot_any a.1 a.2 _).mono ?_
    rintro e w1 ⟨rfl, hb⟩
    rw [show ((a.1, a.2) : Smp) = a from rfl, H1.out]
    replace K0 := Lib.hid (K0.out.below hb K0.out.lt)
    replace K1 := Lib.hid (K1.out.below hb K1.out.lt)
    replace K2 := Lib.hid (K2.out.below hb K2.out.lt)
    replace HB := Lib.hid (HB.out.trans (hb.mono HB.out.size))
    clear hb c0 c1 c2 c3 c4 c5
    obtain ⟨c0, c1⟩ := K0.out.two_
    obtain ⟨c2, c3⟩ := K1.out.two_
    obtain ⟨c4, c5⟩ := K2.out.two_
    go_wp2_with fail
    refine (spot_any b.1 b.2 _).mono ?_
    rintro e w2 ⟨rfl, hb⟩
    rw [show ((b.1, b.2) : Smp) = b from rfl, H2.out]
    replace K0 := Lib.hid (K0.out.below hb K0.out.lt)
    replace K1 := Lib.hid (K1.out.below hb K1.out.lt)
    replace K2 := Lib.hid (K2.out.below hb K2.out.lt)
    replace HB := Lib.hid (HB.out.trans (hb.mono HB.out.size))
    clear hb c0 c1 c2 c3 c4 c5
    obtain ⟨c0, c1⟩ := K0.out.two_
    obtain ⟨c2, c3⟩ := K1.out.two_
    obtain ⟨c4, c5⟩ := K2.out.two_
    go_wp2_with fail
    refine (spot_any c.1 c.2 _).mono ?_
    rintro e w3 ⟨rfl, hb⟩
    rw [show ((c.1, c.2) : Smp) = c from rfl, H3.out]
    replace K0 := Lib.hid (K0.out.below hb K0.out.lt)
    replace K1 := Lib.hid (K1.out.below hb K1.out.lt)
    replace K2 := Lib.hid (K2.out.below hb K2.out.lt)
    replace HB := Lib.hid (HB.out.trans (hb.mono HB.out.size))
    clear hb c0 c1 c2 c3 c4 c5
    obtain ⟨c0, c1⟩ := K0.out.two_
    obtain ⟨c2, c3⟩ := K1.out.two_
    obtain ⟨c4, c5⟩ := K2.out.two_
    go_wp2_with fail
    go_quiet (fail)
    go_wp2
    (try simp only [Exit.inBlock, Exit.then])
    refine bodyPost_ret (results_tmp4 rfl _ _ _) rfl ?_
    rw [HF.out.1, HF.out.2]
    exact ⟨rfl, below_drewN_ HB.out _⟩
    --6>
end Go.Proofs.Ytomncopeekegoaa
