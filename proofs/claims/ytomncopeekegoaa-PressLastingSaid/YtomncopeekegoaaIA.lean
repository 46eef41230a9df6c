/-
  Centre of package press and of the document.
-/
import Derived.Test.YtomncopeekegoaaI9
import Derived.Deep.Cut
namespace Go.Proofs.Ytomncopeekegoaa
open Go.RowKit

theorem results_tmp4 {fn : Func} {t u v x : Tmp} (h : fn.results = #[.tmp t, .tmp u, .tmp v, .tmp x]) (tmps : Array Value) (P : Program) (w : World) :
    (results fn tmps).run P w = .ok (.tuple #[tmps.getD t undef, tmps.getD u undef, tmps.getD v undef, tmps.getD x undef]) w := by
  simp [results, h]
theorem Blk.two_ {w : World} {g : Nat} {t : TypeId} {a b : Value} (h : Blk w g t #[a, b]) : w.cell? ⟨g, 0, none⟩ = some a ∧ w.cell? ⟨g, 1, none⟩ = some b := ⟨(h.cell 0).trans rfl, (h.cell 1).trans rfl⟩
theorem rs_three {w : World} {g : Nat} {a b c : Smp} {B : Nat} (h : Blk w g 66 #[.int .i64 a.1, .int .i64 a.2, .int .i64 b.1, .int .i64 b.2, .int .i64 c.1, .int .i64 c.2]) (hB : g < B) : RS w B (some ⟨g, 0, none⟩) 3 [a, b, c] :=
  ⟨rfl, reads_cells h hB rfl rfl⟩
theorem ckSp_three (a b c : Smp) : ckSp [a, b, c] = if spW a && spW b && spW c then 0 else 3 := by
  unfold ckSp
  simp only [List.all_cons, List.all_nil, Bool.and_true, ← Bool.and_assoc]
/-- The error of a centre. -/
def cenE (a b c : Smp) : Int := if spW a && spW b && spW c then (if cD a b c = 0 then 9 else 0) else 3
def cenR (a b c : Smp) : Int × Int × Int := if cenE a b c = 0 then cenV a b c else (0, 0, 0)
theorem cenV_d (a b c : Smp) : (cenV a b c).2.2 = 0 ↔ cD a b c = 0 := by
  unfold cenV
  split <;> dsimp only <;> omega

set_option maxRecDepth 100000 in
set_option maxHeartbeats 4000000 in
theorem Centre_any (a b c : Smp) (w : World) :
    Calls Try.prog 33 #[.agg #[.int .i64 a.1, .int .i64 a.2], .agg #[.int .i64 b.1, .int .i64 b.2], .agg #[.int .i64 c.1, .int .i64 c.2]] w fun e w' =>
      e = .returned (.tuple #[.int .i64 (cenR a b c).1, .int .i64 (cenR a b c).2.1, .int .i64 (cenR a b c).2.2, .int .i64 (cenE a b c)]) ∧ Below w.heap.size w w' := by
  have hck := ckSp_three a b c
  cases hall : (spW a && spW b && spW c)
  · have HE : Hid (cenE a b c = 3 ∧ cenR a b c = (0, 0, 0)) := Lib.hid (by
      have : cenE a b c = 3 := by unfold cenE; rw [hall]; rfl
      exact ⟨this, by unfold cenR; rw [this]; rfl⟩)
    rw [hall] at hck
    have HC := Lib.hid (show ckSp [a, b, c] = 3 from hck)
    clear hck hall
    --<1
    go_enter Try.func33, Try.ntmps33
    go_upto_region 1 with fail
    obtain ⟨W, hW⟩ : ∃ W, ((w.alloc (.cells #[.int .i64 a.1, .int .i64 a.2] 66)).alloc (.cells #[.int .i64 b.1, .int .i64 b.2] 66)).alloc (.cells #[.int .i64 c.1, .int .i64 c.2] 66) = W := ⟨_, rfl⟩
    have hb0 : Below w.heap.size w W := by rw [← hW]; exact ((below_a _ _).alloc (by simp) _).alloc (by simp; omega) _
    have k0 : Blk W w.heap.size 66 #[.int .i64 a.1, .int .i64 a.2] := by rw [← hW]; exact ((Blk.new _ _ _).alloc _).alloc _
    have k1 : Blk W (w.heap.size + 1) 66 #[.int .i64 b.1, .int .i64 b.2] := by rw [← hW]; exact (blk_al (by simp)).alloc _
    have k2 : Blk W (w.heap.size + 1 + 1) 66 #[.int .i64 c.1, .int .i64 c.2] := by rw [← hW]; exact blk_al (by simp)
    rw [hW]
    have hs0 := hb0.size
    have K0 := Lib.hid k0
    have K1 := Lib.hid k1
    have K2 := Lib.hid k2
    have HB := Lib.hid hb0
    clear hW k0 k1 k2 hb0
    obtain ⟨c0, c1⟩ := K0.out.two_
    obtain ⟨c2, c3⟩ := K1.out.two_
    obtain ⟨c4, c5⟩ := K2.out.two_
    go_wp2_with fail
    refine (checkSpots_any (W.heap.size + 1) _ 3 3 [a, b, c] _ (rs_three (Blk.new _ _ _) (by omega)) (by simp) (by omega)).mono ?_
    rintro e w1 ⟨rfl, hb⟩
    rw [HC.out]
    have hb' := (below_a W (.cells #[.int .i64 a.1, .int .i64 a.2, .int .i64 b.1, .int .i64 b.2, .int .i64 c.1, .int .i64 c.2] 66)).trans (hb.mono (by simp))
    clear hb
    replace K0 := Lib.hid (K0.out.below hb' K0.out.lt)
    replace K1 := Lib.hid (K1.out.below hb' K1.out.lt)
    replace K2 := Lib.hid (K2.out.below hb' K2.out.lt)
    replace HB := Lib.hid (HB.out.trans (hb'.mono HB.out.size))
    clear hb' c0 c1 c2 c3 c4 c5
    go_wp2
    (try simp only [Exit.inBlock, Exit.then])
    refine bodyPost_ret (results_tmp4 rfl _ _ _) rfl ?_
    rw [HE.out.1, HE.out.2]
    exact ⟨rfl, HB.out⟩
    --1>
  · have hall' := hall
    simp only [Bool.and_eq_true, spW_iff] at hall'
    obtain ⟨⟨sa, sb⟩, sc⟩ := hall'
    rw [hall] at hck
    have HC := Lib.hid (show ckSp [a, b, c] = 0 from hck)
    have HD := cenV_d a b c
    have HSP := Lib.hid (And.intro sa (And.intro sb sc))
    have HE : Hid (cenE a b c = (if cD a b c = 0 then 9 else 0)) := Lib.hid (by unfold cenE; rw [hall]; rfl)
    have HR : Hid (cenR a b c = if cenE a b c = 0 then cenV a b c else (0, 0, 0)) := Lib.hid rfl
    obtain ⟨⟨x, y, d⟩, hv⟩ : ∃ v, cenV a b c = v := ⟨_, rfl⟩
    rw [hv] at HD HR
    dsimp only at HD
    have HVV := Lib.hid hv
    clear hck hall sa sb sc hv
    by_cases hd : d = 0
    · have HF : Hid (cenE a b c = 9 ∧ cenR a b c = (0, 0, 0)) := Lib.hid (by
        have : cenE a b c = 9 := by rw [HE.out, if_pos (HD.1 hd)]
        exact ⟨this, by rw [HR.out, this]; rfl⟩)
      clear HD
      --<2
      go_enter Try.func33, Try.ntmps33
      go_upto_region 1 with fail
      obtain ⟨W, hW⟩ : ∃ W, ((w.alloc (.cells #[.int .i64 a.1, .int .i64 a.2] 66)).alloc (.cells #[.int .i64 b.1, .int .i64 b.2] 66)).alloc (.cells #[.int .i64 c.1, .int .i64 c.2] 66) = W := ⟨_, rfl⟩
      have hb0 : Below w.heap.size w W := by rw [← hW]; exact ((below_a _ _).alloc (by simp) _).alloc (by simp; omega) _
      have k0 : Blk W w.heap.size 66 #[.int .i64 a.1, .int .i64 a.2] := by rw [← hW]; exact ((Blk.new _ _ _).alloc _).alloc _
      have k1 : Blk W (w.heap.size + 1) 66 #[.int .i64 b.1, .int .i64 b.2] := by rw [← hW]; exact (blk_al (by simp)).alloc _
      have k2 : Blk W (w.heap.size + 1 + 1) 66 #[.int .i64 c.1, .int .i64 c.2] := by rw [← hW]; exact blk_al (by simp)
      rw [hW]
      have hs0 := hb0.size
      have K0 := Lib.hid k0
      have K1 := Lib.hid k1
      have K2 := Lib.hid k2
      have HB := Lib.hid hb0
      clear hW k0 k1 k2 hb0
      obtain ⟨c0, c1⟩ := K0.out.two_
      obtain ⟨c2, c3⟩ := K1.out.two_
      obtain ⟨c4, c5⟩ := K2.out.two_
      go_wp2_with fail
      refine (checkSpots_any (W.heap.size + 1) _ 3 3 [a, b, c] _ (rs_three (Blk.new _ _ _) (by omega)) (by simp) (by omega)).mono ?_
      rintro e w1 ⟨rfl, hb⟩
      rw [HC.out]
      have hb' := (below_a W (.cells #[.int .i64 a.1, .int .i64 a.2, .int .i64 b.1, .int .i64 b.2, .int .i64 c.1, .int .i64 c.2] 66)).trans (hb.mono (by simp))
      clear hb
      replace K0 := Lib.hid (K0.out.below hb' K0.out.lt)
      replace K1 := Lib.hid (K1.out.below hb' K1.out.lt)
      replace K2 := Lib.hid (K2.out.below hb' K2.out.lt)
      replace HB := Lib.hid (HB.out.trans (hb'.mono HB.out.size))
      clear hb' c0 c1 c2 c3 c4 c5
      obtain ⟨c0, c1⟩ := K0.out.two_
      obtain ⟨c2, c3⟩ := K1.out.two_
      obtain ⟨c4, c5⟩ := K2.out.two_
      go_wp2_with fail
      refine (centre_any w1.heap.size a b c _ (Blk.new _ _ _) HSP.out.1 HSP.out.2.1 HSP.out.2.2).mono ?_
      rintro e w2 ⟨rfl, hb⟩
      rw [HVV.out]
      have hb' := (below_a w1 (.cells #[.int .i64 a.1, .int .i64 a.2, .int .i64 b.1, .int .i64 b.2, .int .i64 c.1, .int .i64 c.2] 66)).trans (hb.mono (by simp))
      clear hb
      replace K0 := Lib.hid (K0.out.below hb' K0.out.lt)
      replace K1 := Lib.hid (K1.out.below hb' K1.out.lt)
      replace K2 := Lib.hid (K2.out.below hb' K2.out.lt)
      replace HB := Lib.hid (HB.out.trans (hb'.mono HB.out.size))
      clear hb' c0 c1 c2 c3 c4 c5
      go_wp2
      (try simp only [Exit.inBlock, Exit.then])
      refine bodyPost_ret (results_tmp4 rfl _ _ _) rfl ?_
      rw [HF.out.1, HF.out.2]
      exact ⟨rfl, HB.out⟩
      --2>
    · have HF : Hid (cenE a b c = 0 ∧ cenR a b c = (x, y, d)) := Lib.hid (by
        have : cenE a b c = 0 := by rw [HE.out, if_neg (fun h => hd (HD.2 h))]
        exact ⟨this, by rw [HR.out, this]; rfl⟩)
      clear HD
      --<3
      go_enter Try.func33, Try.ntmps33
      go_upto_region 1 with fail
      obtain ⟨W, hW⟩ : ∃ W, ((w.alloc (.cells #[.int .i64 a.1, .int .i64 a.2] 66)).alloc (.cells #[.int .i64 b.1, .int .i64 b.2] 66)).alloc (.cells #[.int .i64 c.1, .int .i64 c.2] 66) = W := ⟨_, rfl⟩
      have hb0 : Below w.heap.size w W := by rw [← hW]; exact ((below_a _ _).alloc (by simp) _).alloc (by simp; omega) _
      have k0 : Blk W w.heap.size 66 #[.int .i64 a.1, .int .i64 a.2] := by rw [← hW]; exact ((Blk.new _ _ _).alloc _).alloc _
      have k1 : Blk W (w.heap.size + 1) 66 #[.int .i64 b.1, .int .i64 b.2] := by rw [← hW]; exact (blk_al (by simp)).alloc _
      have k2 : Blk W (w.heap.size + 1 + 1) 66 #[.int .i64 c.1, .int .i64 c.2] := by rw [← hW]; exact blk_al (by simp)
      rw [hW]
      have hs0 := hb0.size
      have K0 := Lib.hid k0
      have K1 := Lib.hid k1
      have K2 := Lib.hid k2
      have HB := Lib.hid hb0
      clear hW k0 k1 k2 hb0
      obtain ⟨c0, c1⟩ := K0.out.two_
      obtain ⟨c2, c3⟩ := K1.out.two_
      obtain ⟨c4, c5⟩ := K2.out.two_
      go_wp2_with fail
      refine (checkSpots_any (W.heap.size + 1) _ 3 3 [a, b, c] _ (rs_three (Blk.new _ _ _) (by omega)) (by simp) (by omega)).mono ?_
      rintro e w1 ⟨rfl, hb⟩
      rw [HC.out]
      have hb' := (below_a W (.cells #[.int .i64 a.1, .int .i64 a.2, .int .i64 b.1, .int .i64 b.2, .int .i64 c.1, .int .i64 c.2] 66)).trans (hb.mono (by simp))
      clear hb
      replace K0 := Lib.hid (K0.out.below hb' K0.out.lt)
      replace K1 := Lib.hid (K1.out.below hb' K1.out.lt)
      replace K2 := Lib.hid (K2.out.below hb' K2.out.lt)
      replace HB := Lib.hid (HB.out.trans (hb'.mono HB.out.size))
      clear hb' c0 c1 c2 c3 c4 c5
      obtain ⟨c0, c1⟩ := K0.out.two_
      obtain ⟨c2, c3⟩ := K1.out.two_
      obtain ⟨c4, c5⟩ := K2.out.two_
      go_wp2_with fail
      refine (centre_any w1.heap.size a b c _ (Blk.new _ _ _) HSP.out.1 HSP.out.2.1 HSP.out.2.2).mono ?_
      rintro e w2 ⟨rfl, hb⟩
      rw [HVV.out]
      have hb' := (below_a w1 (.cells #[.int .i64 a.1, .int .i64 a.2, .int .i64 b.1, .int .i64 b.2, .int .i64 c.1, .int .i64 c.2] 66)).trans (hb.mono (by simp))
      clear hb
      replace K0 := Lib.hid (K0.out.below hb' K0.out.lt)
      replace K1 := Lib.hid (K1.out.below hb' K1.out.lt)
      replace K2 := Lib.hid (K2.out.below hb' K2.out.lt)
      replace HB := Lib.hid (HB.out.trans (hb'.mono HB.out.size))
      clear hb' c0 c1 c2 c3 c4 c5
      go_wp2
      (try simp only [Exit.inBlock, Exit.then])
      refine bodyPost_ret (results_tmp4 rfl _ _ _) rfl ?_
      rw [HF.out.1, HF.out.2]
      exact ⟨rfl, HB.out⟩
      --3>
end Go.Proofs.Ytomncopeekegoaa
