/-
  The document's Wall, channel and Back; the verifier's Same.
-/
import Derived.Test.YtaiigdbbpdkamaaO5
import Derived.Test.YtaiigdbbpdkamaaY2
namespace Go.Proofs.Ytaiigdbbpdkamaa
open Go.RowKit

theorem eqPt (a b : Int) (w : World) : Sem.run Try.prog (Op.equalIn 10000 27 (.agg #[.int .i64 a, .int .i64 b]) (.agg #[.int .i64 a, .int .i64 b])) w = .ok true w := by
  simp [go_sem, Op.eqFields]
theorem eqSm (a b : Int) (w : World) : Sem.run Try.prog (Op.equalIn 10000 25 (.agg #[.int .i64 a, .int .i64 b]) (.agg #[.int .i64 a, .int .i64 b])) w = .ok true w := by
  simp [go_sem, Op.eqFields]
theorem ckS_one (s : Smp) : ckS [s] = if vs s.1 s.2 = true then 0 else 2 := by
  unfold ckS vss; rw [if_neg (by simp)]; simp

set_option maxRecDepth 100000 in
set_option maxHeartbeats 1000000 in
theorem refWall_any (c : Ctr) (s : Smp) (w : World) (hi : I64 s.1 ∧ I64 s.2) :
    Calls Try.prog 18 #[.agg #[.int .i64 c.half, .int .i64 c.gain, .int .i64 c.thin, .int .i64 c.wide, .int .i64 c.slope, .int .i64 c.jerk, .int .i64 c.stylus], .agg #[.int .i64 s.1, .int .i64 s.2]] w fun e w' => e = .returned (.tuple #[.agg #[.int .i64 (wallV c s).1, .int .i64 (wallV c s).2], .int .i64 (cutEr c [s])]) ∧ Below w.heap.size w w' := by
  have CK := Lib.hid (fun W => refCheck_any c W)
  have CV := Lib.hid (fun W => refValid_any s.1 s.2 W hi.1 hi.2)
  rcases ckC_2 c with h | h
  · by_cases hv : vs s.1 s.2 = true
    · have he : cutEr c [s] = 0 := by unfold cutEr; rw [h, ckS_one, if_pos hv]; rfl
      have hw : wallV c s = wallP c s := by unfold wallV; rw [if_pos he]
      have hb := vs_bd hv
      have WA := Lib.hid (fun W => refwall_any c s W (ckC_ok h) hb)
      rw [h] at CK
      rw [hv] at CV
      rw [he, hw]
      obtain ⟨p, hp⟩ : ∃ p, wallP c s = p := ⟨_, rfl⟩
      rw [hp] at WA ⊢
      clear h hv he hw hb hp hi
      go_enter Try.func18, Try.ntmps18
      go_wp2_with fail
      obtain ⟨W0, hW⟩ : ∃ W0, ((w.alloc (.cells #[.int .i64 c.half, .int .i64 c.gain, .int .i64 c.thin, .int .i64 c.wide, .int .i64 c.slope, .int .i64 c.jerk, .int .i64 c.stylus] 23)).alloc (.cells #[.int .i64 s.1, .int .i64 s.2] 25)).alloc (.cells #[.int .i64 0, .int .i64 0] 27) = W0 := ⟨_, rfl⟩
      have HK : Hid (Blk W0 w.heap.size 23 #[.int .i64 c.half, .int .i64 c.gain, .int .i64 c.thin, .int .i64 c.wide, .int .i64 c.slope, .int .i64 c.jerk, .int .i64 c.stylus]) := Lib.hid (by rw [← hW]; exact ((Blk.new _ _ _).alloc _).alloc _)
      have HS : Hid (Blk W0 (w.heap.size + 1) 25 #[.int .i64 s.1, .int .i64 s.2]) := Lib.hid (by rw [← hW]; exact (blk_al (by simp)).alloc _)
      have HR : Hid (Blk W0 (w.heap.size + 1 + 1) 27 #[.int .i64 0, .int .i64 0]) := Lib.hid (by rw [← hW]; exact blk_al (by simp))
      have HB : Hid (Below w.heap.size w W0) := Lib.hid (by rw [← hW]; exact (((Below.refl _ w).alloc (Nat.le_refl _) _).alloc (by simp) _).alloc (by simp <;> omega) _)
      rw [hW]
      clear hW
      have hk_0 : W0.cell? ⟨w.heap.size, 0, none⟩ = some (.int .i64 c.half) := (HK.out.cell 0).trans rfl
      have hk_1 : W0.cell? ⟨w.heap.size, 1, none⟩ = some (.int .i64 c.gain) := (HK.out.cell 1).trans rfl
      have hk_2 : W0.cell? ⟨w.heap.size, 2, none⟩ = some (.int .i64 c.thin) := (HK.out.cell 2).trans rfl
      have hk_3 : W0.cell? ⟨w.heap.size, 3, none⟩ = some (.int .i64 c.wide) := (HK.out.cell 3).trans rfl
      have hk_4 : W0.cell? ⟨w.heap.size, 4, none⟩ = some (.int .i64 c.slope) := (HK.out.cell 4).trans rfl
      have hk_5 : W0.cell? ⟨w.heap.size, 5, none⟩ = some (.int .i64 c.jerk) := (HK.out.cell 5).trans rfl
      have hk_6 : W0.cell? ⟨w.heap.size, 6, none⟩ = some (.int .i64 c.stylus) := (HK.out.cell 6).trans rfl
      have hs_0 : W0.cell? ⟨w.heap.size + 1, 0, none⟩ = some (.int .i64 s.1) := (HS.out.cell 0).trans rfl
      have hs_1 : W0.cell? ⟨w.heap.size + 1, 1, none⟩ = some (.int .i64 s.2) := (HS.out.cell 1).trans rfl
      go_wp2_with fail
      refine (CK.out _).mono ?_
      rintro e w1 ⟨rfl, hb1⟩
      replace HK := Lib.hid (HK.out.below hb1 HK.out.lt)
      replace HS := Lib.hid (HS.out.below hb1 HS.out.lt)
      replace HR := Lib.hid (HR.out.below hb1 HR.out.lt)
      replace HB := Lib.hid (HB.out.trans (hb1.mono HB.out.size))
      clear hb1
      clear hk_0 hk_1 hk_2 hk_3 hk_4 hk_5 hk_6 hs_0 hs_1
      have hk_0 : w1.cell? ⟨w.heap.size, 0, none⟩ = some (.int .i64 c.half) := (HK.out.cell 0).trans rfl
      have hk_1 : w1.cell? ⟨w.heap.size, 1, none⟩ = some (.int .i64 c.gain) := (HK.out.cell 1).trans rfl
      have hk_2 : w1.cell? ⟨w.heap.size, 2, none⟩ = some (.int .i64 c.thin) := (HK.out.cell 2).trans rfl
      have hk_3 : w1.cell? ⟨w.heap.size, 3, none⟩ = some (.int .i64 c.wide) := (HK.out.cell 3).trans rfl
      have hk_4 : w1.cell? ⟨w.heap.size, 4, none⟩ = some (.int .i64 c.slope) := (HK.out.cell 4).trans rfl
      have hk_5 : w1.cell? ⟨w.heap.size, 5, none⟩ = some (.int .i64 c.jerk) := (HK.out.cell 5).trans rfl
      have hk_6 : w1.cell? ⟨w.heap.size, 6, none⟩ = some (.int .i64 c.stylus) := (HK.out.cell 6).trans rfl
      have hs_0 : w1.cell? ⟨w.heap.size + 1, 0, none⟩ = some (.int .i64 s.1) := (HS.out.cell 0).trans rfl
      have hs_1 : w1.cell? ⟨w.heap.size + 1, 1, none⟩ = some (.int .i64 s.2) := (HS.out.cell 1).trans rfl
      go_wp2_with fail
      refine (CV.out _).mono ?_
      rintro e w2 ⟨rfl, hb1⟩
      replace HK := Lib.hid (HK.out.below hb1 HK.out.lt)
      replace HS := Lib.hid (HS.out.below hb1 HS.out.lt)
      replace HR := Lib.hid (HR.out.below hb1 HR.out.lt)
      replace HB := Lib.hid (HB.out.trans (hb1.mono HB.out.size))
      clear hb1
      clear hk_0 hk_1 hk_2 hk_3 hk_4 hk_5 hk_6 hs_0 hs_1
      have hk_0 : w2.cell? ⟨w.heap.size, 0, none⟩ = some (.int .i64 c.half) := (HK.out.cell 0).trans rfl
      have hk_1 : w2.cell? ⟨w.heap.size, 1, none⟩ = some (.int .i64 c.gain) := (HK.out.cell 1).trans rfl
      have hk_2 : w2.cell? ⟨w.heap.size, 2, none⟩ = some (.int .i64 c.thin) := (HK.out.cell 2).trans rfl
      have hk_3 : w2.cell? ⟨w.heap.size, 3, none⟩ = some (.int .i64 c.wide) := (HK.out.cell 3).trans rfl
      have hk_4 : w2.cell? ⟨w.heap.size, 4, none⟩ = some (.int .i64 c.slope) := (HK.out.cell 4).trans rfl
      have hk_5 : w2.cell? ⟨w.heap.size, 5, none⟩ = some (.int .i64 c.jerk) := (HK.out.cell 5).trans rfl
      have hk_6 : w2.cell? ⟨w.heap.size, 6, none⟩ = some (.int .i64 c.stylus) := (HK.out.cell 6).trans rfl
      have hs_0 : w2.cell? ⟨w.heap.size + 1, 0, none⟩ = some (.int .i64 s.1) := (HS.out.cell 0).trans rfl
      have hs_1 : w2.cell? ⟨w.heap.size + 1, 1, none⟩ = some (.int .i64 s.2) := (HS.out.cell 1).trans rfl
      go_wp2_with fail
      refine (WA.out _).mono ?_
      rintro e w3 ⟨rfl, hb1⟩
      replace HK := Lib.hid (HK.out.below hb1 HK.out.lt)
      replace HS := Lib.hid (HS.out.below hb1 HS.out.lt)
      replace HR := Lib.hid (HR.out.below hb1 HR.out.lt)
      replace HB := Lib.hid (HB.out.trans (hb1.mono HB.out.size))
      clear hb1
      clear hk_0 hk_1 hk_2 hk_3 hk_4 hk_5 hk_6 hs_0 hs_1
      obtain ⟨r0, r1, t0, t1, tl⟩ := HR.out.two
      go_wp2
      refine bodyPost_ret (v := .tuple #[.agg #[.int .i64 p.1, .int .i64 p.2], .int .i64 0]) ?_ rfl ⟨rfl, ?_⟩
      · have g1 := Blk.two (a := .int .i64 p.1) (b := .int .i64 0) (HR.out.set_ 0 (.int .i64 p.1))
        have g2 := Blk.two (a := .int .i64 p.1) (b := .int .i64 p.2) ((HR.out.set_ 0 (.int .i64 p.1)).set_ 1 (.int .i64 p.2))
        simp [results, Try.results18, go_sem, g1.1, g2.2.1]
      · exact (HB.out.setCell (by simp <;> omega) _).setCell (by simp <;> omega) _
    · have he : cutEr c [s] = 2 := by unfold cutEr; rw [h, ckS_one, if_neg hv]; rfl
      have hw : wallV c s = (0, 0) := by unfold wallV; rw [if_neg (by omega)]
      have hv' : vs s.1 s.2 = false := by simpa using hv
      rw [h] at CK
      rw [hv'] at CV
      rw [he, hw]
      clear h hv hv' he hw hi
      go_enter Try.func18, Try.ntmps18
      go_wp2_with fail
      obtain ⟨W0, hW⟩ : ∃ W0, ((w.alloc (.cells #[.int .i64 c.half, .int .i64 c.gain, .int .i64 c.thin, .int .i64 c.wide, .int .i64 c.slope, .int .i64 c.jerk, .int .i64 c.stylus] 23)).alloc (.cells #[.int .i64 s.1, .int .i64 s.2] 25)).alloc (.cells #[.int .i64 0, .int .i64 0] 27) = W0 := ⟨_, rfl⟩
      have HK : Hid (Blk W0 w.heap.size 23 #[.int .i64 c.half, .int .i64 c.gain, .int .i64 c.thin, .int .i64 c.wide, .int .i64 c.slope, .int .i64 c.jerk, .int .i64 c.stylus]) := Lib.hid (by rw [← hW]; exact ((Blk.new _ _ _).alloc _).alloc _)
      have HS : Hid (Blk W0 (w.heap.size + 1) 25 #[.int .i64 s.1, .int .i64 s.2]) := Lib.hid (by rw [← hW]; exact (blk_al (by simp)).alloc _)
      have HR : Hid (Blk W0 (w.heap.size + 1 + 1) 27 #[.int .i64 0, .int .i64 0]) := Lib.hid (by rw [← hW]; exact blk_al (by simp))
      have HB : Hid (Below w.heap.size w W0) := Lib.hid (by rw [← hW]; exact (((Below.refl _ w).alloc (Nat.le_refl _) _).alloc (by simp) _).alloc (by simp <;> omega) _)
      rw [hW]
      clear hW
      have hk_0 : W0.cell? ⟨w.heap.size, 0, none⟩ = some (.int .i64 c.half) := (HK.out.cell 0).trans rfl
      have hk_1 : W0.cell? ⟨w.heap.size, 1, none⟩ = some (.int .i64 c.gain) := (HK.out.cell 1).trans rfl
      have hk_2 : W0.cell? ⟨w.heap.size, 2, none⟩ = some (.int .i64 c.thin) := (HK.out.cell 2).trans rfl
      have hk_3 : W0.cell? ⟨w.heap.size, 3, none⟩ = some (.int .i64 c.wide) := (HK.out.cell 3).trans rfl
      have hk_4 : W0.cell? ⟨w.heap.size, 4, none⟩ = some (.int .i64 c.slope) := (HK.out.cell 4).trans rfl
      have hk_5 : W0.cell? ⟨w.heap.size, 5, none⟩ = some (.int .i64 c.jerk) := (HK.out.cell 5).trans rfl
      have hk_6 : W0.cell? ⟨w.heap.size, 6, none⟩ = some (.int .i64 c.stylus) := (HK.out.cell 6).trans rfl
      have hs_0 : W0.cell? ⟨w.heap.size + 1, 0, none⟩ = some (.int .i64 s.1) := (HS.out.cell 0).trans rfl
      have hs_1 : W0.cell? ⟨w.heap.size + 1, 1, none⟩ = some (.int .i64 s.2) := (HS.out.cell 1).trans rfl
      go_wp2_with fail
      refine (CK.out _).mono ?_
      rintro e w1 ⟨rfl, hb1⟩
      replace HK := Lib.hid (HK.out.below hb1 HK.out.lt)
      replace HS := Lib.hid (HS.out.below hb1 HS.out.lt)
      replace HR := Lib.hid (HR.out.below hb1 HR.out.lt)
      replace HB := Lib.hid (HB.out.trans (hb1.mono HB.out.size))
      clear hb1
      clear hk_0 hk_1 hk_2 hk_3 hk_4 hk_5 hk_6 hs_0 hs_1
      have hk_0 : w1.cell? ⟨w.heap.size, 0, none⟩ = some (.int .i64 c.half) := (HK.out.cell 0).trans rfl
      have hk_1 : w1.cell? ⟨w.heap.size, 1, none⟩ = some (.int .i64 c.gain) := (HK.out.cell 1).trans rfl
      have hk_2 : w1.cell? ⟨w.heap.size, 2, none⟩ = some (.int .i64 c.thin) := (HK.out.cell 2).trans rfl
      have hk_3 : w1.cell? ⟨w.heap.size, 3, none⟩ = some (.int .i64 c.wide) := (HK.out.cell 3).trans rfl
      have hk_4 : w1.cell? ⟨w.heap.size, 4, none⟩ = some (.int .i64 c.slope) := (HK.out.cell 4).trans rfl
      have hk_5 : w1.cell? ⟨w.heap.size, 5, none⟩ = some (.int .i64 c.jerk) := (HK.out.cell 5).trans rfl
      have hk_6 : w1.cell? ⟨w.heap.size, 6, none⟩ = some (.int .i64 c.stylus) := (HK.out.cell 6).trans rfl
      have hs_0 : w1.cell? ⟨w.heap.size + 1, 0, none⟩ = some (.int .i64 s.1) := (HS.out.cell 0).trans rfl
      have hs_1 : w1.cell? ⟨w.heap.size + 1, 1, none⟩ = some (.int .i64 s.2) := (HS.out.cell 1).trans rfl
      go_wp2_with fail
      refine (CV.out _).mono ?_
      rintro e w2 ⟨rfl, hb1⟩
      replace HK := Lib.hid (HK.out.below hb1 HK.out.lt)
      replace HS := Lib.hid (HS.out.below hb1 HS.out.lt)
      replace HR := Lib.hid (HR.out.below hb1 HR.out.lt)
      replace HB := Lib.hid (HB.out.trans (hb1.mono HB.out.size))
      clear hb1
      clear hk_0 hk_1 hk_2 hk_3 hk_4 hk_5 hk_6 hs_0 hs_1
      obtain ⟨r0, r1, t0, t1, tl⟩ := HR.out.two
      go_wp2
      refine bodyPost_ret (v := .tuple #[.agg #[.int .i64 0, .int .i64 0], .int .i64 2]) ?_ rfl ⟨rfl, ?_⟩
      · have g1 := Blk.two (a := .int .i64 0) (b := .int .i64 0) (HR.out.set_ 0 (.int .i64 0))
        have g2 := Blk.two (a := .int .i64 0) (b := .int .i64 0) ((HR.out.set_ 0 (.int .i64 0)).set_ 1 (.int .i64 0))
        simp [results, Try.results18, go_sem, g1.1, g2.2.1]
      · exact (HB.out.setCell (by simp <;> omega) _).setCell (by simp <;> omega) _
  · have he : cutEr c [s] = 2 := by unfold cutEr; rw [h]; rfl
    have hw : wallV c s = (0, 0) := by unfold wallV; rw [if_neg (by omega)]
    rw [h] at CK
    rw [he, hw]
    clear h he hw hi
    go_enter Try.func18, Try.ntmps18
    go_wp2_with fail
    obtain ⟨W0, hW⟩ : ∃ W0, ((w.alloc (.cells #[.int .i64 c.half, .int .i64 c.gain, .int .i64 c.thin, .int .i64 c.wide, .int .i64 c.slope, .int .i64 c.jerk, .int .i64 c.stylus] 23)).alloc (.cells #[.int .i64 s.1, .int .i64 s.2] 25)).alloc (.cells #[.int .i64 0, .int .i64 0] 27) = W0 := ⟨_, rfl⟩
    have HK : Hid (Blk W0 w.heap.size 23 #[.int .i64 c.half, .int .i64 c.gain, .int .i64 c.thin, .int .i64 c.wide, .int .i64 c.slope, .int .i64 c.jerk, .int .i64 c.stylus]) := Lib.hid (by rw [← hW]; exact ((Blk.new _ _ _).alloc _).alloc _)
    have HS : Hid (Blk W0 (w.heap.size + 1) 25 #[.int .i64 s.1, .int .i64 s.2]) := Lib.hid (by rw [← hW]; exact (blk_al (by simp)).alloc _)
    have HR : Hid (Blk W0 (w.heap.size + 1 + 1) 27 #[.int .i64 0, .int .i64 0]) := Lib.hid (by rw [← hW]; exact blk_al (by simp))
    have HB : Hid (Below w.heap.size w W0) := Lib.hid (by rw [← hW]; exact (((Below.refl _ w).alloc (Nat.le_refl _) _).alloc (by simp) _).alloc (by simp <;> omega) _)
    rw [hW]
    clear hW
    have hk_0 : W0.cell? ⟨w.heap.size, 0, none⟩ = some (.int .i64 c.half) := (HK.out.cell 0).trans rfl
    have hk_1 : W0.cell? ⟨w.heap.size, 1, none⟩ = some (.int .i64 c.gain) := (HK.out.cell 1).trans rfl
    have hk_2 : W0.cell? ⟨w.heap.size, 2, none⟩ = some (.int .i64 c.thin) := (HK.out.cell 2).trans rfl
    have hk_3 : W0.cell? ⟨w.heap.size, 3, none⟩ = some (.int .i64 c.wide) := (HK.out.cell 3).trans rfl
    have hk_4 : W0.cell? ⟨w.heap.size, 4, none⟩ = some (.int .i64 c.slope) := (HK.out.cell 4).trans rfl
    have hk_5 : W0.cell? ⟨w.heap.size, 5, none⟩ = some (.int .i64 c.jerk) := (HK.out.cell 5).trans rfl
    have hk_6 : W0.cell? ⟨w.heap.size, 6, none⟩ = some (.int .i64 c.stylus) := (HK.out.cell 6).trans rfl
    have hs_0 : W0.cell? ⟨w.heap.size + 1, 0, none⟩ = some (.int .i64 s.1) := (HS.out.cell 0).trans rfl
    have hs_1 : W0.cell? ⟨w.heap.size + 1, 1, none⟩ = some (.int .i64 s.2) := (HS.out.cell 1).trans rfl
    go_wp2_with fail
    refine (CK.out _).mono ?_
    rintro e w1 ⟨rfl, hb1⟩
    replace HK := Lib.hid (HK.out.below hb1 HK.out.lt)
    replace HS := Lib.hid (HS.out.below hb1 HS.out.lt)
    replace HR := Lib.hid (HR.out.below hb1 HR.out.lt)
    replace HB := Lib.hid (HB.out.trans (hb1.mono HB.out.size))
    clear hb1
    clear hk_0 hk_1 hk_2 hk_3 hk_4 hk_5 hk_6 hs_0 hs_1
    obtain ⟨r0, r1, t0, t1, tl⟩ := HR.out.two
    go_wp2
    refine bodyPost_ret (v := .tuple #[.agg #[.int .i64 0, .int .i64 0], .int .i64 2]) ?_ rfl ⟨rfl, ?_⟩
    · have g1 := Blk.two (a := .int .i64 0) (b := .int .i64 0) (HR.out.set_ 0 (.int .i64 0))
      have g2 := Blk.two (a := .int .i64 0) (b := .int .i64 0) ((HR.out.set_ 0 (.int .i64 0)).set_ 1 (.int .i64 0))
      simp [results, Try.results18, go_sem, g1.1, g2.2.1]
    · exact (HB.out.setCell (by simp <;> omega) _).setCell (by simp <;> omega) _

theorem ret_ib {k : IntKind} {a b : Int} {p q : Bool} (h : a = b) (h2 : p = q) : Ending.returned (.tuple #[.int k a, .bool p]) = .returned (.tuple #[.int k b, .bool q]) := by rw [h, h2]
theorem chF_pos {c : Ctr} (hg : 0 < c.gain) {d : Int} (h : 0 < d) : chV c d = chN c d ∧ chF c d = (decide (chN c d ≤ 32767) && decide (swg c (chN c d) = d)) := by
  unfold chV chF chB
  rw [if_neg (by omega), if_neg (by omega), if_neg (by omega)]
  exact ⟨rfl, rfl⟩
theorem chF_neg {c : Ctr} (hg : 0 < c.gain) {d : Int} (h : d < 0) : chV c d = -(chN c (-d)) ∧ chF c d = (decide (chN c (-d) ≤ 32767) && decide (swg c (chN c (-d)) = -d)) := by
  unfold chV chF chB
  rw [if_pos h, if_pos h, if_neg (by omega)]
  exact ⟨rfl, rfl⟩
set_option maxRecDepth 100000 in
set_option maxHeartbeats 2000000 in
theorem refChannel_any (c : Ctr) (d : Int) (w : World) (hc : CtOk c) (h0 : -4294967296 ≤ d) (h1 : d ≤ 4294967296) :
    Calls Try.prog 50 #[.int .i64 c.gain, .int .i64 d] w fun e w' => e = .returned (.tuple #[.int .i64 (chV c d), .bool (chF c d)]) ∧ w = w' := by
  have g1 := hc.g1
  have g2 := hc.g2
  by_cases hd : d = 0
  · subst hd
    have hv : chV c 0 = 0 ∧ chF c 0 = true := by
      have h := chN_least hc (f := 0) (x := 0) (by omega) (by omega) (by omega) (by unfold swg; simp)
      unfold chV chF
      rw [if_neg (by omega), if_neg (by omega)]
      exact ⟨by omega, h.1⟩
    rw [hv.1, hv.2]
    clear hv
    go_enter Try.func50, Try.ntmps50
    go_wp2
    go_ret2
    exact ⟨rfl, rfl⟩
  have hd1 : (d == 0) = false := by simpa using hd
  by_cases hg : c.gain = 0
  · have hv : chV c d = 0 ∧ chF c d = false := by
      unfold chV chF chB chN
      by_cases hn : d < 0
      · rw [if_pos hn, if_pos hn, if_pos hg, if_pos hg]; exact ⟨rfl, decide_eq_false (by omega)⟩
      · rw [if_neg hn, if_neg hn, if_pos hg, if_pos hg]; exact ⟨rfl, decide_eq_false hd⟩
    have hg1 : (c.gain == 0) = true := by simpa using hg
    rw [hv.1, hv.2]
    clear hv
    go_enter Try.func50, Try.ntmps50
    go_wp2
    go_ret2
    exact ⟨rfl, rfl⟩
  have hg1 : (c.gain == 0) = false := by simpa using hg
  have hgp : 0 < c.gain := by omega
  have AM := Lib.hid (fun W : World => refAm_any (x := d) W (by omega) (by omega))
  by_cases hn : d < 0
  · obtain ⟨v1, v2⟩ := chF_neg hgp hn
    have ha : am d = -d := by unfold am; omega
    obtain ⟨f, hf⟩ : ∃ f, -d = f := ⟨_, rfl⟩
    have f0 : 0 < f := by omega
    have f1 : f ≤ 4294967296 := by omega
    rw [ha, hf] at AM
    rw [hf] at v1 v2
    have hx0 : chN c f = (1000 * f + c.gain - 1) / c.gain := by unfold chN; rw [if_neg hg, Int.mul_comm f 1000]
    obtain ⟨x, hx⟩ : ∃ x, chN c f = x := ⟨_, rfl⟩
    rw [hx] at v1 v2 hx0
    have hxb : 0 ≤ x ∧ x * c.gain ≤ 1000 * f + c.gain - 1 := by
      rw [hx0]; exact ⟨Int.ediv_nonneg (by omega) g1, Int.ediv_mul_le _ (by omega)⟩
    have hxc : x ≤ x * c.gain := by
      have := Int.mul_le_mul_of_nonneg_left (show 1 ≤ c.gain by omega) hxb.1
      omega
    obtain ⟨sw, hsw⟩ : ∃ s, swg c x = s := ⟨_, rfl⟩
    rw [hsw] at v2
    have hsb : -4294967296000 ≤ sw ∧ sw ≤ 4294967296000 := by
      rw [← hsw]; unfold swg
      exact tdiv_bd (b := 4294967296000) (by have := Int.mul_nonneg hxb.1 g1; omega) (by omega)
    obtain ⟨hxb1, hxb2⟩ := hxb
    obtain ⟨hsb1, hsb2⟩ := hsb
    have hxg := Int.mul_nonneg hxb1 g1
    have e0 : IntKind.i64.wrap (1000 * f) = 1000 * f := IntWalk.i64_in _ (by omega)
    have e1 : IntKind.i64.wrap (1000 * f + c.gain) = 1000 * f + c.gain := IntWalk.i64_in _ (by omega)
    have e2 : IntKind.i64.wrap (1000 * f + c.gain - 1) = 1000 * f + c.gain - 1 := IntWalk.i64_in _ (by omega)
    have e3 : (1000 * f + c.gain - 1) / c.gain = x := hx0.symm
    have E3 := Lib.hid e3
    have e4 : IntKind.i64.wrap (x * c.gain) = x * c.gain := IntWalk.i64_in _ (by omega)
    have e5 : x * c.gain / 1000 = sw := by rw [← hsw]; unfold swg; rw [Int.tdiv_eq_ediv_of_nonneg hxg]
    have e9 : (x * c.gain).tdiv 1000 = sw := hsw
    clear hx0
    have e6 : IntKind.i64.wrap (-x) = -x := IntWalk.i64_in _ (by omega)
    have e7 : IntKind.i64.wrap (-x * c.gain) = -(x * c.gain) := by rw [Int.neg_mul]; exact IntWalk.i64_in _ (by omega)
    have e8 : IntKind.i64.wrap ((-(x * c.gain)).tdiv 1000) = -sw := by rw [Int.neg_tdiv, show (x * c.gain).tdiv 1000 = sw from hsw]; exact IntWalk.i64_in _ (by omega)
    have hd2 : decide (d < 0) = true := decide_eq_true hn
    have HD : Hid (d = -f) := Lib.hid (by omega)
    rw [v1, v2]
    by_cases hs : sw = f
    · have z1 : (-sw == d) = true := by rw [beq_iff_eq]; omega
      have WI := Lib.hid (fun W => refWithin_any (-x) (-32767) 32767 W)
      have hwi : win (-x) (-32767) 32767 = decide (x ≤ 32767) := by unfold win; rw [Bool.eq_iff_iff]; simp; omega
      have hr : (decide (x ≤ 32767) && decide (sw = f)) = decide (x ≤ 32767) := by rw [decide_eq_true hs, Bool.and_true]
      rw [hwi] at WI
      rw [hr]
      obtain ⟨b, hb⟩ : ∃ b, decide (x ≤ 32767) = b := ⟨_, rfl⟩
      rw [hb] at WI ⊢
      clear hs hwi hr hb v1 v2 ha hf hsw hx
      go_enter Try.func50, Try.ntmps50
      go_wp2_with fail
      refine (AM.out _).mono ?_
      rintro e w' ⟨rfl, rfl⟩
      go_wp2_with fail
      refine (WI.out _).mono ?_
      rintro e w' ⟨rfl, rfl⟩
      go_wp2
      go_ret2
      exact ⟨ret_ib (by first | rfl | (rw [E3.out]; done) | (rw [E3.out]; rfl)) rfl, rfl⟩
    · have z1 : (-sw == d) = false := beq_eq_false_iff_ne.2 (by omega)
      have hr : (decide (x ≤ 32767) && decide (sw = f)) = false := by rw [decide_eq_false hs, Bool.and_false]
      rw [hr]
      clear hs hr v1 v2 ha hf hsw hx
      go_enter Try.func50, Try.ntmps50
      go_wp2_with fail
      refine (AM.out _).mono ?_
      rintro e w' ⟨rfl, rfl⟩
      go_wp2
      go_ret2
      exact ⟨ret_ib (by first | rfl | (rw [E3.out]; done) | (rw [E3.out]; rfl)) rfl, rfl⟩
  · obtain ⟨v1, v2⟩ := chF_pos hgp (show 0 < d by omega)
    have ha : am d = d := by unfold am; omega
    rw [ha] at AM
    obtain ⟨f, hf⟩ : ∃ f, d = f := ⟨_, rfl⟩
    rw [hf] at AM v1 v2 hn hd hd1 h0 h1 ⊢
    clear ha hf
    have hx0 : chN c f = (1000 * f + c.gain - 1) / c.gain := by unfold chN; rw [if_neg hg, Int.mul_comm f 1000]
    obtain ⟨x, hx⟩ : ∃ x, chN c f = x := ⟨_, rfl⟩
    rw [hx] at v1 v2 hx0
    have hxb : 0 ≤ x ∧ x * c.gain ≤ 1000 * f + c.gain - 1 := by
      rw [hx0]; exact ⟨Int.ediv_nonneg (by omega) g1, Int.ediv_mul_le _ (by omega)⟩
    have hxc : x ≤ x * c.gain := by
      have := Int.mul_le_mul_of_nonneg_left (show 1 ≤ c.gain by omega) hxb.1
      omega
    obtain ⟨sw, hsw⟩ : ∃ s, swg c x = s := ⟨_, rfl⟩
    rw [hsw] at v2
    have hsb : -4294967296000 ≤ sw ∧ sw ≤ 4294967296000 := by
      rw [← hsw]; unfold swg
      exact tdiv_bd (b := 4294967296000) (by have := Int.mul_nonneg hxb.1 g1; omega) (by omega)
    obtain ⟨hxb1, hxb2⟩ := hxb
    obtain ⟨hsb1, hsb2⟩ := hsb
    have hxg := Int.mul_nonneg hxb1 g1
    have e0 : IntKind.i64.wrap (1000 * f) = 1000 * f := IntWalk.i64_in _ (by omega)
    have e1 : IntKind.i64.wrap (1000 * f + c.gain) = 1000 * f + c.gain := IntWalk.i64_in _ (by omega)
    have e2 : IntKind.i64.wrap (1000 * f + c.gain - 1) = 1000 * f + c.gain - 1 := IntWalk.i64_in _ (by omega)
    have e3 : (1000 * f + c.gain - 1) / c.gain = x := hx0.symm
    have E3 := Lib.hid e3
    have e4 : IntKind.i64.wrap (x * c.gain) = x * c.gain := IntWalk.i64_in _ (by omega)
    have e5 : x * c.gain / 1000 = sw := by rw [← hsw]; unfold swg; rw [Int.tdiv_eq_ediv_of_nonneg hxg]
    have e9 : (x * c.gain).tdiv 1000 = sw := hsw
    clear hx0
    have hd2 : decide (f < 0) = false := decide_eq_false hn
    rw [v1, v2]
    by_cases hs : sw = f
    · have z1 : (sw == f) = true := by simpa using hs
      have WI := Lib.hid (fun W => refWithin_any x (-32767) 32767 W)
      have hwi : win x (-32767) 32767 = decide (x ≤ 32767) := by unfold win; rw [Bool.eq_iff_iff]; simp; omega
      have hr : (decide (x ≤ 32767) && decide (sw = f)) = decide (x ≤ 32767) := by rw [decide_eq_true hs, Bool.and_true]
      rw [hwi] at WI
      rw [hr]
      obtain ⟨b, hb⟩ : ∃ b, decide (x ≤ 32767) = b := ⟨_, rfl⟩
      rw [hb] at WI ⊢
      clear hs hwi hr hb v1 v2 hsw hx
      go_enter Try.func50, Try.ntmps50
      go_wp2_with fail
      refine (AM.out _).mono ?_
      rintro e w' ⟨rfl, rfl⟩
      go_wp2_with fail
      refine (WI.out _).mono ?_
      rintro e w' ⟨rfl, rfl⟩
      go_wp2
      go_ret2
      exact ⟨ret_ib (by first | rfl | (rw [E3.out]; done) | (rw [E3.out]; rfl)) rfl, rfl⟩
    · have z1 : (sw == f) = false := by simpa using hs
      have hr : (decide (x ≤ 32767) && decide (sw = f)) = false := by rw [decide_eq_false hs, Bool.and_false]
      rw [hr]
      clear hs hr v1 v2 hsw hx
      go_enter Try.func50, Try.ntmps50
      go_wp2_with fail
      refine (AM.out _).mono ?_
      rintro e w' ⟨rfl, rfl⟩
      go_wp2
      go_ret2
      exact ⟨ret_ib (by first | rfl | (rw [E3.out]; done) | (rw [E3.out]; rfl)) rfl, rfl⟩
end Go.Proofs.Ytaiigdbbpdkamaa
