/-
  The document's Back; the verifier's Same.
-/
import Derived.Test.YtaiigdbbpdkamaaZ1
namespace Go.Proofs.Ytaiigdbbpdkamaa
open Go.RowKit

set_option maxRecDepth 100000 in
set_option maxHeartbeats 2000000 in
theorem refBack_any (c : Ctr) (p : Smp) (w : World) :
    Calls Try.prog 22 #[.agg #[.int .i64 c.half, .int .i64 c.gain, .int .i64 c.thin, .int .i64 c.wide, .int .i64 c.slope, .int .i64 c.jerk, .int .i64 c.stylus], .agg #[.int .i64 p.1, .int .i64 p.2]] w fun e w' => e = .returned (.tuple #[.agg #[.int .i64 (bkV c p).1, .int .i64 (bkV c p).2], .int .i64 (bkEr c p)]) ∧ Below w.heap.size w w' := by
  have CK := Lib.hid (fun W => refCheck_any c W)
  have CE := Lib.hid (fun W => refEdge_any p W)
  rcases ckC_2 c with h | h
  rotate_left
  · have he : bkEr c p = 2 := by unfold bkEr; rw [h]; rfl
    have hv : bkV c p = (0, 0) := by unfold bkV; rw [if_neg (by omega)]
    rw [h] at CK
    rw [he, hv]
    clear h he hv
    go_enter Try.func22, Try.ntmps22
    go_wp2_with fail
    obtain ⟨W0, hW⟩ : ∃ W0, ((w.alloc (.cells #[.int .i64 c.half, .int .i64 c.gain, .int .i64 c.thin, .int .i64 c.wide, .int .i64 c.slope, .int .i64 c.jerk, .int .i64 c.stylus] 23)).alloc (.cells #[.int .i64 p.1, .int .i64 p.2] 27)).alloc (.cells #[.int .i64 0, .int .i64 0] 25) = W0 := ⟨_, rfl⟩
    have HK : Hid (Blk W0 w.heap.size 23 #[.int .i64 c.half, .int .i64 c.gain, .int .i64 c.thin, .int .i64 c.wide, .int .i64 c.slope, .int .i64 c.jerk, .int .i64 c.stylus]) := Lib.hid (by rw [← hW]; exact ((Blk.new _ _ _).alloc _).alloc _)
    have HP : Hid (Blk W0 (w.heap.size + 1) 27 #[.int .i64 p.1, .int .i64 p.2]) := Lib.hid (by rw [← hW]; exact (blk_al (by simp)).alloc _)
    have HR : Hid (Blk W0 (w.heap.size + 1 + 1) 25 #[.int .i64 0, .int .i64 0]) := Lib.hid (by rw [← hW]; exact blk_al (by simp))
    have HB : Hid (Below w.heap.size w W0) := Lib.hid (by rw [← hW]; exact (((Below.refl _ w).alloc (Nat.le_refl _) _).alloc (by simp) _).alloc (by simp <;> omega) _)
    rw [hW]
    clear hW
    have hk_0 : W0.cell? ⟨w.heap.size, 0, none⟩ = some (.int .i64 c.half) := (HK.out.cell 0).trans rfl
    have hk_1 : W0.cell? ⟨w.heap.size, 1, none⟩ = some (.int .i64 c.gain) := (HK.out.cell 1).trans rfl
    have hk_2 : W0.cell? ⟨w.heap.size, 2, none⟩ = some (.int .i64 c.thin) := (HK.out.cell 2).trans rfl
    have hk_3 : W0.cell? ⟨w.heap.size, 3, none⟩ = some (.int .i64 c.wide) := (HK.out.cell 3).trans rfl
    have hk_4 : W0.cell? ⟨w.heap.size, 4, none⟩ = some (.int .i64 c.slope) := (HK.out.cell 4).trans rfl
    have hk_5 : W0.cell? ⟨w.heap.size, 5, none⟩ = some (.int .i64 c.jerk) := (HK.out.cell 5).trans rfl
    have hk_6 : W0.cell? ⟨w.heap.size, 6, none⟩ = some (.int .i64 c.stylus) := (HK.out.cell 6).trans rfl
    have hp_0 : W0.cell? ⟨w.heap.size + 1, 0, none⟩ = some (.int .i64 p.1) := (HP.out.cell 0).trans rfl
    have hp_1 : W0.cell? ⟨w.heap.size + 1, 1, none⟩ = some (.int .i64 p.2) := (HP.out.cell 1).trans rfl
    go_wp2_with fail
    refine (CK.out _).mono ?_
    rintro e w1 ⟨rfl, hb1⟩
    replace HK := Lib.hid (HK.out.below hb1 HK.out.lt)
    replace HP := Lib.hid (HP.out.below hb1 HP.out.lt)
    replace HR := Lib.hid (HR.out.below hb1 HR.out.lt)
    replace HB := Lib.hid (HB.out.trans (hb1.mono HB.out.size))
    clear hb1
    clear hk_0 hk_1 hk_2 hk_3 hk_4 hk_5 hk_6 hp_0 hp_1
    obtain ⟨r0, r1, t0, t1, tl⟩ := HR.out.two
    go_wp2
    refine bodyPost_ret (v := .tuple #[.agg #[.int .i64 (0), .int .i64 (0)], .int .i64 2]) ?_ rfl ⟨rfl, ?_⟩
    · have g1 := Blk.two (a := .int .i64 (0)) (b := .int .i64 0) (HR.out.set_ 0 (.int .i64 (0)))
      have g2 := Blk.two (a := .int .i64 (0)) (b := .int .i64 (0)) ((HR.out.set_ 0 (.int .i64 (0))).set_ 1 (.int .i64 (0)))
      simp [results, Try.results22, go_sem, g1.1, g2.2.1]
    · exact (HB.out.setCell (by simp <;> omega) _).setCell (by simp <;> omega) _
  by_cases hp : vE p = true
  rotate_left
  · have he : bkEr c p = 2 := by unfold bkEr ckE; rw [h, if_neg hp]; rfl
    have hv : bkV c p = (0, 0) := by unfold bkV; rw [if_neg (by omega)]
    have hp' : vE p = false := by simpa using hp
    rw [h] at CK
    rw [hp'] at CE
    rw [he, hv]
    clear h he hv hp hp'
    go_enter Try.func22, Try.ntmps22
    go_wp2_with fail
    obtain ⟨W0, hW⟩ : ∃ W0, ((w.alloc (.cells #[.int .i64 c.half, .int .i64 c.gain, .int .i64 c.thin, .int .i64 c.wide, .int .i64 c.slope, .int .i64 c.jerk, .int .i64 c.stylus] 23)).alloc (.cells #[.int .i64 p.1, .int .i64 p.2] 27)).alloc (.cells #[.int .i64 0, .int .i64 0] 25) = W0 := ⟨_, rfl⟩
    have HK : Hid (Blk W0 w.heap.size 23 #[.int .i64 c.half, .int .i64 c.gain, .int .i64 c.thin, .int .i64 c.wide, .int .i64 c.slope, .int .i64 c.jerk, .int .i64 c.stylus]) := Lib.hid (by rw [← hW]; exact ((Blk.new _ _ _).alloc _).alloc _)
    have HP : Hid (Blk W0 (w.heap.size + 1) 27 #[.int .i64 p.1, .int .i64 p.2]) := Lib.hid (by rw [← hW]; exact (blk_al (by simp)).alloc _)
    have HR : Hid (Blk W0 (w.heap.size + 1 + 1) 25 #[.int .i64 0, .int .i64 0]) := Lib.hid (by rw [← hW]; exact blk_al (by simp))
    have HB : Hid (Below w.heap.size w W0) := Lib.hid (by rw [← hW]; exact (((Below.refl _ w).alloc (Nat.le_refl _) _).alloc (by simp) _).alloc (by simp <;> omega) _)
    rw [hW]
    clear hW
    have hk_0 : W0.cell? ⟨w.heap.size, 0, none⟩ = some (.int .i64 c.half) := (HK.out.cell 0).trans rfl
    have hk_1 : W0.cell? ⟨w.heap.size, 1, none⟩ = some (.int .i64 c.gain) := (HK.out.cell 1).trans rfl
    have hk_2 : W0.cell? ⟨w.heap.size, 2, none⟩ = some (.int .i64 c.thin) := (HK.out.cell 2).trans rfl
    have hk_3 : W0.cell? ⟨w.heap.size, 3, none⟩ = some (.int .i64 c.wide) := (HK.out.cell 3).trans rfl
    have hk_4 : W0.cell? ⟨w.heap.size, 4, none⟩ = some (.int .i64 c.slope) := (HK.out.cell 4).trans rfl
    have hk_5 : W0.cell? ⟨w.heap.size, 5, none⟩ = some (.int .i64 c.jerk) := (HK.out.cell 5).trans rfl
    have hk_6 : W0.cell? ⟨w.heap.size, 6, none⟩ = some (.int .i64 c.stylus) := (HK.out.cell 6).trans rfl
    have hp_0 : W0.cell? ⟨w.heap.size + 1, 0, none⟩ = some (.int .i64 p.1) := (HP.out.cell 0).trans rfl
    have hp_1 : W0.cell? ⟨w.heap.size + 1, 1, none⟩ = some (.int .i64 p.2) := (HP.out.cell 1).trans rfl
    go_wp2_with fail
    refine (CK.out _).mono ?_
    rintro e w1 ⟨rfl, hb1⟩
    replace HK := Lib.hid (HK.out.below hb1 HK.out.lt)
    replace HP := Lib.hid (HP.out.below hb1 HP.out.lt)
    replace HR := Lib.hid (HR.out.below hb1 HR.out.lt)
    replace HB := Lib.hid (HB.out.trans (hb1.mono HB.out.size))
    clear hb1
    clear hk_0 hk_1 hk_2 hk_3 hk_4 hk_5 hk_6 hp_0 hp_1
    have hk_0 : w1.cell? ⟨w.heap.size, 0, none⟩ = some (.int .i64 c.half) := (HK.out.cell 0).trans rfl
    have hk_1 : w1.cell? ⟨w.heap.size, 1, none⟩ = some (.int .i64 c.gain) := (HK.out.cell 1).trans rfl
    have hk_2 : w1.cell? ⟨w.heap.size, 2, none⟩ = some (.int .i64 c.thin) := (HK.out.cell 2).trans rfl
    have hk_3 : w1.cell? ⟨w.heap.size, 3, none⟩ = some (.int .i64 c.wide) := (HK.out.cell 3).trans rfl
    have hk_4 : w1.cell? ⟨w.heap.size, 4, none⟩ = some (.int .i64 c.slope) := (HK.out.cell 4).trans rfl
    have hk_5 : w1.cell? ⟨w.heap.size, 5, none⟩ = some (.int .i64 c.jerk) := (HK.out.cell 5).trans rfl
    have hk_6 : w1.cell? ⟨w.heap.size, 6, none⟩ = some (.int .i64 c.stylus) := (HK.out.cell 6).trans rfl
    have hp_0 : w1.cell? ⟨w.heap.size + 1, 0, none⟩ = some (.int .i64 p.1) := (HP.out.cell 0).trans rfl
    have hp_1 : w1.cell? ⟨w.heap.size + 1, 1, none⟩ = some (.int .i64 p.2) := (HP.out.cell 1).trans rfl
    go_wp2_with fail
    refine (CE.out _).mono ?_
    rintro e w2 ⟨rfl, hb1⟩
    replace HK := Lib.hid (HK.out.below hb1 HK.out.lt)
    replace HP := Lib.hid (HP.out.below hb1 HP.out.lt)
    replace HR := Lib.hid (HR.out.below hb1 HR.out.lt)
    replace HB := Lib.hid (HB.out.trans (hb1.mono HB.out.size))
    clear hb1
    clear hk_0 hk_1 hk_2 hk_3 hk_4 hk_5 hk_6 hp_0 hp_1
    obtain ⟨r0, r1, t0, t1, tl⟩ := HR.out.two
    go_wp2
    refine bodyPost_ret (v := .tuple #[.agg #[.int .i64 (0), .int .i64 (0)], .int .i64 2]) ?_ rfl ⟨rfl, ?_⟩
    · have g1 := Blk.two (a := .int .i64 (0)) (b := .int .i64 0) (HR.out.set_ 0 (.int .i64 (0)))
      have g2 := Blk.two (a := .int .i64 (0)) (b := .int .i64 (0)) ((HR.out.set_ 0 (.int .i64 (0))).set_ 1 (.int .i64 (0)))
      simp [results, Try.results22, go_sem, g1.1, g2.2.1]
    · exact (HB.out.setCell (by simp <;> omega) _).setCell (by simp <;> omega) _
  have hc := ckC_ok h
  have hE := edOk_of hp
  have hh1 := hc.h1
  have hh2 := hc.h2
  obtain ⟨x1, x2, x3, x4⟩ := hE
  have f1 : IntKind.i64.wrap (p.2 - c.half) = p.2 - c.half := IntWalk.i64_in _ (by omega)
  have f2 : IntKind.i64.wrap (p.1 + c.half) = p.1 + c.half := IntWalk.i64_in _ (by omega)
  have C1 := Lib.hid (fun W => refChannel_any c (p.2 - c.half) W hc (by omega) (by omega))
  have C2 := Lib.hid (fun W => refChannel_any c (p.1 + c.half) W hc (by omega) (by omega))
  have hee : bkEr c p = if (chF c (p.2 - c.half) && chF c (p.1 + c.half)) = true then 0 else 5 := by unfold bkEr ckE; rw [h, if_pos hp]; rfl
  have hvv : bkV c p = if bkEr c p = 0 then (chV c (p.2 - c.half), chV c (p.1 + c.half)) else (0, 0) := rfl
  rw [h] at CK
  rw [hp] at CE
  obtain ⟨l, hl⟩ : ∃ x, chV c (p.2 - c.half) = x := ⟨_, rfl⟩
  obtain ⟨r, hr⟩ : ∃ x, chV c (p.1 + c.half) = x := ⟨_, rfl⟩
  obtain ⟨lf, hlf⟩ : ∃ x, chF c (p.2 - c.half) = x := ⟨_, rfl⟩
  obtain ⟨rf, hrf⟩ : ∃ x, chF c (p.1 + c.half) = x := ⟨_, rfl⟩
  rw [hl, hr] at hvv
  rw [hlf, hrf] at hee
  rw [hl, hlf] at C1
  rw [hr, hrf] at C2
  clear hl hr hlf hrf hc hh1 hh2 h hp
  cases lf <;> cases rf
  · rw [if_neg (by decide)] at hee
    rw [if_neg (by omega)] at hvv
    rw [hvv, hee]
    clear hvv hee
    go_enter Try.func22, Try.ntmps22
    go_wp2_with fail
    obtain ⟨W0, hW⟩ : ∃ W0, ((w.alloc (.cells #[.int .i64 c.half, .int .i64 c.gain, .int .i64 c.thin, .int .i64 c.wide, .int .i64 c.slope, .int .i64 c.jerk, .int .i64 c.stylus] 23)).alloc (.cells #[.int .i64 p.1, .int .i64 p.2] 27)).alloc (.cells #[.int .i64 0, .int .i64 0] 25) = W0 := ⟨_, rfl⟩
    have HK : Hid (Blk W0 w.heap.size 23 #[.int .i64 c.half, .int .i64 c.gain, .int .i64 c.thin, .int .i64 c.wide, .int .i64 c.slope, .int .i64 c.jerk, .int .i64 c.stylus]) := Lib.hid (by rw [← hW]; exact ((Blk.new _ _ _).alloc _).alloc _)
    have HP : Hid (Blk W0 (w.heap.size + 1) 27 #[.int .i64 p.1, .int .i64 p.2]) := Lib.hid (by rw [← hW]; exact (blk_al (by simp)).alloc _)
    have HR : Hid (Blk W0 (w.heap.size + 1 + 1) 25 #[.int .i64 0, .int .i64 0]) := Lib.hid (by rw [← hW]; exact blk_al (by simp))
    have HB : Hid (Below w.heap.size w W0) := Lib.hid (by rw [← hW]; exact (((Below.refl _ w).alloc (Nat.le_refl _) _).alloc (by simp) _).alloc (by simp <;> omega) _)
    rw [hW]
    clear hW
    have hk_0 : W0.cell? ⟨w.heap.size, 0, none⟩ = some (.int .i64 c.half) := (HK.out.cell 0).trans rfl
    have hk_1 : W0.cell? ⟨w.heap.size, 1, none⟩ = some (.int .i64 c.gain) := (HK.out.cell 1).trans rfl
    have hk_2 : W0.cell? ⟨w.heap.size, 2, none⟩ = some (.int .i64 c.thin) := (HK.out.cell 2).trans rfl
    have hk_3 : W0.cell? ⟨w.heap.size, 3, none⟩ = some (.int .i64 c.wide) := (HK.out.cell 3).trans rfl
    have hk_4 : W0.cell? ⟨w.heap.size, 4, none⟩ = some (.int .i64 c.slope) := (HK.out.cell 4).trans rfl
    have hk_5 : W0.cell? ⟨w.heap.size, 5, none⟩ = some (.int .i64 c.jerk) := (HK.out.cell 5).trans rfl
    have hk_6 : W0.cell? ⟨w.heap.size, 6, none⟩ = some (.int .i64 c.stylus) := (HK.out.cell 6).trans rfl
    have hp_0 : W0.cell? ⟨w.heap.size + 1, 0, none⟩ = some (.int .i64 p.1) := (HP.out.cell 0).trans rfl
    have hp_1 : W0.cell? ⟨w.heap.size + 1, 1, none⟩ = some (.int .i64 p.2) := (HP.out.cell 1).trans rfl
    go_wp2_with fail
    refine (CK.out _).mono ?_
    rintro e w1 ⟨rfl, hb1⟩
    replace HK := Lib.hid (HK.out.below hb1 HK.out.lt)
    replace HP := Lib.hid (HP.out.below hb1 HP.out.lt)
    replace HR := Lib.hid (HR.out.below hb1 HR.out.lt)
    replace HB := Lib.hid (HB.out.trans (hb1.mono HB.out.size))
    clear hb1
    clear hk_0 hk_1 hk_2 hk_3 hk_4 hk_5 hk_6 hp_0 hp_1
    have hk_0 : w1.cell? ⟨w.heap.size, 0, none⟩ = some (.int .i64 c.half) := (HK.out.cell 0).trans rfl
    have hk_1 : w1.cell? ⟨w.heap.size, 1, none⟩ = some (.int .i64 c.gain) := (HK.out.cell 1).trans rfl
    have hk_2 : w1.cell? ⟨w.heap.size, 2, none⟩ = some (.int .i64 c.thin) := (HK.out.cell 2).trans rfl
    have hk_3 : w1.cell? ⟨w.heap.size, 3, none⟩ = some (.int .i64 c.wide) := (HK.out.cell 3).trans rfl
    have hk_4 : w1.cell? ⟨w.heap.size, 4, none⟩ = some (.int .i64 c.slope) := (HK.out.cell 4).trans rfl
    have hk_5 : w1.cell? ⟨w.heap.size, 5, none⟩ = some (.int .i64 c.jerk) := (HK.out.cell 5).trans rfl
    have hk_6 : w1.cell? ⟨w.heap.size, 6, none⟩ = some (.int .i64 c.stylus) := (HK.out.cell 6).trans rfl
    have hp_0 : w1.cell? ⟨w.heap.size + 1, 0, none⟩ = some (.int .i64 p.1) := (HP.out.cell 0).trans rfl
    have hp_1 : w1.cell? ⟨w.heap.size + 1, 1, none⟩ = some (.int .i64 p.2) := (HP.out.cell 1).trans rfl
    go_wp2_with fail
    refine (CE.out _).mono ?_
    rintro e w2 ⟨rfl, hb1⟩
    replace HK := Lib.hid (HK.out.below hb1 HK.out.lt)
    replace HP := Lib.hid (HP.out.below hb1 HP.out.lt)
    replace HR := Lib.hid (HR.out.below hb1 HR.out.lt)
    replace HB := Lib.hid (HB.out.trans (hb1.mono HB.out.size))
    clear hb1
    clear hk_0 hk_1 hk_2 hk_3 hk_4 hk_5 hk_6 hp_0 hp_1
    have hk_0 : w2.cell? ⟨w.heap.size, 0, none⟩ = some (.int .i64 c.half) := (HK.out.cell 0).trans rfl
    have hk_1 : w2.cell? ⟨w.heap.size, 1, none⟩ = some (.int .i64 c.gain) := (HK.out.cell 1).trans rfl
    have hk_2 : w2.cell? ⟨w.heap.size, 2, none⟩ = some (.int .i64 c.thin) := (HK.out.cell 2).trans rfl
    have hk_3 : w2.cell? ⟨w.heap.size, 3, none⟩ = some (.int .i64 c.wide) := (HK.out.cell 3).trans rfl
    have hk_4 : w2.cell? ⟨w.heap.size, 4, none⟩ = some (.int .i64 c.slope) := (HK.out.cell 4).trans rfl
    have hk_5 : w2.cell? ⟨w.heap.size, 5, none⟩ = some (.int .i64 c.jerk) := (HK.out.cell 5).trans rfl
    have hk_6 : w2.cell? ⟨w.heap.size, 6, none⟩ = some (.int .i64 c.stylus) := (HK.out.cell 6).trans rfl
    have hp_0 : w2.cell? ⟨w.heap.size + 1, 0, none⟩ = some (.int .i64 p.1) := (HP.out.cell 0).trans rfl
    have hp_1 : w2.cell? ⟨w.heap.size + 1, 1, none⟩ = some (.int .i64 p.2) := (HP.out.cell 1).trans rfl
    go_wp2_with fail
    refine (C1.out _).mono ?_
    rintro e w' ⟨rfl, rfl⟩
    go_wp2_with fail
    refine (C2.out _).mono ?_
    rintro e w' ⟨rfl, rfl⟩
    clear hk_0 hk_1 hk_2 hk_3 hk_4 hk_5 hk_6 hp_0 hp_1
    obtain ⟨r0, r1, t0, t1, tl⟩ := HR.out.two
    go_wp2
    refine bodyPost_ret (v := .tuple #[.agg #[.int .i64 (0), .int .i64 (0)], .int .i64 5]) ?_ rfl ⟨rfl, ?_⟩
    · have g1 := Blk.two (a := .int .i64 (0)) (b := .int .i64 0) (HR.out.set_ 0 (.int .i64 (0)))
      have g2 := Blk.two (a := .int .i64 (0)) (b := .int .i64 (0)) ((HR.out.set_ 0 (.int .i64 (0))).set_ 1 (.int .i64 (0)))
      simp [results, Try.results22, go_sem, g1.1, g2.2.1]
    · exact (HB.out.setCell (by simp <;> omega) _).setCell (by simp <;> omega) _
  · rw [if_neg (by decide)] at hee
    rw [if_neg (by omega)] at hvv
    rw [hvv, hee]
    clear hvv hee
    go_enter Try.func22, Try.ntmps22
    go_wp2_with fail
    obtain ⟨W0, hW⟩ : ∃ W0, ((w.alloc (.cells #[.int .i64 c.half, .int .i64 c.gain, .int .i64 c.thin, .int .i64 c.wide, .int .i64 c.slope, .int .i64 c.jerk, .int .i64 c.stylus] 23)).alloc (.cells #[.int .i64 p.1, .int .i64 p.2] 27)).alloc (.cells #[.int .i64 0, .int .i64 0] 25) = W0 := ⟨_, rfl⟩
    have HK : Hid (Blk W0 w.heap.size 23 #[.int .i64 c.half, .int .i64 c.gain, .int .i64 c.thin, .int .i64 c.wide, .int .i64 c.slope, .int .i64 c.jerk, .int .i64 c.stylus]) := Lib.hid (by rw [← hW]; exact ((Blk.new _ _ _).alloc _).alloc _)
    have HP : Hid (Blk W0 (w.heap.size + 1) 27 #[.int .i64 p.1, .int .i64 p.2]) := Lib.hid (by rw [← hW]; exact (blk_al (by simp)).alloc _)
    have HR : Hid (Blk W0 (w.heap.size + 1 + 1) 25 #[.int .i64 0, .int .i64 0]) := Lib.hid (by rw [← hW]; exact blk_al (by simp))
    have HB : Hid (Below w.heap.size w W0) := Lib.hid (by rw [← hW]; exact (((Below.refl _ w).alloc (Nat.le_refl _) _).alloc (by simp) _).alloc (by simp <;> omega) _)
    rw [hW]
    clear hW
    have hk_0 : W0.cell? ⟨w.heap.size, 0, none⟩ = some (.int .i64 c.half) := (HK.out.cell 0).trans rfl
    have hk_1 : W0.cell? ⟨w.heap.size, 1, none⟩ = some (.int .i64 c.gain) := (HK.out.cell 1).trans rfl
    have hk_2 : W0.cell? ⟨w.heap.size, 2, none⟩ = some (.int .i64 c.thin) := (HK.out.cell 2).trans rfl
    have hk_3 : W0.cell? ⟨w.heap.size, 3, none⟩ = some (.int .i64 c.wide) := (HK.out.cell 3).trans rfl
    have hk_4 : W0.cell? ⟨w.heap.size, 4, none⟩ = some (.int .i64 c.slope) := (HK.out.cell 4).trans rfl
    have hk_5 : W0.cell? ⟨w.heap.size, 5, none⟩ = some (.int .i64 c.jerk) := (HK.out.cell 5).trans rfl
    have hk_6 : W0.cell? ⟨w.heap.size, 6, none⟩ = some (.int .i64 c.stylus) := (HK.out.cell 6).trans rfl
    have hp_0 : W0.cell? ⟨w.heap.size + 1, 0, none⟩ = some (.int .i64 p.1) := (HP.out.cell 0).trans rfl
    have hp_1 : W0.cell? ⟨w.heap.size + 1, 1, none⟩ = some (.int .i64 p.2) := (HP.out.cell 1).trans rfl
    go_wp2_with fail
    refine (CK.out _).mono ?_
    rintro e w1 ⟨rfl, hb1⟩
    replace HK := Lib.hid (HK.out.below hb1 HK.out.lt)
    replace HP := Lib.hid (HP.out.below hb1 HP.out.lt)
    replace HR := Lib.hid (HR.out.below hb1 HR.out.lt)
    replace HB := Lib.hid (HB.out.trans (hb1.mono HB.out.size))
    clear hb1
    clear hk_0 hk_1 hk_2 hk_3 hk_4 hk_5 hk_6 hp_0 hp_1
    have hk_0 : w1.cell? ⟨w.heap.size, 0, none⟩ = some (.int .i64 c.half) := (HK.out.cell 0).trans rfl
    have hk_1 : w1.cell? ⟨w.heap.size, 1, none⟩ = some (.int .i64 c.gain) := (HK.out.cell 1).trans rfl
    have hk_2 : w1.cell? ⟨w.heap.size, 2, none⟩ = some (.int .i64 c.thin) := (HK.out.cell 2).trans rfl
    have hk_3 : w1.cell? ⟨w.heap.size, 3, none⟩ = some (.int .i64 c.wide) := (HK.out.cell 3).trans rfl
    have hk_4 : w1.cell? ⟨w.heap.size, 4, none⟩ = some (.int .i64 c.slope) := (HK.out.cell 4).trans rfl
    have hk_5 : w1.cell? ⟨w.heap.size, 5, none⟩ = some (.int .i64 c.jerk) := (HK.out.cell 5).trans rfl
    have hk_6 : w1.cell? ⟨w.heap.size, 6, none⟩ = some (.int .i64 c.stylus) := (HK.out.cell 6).trans rfl
    have hp_0 : w1.cell? ⟨w.heap.size + 1, 0, none⟩ = some (.int .i64 p.1) := (HP.out.cell 0).trans rfl
    have hp_1 : w1.cell? ⟨w.heap.size + 1, 1, none⟩ = some (.int .i64 p.2) := (HP.out.cell 1).trans rfl
    go_wp2_with fail
    refine (CE.out _).mono ?_
    rintro e w2 ⟨rfl, hb1⟩
    replace HK := Lib.hid (HK.out.below hb1 HK.out.lt)
    replace HP := Lib.hid (HP.out.below hb1 HP.out.lt)
    replace HR := Lib.hid (HR.out.below hb1 HR.out.lt)
    replace HB := Lib.hid (HB.out.trans (hb1.mono HB.out.size))
    clear hb1
    clear hk_0 hk_1 hk_2 hk_3 hk_4 hk_5 hk_6 hp_0 hp_1
    have hk_0 : w2.cell? ⟨w.heap.size, 0, none⟩ = some (.int .i64 c.half) := (HK.out.cell 0).trans rfl
    have hk_1 : w2.cell? ⟨w.heap.size, 1, none⟩ = some (.int .i64 c.gain) := (HK.out.cell 1).trans rfl
    have hk_2 : w2.cell? ⟨w.heap.size, 2, none⟩ = some (.int .i64 c.thin) := (HK.out.cell 2).trans rfl
    have hk_3 : w2.cell? ⟨w.heap.size, 3, none⟩ = some (.int .i64 c.wide) := (HK.out.cell 3).trans rfl
    have hk_4 : w2.cell? ⟨w.heap.size, 4, none⟩ = some (.int .i64 c.slope) := (HK.out.cell 4).trans rfl
    have hk_5 : w2.cell? ⟨w.heap.size, 5, none⟩ = some (.int .i64 c.jerk) := (HK.out.cell 5).trans rfl
    have hk_6 : w2.cell? ⟨w.heap.size, 6, none⟩ = some (.int .i64 c.stylus) := (HK.out.cell 6).trans rfl
    have hp_0 : w2.cell? ⟨w.heap.size + 1, 0, none⟩ = some (.int .i64 p.1) := (HP.out.cell 0).trans rfl
    have hp_1 : w2.cell? ⟨w.heap.size + 1, 1, none⟩ = some (.int .i64 p.2) := (HP.out.cell 1).trans rfl
    go_wp2_with fail
    refine (C1.out _).mono ?_
    rintro e w' ⟨rfl, rfl⟩
    go_wp2_with fail
    refine (C2.out _).mono ?_
    rintro e w' ⟨rfl, rfl⟩
    clear hk_0 hk_1 hk_2 hk_3 hk_4 hk_5 hk_6 hp_0 hp_1
    obtain ⟨r0, r1, t0, t1, tl⟩ := HR.out.two
    go_wp2
    refine bodyPost_ret (v := .tuple #[.agg #[.int .i64 (0), .int .i64 (0)], .int .i64 5]) ?_ rfl ⟨rfl, ?_⟩
    · have g1 := Blk.two (a := .int .i64 (0)) (b := .int .i64 0) (HR.out.set_ 0 (.int .i64 (0)))
      have g2 := Blk.two (a := .int .i64 (0)) (b := .int .i64 (0)) ((HR.out.set_ 0 (.int .i64 (0))).set_ 1 (.int .i64 (0)))
      simp [results, Try.results22, go_sem, g1.1, g2.2.1]
    · exact (HB.out.setCell (by simp <;> omega) _).setCell (by simp <;> omega) _
  · rw [if_neg (by decide)] at hee
    rw [if_neg (by omega)] at hvv
    rw [hvv, hee]
    clear hvv hee
    go_enter Try.func22, Try.ntmps22
    go_wp2_with fail
    obtain ⟨W0, hW⟩ : ∃ W0, ((w.alloc (.cells #[.int .i64 c.half, .int .i64 c.gain, .int .i64 c.thin, .int .i64 c.wide, .int .i64 c.slope, .int .i64 c.jerk, .int .i64 c.stylus] 23)).alloc (.cells #[.int .i64 p.1, .int .i64 p.2] 27)).alloc (.cells #[.int .i64 0, .int .i64 0] 25) = W0 := ⟨_, rfl⟩
    have HK : Hid (Blk W0 w.heap.size 23 #[.int .i64 c.half, .int .i64 c.gain, .int .i64 c.thin, .int .i64 c.wide, .int .i64 c.slope, .int .i64 c.jerk, .int .i64 c.stylus]) := Lib.hid (by rw [← hW]; exact ((Blk.new _ _ _).alloc _).alloc _)
    have HP : Hid (Blk W0 (w.heap.size + 1) 27 #[.int .i64 p.1, .int .i64 p.2]) := Lib.hid (by rw [← hW]; exact (blk_al (by simp)).alloc _)
    have HR : Hid (Blk W0 (w.heap.size + 1 + 1) 25 #[.int .i64 0, .int .i64 0]) := Lib.hid (by rw [← hW]; exact blk_al (by simp))
    have HB : Hid (Below w.heap.size w W0) := Lib.hid (by rw [← hW]; exact (((Below.refl _ w).alloc (Nat.le_refl _) _).alloc (by simp) _).alloc (by simp <;> omega) _)
    rw [hW]
    clear hW
    have hk_0 : W0.cell? ⟨w.heap.size, 0, none⟩ = some (.int .i64 c.half) := (HK.out.cell 0).trans rfl
    have hk_1 : W0.cell? ⟨w.heap.size, 1, none⟩ = some (.int .i64 c.gain) := (HK.out.cell 1).trans rfl
    have hk_2 : W0.cell? ⟨w.heap.size, 2, none⟩ = some (.int .i64 c.thin) := (HK.out.cell 2).trans rfl
    have hk_3 : W0.cell? ⟨w.heap.size, 3, none⟩ = some (.int .i64 c.wide) := (HK.out.cell 3).trans rfl
    have hk_4 : W0.cell? ⟨w.heap.size, 4, none⟩ = some (.int .i64 c.slope) := (HK.out.cell 4).trans rfl
    have hk_5 : W0.cell? ⟨w.heap.size, 5, none⟩ = some (.int .i64 c.jerk) := (HK.out.cell 5).trans rfl
    have hk_6 : W0.cell? ⟨w.heap.size, 6, none⟩ = some (.int .i64 c.stylus) := (HK.out.cell 6).trans rfl
    have hp_0 : W0.cell? ⟨w.heap.size + 1, 0, none⟩ = some (.int .i64 p.1) := (HP.out.cell 0).trans rfl
    have hp_1 : W0.cell? ⟨w.heap.size + 1, 1, none⟩ = some (.int .i64 p.2) := (HP.out.cell 1).trans rfl
    go_wp2_with fail
    refine (CK.out _).mono ?_
    rintro e w1 ⟨rfl, hb1⟩
    replace HK := Lib.hid (HK.out.below hb1 HK.out.lt)
    replace HP := Lib.hid (HP.out.below hb1 HP.out.lt)
    replace HR := Lib.hid (HR.out.below hb1 HR.out.lt)
    replace HB := Lib.hid (HB.out.trans (hb1.mono HB.out.size))
    clear hb1
    clear hk_0 hk_1 hk_2 hk_3 hk_4 hk_5 hk_6 hp_0 hp_1
    have hk_0 : w1.cell? ⟨w.heap.size, 0, none⟩ = some (.int .i64 c.half) := (HK.out.cell 0).trans rfl
    have hk_1 : w1.cell? ⟨w.heap.size, 1, none⟩ = some (.int .i64 c.gain) := (HK.out.cell 1).trans rfl
    have hk_2 : w1.cell? ⟨w.heap.size, 2, none⟩ = some (.int .i64 c.thin) := (HK.out.cell 2).trans rfl
    have hk_3 : w1.cell? ⟨w.heap.size, 3, none⟩ = some (.int .i64 c.wide) := (HK.out.cell 3).trans rfl
    have hk_4 : w1.cell? ⟨w.heap.size, 4, none⟩ = some (.int .i64 c.slope) := (HK.out.cell 4).trans rfl
    have hk_5 : w1.cell? ⟨w.heap.size, 5, none⟩ = some (.int .i64 c.jerk) := (HK.out.cell 5).trans rfl
    have hk_6 : w1.cell? ⟨w.heap.size, 6, none⟩ = some (.int .i64 c.stylus) := (HK.out.cell 6).trans rfl
    have hp_0 : w1.cell? ⟨w.heap.size + 1, 0, none⟩ = some (.int .i64 p.1) := (HP.out.cell 0).trans rfl
    have hp_1 : w1.cell? ⟨w.heap.size + 1, 1, none⟩ = some (.int .i64 p.2) := (HP.out.cell 1).trans rfl
    go_wp2_with fail
    refine (CE.out _).mono ?_
    rintro e w2 ⟨rfl, hb1⟩
    replace HK := Lib.hid (HK.out.below hb1 HK.out.lt)
    replace HP := Lib.hid (HP.out.below hb1 HP.out.lt)
    replace HR := Lib.hid (HR.out.below hb1 HR.out.lt)
    replace HB := Lib.hid (HB.out.trans (hb1.mono HB.out.size))
    clear hb1
    clear hk_0 hk_1 hk_2 hk_3 hk_4 hk_5 hk_6 hp_0 hp_1
    have hk_0 : w2.cell? ⟨w.heap.size, 0, none⟩ = some (.int .i64 c.half) := (HK.out.cell 0).trans rfl
    have hk_1 : w2.cell? ⟨w.heap.size, 1, none⟩ = some (.int .i64 c.gain) := (HK.out.cell 1).trans rfl
    have hk_2 : w2.cell? ⟨w.heap.size, 2, none⟩ = some (.int .i64 c.thin) := (HK.out.cell 2).trans rfl
    have hk_3 : w2.cell? ⟨w.heap.size, 3, none⟩ = some (.int .i64 c.wide) := (HK.out.cell 3).trans rfl
    have hk_4 : w2.cell? ⟨w.heap.size, 4, none⟩ = some (.int .i64 c.slope) := (HK.out.cell 4).trans rfl
    have hk_5 : w2.cell? ⟨w.heap.size, 5, none⟩ = some (.int .i64 c.jerk) := (HK.out.cell 5).trans rfl
    have hk_6 : w2.cell? ⟨w.heap.size, 6, none⟩ = some (.int .i64 c.stylus) := (HK.out.cell 6).trans rfl
    have hp_0 : w2.cell? ⟨w.heap.size + 1, 0, none⟩ = some (.int .i64 p.1) := (HP.out.cell 0).trans rfl
    have hp_1 : w2.cell? ⟨w.heap.size + 1, 1, none⟩ = some (.int .i64 p.2) := (HP.out.cell 1).trans rfl
    go_wp2_with fail
    refine (C1.out _).mono ?_
    rintro e w' ⟨rfl, rfl⟩
    go_wp2_with fail
    refine (C2.out _).mono ?_
    rintro e w' ⟨rfl, rfl⟩
    clear hk_0 hk_1 hk_2 hk_3 hk_4 hk_5 hk_6 hp_0 hp_1
    obtain ⟨r0, r1, t0, t1, tl⟩ := HR.out.two
    go_wp2
    refine bodyPost_ret (v := .tuple #[.agg #[.int .i64 (0), .int .i64 (0)], .int .i64 5]) ?_ rfl ⟨rfl, ?_⟩
    · have g1 := Blk.two (a := .int .i64 (0)) (b := .int .i64 0) (HR.out.set_ 0 (.int .i64 (0)))
      have g2 := Blk.two (a := .int .i64 (0)) (b := .int .i64 (0)) ((HR.out.set_ 0 (.int .i64 (0))).set_ 1 (.int .i64 (0)))
      simp [results, Try.results22, go_sem, g1.1, g2.2.1]
    · exact (HB.out.setCell (by simp <;> omega) _).setCell (by simp <;> omega) _
  · rw [if_pos (by decide)] at hee
    rw [if_pos (by omega)] at hvv
    rw [hvv, hee]
    clear hvv hee
    go_enter Try.func22, Try.ntmps22
    go_wp2_with fail
    obtain ⟨W0, hW⟩ : ∃ W0, ((w.alloc (.cells #[.int .i64 c.half, .int .i64 c.gain, .int .i64 c.thin, .int .i64 c.wide, .int .i64 c.slope, .int .i64 c.jerk, .int .i64 c.stylus] 23)).alloc (.cells #[.int .i64 p.1, .int .i64 p.2] 27)).alloc (.cells #[.int .i64 0, .int .i64 0] 25) = W0 := ⟨_, rfl⟩
    have HK : Hid (Blk W0 w.heap.size 23 #[.int .i64 c.half, .int .i64 c.gain, .int .i64 c.thin, .int .i64 c.wide, .int .i64 c.slope, .int .i64 c.jerk, .int .i64 c.stylus]) := Lib.hid (by rw [← hW]; exact ((Blk.new _ _ _).alloc _).alloc _)
    have HP : Hid (Blk W0 (w.heap.size + 1) 27 #[.int .i64 p.1, .int .i64 p.2]) := Lib.hid (by rw [← hW]; exact (blk_al (by simp)).alloc _)
    have HR : Hid (Blk W0 (w.heap.size + 1 + 1) 25 #[.int .i64 0, .int .i64 0]) := Lib.hid (by rw [← hW]; exact blk_al (by simp))
    have HB : Hid (Below w.heap.size w W0) := Lib.hid (by rw [← hW]; exact (((Below.refl _ w).alloc (Nat.le_refl _) _).alloc (by simp) _).alloc (by simp <;> omega) _)
    rw [hW]
    clear hW
    have hk_0 : W0.cell? ⟨w.heap.size, 0, none⟩ = some (.int .i64 c.half) := (HK.out.cell 0).trans rfl
    have hk_1 : W0.cell? ⟨w.heap.size, 1, none⟩ = some (.int .i64 c.gain) := (HK.out.cell 1).trans rfl
    have hk_2 : W0.cell? ⟨w.heap.size, 2, none⟩ = some (.int .i64 c.thin) := (HK.out.cell 2).trans rfl
    have hk_3 : W0.cell? ⟨w.heap.size, 3, none⟩ = some (.int .i64 c.wide) := (HK.out.cell 3).trans rfl
    have hk_4 : W0.cell? ⟨w.heap.size, 4, none⟩ = some (.int .i64 c.slope) := (HK.out.cell 4).trans rfl
    have hk_5 : W0.cell? ⟨w.heap.size, 5, none⟩ = some (.int .i64 c.jerk) := (HK.out.cell 5).trans rfl
    have hk_6 : W0.cell? ⟨w.heap.size, 6, none⟩ = some (.int .i64 c.stylus) := (HK.out.cell 6).trans rfl
    have hp_0 : W0.cell? ⟨w.heap.size + 1, 0, none⟩ = some (.int .i64 p.1) := (HP.out.cell 0).trans rfl
    have hp_1 : W0.cell? ⟨w.heap.size + 1, 1, none⟩ = some (.int .i64 p.2) := (HP.out.cell 1).trans rfl
    go_wp2_with fail
    refine (CK.out _).mono ?_
    rintro e w1 ⟨rfl, hb1⟩
    replace HK := Lib.hid (HK.out.below hb1 HK.out.lt)
    replace HP := Lib.hid (HP.out.below hb1 HP.out.lt)
    replace HR := Lib.hid (HR.out.below hb1 HR.out.lt)
    replace HB := Lib.hid (HB.out.trans (hb1.mono HB.out.size))
    clear hb1
    clear hk_0 hk_1 hk_2 hk_3 hk_4 hk_5 hk_6 hp_0 hp_1
    have hk_0 : w1.cell? ⟨w.heap.size, 0, none⟩ = some (.int .i64 c.half) := (HK.out.cell 0).trans rfl
    have hk_1 : w1.cell? ⟨w.heap.size, 1, none⟩ = some (.int .i64 c.gain) := (HK.out.cell 1).trans rfl
    have hk_2 : w1.cell? ⟨w.heap.size, 2, none⟩ = some (.int .i64 c.thin) := (HK.out.cell 2).trans rfl
    have hk_3 : w1.cell? ⟨w.heap.size, 3, none⟩ = some (.int .i64 c.wide) := (HK.out.cell 3).trans rfl
    have hk_4 : w1.cell? ⟨w.heap.size, 4, none⟩ = some (.int .i64 c.slope) := (HK.out.cell 4).trans rfl
    have hk_5 : w1.cell? ⟨w.heap.size, 5, none⟩ = some (.int .i64 c.jerk) := (HK.out.cell 5).trans rfl
    have hk_6 : w1.cell? ⟨w.heap.size, 6, none⟩ = some (.int .i64 c.stylus) := (HK.out.cell 6).trans rfl
    have hp_0 : w1.cell? ⟨w.heap.size + 1, 0, none⟩ = some (.int .i64 p.1) := (HP.out.cell 0).trans rfl
    have hp_1 : w1.cell? ⟨w.heap.size + 1, 1, none⟩ = some (.int .i64 p.2) := (HP.out.cell 1).trans rfl
    go_wp2_with fail
    refine (CE.out _).mono ?_
    rintro e w2 ⟨rfl, hb1⟩
    replace HK := Lib.hid (HK.out.below hb1 HK.out.lt)
    replace HP := Lib.hid (HP.out.below hb1 HP.out.lt)
    replace HR := Lib.hid (HR.out.below hb1 HR.out.lt)
    replace HB := Lib.hid (HB.out.trans (hb1.mono HB.out.size))
    clear hb1
    clear hk_0 hk_1 hk_2 hk_3 hk_4 hk_5 hk_6 hp_0 hp_1
    have hk_0 : w2.cell? ⟨w.heap.size, 0, none⟩ = some (.int .i64 c.half) := (HK.out.cell 0).trans rfl
    have hk_1 : w2.cell? ⟨w.heap.size, 1, none⟩ = some (.int .i64 c.gain) := (HK.out.cell 1).trans rfl
    have hk_2 : w2.cell? ⟨w.heap.size, 2, none⟩ = some (.int .i64 c.thin) := (HK.out.cell 2).trans rfl
    have hk_3 : w2.cell? ⟨w.heap.size, 3, none⟩ = some (.int .i64 c.wide) := (HK.out.cell 3).trans rfl
    have hk_4 : w2.cell? ⟨w.heap.size, 4, none⟩ = some (.int .i64 c.slope) := (HK.out.cell 4).trans rfl
    have hk_5 : w2.cell? ⟨w.heap.size, 5, none⟩ = some (.int .i64 c.jerk) := (HK.out.cell 5).trans rfl
    have hk_6 : w2.cell? ⟨w.heap.size, 6, none⟩ = some (.int .i64 c.stylus) := (HK.out.cell 6).trans rfl
    have hp_0 : w2.cell? ⟨w.heap.size + 1, 0, none⟩ = some (.int .i64 p.1) := (HP.out.cell 0).trans rfl
    have hp_1 : w2.cell? ⟨w.heap.size + 1, 1, none⟩ = some (.int .i64 p.2) := (HP.out.cell 1).trans rfl
    go_wp2_with fail
    refine (C1.out _).mono ?_
    rintro e w' ⟨rfl, rfl⟩
    go_wp2_with fail
    refine (C2.out _).mono ?_
    rintro e w' ⟨rfl, rfl⟩
    clear hk_0 hk_1 hk_2 hk_3 hk_4 hk_5 hk_6 hp_0 hp_1
    obtain ⟨r0, r1, t0, t1, tl⟩ := HR.out.two
    go_wp2
    refine bodyPost_ret (v := .tuple #[.agg #[.int .i64 (l), .int .i64 (r)], .int .i64 0]) ?_ rfl ⟨rfl, ?_⟩
    · have g1 := Blk.two (a := .int .i64 (l)) (b := .int .i64 0) (HR.out.set_ 0 (.int .i64 (l)))
      have g2 := Blk.two (a := .int .i64 (l)) (b := .int .i64 (r)) ((HR.out.set_ 0 (.int .i64 (l))).set_ 1 (.int .i64 (r)))
      simp [results, Try.results22, go_sem, g1.1, g2.2.1]
    · exact (HB.out.setCell (by simp <;> omega) _).setCell (by simp <;> omega) _

set_option maxRecDepth 100000 in
set_option maxHeartbeats 2000000 in
theorem Same_any (B : Nat) (A A' : Option Addr) (n k n' k' : Nat) (l : List Smp) (w : World) (h0 : RS w B A n l) (g0 : RS w B A' n' l) (hB : B ≤ w.heap.size) (hl : n ≤ 9223372036854775807) :
    Calls Try.prog 27 #[.slice A n k, .slice A' n' k'] w fun e w' => e = .returned (.bool true) ∧ Below w.heap.size w w' := by
  have HN := Lib.hid h0.1
  have hnn : n = n' := h0.1.trans g0.1.symm
  subst hnn
  have H := Lib.hid (h0.more hB)
  have G := Lib.hid (g0.more hB)
  clear h0 g0 hB
  go_enter Try.func27, Try.ntmps27
  go_wp2_with fail
  go_loopw [5] (fun z wr => ∃ j : Nat, j ≤ n ∧ z = .int .i64 j ∧ Hid (Below w.heap.size w wr)) (fun i wr => n - (intOf i).toNat)
  case atStart => exact ⟨0, Nat.zero_le _, rfl, Lib.hid (Below.refl _ _)⟩
  case round =>
    obtain ⟨j, hj, rfl, HB⟩ := hrel
    by_cases hlt : j < n
    · have hjl : j < l.length := by have := HN.out; omega
      obtain ⟨a1, hA1, -, y1, y2⟩ := (H.out.below HB.out (Nat.le_refl _)).at2 hjl
      obtain ⟨a2, hA2, -, y3, y4⟩ := (G.out.below HB.out (Nat.le_refl _)).at2 hjl
      obtain rfl := hA1
      obtain rfl := hA2
      obtain ⟨x, hx⟩ : ∃ x, gAt l j = x := ⟨_, rfl⟩
      rw [hx] at y1 y2 y3 y4
      clear hx
      have z1 := Lat.cell y1
      have z2 := Lat.cell y2
      have z3 := Lat.cell y3
      have z4 := Lat.cell y4
      clear y1 y2 y3 y4
      have eqp := fun W : World => eqPt x.1 x.2 W
      go_wp2_with fail
      try dsimp only [List.append]
      refine wp_region_lat (by kernel_rfl) (by kernel_rfl) ?_
      repeat (go_big_quiet_step (fail))
      refine wpQuiet_nil ?_
      intro W2 hw'
      have hb1 := lat_out hw'
      replace HB := Lib.hid (HB.out.trans (hb1.mono HB.out.size))
      clear hb1 hw' z1 z2 z3 z4 eqp
      go_wp2
      go_roundw
      case rel => exact ⟨j + 1, by omega, by go_num, HB⟩
      case measure => simp [intOf]; omega
    · go_wp2
      go_ret
      exact ⟨rfl, HB.out⟩
end Go.Proofs.Ytaiigdbbpdkamaa
