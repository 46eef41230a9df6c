/-
  groove.Back: the sample that a point is read as.
-/
import Derived.Test.YtaiigdbbpdkamaaO2
import Derived.Test.YtaiigdbbpdkamaaO1
namespace Go.Proofs.Ytaiigdbbpdkamaa
open Go.RowKit

def bkEr (c : Ctr) (p : Smp) : Int := if orL [ckC c, ckE p] = 0 then (if (chF c (p.2 - c.half) && chF c (p.1 + c.half)) = true then 0 else 5) else orL [ckC c, ckE p]
def bkV (c : Ctr) (p : Smp) : Smp := if bkEr c p = 0 then (chV c (p.2 - c.half), chV c (p.1 + c.half)) else (0, 0)

set_option maxRecDepth 100000 in
set_option maxHeartbeats 4000000 in
theorem Back_any (c : Ctr) (p : Smp) (w : World) :
    Calls Try.prog 21 #[.agg #[.int .i64 c.half, .int .i64 c.gain, .int .i64 c.thin, .int .i64 c.wide, .int .i64 c.slope, .int .i64 c.jerk, .int .i64 c.stylus], .agg #[.int .i64 p.1, .int .i64 p.2]] w fun e w' => e = .returned (.tuple #[.agg #[.int .i64 (bkV c p).1, .int .i64 (bkV c p).2], .int .i64 (bkEr c p)]) ∧ Below w.heap.size w w' := by
  obtain ⟨er, her⟩ : ∃ e, bkEr c p = e := ⟨_, rfl⟩
  obtain ⟨v, hv⟩ : ∃ v, bkV c p = v := ⟨_, rfl⟩
  rw [her, hv]
  have HER := Lib.hid her
  have HV := Lib.hid hv
  clear her hv
  have CK := Lib.hid (fun W => Check_any c W)
  have CE := Lib.hid (fun W => checkEdges_any p W)
  obtain ⟨e1, h1⟩ : ∃ x, ckC c = x := ⟨_, rfl⟩
  obtain ⟨e2, h2⟩ : ∃ x, ckE p = x := ⟨_, rfl⟩
  have H1 := Lib.hid h1
  have H2 := Lib.hid h2
  rw [h1] at CK
  rw [h2] at CE
  have HOR := Lib.hid (fun B A n c W h1 h2 h3 h4 => cmpOr_any B A n c [e1, e2] W h1 h2 h3 h4)
  obtain ⟨eo, h5⟩ : ∃ x, orL [e1, e2] = x := ⟨_, rfl⟩
  have HO : Hid (orL [ckC c, ckE p] = eo) := Lib.hid (by rw [h1, h2, h5])
  have HO2 := Lib.hid h5
  rw [h5] at HOR
  clear h1 h2 h5
  go_enter Try.func21, Try.ntmps21
  go_wp2_with fail
  obtain ⟨W0, hW0⟩ : ∃ W0, ((w.alloc (.cells #[.int .i64 c.half, .int .i64 c.gain, .int .i64 c.thin, .int .i64 c.wide, .int .i64 c.slope, .int .i64 c.jerk, .int .i64 c.stylus] 23)).alloc (.cells #[.int .i64 p.1, .int .i64 p.2] 27)).alloc (.cells #[.int .i64 0, .int .i64 0] 25) = W0 := ⟨_, rfl⟩
  have HK : Hid (Blk W0 w.heap.size 23 #[.int .i64 c.half, .int .i64 c.gain, .int .i64 c.thin, .int .i64 c.wide, .int .i64 c.slope, .int .i64 c.jerk, .int .i64 c.stylus]) := Lib.hid (by rw [← hW0]; exact ((Blk.new _ _ _).alloc _).alloc _)
  have HP : Hid (Blk W0 (w.heap.size + 1) 27 #[.int .i64 p.1, .int .i64 p.2]) := Lib.hid (by rw [← hW0]; exact (blk_al (by simp)).alloc _)
  have HR : Hid (Blk W0 (w.heap.size + 1 + 1) 25 #[.int .i64 0, .int .i64 0]) := Lib.hid (by rw [← hW0]; exact blk_al (by simp))
  have HB : Hid (Below w.heap.size w W0) := Lib.hid (by rw [← hW0]; exact (((Below.refl _ w).alloc (Nat.le_refl _) _).alloc (by simp <;> omega) _).alloc (by simp <;> omega) _)
  rw [hW0]
  clear hW0
  have p0 : W0.cell? ⟨w.heap.size, 0, none⟩ = some (.int .i64 c.half) := (HK.out.cell 0).trans rfl
  have p1 : W0.cell? ⟨w.heap.size, 1, none⟩ = some (.int .i64 c.gain) := (HK.out.cell 1).trans rfl
  have p2 : W0.cell? ⟨w.heap.size, 2, none⟩ = some (.int .i64 c.thin) := (HK.out.cell 2).trans rfl
  have p3 : W0.cell? ⟨w.heap.size, 3, none⟩ = some (.int .i64 c.wide) := (HK.out.cell 3).trans rfl
  have p4 : W0.cell? ⟨w.heap.size, 4, none⟩ = some (.int .i64 c.slope) := (HK.out.cell 4).trans rfl
  have p5 : W0.cell? ⟨w.heap.size, 5, none⟩ = some (.int .i64 c.jerk) := (HK.out.cell 5).trans rfl
  have p6 : W0.cell? ⟨w.heap.size, 6, none⟩ = some (.int .i64 c.stylus) := (HK.out.cell 6).trans rfl
  have q0 : W0.cell? ⟨w.heap.size + 1, 0, none⟩ = some (.int .i64 p.1) := (HP.out.cell 0).trans rfl
  have q1 : W0.cell? ⟨w.heap.size + 1, 1, none⟩ = some (.int .i64 p.2) := (HP.out.cell 1).trans rfl
  go_region_held3 (fun w' => w'.cell? ⟨w.heap.size, 0, none⟩ = some (.int .i64 c.half) ∧ w'.cell? ⟨w.heap.size, 1, none⟩ = some (.int .i64 c.gain) ∧ w'.cell? ⟨w.heap.size, 2, none⟩ = some (.int .i64 c.thin) ∧ w'.cell? ⟨w.heap.size, 3, none⟩ = some (.int .i64 c.wide) ∧ w'.cell? ⟨w.heap.size, 4, none⟩ = some (.int .i64 c.slope) ∧ w'.cell? ⟨w.heap.size, 5, none⟩ = some (.int .i64 c.jerk) ∧ w'.cell? ⟨w.heap.size, 6, none⟩ = some (.int .i64 c.stylus) ∧ w'.cell? ⟨w.heap.size + 1, 0, none⟩ = some (.int .i64 p.1) ∧ w'.cell? ⟨w.heap.size + 1, 1, none⟩ = some (.int .i64 p.2))
    ((refine ⟨?_, ?_, ?_, ?_, ?_, ?_, ?_, ?_, ?_⟩ <;> (repeat (with_reducible (first | refine cell_al _ ?_ | refine cell_dr ?_))) <;> (with_reducible assumption)))
    (first | (go_at_call 23; refine (CK.out _).mono ?_; rintro e wa ⟨rfl, hb1⟩; have HK := Lib.hid (by first | exact HK.out.below hb1 HK.out.lt | exact HK.out.drew.below hb1 HK.out.lt); have HP := Lib.hid (by first | exact HP.out.below hb1 HP.out.lt | exact HP.out.drew.below hb1 HP.out.lt); have HR := Lib.hid (by first | exact HR.out.below hb1 HR.out.lt | exact HR.out.drew.below hb1 HR.out.lt); have HB := Lib.hid (by first | exact HB.out.trans (hb1.mono HB.out.size) | exact HB.out.drew.trans (hb1.mono HB.out.size)); clear hb1; have p0 : wa.cell? ⟨w.heap.size, 0, none⟩ = some (.int .i64 c.half) := (HK.out.cell 0).trans rfl; have p1 : wa.cell? ⟨w.heap.size, 1, none⟩ = some (.int .i64 c.gain) := (HK.out.cell 1).trans rfl; have p2 : wa.cell? ⟨w.heap.size, 2, none⟩ = some (.int .i64 c.thin) := (HK.out.cell 2).trans rfl; have p3 : wa.cell? ⟨w.heap.size, 3, none⟩ = some (.int .i64 c.wide) := (HK.out.cell 3).trans rfl; have p4 : wa.cell? ⟨w.heap.size, 4, none⟩ = some (.int .i64 c.slope) := (HK.out.cell 4).trans rfl; have p5 : wa.cell? ⟨w.heap.size, 5, none⟩ = some (.int .i64 c.jerk) := (HK.out.cell 5).trans rfl; have p6 : wa.cell? ⟨w.heap.size, 6, none⟩ = some (.int .i64 c.stylus) := (HK.out.cell 6).trans rfl; have q0 : wa.cell? ⟨w.heap.size + 1, 0, none⟩ = some (.int .i64 p.1) := (HP.out.cell 0).trans rfl; have q1 : wa.cell? ⟨w.heap.size + 1, 1, none⟩ = some (.int .i64 p.2) := (HP.out.cell 1).trans rfl) | (go_at_call 47; refine (CE.out _).mono ?_; rintro e wb ⟨rfl, hb1⟩; have HK := Lib.hid (by first | exact HK.out.below hb1 HK.out.lt | exact HK.out.drew.below hb1 HK.out.lt); have HP := Lib.hid (by first | exact HP.out.below hb1 HP.out.lt | exact HP.out.drew.below hb1 HP.out.lt); have HR := Lib.hid (by first | exact HR.out.below hb1 HR.out.lt | exact HR.out.drew.below hb1 HR.out.lt); have HB := Lib.hid (by first | exact HB.out.trans (hb1.mono HB.out.size) | exact HB.out.drew.trans (hb1.mono HB.out.size)); clear hb1; have p0 : wb.cell? ⟨w.heap.size, 0, none⟩ = some (.int .i64 c.half) := (HK.out.cell 0).trans rfl; have p1 : wb.cell? ⟨w.heap.size, 1, none⟩ = some (.int .i64 c.gain) := (HK.out.cell 1).trans rfl; have p2 : wb.cell? ⟨w.heap.size, 2, none⟩ = some (.int .i64 c.thin) := (HK.out.cell 2).trans rfl; have p3 : wb.cell? ⟨w.heap.size, 3, none⟩ = some (.int .i64 c.wide) := (HK.out.cell 3).trans rfl; have p4 : wb.cell? ⟨w.heap.size, 4, none⟩ = some (.int .i64 c.slope) := (HK.out.cell 4).trans rfl; have p5 : wb.cell? ⟨w.heap.size, 5, none⟩ = some (.int .i64 c.jerk) := (HK.out.cell 5).trans rfl; have p6 : wb.cell? ⟨w.heap.size, 6, none⟩ = some (.int .i64 c.stylus) := (HK.out.cell 6).trans rfl; have q0 : wb.cell? ⟨w.heap.size + 1, 0, none⟩ = some (.int .i64 p.1) := (HP.out.cell 0).trans rfl; have q1 : wb.cell? ⟨w.heap.size + 1, 1, none⟩ = some (.int .i64 p.2) := (HP.out.cell 1).trans rfl) | (go_at_call 44; refine Calls.mono (HOR.out (wb.heap.size + 1) _ _ _ _ (by rfl) (reads_cells (blk_al (by rfl)) (by simp) (by rfl) (by rfl)) (by simp) (by simp)) ?_; rintro e w' ⟨rfl, rfl⟩))
  obtain ⟨W2, hW2⟩ : ∃ W2, wb.alloc (.cells #[.int .i64 e1, .int .i64 e2] 32) = W2 := ⟨_, rfl⟩
  have hb1 : Below wb.heap.size wb W2 := by rw [← hW2]; exact (Below.refl _ _).alloc (Nat.le_refl _) _
  rw [hW2]
  clear hW2
  have HK := Lib.hid (HK.out.below hb1 HK.out.lt)
  have HP := Lib.hid (HP.out.below hb1 HP.out.lt)
  have HR := Lib.hid (HR.out.below hb1 HR.out.lt)
  have HB := Lib.hid (HB.out.trans (hb1.mono HB.out.size))
  clear hb1
  have p0 : W2.cell? ⟨w.heap.size, 0, none⟩ = some (.int .i64 c.half) := (HK.out.cell 0).trans rfl
  have p1 : W2.cell? ⟨w.heap.size, 1, none⟩ = some (.int .i64 c.gain) := (HK.out.cell 1).trans rfl
  have p2 : W2.cell? ⟨w.heap.size, 2, none⟩ = some (.int .i64 c.thin) := (HK.out.cell 2).trans rfl
  have p3 : W2.cell? ⟨w.heap.size, 3, none⟩ = some (.int .i64 c.wide) := (HK.out.cell 3).trans rfl
  have p4 : W2.cell? ⟨w.heap.size, 4, none⟩ = some (.int .i64 c.slope) := (HK.out.cell 4).trans rfl
  have p5 : W2.cell? ⟨w.heap.size, 5, none⟩ = some (.int .i64 c.jerk) := (HK.out.cell 5).trans rfl
  have p6 : W2.cell? ⟨w.heap.size, 6, none⟩ = some (.int .i64 c.stylus) := (HK.out.cell 6).trans rfl
  have q0 : W2.cell? ⟨w.heap.size + 1, 0, none⟩ = some (.int .i64 p.1) := (HP.out.cell 0).trans rfl
  have q1 : W2.cell? ⟨w.heap.size + 1, 1, none⟩ = some (.int .i64 p.2) := (HP.out.cell 1).trans rfl
  by_cases hz : eo = 0
  · subst hz
    have hoz := orL_zero HO2.out
    have hC : CtOk c := ckC_ok (H1.out.trans (hoz _ (by simp)))
    have hE : EdOk p := edOk_of (by have := H2.out.trans (hoz _ (by simp)); unfold ckE at this; split at this <;> first | assumption | omega)
    have hh1 := hC.h1
    have hh2 := hC.h2
    obtain ⟨x1, x2, x3, x4⟩ := hE
    have f1 : IntKind.i64.wrap (p.2 - c.half) = p.2 - c.half := IntWalk.i64_in _ (by omega)
    have f2 : IntKind.i64.wrap (p.1 + c.half) = p.1 + c.half := IntWalk.i64_in _ (by omega)
    have C1 := Lib.hid (fun W => channel_any c (p.2 - c.half) W hC (by omega) (by omega))
    have C2 := Lib.hid (fun W => channel_any c (p.1 + c.half) W hC (by omega) (by omega))
    have hee : bkEr c p = if (chF c (p.2 - c.half) && chF c (p.1 + c.half)) = true then 0 else 5 := by unfold bkEr; rw [if_pos HO.out]
    have hvv : bkV c p = if bkEr c p = 0 then (chV c (p.2 - c.half), chV c (p.1 + c.half)) else (0, 0) := rfl
    rw [HV.out, HER.out] at hvv
    rw [HER.out] at hee
    obtain ⟨l, hl⟩ : ∃ x, chV c (p.2 - c.half) = x := ⟨_, rfl⟩
    obtain ⟨r, hr⟩ : ∃ x, chV c (p.1 + c.half) = x := ⟨_, rfl⟩
    obtain ⟨lf, hlf⟩ : ∃ x, chF c (p.2 - c.half) = x := ⟨_, rfl⟩
    obtain ⟨rf, hrf⟩ : ∃ x, chF c (p.1 + c.half) = x := ⟨_, rfl⟩
    rw [hl, hr] at hvv
    rw [hlf, hrf] at hee
    rw [hl, hlf] at C1
    rw [hr, hrf] at C2
    have HEE := Lib.hid hee
    have HVV := Lib.hid hvv
    clear hl hr hlf hrf hee hvv hC hh1 hh2 x1 x2 x3 x4 hoz
    go_wp2_with fail
    refine (C1.out _).mono ?_
    rintro e w3 ⟨rfl, hb1⟩
    have HK := Lib.hid (HK.out.below hb1 HK.out.lt)
    have HP := Lib.hid (HP.out.below hb1 HP.out.lt)
    have HR := Lib.hid (HR.out.below hb1 HR.out.lt)
    have HB := Lib.hid (HB.out.trans (hb1.mono HB.out.size))
    clear hb1 p0 p1 p2 p3 p4 p5 p6 q0 q1
    have p0 : w3.cell? ⟨w.heap.size, 0, none⟩ = some (.int .i64 c.half) := (HK.out.cell 0).trans rfl
    have p1 : w3.cell? ⟨w.heap.size, 1, none⟩ = some (.int .i64 c.gain) := (HK.out.cell 1).trans rfl
    have p2 : w3.cell? ⟨w.heap.size, 2, none⟩ = some (.int .i64 c.thin) := (HK.out.cell 2).trans rfl
    have p3 : w3.cell? ⟨w.heap.size, 3, none⟩ = some (.int .i64 c.wide) := (HK.out.cell 3).trans rfl
    have p4 : w3.cell? ⟨w.heap.size, 4, none⟩ = some (.int .i64 c.slope) := (HK.out.cell 4).trans rfl
    have p5 : w3.cell? ⟨w.heap.size, 5, none⟩ = some (.int .i64 c.jerk) := (HK.out.cell 5).trans rfl
    have p6 : w3.cell? ⟨w.heap.size, 6, none⟩ = some (.int .i64 c.stylus) := (HK.out.cell 6).trans rfl
    have q0 : w3.cell? ⟨w.heap.size + 1, 0, none⟩ = some (.int .i64 p.1) := (HP.out.cell 0).trans rfl
    have q1 : w3.cell? ⟨w.heap.size + 1, 1, none⟩ = some (.int .i64 p.2) := (HP.out.cell 1).trans rfl
    go_wp2_with fail
    refine (C2.out _).mono ?_
    rintro e w4 ⟨rfl, hb1⟩
    have HK := Lib.hid (HK.out.below hb1 HK.out.lt)
    have HP := Lib.hid (HP.out.below hb1 HP.out.lt)
    have HR := Lib.hid (HR.out.below hb1 HR.out.lt)
    have HB := Lib.hid (HB.out.trans (hb1.mono HB.out.size))
    clear hb1 p0 p1 p2 p3 p4 p5 p6 q0 q1
    clear f1 f2
    cases lf <;> cases rf
    rotate_left 3
    · obtain rfl : er = 0 := HEE.out
      obtain rfl : v = (l, r) := HVV.out
      have hr := HR.out
      obtain ⟨r0, r1, t0, t1, tl⟩ := hr.two
      go_wp2
      refine bodyPost_ret (v := .tuple #[.agg #[.int .i64 l, .int .i64 r], .int .i64 0]) ?_ rfl ⟨rfl, ?_⟩
      · have g1 := Blk.two (a := .int .i64 l) (b := .int .i64 0) (hr.set_ 0 (.int .i64 l))
        have g2 := Blk.two (a := .int .i64 l) (b := .int .i64 r) ((hr.set_ 0 (.int .i64 l)).set_ 1 (.int .i64 r))
        simp [results, Try.results21, go_sem, g1.1, g2.2.1]
      · exact (HB.out.setCell (by simp <;> omega) _).setCell (by simp <;> omega) _
    all_goals
      obtain rfl : er = 5 := HEE.out
      obtain rfl : v = (0, 0) := HVV.out
      have hr := HR.out
      obtain ⟨r0, r1, t0, t1, tl⟩ := hr.two
      go_wp2
      refine bodyPost_ret (v := .tuple #[.agg #[.int .i64 0, .int .i64 0], .int .i64 5]) ?_ rfl ⟨rfl, ?_⟩
      · have g1 := Blk.two (a := .int .i64 0) (b := .int .i64 0) (hr.set_ 0 (.int .i64 0))
        have g2 := Blk.two (a := .int .i64 0) (b := .int .i64 0) ((hr.set_ 0 (.int .i64 0)).set_ 1 (.int .i64 0))
        simp [results, Try.results21, go_sem, g1.1, g2.2.1]
      · exact (HB.out.setCell (by simp <;> omega) _).setCell (by simp <;> omega) _
  · have hee : bkEr c p = eo := by unfold bkEr; rw [HO.out, if_neg hz]
    have hvv : bkV c p = (0, 0) := by unfold bkV; rw [hee, if_neg hz]
    rw [HER.out] at hee
    rw [HV.out] at hvv
    subst hee hvv
    have hc1 : (er == 0) = false := by simpa using hz
    have hc2 : (er != 0) = true := by simpa using hz
    clear hz
    have hr := HR.out
    obtain ⟨r0, r1, t0, t1, tl⟩ := hr.two
    go_wp2
    refine bodyPost_ret (v := .tuple #[.agg #[.int .i64 0, .int .i64 0], .int .i64 er]) ?_ rfl ⟨rfl, ?_⟩
    · have g1 := Blk.two (a := .int .i64 0) (b := .int .i64 0) (hr.set_ 0 (.int .i64 0))
      have g2 := Blk.two (a := .int .i64 0) (b := .int .i64 0) ((hr.set_ 0 (.int .i64 0)).set_ 1 (.int .i64 0))
      simp [results, Try.results21, go_sem, g1.1, g2.2.1]
    · exact (HB.out.setCell (by simp <;> omega) _).setCell (by simp <;> omega) _
end Go.Proofs.Ytaiigdbbpdkamaa
