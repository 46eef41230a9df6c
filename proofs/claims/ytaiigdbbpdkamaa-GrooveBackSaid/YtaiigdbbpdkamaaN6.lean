/-
  The walk of GrooveBack.
-/
import Derived.Test.YtaiigdbbpdkamaaK8
import Derived.Test.YtaiigdbbpdkamaaK9
import Derived.Test.YtaiigdbbpdkamaaO5
import Derived.StillTailTactics
import Derived.Deep.DeepCutAuto
namespace Go.Proofs.Ytaiigdbbpdkamaa
open Go.RowKit

set_option maxHeartbeats 400000 in
theorem lawAmt_any (x : Int) (w : World) (h1 : -9223372036854775807 ≤ x) (h2 : x ≤ 9223372036854775807) :
    Calls Try.prog 39 #[.int .i64 x] w fun e w' => e = .returned (.int .i64 (am x)) ∧ w = w' := by
  go_enter Try.func39, Try.ntmps39
  go_wp2
  all_goals
    go_ret
    exact ⟨ret_i (by unfold am; omega), rfl⟩
theorem eq_pt (a b : Int) (w : World) : Sem.run Try.prog (Op.equalIn 10000 27 (.agg #[.int .i64 a, .int .i64 b]) (.agg #[.int .i64 a, .int .i64 b])) w = .ok true w := by
  simp [go_sem, Op.eqFields]
theorem eq_smp_ (a b : Int) (w : World) : Sem.run Try.prog (Op.equalIn 10000 25 (.agg #[.int .i64 a, .int .i64 b]) (.agg #[.int .i64 a, .int .i64 b])) w = .ok true w := by
  simp [go_sem, Op.eqFields]

set_option maxRecDepth 100000 in
set_option maxHeartbeats 8000000 in
theorem back_walk (c : Ctr) (s p : Smp) (b0 b1 : Int) (w : World) (hb0 : 0 ≤ b0) (hb0' : b0 ≤ 65535) (hbz : 0 ≤ b1) (hbz' : b1 ≤ 65535) :
    Calls Try.prog 8 #[.agg #[.int .i64 c.half, .int .i64 c.gain, .int .i64 c.thin, .int .i64 c.wide, .int .i64 c.slope, .int .i64 c.jerk, .int .i64 c.stylus], .agg #[.int .i64 s.1, .int .i64 s.2], .agg #[.int .i64 p.1, .int .i64 p.2], .agg #[.int .u16 b0, .int .u16 b1]] w fun e w' => e = .returned (.bool true) ∧ Below w.heap.size w w' := by
  have WK := Lib.hid (fun W => Works_any W)
  have CW := Lib.hid (fun W => Wall_any c s W)
  obtain ⟨er, her⟩ : ∃ e, cutEr c [s] = e := ⟨_, rfl⟩
  obtain ⟨q, hqq⟩ : ∃ q, wallV c s = q := ⟨_, rfl⟩
  rw [her, hqq] at CW
  have HER := Lib.hid her
  have HQQ := Lib.hid hqq
  clear her hqq
  go_enter Try.func8, Try.ntmps8
  go_wp2_with fail
  obtain ⟨W0, hW⟩ : ∃ W0, (((w.alloc (.cells #[.int .i64 c.half, .int .i64 c.gain, .int .i64 c.thin, .int .i64 c.wide, .int .i64 c.slope, .int .i64 c.jerk, .int .i64 c.stylus] 23)).alloc (.cells #[.int .i64 s.1, .int .i64 s.2] 25)).alloc (.cells #[.int .i64 p.1, .int .i64 p.2] 27)).alloc (.cells #[.int .u16 b0, .int .u16 b1] 58) = W0 := ⟨_, rfl⟩
  have HK : Hid (Blk W0 (w.heap.size) 23 #[.int .i64 c.half, .int .i64 c.gain, .int .i64 c.thin, .int .i64 c.wide, .int .i64 c.slope, .int .i64 c.jerk, .int .i64 c.stylus]) := Lib.hid (by rw [← hW]; exact (((Blk.new _ _ _).alloc _).alloc _).alloc _)
  have HS : Hid (Blk W0 (w.heap.size + 1) 25 #[.int .i64 s.1, .int .i64 s.2]) := Lib.hid (by rw [← hW]; exact ((blk_al (by simp)).alloc _).alloc _)
  have HP : Hid (Blk W0 (w.heap.size + 1 + 1) 27 #[.int .i64 p.1, .int .i64 p.2]) := Lib.hid (by rw [← hW]; exact (blk_al (by simp)).alloc _)
  have HL : Hid (Blk W0 (w.heap.size + 1 + 1 + 1) 58 #[.int .u16 b0, .int .u16 b1]) := Lib.hid (by rw [← hW]; exact blk_al (by simp))
  have HB : Hid (Below w.heap.size w W0) := Lib.hid (by rw [← hW]; exact ((((Below.refl _ w).alloc (Nat.le_refl _) _).alloc (by simp <;> omega) _).alloc (by simp <;> omega) _).alloc (by simp <;> omega) _)
  rw [hW]
  clear hW
  have hk_0 : W0.cell? ⟨w.heap.size, 0, none⟩ = some (.int .i64 c.half) := (HK.out.cell 0).trans rfl
  have hk_1 : W0.cell? ⟨w.heap.size, 1, none⟩ = some (.int .i64 c.gain) := (HK.out.cell 1).trans rfl
  have hk_2 : W0.cell? ⟨w.heap.size, 2, none⟩ = some (.int .i64 c.thin) := (HK.out.cell 2).trans rfl
  have hk_3 : W0.cell? ⟨w.heap.size, 3, none⟩ = some (.int .i64 c.wide) := (HK.out.cell 3).trans rfl
  have hk_4 : W0.cell? ⟨w.heap.size, 4, none⟩ = some (.int .i64 c.slope) := (HK.out.cell 4).trans rfl
  have hk_5 : W0.cell? ⟨w.heap.size, 5, none⟩ = some (.int .i64 c.jerk) := (HK.out.cell 5).trans rfl
  have hk_6 : W0.cell? ⟨w.heap.size, 6, none⟩ = some (.int .i64 c.stylus) := (HK.out.cell 6).trans rfl
  have hs_0 : W0.cell? ⟨w.heap.size + 1, 0, none⟩ = some (.int .i64 s.1) := (HS.out.cell 0).trans rfl
  have hs_1 : W0.cell? ⟨w.heap.size + 1, 1, none⟩ = some (.int .i64 s.2) := (HS.out.cell 1).trans rfl
  go_wp2_with fail
  refine (CW.out _).mono ?_
  rintro e w1 ⟨rfl, hb1⟩
  replace HK := Lib.hid (HK.out.below hb1 HK.out.lt)
  replace HS := Lib.hid (HS.out.below hb1 HS.out.lt)
  replace HP := Lib.hid (HP.out.below hb1 HP.out.lt)
  replace HL := Lib.hid (HL.out.below hb1 HL.out.lt)
  replace HB := Lib.hid (HB.out.trans (hb1.mono HB.out.size))
  clear hb1
  clear hk_0 hk_1 hk_2 hk_3 hk_4 hk_5 hk_6 hs_0 hs_1
  have zw1 := HL.out.lt
  have zw1a : w.heap.size < w1.heap.size := by omega
  have zw1b : w.heap.size + 1 < w1.heap.size := by omega
  have zw1c : w.heap.size + 1 + 1 < w1.heap.size := by omega
  go_upto_if 23 with fail
  obtain ⟨W1, hW⟩ : ∃ W1, w1.alloc (.cells #[.int .i64 q.1, .int .i64 q.2] 27) = W1 := ⟨_, rfl⟩
  obtain ⟨gq, hgq⟩ : ∃ g, w1.heap.size = g := ⟨_, rfl⟩
  replace HK : Hid (Blk W1 (w.heap.size) 23 #[.int .i64 c.half, .int .i64 c.gain, .int .i64 c.thin, .int .i64 c.wide, .int .i64 c.slope, .int .i64 c.jerk, .int .i64 c.stylus]) := Lib.hid (by rw [← hW]; exact HK.out.alloc _)
  replace HS : Hid (Blk W1 (w.heap.size + 1) 25 #[.int .i64 s.1, .int .i64 s.2]) := Lib.hid (by rw [← hW]; exact HS.out.alloc _)
  replace HP : Hid (Blk W1 (w.heap.size + 1 + 1) 27 #[.int .i64 p.1, .int .i64 p.2]) := Lib.hid (by rw [← hW]; exact HP.out.alloc _)
  replace HL : Hid (Blk W1 (w.heap.size + 1 + 1 + 1) 58 #[.int .u16 b0, .int .u16 b1]) := Lib.hid (by rw [← hW]; exact HL.out.alloc _)
  have HQ : Hid (Blk W1 (gq) 27 #[.int .i64 q.1, .int .i64 q.2]) := Lib.hid (by rw [← hW]; exact blk_al hgq)
  replace HB : Hid (Below w.heap.size w W1) := Lib.hid (by rw [← hW]; exact HB.out.alloc HB.out.size _)
  rw [hW, hgq]
  rw [hgq] at zw1
  clear hW hgq zw1a zw1b zw1c
  go_cut [12] (fun s12 wx => Hid (Blk wx (w.heap.size) 23 #[.int .i64 c.half, .int .i64 c.gain, .int .i64 c.thin, .int .i64 c.wide, .int .i64 c.slope, .int .i64 c.jerk, .int .i64 c.stylus]) ∧ Hid (Blk wx (w.heap.size + 1 + 1) 27 #[.int .i64 p.1, .int .i64 p.2]) ∧ Hid (Blk wx (w.heap.size + 1 + 1 + 1) 58 #[.int .u16 b0, .int .u16 b1]) ∧ Hid (Blk wx (gq) 27 #[.int .i64 q.1, .int .i64 q.2]) ∧ Hid (Below w.heap.size w wx))
  case first =>
    by_cases hz : er = 0
    · subst hz
      obtain ⟨f0, f1, f2, f3, f4, f5⟩ := back_of_wall HER.out
      have CB := Lib.hid (fun W => Back_any c (wallV c s) W)
      have CA := Lib.hid (fun W => Wall_any c (bkV c (wallV c s)) W)
      have hs1 := (cut_one.1 HER.out).2
      obtain ⟨s1, s2, s3, s4⟩ := hs1
      rw [f0] at CB
      rw [f4, f5] at CA
      rw [HQQ.out] at CB CA f0 f1 f2 f3
      obtain ⟨t, ht⟩ : ∃ t, bkV c q = t := ⟨_, rfl⟩
      rw [ht] at CB CA f1 f2 f3
      have F3 := Lib.hid f3
      clear f0 f4 f5 ht f3
      have hk_0 : W1.cell? ⟨w.heap.size, 0, none⟩ = some (.int .i64 c.half) := (HK.out.cell 0).trans rfl
      have hk_1 : W1.cell? ⟨w.heap.size, 1, none⟩ = some (.int .i64 c.gain) := (HK.out.cell 1).trans rfl
      have hk_2 : W1.cell? ⟨w.heap.size, 2, none⟩ = some (.int .i64 c.thin) := (HK.out.cell 2).trans rfl
      have hk_3 : W1.cell? ⟨w.heap.size, 3, none⟩ = some (.int .i64 c.wide) := (HK.out.cell 3).trans rfl
      have hk_4 : W1.cell? ⟨w.heap.size, 4, none⟩ = some (.int .i64 c.slope) := (HK.out.cell 4).trans rfl
      have hk_5 : W1.cell? ⟨w.heap.size, 5, none⟩ = some (.int .i64 c.jerk) := (HK.out.cell 5).trans rfl
      have hk_6 : W1.cell? ⟨w.heap.size, 6, none⟩ = some (.int .i64 c.stylus) := (HK.out.cell 6).trans rfl
      have hq_0 : W1.cell? ⟨gq, 0, none⟩ = some (.int .i64 q.1) := (HQ.out.cell 0).trans rfl
      have hq_1 : W1.cell? ⟨gq, 1, none⟩ = some (.int .i64 q.2) := (HQ.out.cell 1).trans rfl
      go_wp2_with fail
      refine (CB.out _).mono ?_
      rintro e w2 ⟨rfl, hb1⟩
      replace HK := Lib.hid (HK.out.below hb1 HK.out.lt)
      replace HS := Lib.hid (HS.out.below hb1 HS.out.lt)
      replace HP := Lib.hid (HP.out.below hb1 HP.out.lt)
      replace HL := Lib.hid (HL.out.below hb1 HL.out.lt)
      replace HQ := Lib.hid (HQ.out.below hb1 HQ.out.lt)
      replace HB := Lib.hid (HB.out.trans (hb1.mono HB.out.size))
      clear hb1
      clear hk_0 hk_1 hk_2 hk_3 hk_4 hk_5 hk_6 hq_0 hq_1
      have zw2 := HL.out.lt
      have zw2a : w.heap.size < w2.heap.size := by omega
      have zw2b : w.heap.size + 1 < w2.heap.size := by omega
      have zw2c : w.heap.size + 1 + 1 < w2.heap.size := by omega
      go_wp2_with fail
      obtain ⟨W2, hW⟩ : ∃ W2, w2.alloc (.cells #[.int .i64 t.1, .int .i64 t.2] 25) = W2 := ⟨_, rfl⟩
      obtain ⟨gt, hgt⟩ : ∃ g, w2.heap.size = g := ⟨_, rfl⟩
      replace HK : Hid (Blk W2 (w.heap.size) 23 #[.int .i64 c.half, .int .i64 c.gain, .int .i64 c.thin, .int .i64 c.wide, .int .i64 c.slope, .int .i64 c.jerk, .int .i64 c.stylus]) := Lib.hid (by rw [← hW]; exact HK.out.alloc _)
      replace HS : Hid (Blk W2 (w.heap.size + 1) 25 #[.int .i64 s.1, .int .i64 s.2]) := Lib.hid (by rw [← hW]; exact HS.out.alloc _)
      replace HP : Hid (Blk W2 (w.heap.size + 1 + 1) 27 #[.int .i64 p.1, .int .i64 p.2]) := Lib.hid (by rw [← hW]; exact HP.out.alloc _)
      replace HL : Hid (Blk W2 (w.heap.size + 1 + 1 + 1) 58 #[.int .u16 b0, .int .u16 b1]) := Lib.hid (by rw [← hW]; exact HL.out.alloc _)
      replace HQ : Hid (Blk W2 (gq) 27 #[.int .i64 q.1, .int .i64 q.2]) := Lib.hid (by rw [← hW]; exact HQ.out.alloc _)
      have HT : Hid (Blk W2 (gt) 25 #[.int .i64 t.1, .int .i64 t.2]) := Lib.hid (by rw [← hW]; exact blk_al hgt)
      replace HB : Hid (Below w.heap.size w W2) := Lib.hid (by rw [← hW]; exact HB.out.alloc HB.out.size _)
      rw [hW, hgt]
      rw [hgt] at zw2
      clear hW hgt zw2a zw2b zw2c
      have A1 := Lib.hid (fun W : World => lawAmt_any s.1 W (by omega) (by omega))
      have A2 := Lib.hid (fun W : World => lawAmt_any s.2 W (by omega) (by omega))
      have A3 := Lib.hid (fun W : World => lawAmt_any t.1 W (by unfold am at f1; omega) (by unfold am at f1; omega))
      have A4 := Lib.hid (fun W : World => lawAmt_any t.2 W (by unfold am at f2; omega) (by unfold am at f2; omega))
      have eqq := fun W : World => eq_pt q.1 q.2 W
      obtain ⟨x1, hx1⟩ : ∃ x, am s.1 = x := ⟨_, rfl⟩
      obtain ⟨x2, hx2⟩ : ∃ x, am s.2 = x := ⟨_, rfl⟩
      obtain ⟨x3, hx3⟩ : ∃ x, am t.1 = x := ⟨_, rfl⟩
      obtain ⟨x4, hx4⟩ : ∃ x, am t.2 = x := ⟨_, rfl⟩
      rw [hx3] at A3 f1
      rw [hx4] at A4 f2
      rw [hx1] at A1 f1
      rw [hx2] at A2 f2
      clear hx1 hx2 hx3 hx4
      have g1 : decide (x1 < x3) = false := decide_eq_false (by omega)
      have g2 : decide (x2 < x4) = false := decide_eq_false (by omega)
      by_cases hg : 1000 ≤ c.gain
      · have eqs : ∀ W : World, Sem.run Try.prog (Op.equalIn 10000 25 (.agg #[.int .i64 t.1, .int .i64 t.2]) (.agg #[.int .i64 s.1, .int .i64 s.2])) W = .ok true W := fun W => by rw [F3.out hg]; exact eq_smp_ s.1 s.2 W
        have g3 : decide (1000 ≤ c.gain) = true := decide_eq_true hg
        have hk_0 := Lat.cell (w := W2) (p := ⟨w.heap.size, 0, none⟩) (v := .int .i64 c.half) ((HK.out.cell 0).trans rfl)
        have hk_1 := Lat.cell (w := W2) (p := ⟨w.heap.size, 1, none⟩) (v := .int .i64 c.gain) ((HK.out.cell 1).trans rfl)
        have hk_2 := Lat.cell (w := W2) (p := ⟨w.heap.size, 2, none⟩) (v := .int .i64 c.thin) ((HK.out.cell 2).trans rfl)
        have hk_3 := Lat.cell (w := W2) (p := ⟨w.heap.size, 3, none⟩) (v := .int .i64 c.wide) ((HK.out.cell 3).trans rfl)
        have hk_4 := Lat.cell (w := W2) (p := ⟨w.heap.size, 4, none⟩) (v := .int .i64 c.slope) ((HK.out.cell 4).trans rfl)
        have hk_5 := Lat.cell (w := W2) (p := ⟨w.heap.size, 5, none⟩) (v := .int .i64 c.jerk) ((HK.out.cell 5).trans rfl)
        have hk_6 := Lat.cell (w := W2) (p := ⟨w.heap.size, 6, none⟩) (v := .int .i64 c.stylus) ((HK.out.cell 6).trans rfl)
        have hs_0 := Lat.cell (w := W2) (p := ⟨w.heap.size + 1, 0, none⟩) (v := .int .i64 s.1) ((HS.out.cell 0).trans rfl)
        have hs_1 := Lat.cell (w := W2) (p := ⟨w.heap.size + 1, 1, none⟩) (v := .int .i64 s.2) ((HS.out.cell 1).trans rfl)
        have ht_0 := Lat.cell (w := W2) (p := ⟨gt, 0, none⟩) (v := .int .i64 t.1) ((HT.out.cell 0).trans rfl)
        have ht_1 := Lat.cell (w := W2) (p := ⟨gt, 1, none⟩) (v := .int .i64 t.2) ((HT.out.cell 1).trans rfl)
        try dsimp only [List.append]
        refine wp_region_lat (by kernel_rfl) (by kernel_rfl) ?_
        repeat (go_big_quiet_step ((first | (with_reducible exact Calls.lat_ (A1.out _)) | (with_reducible exact Calls.lat_ (A2.out _)) | (with_reducible exact Calls.lat_ (A3.out _)) | (with_reducible exact Calls.lat_ (A4.out _)))))
        refine wpQuiet_nil ?_
        intro w3 hw'
        have hb1 := lat_out hw'
        clear hw'
        clear hk_0 hk_1 hk_2 hk_3 hk_4 hk_5 hk_6 hs_0 hs_1 ht_0 ht_1
        replace HK := Lib.hid (HK.out.below hb1 HK.out.lt)
        replace HS := Lib.hid (HS.out.below hb1 HS.out.lt)
        replace HP := Lib.hid (HP.out.below hb1 HP.out.lt)
        replace HL := Lib.hid (HL.out.below hb1 HL.out.lt)
        replace HQ := Lib.hid (HQ.out.below hb1 HQ.out.lt)
        replace HT := Lib.hid (HT.out.below hb1 HT.out.lt)
        replace HB := Lib.hid (HB.out.trans (hb1.mono HB.out.size))
        clear hb1
        have hk_0 : w3.cell? ⟨w.heap.size, 0, none⟩ = some (.int .i64 c.half) := (HK.out.cell 0).trans rfl
        have hk_1 : w3.cell? ⟨w.heap.size, 1, none⟩ = some (.int .i64 c.gain) := (HK.out.cell 1).trans rfl
        have hk_2 : w3.cell? ⟨w.heap.size, 2, none⟩ = some (.int .i64 c.thin) := (HK.out.cell 2).trans rfl
        have hk_3 : w3.cell? ⟨w.heap.size, 3, none⟩ = some (.int .i64 c.wide) := (HK.out.cell 3).trans rfl
        have hk_4 : w3.cell? ⟨w.heap.size, 4, none⟩ = some (.int .i64 c.slope) := (HK.out.cell 4).trans rfl
        have hk_5 : w3.cell? ⟨w.heap.size, 5, none⟩ = some (.int .i64 c.jerk) := (HK.out.cell 5).trans rfl
        have hk_6 : w3.cell? ⟨w.heap.size, 6, none⟩ = some (.int .i64 c.stylus) := (HK.out.cell 6).trans rfl
        have ht_0 : w3.cell? ⟨gt, 0, none⟩ = some (.int .i64 t.1) := (HT.out.cell 0).trans rfl
        have ht_1 : w3.cell? ⟨gt, 1, none⟩ = some (.int .i64 t.2) := (HT.out.cell 1).trans rfl
        go_wp2_with fail
        refine (CA.out _).mono ?_
        rintro e w4 ⟨rfl, hb1⟩
        replace HK := Lib.hid (HK.out.below hb1 HK.out.lt)
        replace HS := Lib.hid (HS.out.below hb1 HS.out.lt)
        replace HP := Lib.hid (HP.out.below hb1 HP.out.lt)
        replace HL := Lib.hid (HL.out.below hb1 HL.out.lt)
        replace HQ := Lib.hid (HQ.out.below hb1 HQ.out.lt)
        replace HT := Lib.hid (HT.out.below hb1 HT.out.lt)
        replace HB := Lib.hid (HB.out.trans (hb1.mono HB.out.size))
        clear hb1
        clear hk_0 hk_1 hk_2 hk_3 hk_4 hk_5 hk_6 ht_0 ht_1
        have zw4 := HL.out.lt
        have zw4a : w.heap.size < w4.heap.size := by omega
        have zw4b : w.heap.size + 1 < w4.heap.size := by omega
        have zw4c : w.heap.size + 1 + 1 < w4.heap.size := by omega
        have zq := HQ.out.lt
        have hq_0 : w4.cell? ⟨gq, 0, none⟩ = some (.int .i64 q.1) := (HQ.out.cell 0).trans rfl
        have hq_1 : w4.cell? ⟨gq, 1, none⟩ = some (.int .i64 q.2) := (HQ.out.cell 1).trans rfl
        go_wp2_with fail
        obtain ⟨W4, hW⟩ : ∃ W4, w4.alloc (.cells #[.int .i64 q.1, .int .i64 q.2] 27) = W4 := ⟨_, rfl⟩
        obtain ⟨ga, hga⟩ : ∃ g, w4.heap.size = g := ⟨_, rfl⟩
        replace HK : Hid (Blk W4 (w.heap.size) 23 #[.int .i64 c.half, .int .i64 c.gain, .int .i64 c.thin, .int .i64 c.wide, .int .i64 c.slope, .int .i64 c.jerk, .int .i64 c.stylus]) := Lib.hid (by rw [← hW]; exact HK.out.alloc _)
        replace HS : Hid (Blk W4 (w.heap.size + 1) 25 #[.int .i64 s.1, .int .i64 s.2]) := Lib.hid (by rw [← hW]; exact HS.out.alloc _)
        replace HP : Hid (Blk W4 (w.heap.size + 1 + 1) 27 #[.int .i64 p.1, .int .i64 p.2]) := Lib.hid (by rw [← hW]; exact HP.out.alloc _)
        replace HL : Hid (Blk W4 (w.heap.size + 1 + 1 + 1) 58 #[.int .u16 b0, .int .u16 b1]) := Lib.hid (by rw [← hW]; exact HL.out.alloc _)
        replace HQ : Hid (Blk W4 (gq) 27 #[.int .i64 q.1, .int .i64 q.2]) := Lib.hid (by rw [← hW]; exact HQ.out.alloc _)
        replace HT : Hid (Blk W4 (gt) 25 #[.int .i64 t.1, .int .i64 t.2]) := Lib.hid (by rw [← hW]; exact HT.out.alloc _)
        have HA : Hid (Blk W4 (ga) 27 #[.int .i64 q.1, .int .i64 q.2]) := Lib.hid (by rw [← hW]; exact blk_al hga)
        replace HB : Hid (Below w.heap.size w W4) := Lib.hid (by rw [← hW]; exact HB.out.alloc HB.out.size _)
        rw [hW, hga]
        rw [hga] at zw4
        clear hW hga zw4a zw4b zw4c
        go_meet
        exact ⟨HK, HP, HL, HQ, HB⟩
      · have g3 : decide (1000 ≤ c.gain) = false := decide_eq_false hg
        have hk_0 := Lat.cell (w := W2) (p := ⟨w.heap.size, 0, none⟩) (v := .int .i64 c.half) ((HK.out.cell 0).trans rfl)
        have hk_1 := Lat.cell (w := W2) (p := ⟨w.heap.size, 1, none⟩) (v := .int .i64 c.gain) ((HK.out.cell 1).trans rfl)
        have hk_2 := Lat.cell (w := W2) (p := ⟨w.heap.size, 2, none⟩) (v := .int .i64 c.thin) ((HK.out.cell 2).trans rfl)
        have hk_3 := Lat.cell (w := W2) (p := ⟨w.heap.size, 3, none⟩) (v := .int .i64 c.wide) ((HK.out.cell 3).trans rfl)
        have hk_4 := Lat.cell (w := W2) (p := ⟨w.heap.size, 4, none⟩) (v := .int .i64 c.slope) ((HK.out.cell 4).trans rfl)
        have hk_5 := Lat.cell (w := W2) (p := ⟨w.heap.size, 5, none⟩) (v := .int .i64 c.jerk) ((HK.out.cell 5).trans rfl)
        have hk_6 := Lat.cell (w := W2) (p := ⟨w.heap.size, 6, none⟩) (v := .int .i64 c.stylus) ((HK.out.cell 6).trans rfl)
        have hs_0 := Lat.cell (w := W2) (p := ⟨w.heap.size + 1, 0, none⟩) (v := .int .i64 s.1) ((HS.out.cell 0).trans rfl)
        have hs_1 := Lat.cell (w := W2) (p := ⟨w.heap.size + 1, 1, none⟩) (v := .int .i64 s.2) ((HS.out.cell 1).trans rfl)
        have ht_0 := Lat.cell (w := W2) (p := ⟨gt, 0, none⟩) (v := .int .i64 t.1) ((HT.out.cell 0).trans rfl)
        have ht_1 := Lat.cell (w := W2) (p := ⟨gt, 1, none⟩) (v := .int .i64 t.2) ((HT.out.cell 1).trans rfl)
        try dsimp only [List.append]
        refine wp_region_lat (by kernel_rfl) (by kernel_rfl) ?_
        repeat (go_big_quiet_step ((first | (with_reducible exact Calls.lat_ (A1.out _)) | (with_reducible exact Calls.lat_ (A2.out _)) | (with_reducible exact Calls.lat_ (A3.out _)) | (with_reducible exact Calls.lat_ (A4.out _)))))
        refine wpQuiet_nil ?_
        intro w3 hw'
        have hb1 := lat_out hw'
        clear hw'
        clear hk_0 hk_1 hk_2 hk_3 hk_4 hk_5 hk_6 hs_0 hs_1 ht_0 ht_1
        replace HK := Lib.hid (HK.out.below hb1 HK.out.lt)
        replace HS := Lib.hid (HS.out.below hb1 HS.out.lt)
        replace HP := Lib.hid (HP.out.below hb1 HP.out.lt)
        replace HL := Lib.hid (HL.out.below hb1 HL.out.lt)
        replace HQ := Lib.hid (HQ.out.below hb1 HQ.out.lt)
        replace HT := Lib.hid (HT.out.below hb1 HT.out.lt)
        replace HB := Lib.hid (HB.out.trans (hb1.mono HB.out.size))
        clear hb1
        have hk_0 : w3.cell? ⟨w.heap.size, 0, none⟩ = some (.int .i64 c.half) := (HK.out.cell 0).trans rfl
        have hk_1 : w3.cell? ⟨w.heap.size, 1, none⟩ = some (.int .i64 c.gain) := (HK.out.cell 1).trans rfl
        have hk_2 : w3.cell? ⟨w.heap.size, 2, none⟩ = some (.int .i64 c.thin) := (HK.out.cell 2).trans rfl
        have hk_3 : w3.cell? ⟨w.heap.size, 3, none⟩ = some (.int .i64 c.wide) := (HK.out.cell 3).trans rfl
        have hk_4 : w3.cell? ⟨w.heap.size, 4, none⟩ = some (.int .i64 c.slope) := (HK.out.cell 4).trans rfl
        have hk_5 : w3.cell? ⟨w.heap.size, 5, none⟩ = some (.int .i64 c.jerk) := (HK.out.cell 5).trans rfl
        have hk_6 : w3.cell? ⟨w.heap.size, 6, none⟩ = some (.int .i64 c.stylus) := (HK.out.cell 6).trans rfl
        have ht_0 : w3.cell? ⟨gt, 0, none⟩ = some (.int .i64 t.1) := (HT.out.cell 0).trans rfl
        have ht_1 : w3.cell? ⟨gt, 1, none⟩ = some (.int .i64 t.2) := (HT.out.cell 1).trans rfl
        go_wp2_with fail
        refine (CA.out _).mono ?_
        rintro e w4 ⟨rfl, hb1⟩
        replace HK := Lib.hid (HK.out.below hb1 HK.out.lt)
        replace HS := Lib.hid (HS.out.below hb1 HS.out.lt)
        replace HP := Lib.hid (HP.out.below hb1 HP.out.lt)
        replace HL := Lib.hid (HL.out.below hb1 HL.out.lt)
        replace HQ := Lib.hid (HQ.out.below hb1 HQ.out.lt)
        replace HT := Lib.hid (HT.out.below hb1 HT.out.lt)
        replace HB := Lib.hid (HB.out.trans (hb1.mono HB.out.size))
        clear hb1
        clear hk_0 hk_1 hk_2 hk_3 hk_4 hk_5 hk_6 ht_0 ht_1
        have zw4 := HL.out.lt
        have zw4a : w.heap.size < w4.heap.size := by omega
        have zw4b : w.heap.size + 1 < w4.heap.size := by omega
        have zw4c : w.heap.size + 1 + 1 < w4.heap.size := by omega
        have zq := HQ.out.lt
        have hq_0 : w4.cell? ⟨gq, 0, none⟩ = some (.int .i64 q.1) := (HQ.out.cell 0).trans rfl
        have hq_1 : w4.cell? ⟨gq, 1, none⟩ = some (.int .i64 q.2) := (HQ.out.cell 1).trans rfl
        go_wp2_with fail
        obtain ⟨W4, hW⟩ : ∃ W4, w4.alloc (.cells #[.int .i64 q.1, .int .i64 q.2] 27) = W4 := ⟨_, rfl⟩
        obtain ⟨ga, hga⟩ : ∃ g, w4.heap.size = g := ⟨_, rfl⟩
        replace HK : Hid (Blk W4 (w.heap.size) 23 #[.int .i64 c.half, .int .i64 c.gain, .int .i64 c.thin, .int .i64 c.wide, .int .i64 c.slope, .int .i64 c.jerk, .int .i64 c.stylus]) := Lib.hid (by rw [← hW]; exact HK.out.alloc _)
        replace HS : Hid (Blk W4 (w.heap.size + 1) 25 #[.int .i64 s.1, .int .i64 s.2]) := Lib.hid (by rw [← hW]; exact HS.out.alloc _)
        replace HP : Hid (Blk W4 (w.heap.size + 1 + 1) 27 #[.int .i64 p.1, .int .i64 p.2]) := Lib.hid (by rw [← hW]; exact HP.out.alloc _)
        replace HL : Hid (Blk W4 (w.heap.size + 1 + 1 + 1) 58 #[.int .u16 b0, .int .u16 b1]) := Lib.hid (by rw [← hW]; exact HL.out.alloc _)
        replace HQ : Hid (Blk W4 (gq) 27 #[.int .i64 q.1, .int .i64 q.2]) := Lib.hid (by rw [← hW]; exact HQ.out.alloc _)
        replace HT : Hid (Blk W4 (gt) 25 #[.int .i64 t.1, .int .i64 t.2]) := Lib.hid (by rw [← hW]; exact HT.out.alloc _)
        have HA : Hid (Blk W4 (ga) 27 #[.int .i64 q.1, .int .i64 q.2]) := Lib.hid (by rw [← hW]; exact blk_al hga)
        replace HB : Hid (Below w.heap.size w W4) := Lib.hid (by rw [← hW]; exact HB.out.alloc HB.out.size _)
        rw [hW, hga]
        rw [hga] at zw4
        clear hW hga zw4a zw4b zw4c
        go_meet
        exact ⟨HK, HP, HL, HQ, HB⟩
    · have d1 : (er == 0) = false := by simpa using hz
      have d2 : (er != 0) = true := by simpa using hz
      clear hz
      go_wp2_with fail
      go_meet
      exact ⟨HK, HP, HL, HQ, HB⟩
  case rest =>
    obtain ⟨hk, hp, hl, hq, hbb⟩ := hcut
    clear HK HP HL HQ HB HS
    have HK := hk
    have HP := hp
    have HL := hl
    have HQ := hq
    have HB := hbb
    clear hk hp hl hq hbb
    have hk_0 : wc.cell? ⟨w.heap.size, 0, none⟩ = some (.int .i64 c.half) := (HK.out.cell 0).trans rfl
    have hk_1 : wc.cell? ⟨w.heap.size, 1, none⟩ = some (.int .i64 c.gain) := (HK.out.cell 1).trans rfl
    have hk_2 : wc.cell? ⟨w.heap.size, 2, none⟩ = some (.int .i64 c.thin) := (HK.out.cell 2).trans rfl
    have hk_3 : wc.cell? ⟨w.heap.size, 3, none⟩ = some (.int .i64 c.wide) := (HK.out.cell 3).trans rfl
    have hk_4 : wc.cell? ⟨w.heap.size, 4, none⟩ = some (.int .i64 c.slope) := (HK.out.cell 4).trans rfl
    have hk_5 : wc.cell? ⟨w.heap.size, 5, none⟩ = some (.int .i64 c.jerk) := (HK.out.cell 5).trans rfl
    have hk_6 : wc.cell? ⟨w.heap.size, 6, none⟩ = some (.int .i64 c.stylus) := (HK.out.cell 6).trans rfl
    have hp_0 : wc.cell? ⟨w.heap.size + 1 + 1, 0, none⟩ = some (.int .i64 p.1) := (HP.out.cell 0).trans rfl
    have hp_1 : wc.cell? ⟨w.heap.size + 1 + 1, 1, none⟩ = some (.int .i64 p.2) := (HP.out.cell 1).trans rfl
    by_cases hz : bkEr c p = 0
    · obtain ⟨l1, l2, l3, l4, l5, l6⟩ := wall_of_back hz
      have CP := Lib.hid (fun W => Back_any c p W)
      have CV := Lib.hid (fun W => Wall_any c (bkV c p) W)
      obtain ⟨y1, y2, y3⟩ := lesser_back hz hb0 hbz
      have CU := Lib.hid (fun W => Wall_any c (les (bkV c p).1 b0, les (bkV c p).2 b1) W)
      rw [hz] at CP
      rw [l1, l2] at CV
      rw [y1] at CU
      obtain ⟨v, hv⟩ : ∃ v, bkV c p = v := ⟨_, rfl⟩
      rw [hv] at CP CV CU y2 y3 l3 l4 l5 l6
      obtain ⟨z, hzz⟩ : ∃ z, wallV c (les v.1 b0, les v.2 b1) = z := ⟨_, rfl⟩
      rw [hzz] at CU y2 y3
      have Y2 := Lib.hid y2
      have Y3 := Lib.hid y3
      clear hz l1 l2 y1 y2 y3 hv hzz
      have eqp := fun W : World => eq_pt p.1 p.2 W
      go_wp2_with fail
      refine (CP.out _).mono ?_
      rintro e v1 ⟨rfl, hb1⟩
      replace HK := Lib.hid (HK.out.below hb1 HK.out.lt)
      replace HP := Lib.hid (HP.out.below hb1 HP.out.lt)
      replace HL := Lib.hid (HL.out.below hb1 HL.out.lt)
      replace HQ := Lib.hid (HQ.out.below hb1 HQ.out.lt)
      replace HB := Lib.hid (HB.out.trans (hb1.mono HB.out.size))
      clear hb1
      clear hk_0 hk_1 hk_2 hk_3 hk_4 hk_5 hk_6 hp_0 hp_1
      have zv1 := HL.out.lt
      have zv1a : w.heap.size < v1.heap.size := by omega
      have zv1b : w.heap.size + 1 < v1.heap.size := by omega
      have zv1c : w.heap.size + 1 + 1 < v1.heap.size := by omega
      have hk_0 : v1.cell? ⟨w.heap.size, 0, none⟩ = some (.int .i64 c.half) := (HK.out.cell 0).trans rfl
      have hk_1 : v1.cell? ⟨w.heap.size, 1, none⟩ = some (.int .i64 c.gain) := (HK.out.cell 1).trans rfl
      have hk_2 : v1.cell? ⟨w.heap.size, 2, none⟩ = some (.int .i64 c.thin) := (HK.out.cell 2).trans rfl
      have hk_3 : v1.cell? ⟨w.heap.size, 3, none⟩ = some (.int .i64 c.wide) := (HK.out.cell 3).trans rfl
      have hk_4 : v1.cell? ⟨w.heap.size, 4, none⟩ = some (.int .i64 c.slope) := (HK.out.cell 4).trans rfl
      have hk_5 : v1.cell? ⟨w.heap.size, 5, none⟩ = some (.int .i64 c.jerk) := (HK.out.cell 5).trans rfl
      have hk_6 : v1.cell? ⟨w.heap.size, 6, none⟩ = some (.int .i64 c.stylus) := (HK.out.cell 6).trans rfl
      have zq : gq < v1.heap.size := HQ.out.lt
      go_wp2_with fail
      obtain ⟨V1, hW⟩ : ∃ V1, v1.alloc (.cells #[.int .i64 v.1, .int .i64 v.2] 25) = V1 := ⟨_, rfl⟩
      obtain ⟨gv, hgv⟩ : ∃ g, v1.heap.size = g := ⟨_, rfl⟩
      replace HK : Hid (Blk V1 (w.heap.size) 23 #[.int .i64 c.half, .int .i64 c.gain, .int .i64 c.thin, .int .i64 c.wide, .int .i64 c.slope, .int .i64 c.jerk, .int .i64 c.stylus]) := Lib.hid (by rw [← hW]; exact HK.out.alloc _)
      replace HP : Hid (Blk V1 (w.heap.size + 1 + 1) 27 #[.int .i64 p.1, .int .i64 p.2]) := Lib.hid (by rw [← hW]; exact HP.out.alloc _)
      replace HL : Hid (Blk V1 (w.heap.size + 1 + 1 + 1) 58 #[.int .u16 b0, .int .u16 b1]) := Lib.hid (by rw [← hW]; exact HL.out.alloc _)
      replace HQ : Hid (Blk V1 (gq) 27 #[.int .i64 q.1, .int .i64 q.2]) := Lib.hid (by rw [← hW]; exact HQ.out.alloc _)
      have HV : Hid (Blk V1 (gv) 25 #[.int .i64 v.1, .int .i64 v.2]) := Lib.hid (by rw [← hW]; exact blk_al hgv)
      replace HB : Hid (Below w.heap.size w V1) := Lib.hid (by rw [← hW]; exact HB.out.alloc HB.out.size _)
      rw [hW, hgv]
      rw [hgv] at zv1
      rw [hgv] at zq
      clear hW hgv zv1a zv1b zv1c
      refine (CV.out _).mono ?_
      rintro e v2 ⟨rfl, hb1⟩
      replace HK := Lib.hid (HK.out.below hb1 HK.out.lt)
      replace HP := Lib.hid (HP.out.below hb1 HP.out.lt)
      replace HL := Lib.hid (HL.out.below hb1 HL.out.lt)
      replace HQ := Lib.hid (HQ.out.below hb1 HQ.out.lt)
      replace HV := Lib.hid (HV.out.below hb1 HV.out.lt)
      replace HB := Lib.hid (HB.out.trans (hb1.mono HB.out.size))
      clear hb1
      clear hk_0 hk_1 hk_2 hk_3 hk_4 hk_5 hk_6
      have zv2 := HL.out.lt
      have zv2a : w.heap.size < v2.heap.size := by omega
      have zv2b : w.heap.size + 1 < v2.heap.size := by omega
      have zv2c : w.heap.size + 1 + 1 < v2.heap.size := by omega
      have zr : gq < v2.heap.size := by have := HQ.out.lt; omega
      have zs : gv < v2.heap.size := HV.out.lt
      have hk_0 : v2.cell? ⟨w.heap.size, 0, none⟩ = some (.int .i64 c.half) := (HK.out.cell 0).trans rfl
      have hk_1 : v2.cell? ⟨w.heap.size, 1, none⟩ = some (.int .i64 c.gain) := (HK.out.cell 1).trans rfl
      have hk_2 : v2.cell? ⟨w.heap.size, 2, none⟩ = some (.int .i64 c.thin) := (HK.out.cell 2).trans rfl
      have hk_3 : v2.cell? ⟨w.heap.size, 3, none⟩ = some (.int .i64 c.wide) := (HK.out.cell 3).trans rfl
      have hk_4 : v2.cell? ⟨w.heap.size, 4, none⟩ = some (.int .i64 c.slope) := (HK.out.cell 4).trans rfl
      have hk_5 : v2.cell? ⟨w.heap.size, 5, none⟩ = some (.int .i64 c.jerk) := (HK.out.cell 5).trans rfl
      have hk_6 : v2.cell? ⟨w.heap.size, 6, none⟩ = some (.int .i64 c.stylus) := (HK.out.cell 6).trans rfl
      have hp_0 : v2.cell? ⟨w.heap.size + 1 + 1, 0, none⟩ = some (.int .i64 p.1) := (HP.out.cell 0).trans rfl
      have hp_1 : v2.cell? ⟨w.heap.size + 1 + 1, 1, none⟩ = some (.int .i64 p.2) := (HP.out.cell 1).trans rfl
      have hl_0 : v2.cell? ⟨w.heap.size + 1 + 1 + 1, 0, none⟩ = some (.int .u16 b0) := (HL.out.cell 0).trans rfl
      have hl_1 : v2.cell? ⟨w.heap.size + 1 + 1 + 1, 1, none⟩ = some (.int .u16 b1) := (HL.out.cell 1).trans rfl
      have hq_0 : v2.cell? ⟨gq, 0, none⟩ = some (.int .i64 q.1) := (HQ.out.cell 0).trans rfl
      have hq_1 : v2.cell? ⟨gq, 1, none⟩ = some (.int .i64 q.2) := (HQ.out.cell 1).trans rfl
      have hv_0 : v2.cell? ⟨gv, 0, none⟩ = some (.int .i64 v.1) := (HV.out.cell 0).trans rfl
      have hv_1 : v2.cell? ⟨gv, 1, none⟩ = some (.int .i64 v.2) := (HV.out.cell 1).trans rfl
      have fq0 := HQ.out.frozen 0
      have fq1 := HQ.out.frozen 1
      have hl1 : IntKind.i64.wrap b0 = b0 := IntWalk.i64_in _ (by omega)
      have hl2 : IntKind.i64.wrap b1 = b1 := IntWalk.i64_in _ (by omega)
      have AM0 := Lib.hid (fun W : World => (lawAmt_any v.1 W (by omega) (by omega)).mono fun e w' (h : e = _ ∧ W = w') => (⟨h.1, h.2.symm⟩ : e = _ ∧ w' = W))
      have AM1 := Lib.hid (fun W : World => (lawAmt_any v.2 W (by omega) (by omega)).mono fun e w' (h : e = _ ∧ W = w') => (⟨h.1, h.2.symm⟩ : e = _ ∧ w' = W))
      have zqv : gq < gv := zq
      by_cases n1 : v.1 = 0
      · by_cases n2 : v.2 = 0
        · as_aux_lemma =>
            have m1 : (v.1 == 0) = true := by simpa using n1
            have m1' : (v.1 != 0) = false := by rw [n1]; rfl
            rw [les_z n1] at CU
            have N1 := Lib.hid n1
            clear n1
            have m2 : (v.2 == 0) = true := by simpa using n2
            have m2' : (v.2 != 0) = false := by rw [n2]; rfl
            rw [les_z n2] at CU
            have N2 := Lib.hid n2
            clear n2
            go_wp2_with fail
            obtain ⟨V3, hW⟩ : ∃ V3, ((v2.setCell ⟨gq, 0, none⟩ (.int .i64 p.1)).setCell ⟨gq, 1, none⟩ (.int .i64 p.2)).alloc (.cells #[.int .i64 v.1, .int .i64 v.2] 25) = V3 := ⟨_, rfl⟩
            obtain ⟨gu, hgu⟩ : ∃ g, v2.heap.size = g := ⟨_, rfl⟩
            replace HK : Hid (Blk V3 (w.heap.size) 23 #[.int .i64 c.half, .int .i64 c.gain, .int .i64 c.thin, .int .i64 c.wide, .int .i64 c.slope, .int .i64 c.jerk, .int .i64 c.stylus]) := Lib.hid (by rw [← hW]; exact ((HK.out.far (by dsimp only; omega) _).far (by dsimp only; omega) _).alloc _)
            replace HP : Hid (Blk V3 (w.heap.size + 1 + 1) 27 #[.int .i64 p.1, .int .i64 p.2]) := Lib.hid (by rw [← hW]; exact ((HP.out.far (by dsimp only; omega) _).far (by dsimp only; omega) _).alloc _)
            replace HL : Hid (Blk V3 (w.heap.size + 1 + 1 + 1) 58 #[.int .u16 b0, .int .u16 b1]) := Lib.hid (by rw [← hW]; exact ((HL.out.far (by dsimp only; omega) _).far (by dsimp only; omega) _).alloc _)
            replace HQ : Hid (Blk V3 gq 27 #[.int .i64 p.1, .int .i64 p.2]) := Lib.hid (by rw [← hW]; exact (((HQ.out.set_ 0 _).set_ 1 _).cast rfl).alloc _)
            replace HV : Hid (Blk V3 (gv) 25 #[.int .i64 v.1, .int .i64 v.2]) := Lib.hid (by rw [← hW]; exact ((HV.out.far (by dsimp only; omega) _).far (by dsimp only; omega) _).alloc _)
            have HU : Hid (Blk V3 gu 25 #[.int .i64 v.1, .int .i64 v.2]) := Lib.hid (by rw [← hW]; exact blk_al (by simp [World.setCell]; exact hgu))
            replace HB : Hid (Below w.heap.size w V3) := Lib.hid (by rw [← hW]; exact ((HB.out.setCell (by dsimp only; omega) _).setCell (by dsimp only; omega) _).alloc (by have := HB.out.size; simp [World.setCell]; omega) _)
            rw [hW, hgu]
            rw [hgu] at zv2 zr zs
            clear hW hgu zv2a zv2b zv2c fq0 fq1 eqp hk_0 hk_1 hk_2 hk_3 hk_4 hk_5 hk_6 hp_0 hp_1 hl_0 hl_1 hq_0 hq_1 hv_0 hv_1
            refine (CU.out _).mono ?_
            rintro e v5 ⟨rfl, hb1⟩
            replace HK := Lib.hid (HK.out.below hb1 HK.out.lt)
            replace HP := Lib.hid (HP.out.below hb1 HP.out.lt)
            replace HL := Lib.hid (HL.out.below hb1 HL.out.lt)
            replace HQ := Lib.hid (HQ.out.below hb1 HQ.out.lt)
            replace HV := Lib.hid (HV.out.below hb1 HV.out.lt)
            replace HU := Lib.hid (HU.out.below hb1 HU.out.lt)
            replace HB := Lib.hid (HB.out.trans (hb1.mono HB.out.size))
            clear hb1
            have zv5 := HL.out.lt
            have zv5a : w.heap.size < v5.heap.size := by omega
            have zv5b : w.heap.size + 1 < v5.heap.size := by omega
            have zv5c : w.heap.size + 1 + 1 < v5.heap.size := by omega
            have zt : gq < v5.heap.size := HQ.out.lt
            have zu : gv < v5.heap.size := HV.out.lt
            have hp_0 : v5.cell? ⟨w.heap.size + 1 + 1, 0, none⟩ = some (.int .i64 p.1) := (HP.out.cell 0).trans rfl
            have hp_1 : v5.cell? ⟨w.heap.size + 1 + 1, 1, none⟩ = some (.int .i64 p.2) := (HP.out.cell 1).trans rfl
            have hq_0 : v5.cell? ⟨gq, 0, none⟩ = some (.int .i64 p.1) := (HQ.out.cell 0).trans rfl
            have hq_1 : v5.cell? ⟨gq, 1, none⟩ = some (.int .i64 p.2) := (HQ.out.cell 1).trans rfl
            have hv_0 : v5.cell? ⟨gv, 0, none⟩ = some (.int .i64 v.1) := (HV.out.cell 0).trans rfl
            have hv_1 : v5.cell? ⟨gv, 1, none⟩ = some (.int .i64 v.2) := (HV.out.cell 1).trans rfl
            have fq0 := HQ.out.frozen 0
            have fq1 := HQ.out.frozen 1
            go_wp2_with fail
            refine (WK.out _).mono ?_
            rintro e v6 ⟨rfl, hb1⟩
            go_wp2
            go_ret
            exact ⟨rfl, ((HB.out.setCell (by dsimp only; omega) _).setCell (by dsimp only; omega) _).trans (hb1.mono (by have := HB.out.size; simp [World.setCell]; omega))⟩
        · as_aux_lemma =>
            have m1 : (v.1 == 0) = true := by simpa using n1
            have m1' : (v.1 != 0) = false := by rw [n1]; rfl
            rw [les_z n1] at CU
            have N1 := Lib.hid n1
            clear n1
            have m2 : (v.2 == 0) = false := by simpa using n2
            have m2' : (v.2 != 0) = true := by simpa using n2
            have k2 : (z.1 == p.1) = false := by have := Y3.out n2; simpa using this
            have k2' : (z.1 != p.1) = true := by have := Y3.out n2; simpa using this
            go_wp2_with fail
            obtain ⟨V3, hW⟩ : ∃ V3, ((v2.setCell ⟨gq, 0, none⟩ (.int .i64 p.1)).setCell ⟨gq, 1, none⟩ (.int .i64 p.2)).alloc (.cells #[.int .i64 v.1, .int .i64 v.2] 25) = V3 := ⟨_, rfl⟩
            obtain ⟨gu, hgu⟩ : ∃ g, v2.heap.size = g := ⟨_, rfl⟩
            replace HK : Hid (Blk V3 (w.heap.size) 23 #[.int .i64 c.half, .int .i64 c.gain, .int .i64 c.thin, .int .i64 c.wide, .int .i64 c.slope, .int .i64 c.jerk, .int .i64 c.stylus]) := Lib.hid (by rw [← hW]; exact ((HK.out.far (by dsimp only; omega) _).far (by dsimp only; omega) _).alloc _)
            replace HP : Hid (Blk V3 (w.heap.size + 1 + 1) 27 #[.int .i64 p.1, .int .i64 p.2]) := Lib.hid (by rw [← hW]; exact ((HP.out.far (by dsimp only; omega) _).far (by dsimp only; omega) _).alloc _)
            replace HL : Hid (Blk V3 (w.heap.size + 1 + 1 + 1) 58 #[.int .u16 b0, .int .u16 b1]) := Lib.hid (by rw [← hW]; exact ((HL.out.far (by dsimp only; omega) _).far (by dsimp only; omega) _).alloc _)
            replace HQ : Hid (Blk V3 gq 27 #[.int .i64 p.1, .int .i64 p.2]) := Lib.hid (by rw [← hW]; exact (((HQ.out.set_ 0 _).set_ 1 _).cast rfl).alloc _)
            replace HV : Hid (Blk V3 (gv) 25 #[.int .i64 v.1, .int .i64 v.2]) := Lib.hid (by rw [← hW]; exact ((HV.out.far (by dsimp only; omega) _).far (by dsimp only; omega) _).alloc _)
            have HU : Hid (Blk V3 gu 25 #[.int .i64 v.1, .int .i64 v.2]) := Lib.hid (by rw [← hW]; exact blk_al (by simp [World.setCell]; exact hgu))
            replace HB : Hid (Below w.heap.size w V3) := Lib.hid (by rw [← hW]; exact ((HB.out.setCell (by dsimp only; omega) _).setCell (by dsimp only; omega) _).alloc (by have := HB.out.size; simp [World.setCell]; omega) _)
            rw [hW, hgu]
            rw [hgu] at zv2 zr zs
            clear hW hgu zv2a zv2b zv2c fq0 fq1 eqp hk_0 hk_1 hk_2 hk_3 hk_4 hk_5 hk_6 hp_0 hp_1 hl_0 hl_1 hq_0 hq_1 hv_0 hv_1
            have hl_0 : V3.cell? ⟨w.heap.size + 1 + 1 + 1, 0, none⟩ = some (.int .u16 b0) := (HL.out.cell 0).trans rfl
            have hl_1 : V3.cell? ⟨w.heap.size + 1 + 1 + 1, 1, none⟩ = some (.int .u16 b1) := (HL.out.cell 1).trans rfl
            have hv_0 : V3.cell? ⟨gv, 0, none⟩ = some (.int .i64 v.1) := (HV.out.cell 0).trans rfl
            have hv_1 : V3.cell? ⟨gv, 1, none⟩ = some (.int .i64 v.2) := (HV.out.cell 1).trans rfl
            have fu := HU.out.frozen 1
            have cu : V3.cell? ⟨gu, 1, none⟩ = some (.int .i64 v.2) := (HU.out.cell 1).trans rfl
            obtain ⟨a1, ha1⟩ : ∃ a, am v.2 = a := ⟨_, rfl⟩
            have na1 : ¬ a1 = 0 := by rw [← ha1]; unfold am; omega
            obtain ⟨d1, hd1⟩ : ∃ d, Int.tdiv (v.2) a1 = d := ⟨_, rfl⟩
            have hdd : d1 = 1 ∨ d1 = -1 := by
              rw [← hd1, ← ha1]; exact tdiv_am (by omega)
            obtain ⟨m1, hm1⟩ : ∃ m, (if 1 + b1 < a1 then 1 + b1 else a1) = m := ⟨_, rfl⟩
            have hA1 : 0 ≤ a1 ∧ a1 ≤ 32767 := by rw [← ha1]; unfold am; omega
            have hmb1 : 0 ≤ m1 ∧ m1 ≤ 65536 := by rw [← hm1]; split <;> omega
            have hmm1 : min a1 (1 + b1) = m1 := by rw [← hm1]; split <;> omega
            have hpb1 : -65536 ≤ d1 * m1 ∧ d1 * m1 ≤ 65536 := by rcases hdd with h | h <;> rw [h] <;> omega
            have le1 : v.2 - d1 * m1 = les (v.2) b1 := by unfold les; rw [if_neg (by omega), ha1, hd1, hmm1]
            obtain ⟨u1, hu1⟩ : ∃ u, les (v.2) b1 = u := ⟨_, rfl⟩
            rw [hu1] at le1 CU
            rw [ha1] at AM1
            have w11 : IntKind.i64.wrap d1 = d1 := IntWalk.i64_in _ (by omega)
            have w21 : IntKind.i64.wrap (1 + b1) = 1 + b1 := IntWalk.i64_in _ (by omega)
            have w31 : IntKind.i64.wrap (d1 * m1) = d1 * m1 := IntWalk.i64_in _ (by omega)
            have w41 : IntKind.i64.wrap u1 = u1 := IntWalk.i64_in _ (by rw [← le1]; omega)
            clear hdd hA1 hmb1 hmm1 hpb1 hu1 ha1
            go_still_tail 19, (by kernel_rfl)
            still_call (AM1.out _)
            repeat still_step
            still_call (AM1.out _)
            repeat still_step
            refine wpStill_nil ?_
            change wpList _ _ _ _ _ V3.drew
            clear hd1 hm1 w11 w21 w31 w41 le1
            have hk_0 : V3.cell? ⟨w.heap.size, 0, none⟩ = some (.int .i64 c.half) := (HK.out.cell 0).trans rfl
            have hk_1 : V3.cell? ⟨w.heap.size, 1, none⟩ = some (.int .i64 c.gain) := (HK.out.cell 1).trans rfl
            have hk_2 : V3.cell? ⟨w.heap.size, 2, none⟩ = some (.int .i64 c.thin) := (HK.out.cell 2).trans rfl
            have hk_3 : V3.cell? ⟨w.heap.size, 3, none⟩ = some (.int .i64 c.wide) := (HK.out.cell 3).trans rfl
            have hk_4 : V3.cell? ⟨w.heap.size, 4, none⟩ = some (.int .i64 c.slope) := (HK.out.cell 4).trans rfl
            have hk_5 : V3.cell? ⟨w.heap.size, 5, none⟩ = some (.int .i64 c.jerk) := (HK.out.cell 5).trans rfl
            have hk_6 : V3.cell? ⟨w.heap.size, 6, none⟩ = some (.int .i64 c.stylus) := (HK.out.cell 6).trans rfl
            have cw : V3.cell? ⟨gu, 0, none⟩ = some (.int .i64 v.1) := (HU.out.cell 0).trans rfl
            go_wp2_with fail
            obtain ⟨V5, hW⟩ : ∃ V, (V3.setCell ⟨gu, 1, none⟩ (.int .i64 u1)).drew = V := ⟨_, rfl⟩
            replace HK : Hid (Blk V5 (w.heap.size) 23 #[.int .i64 c.half, .int .i64 c.gain, .int .i64 c.thin, .int .i64 c.wide, .int .i64 c.slope, .int .i64 c.jerk, .int .i64 c.stylus]) := Lib.hid (by rw [← hW]; exact (HK.out.far (by dsimp only; omega) _).drew)
            replace HP : Hid (Blk V5 (w.heap.size + 1 + 1) 27 #[.int .i64 p.1, .int .i64 p.2]) := Lib.hid (by rw [← hW]; exact (HP.out.far (by dsimp only; omega) _).drew)
            replace HL : Hid (Blk V5 (w.heap.size + 1 + 1 + 1) 58 #[.int .u16 b0, .int .u16 b1]) := Lib.hid (by rw [← hW]; exact (HL.out.far (by dsimp only; omega) _).drew)
            replace HQ : Hid (Blk V5 (gq) 27 #[.int .i64 p.1, .int .i64 p.2]) := Lib.hid (by rw [← hW]; exact (HQ.out.far (by dsimp only; omega) _).drew)
            replace HV : Hid (Blk V5 (gv) 25 #[.int .i64 v.1, .int .i64 v.2]) := Lib.hid (by rw [← hW]; exact (HV.out.far (by dsimp only; omega) _).drew)
            replace HU : Hid (Blk V5 gu 25 #[.int .i64 v.1, .int .i64 u1]) := Lib.hid (by rw [← hW]; exact ((HU.out.set_ 1 _).cast rfl).drew)
            replace HB : Hid (Below w.heap.size w V5) := Lib.hid (by rw [← hW]; exact (HB.out.setCell (by dsimp only; omega) _).drew)
            rw [hW]
            clear hW fu cu cw hl_0 hl_1 hv_0 hv_1 hk_0 hk_1 hk_2 hk_3 hk_4 hk_5 hk_6
            refine (CU.out _).mono ?_
            rintro e v5 ⟨rfl, hb1⟩
            replace HK := Lib.hid (HK.out.below hb1 HK.out.lt)
            replace HP := Lib.hid (HP.out.below hb1 HP.out.lt)
            replace HL := Lib.hid (HL.out.below hb1 HL.out.lt)
            replace HQ := Lib.hid (HQ.out.below hb1 HQ.out.lt)
            replace HV := Lib.hid (HV.out.below hb1 HV.out.lt)
            replace HU := Lib.hid (HU.out.below hb1 HU.out.lt)
            replace HB := Lib.hid (HB.out.trans (hb1.mono HB.out.size))
            clear hb1
            have zv5 := HL.out.lt
            have zv5a : w.heap.size < v5.heap.size := by omega
            have zv5b : w.heap.size + 1 < v5.heap.size := by omega
            have zv5c : w.heap.size + 1 + 1 < v5.heap.size := by omega
            have zt : gq < v5.heap.size := HQ.out.lt
            have zu : gv < v5.heap.size := HV.out.lt
            have hp_0 : v5.cell? ⟨w.heap.size + 1 + 1, 0, none⟩ = some (.int .i64 p.1) := (HP.out.cell 0).trans rfl
            have hp_1 : v5.cell? ⟨w.heap.size + 1 + 1, 1, none⟩ = some (.int .i64 p.2) := (HP.out.cell 1).trans rfl
            have hq_0 : v5.cell? ⟨gq, 0, none⟩ = some (.int .i64 p.1) := (HQ.out.cell 0).trans rfl
            have hq_1 : v5.cell? ⟨gq, 1, none⟩ = some (.int .i64 p.2) := (HQ.out.cell 1).trans rfl
            have hv_0 : v5.cell? ⟨gv, 0, none⟩ = some (.int .i64 v.1) := (HV.out.cell 0).trans rfl
            have hv_1 : v5.cell? ⟨gv, 1, none⟩ = some (.int .i64 v.2) := (HV.out.cell 1).trans rfl
            have fq0 := HQ.out.frozen 0
            have fq1 := HQ.out.frozen 1
            go_wp2_with fail
            refine (WK.out _).mono ?_
            rintro e v6 ⟨rfl, hb1⟩
            go_wp2
            go_ret
            exact ⟨rfl, ((HB.out.setCell (by dsimp only; omega) _).setCell (by dsimp only; omega) _).trans (hb1.mono (by have := HB.out.size; simp [World.setCell]; omega))⟩
      · by_cases n2 : v.2 = 0
        · as_aux_lemma =>
            have m1 : (v.1 == 0) = false := by simpa using n1
            have m1' : (v.1 != 0) = true := by simpa using n1
            have k1 : (z.2 == p.2) = false := by have := Y2.out n1; simpa using this
            have k1' : (z.2 != p.2) = true := by have := Y2.out n1; simpa using this
            have m2 : (v.2 == 0) = true := by simpa using n2
            have m2' : (v.2 != 0) = false := by rw [n2]; rfl
            rw [les_z n2] at CU
            have N2 := Lib.hid n2
            clear n2
            go_wp2_with fail
            obtain ⟨V3, hW⟩ : ∃ V3, ((v2.setCell ⟨gq, 0, none⟩ (.int .i64 p.1)).setCell ⟨gq, 1, none⟩ (.int .i64 p.2)).alloc (.cells #[.int .i64 v.1, .int .i64 v.2] 25) = V3 := ⟨_, rfl⟩
            obtain ⟨gu, hgu⟩ : ∃ g, v2.heap.size = g := ⟨_, rfl⟩
            replace HK : Hid (Blk V3 (w.heap.size) 23 #[.int .i64 c.half, .int .i64 c.gain, .int .i64 c.thin, .int .i64 c.wide, .int .i64 c.slope, .int .i64 c.jerk, .int .i64 c.stylus]) := Lib.hid (by rw [← hW]; exact ((HK.out.far (by dsimp only; omega) _).far (by dsimp only; omega) _).alloc _)
            replace HP : Hid (Blk V3 (w.heap.size + 1 + 1) 27 #[.int .i64 p.1, .int .i64 p.2]) := Lib.hid (by rw [← hW]; exact ((HP.out.far (by dsimp only; omega) _).far (by dsimp only; omega) _).alloc _)
            replace HL : Hid (Blk V3 (w.heap.size + 1 + 1 + 1) 58 #[.int .u16 b0, .int .u16 b1]) := Lib.hid (by rw [← hW]; exact ((HL.out.far (by dsimp only; omega) _).far (by dsimp only; omega) _).alloc _)
            replace HQ : Hid (Blk V3 gq 27 #[.int .i64 p.1, .int .i64 p.2]) := Lib.hid (by rw [← hW]; exact (((HQ.out.set_ 0 _).set_ 1 _).cast rfl).alloc _)
            replace HV : Hid (Blk V3 (gv) 25 #[.int .i64 v.1, .int .i64 v.2]) := Lib.hid (by rw [← hW]; exact ((HV.out.far (by dsimp only; omega) _).far (by dsimp only; omega) _).alloc _)
            have HU : Hid (Blk V3 gu 25 #[.int .i64 v.1, .int .i64 v.2]) := Lib.hid (by rw [← hW]; exact blk_al (by simp [World.setCell]; exact hgu))
            replace HB : Hid (Below w.heap.size w V3) := Lib.hid (by rw [← hW]; exact ((HB.out.setCell (by dsimp only; omega) _).setCell (by dsimp only; omega) _).alloc (by have := HB.out.size; simp [World.setCell]; omega) _)
            rw [hW, hgu]
            rw [hgu] at zv2 zr zs
            clear hW hgu zv2a zv2b zv2c fq0 fq1 eqp hk_0 hk_1 hk_2 hk_3 hk_4 hk_5 hk_6 hp_0 hp_1 hl_0 hl_1 hq_0 hq_1 hv_0 hv_1
            have hl_0 : V3.cell? ⟨w.heap.size + 1 + 1 + 1, 0, none⟩ = some (.int .u16 b0) := (HL.out.cell 0).trans rfl
            have hl_1 : V3.cell? ⟨w.heap.size + 1 + 1 + 1, 1, none⟩ = some (.int .u16 b1) := (HL.out.cell 1).trans rfl
            have hv_0 : V3.cell? ⟨gv, 0, none⟩ = some (.int .i64 v.1) := (HV.out.cell 0).trans rfl
            have hv_1 : V3.cell? ⟨gv, 1, none⟩ = some (.int .i64 v.2) := (HV.out.cell 1).trans rfl
            have fu := HU.out.frozen 0
            have cu : V3.cell? ⟨gu, 0, none⟩ = some (.int .i64 v.1) := (HU.out.cell 0).trans rfl
            obtain ⟨a0, ha0⟩ : ∃ a, am v.1 = a := ⟨_, rfl⟩
            have na0 : ¬ a0 = 0 := by rw [← ha0]; unfold am; omega
            obtain ⟨d0, hd0⟩ : ∃ d, Int.tdiv (v.1) a0 = d := ⟨_, rfl⟩
            have hdd : d0 = 1 ∨ d0 = -1 := by
              rw [← hd0, ← ha0]; exact tdiv_am (by omega)
            obtain ⟨m0, hm0⟩ : ∃ m, (if 1 + b0 < a0 then 1 + b0 else a0) = m := ⟨_, rfl⟩
            have hA0 : 0 ≤ a0 ∧ a0 ≤ 32767 := by rw [← ha0]; unfold am; omega
            have hmb0 : 0 ≤ m0 ∧ m0 ≤ 65536 := by rw [← hm0]; split <;> omega
            have hmm0 : min a0 (1 + b0) = m0 := by rw [← hm0]; split <;> omega
            have hpb0 : -65536 ≤ d0 * m0 ∧ d0 * m0 ≤ 65536 := by rcases hdd with h | h <;> rw [h] <;> omega
            have le0 : v.1 - d0 * m0 = les (v.1) b0 := by unfold les; rw [if_neg (by omega), ha0, hd0, hmm0]
            obtain ⟨u0, hu0⟩ : ∃ u, les (v.1) b0 = u := ⟨_, rfl⟩
            rw [hu0] at le0 CU
            rw [ha0] at AM0
            have w10 : IntKind.i64.wrap d0 = d0 := IntWalk.i64_in _ (by omega)
            have w20 : IntKind.i64.wrap (1 + b0) = 1 + b0 := IntWalk.i64_in _ (by omega)
            have w30 : IntKind.i64.wrap (d0 * m0) = d0 * m0 := IntWalk.i64_in _ (by omega)
            have w40 : IntKind.i64.wrap u0 = u0 := IntWalk.i64_in _ (by rw [← le0]; omega)
            clear hdd hA0 hmb0 hmm0 hpb0 hu0 ha0
            go_still_tail 19, (by kernel_rfl)
            still_call (AM0.out _)
            repeat still_step
            still_call (AM0.out _)
            repeat still_step
            refine wpStill_nil ?_
            change wpList _ _ _ _ _ V3.drew
            clear hd0 hm0 w10 w20 w30 w40 le0
            have hk_0 : V3.cell? ⟨w.heap.size, 0, none⟩ = some (.int .i64 c.half) := (HK.out.cell 0).trans rfl
            have hk_1 : V3.cell? ⟨w.heap.size, 1, none⟩ = some (.int .i64 c.gain) := (HK.out.cell 1).trans rfl
            have hk_2 : V3.cell? ⟨w.heap.size, 2, none⟩ = some (.int .i64 c.thin) := (HK.out.cell 2).trans rfl
            have hk_3 : V3.cell? ⟨w.heap.size, 3, none⟩ = some (.int .i64 c.wide) := (HK.out.cell 3).trans rfl
            have hk_4 : V3.cell? ⟨w.heap.size, 4, none⟩ = some (.int .i64 c.slope) := (HK.out.cell 4).trans rfl
            have hk_5 : V3.cell? ⟨w.heap.size, 5, none⟩ = some (.int .i64 c.jerk) := (HK.out.cell 5).trans rfl
            have hk_6 : V3.cell? ⟨w.heap.size, 6, none⟩ = some (.int .i64 c.stylus) := (HK.out.cell 6).trans rfl
            have cw : V3.cell? ⟨gu, 1, none⟩ = some (.int .i64 v.2) := (HU.out.cell 1).trans rfl
            go_wp2_with fail
            obtain ⟨V4, hW⟩ : ∃ V, (V3.setCell ⟨gu, 0, none⟩ (.int .i64 u0)).drew = V := ⟨_, rfl⟩
            replace HK : Hid (Blk V4 (w.heap.size) 23 #[.int .i64 c.half, .int .i64 c.gain, .int .i64 c.thin, .int .i64 c.wide, .int .i64 c.slope, .int .i64 c.jerk, .int .i64 c.stylus]) := Lib.hid (by rw [← hW]; exact (HK.out.far (by dsimp only; omega) _).drew)
            replace HP : Hid (Blk V4 (w.heap.size + 1 + 1) 27 #[.int .i64 p.1, .int .i64 p.2]) := Lib.hid (by rw [← hW]; exact (HP.out.far (by dsimp only; omega) _).drew)
            replace HL : Hid (Blk V4 (w.heap.size + 1 + 1 + 1) 58 #[.int .u16 b0, .int .u16 b1]) := Lib.hid (by rw [← hW]; exact (HL.out.far (by dsimp only; omega) _).drew)
            replace HQ : Hid (Blk V4 (gq) 27 #[.int .i64 p.1, .int .i64 p.2]) := Lib.hid (by rw [← hW]; exact (HQ.out.far (by dsimp only; omega) _).drew)
            replace HV : Hid (Blk V4 (gv) 25 #[.int .i64 v.1, .int .i64 v.2]) := Lib.hid (by rw [← hW]; exact (HV.out.far (by dsimp only; omega) _).drew)
            replace HU : Hid (Blk V4 gu 25 #[.int .i64 u0, .int .i64 v.2]) := Lib.hid (by rw [← hW]; exact ((HU.out.set_ 0 _).cast rfl).drew)
            replace HB : Hid (Below w.heap.size w V4) := Lib.hid (by rw [← hW]; exact (HB.out.setCell (by dsimp only; omega) _).drew)
            rw [hW]
            clear hW fu cu cw hl_0 hl_1 hv_0 hv_1 hk_0 hk_1 hk_2 hk_3 hk_4 hk_5 hk_6
            refine (CU.out _).mono ?_
            rintro e v5 ⟨rfl, hb1⟩
            replace HK := Lib.hid (HK.out.below hb1 HK.out.lt)
            replace HP := Lib.hid (HP.out.below hb1 HP.out.lt)
            replace HL := Lib.hid (HL.out.below hb1 HL.out.lt)
            replace HQ := Lib.hid (HQ.out.below hb1 HQ.out.lt)
            replace HV := Lib.hid (HV.out.below hb1 HV.out.lt)
            replace HU := Lib.hid (HU.out.below hb1 HU.out.lt)
            replace HB := Lib.hid (HB.out.trans (hb1.mono HB.out.size))
            clear hb1
            have zv5 := HL.out.lt
            have zv5a : w.heap.size < v5.heap.size := by omega
            have zv5b : w.heap.size + 1 < v5.heap.size := by omega
            have zv5c : w.heap.size + 1 + 1 < v5.heap.size := by omega
            have zt : gq < v5.heap.size := HQ.out.lt
            have zu : gv < v5.heap.size := HV.out.lt
            have hp_0 : v5.cell? ⟨w.heap.size + 1 + 1, 0, none⟩ = some (.int .i64 p.1) := (HP.out.cell 0).trans rfl
            have hp_1 : v5.cell? ⟨w.heap.size + 1 + 1, 1, none⟩ = some (.int .i64 p.2) := (HP.out.cell 1).trans rfl
            have hq_0 : v5.cell? ⟨gq, 0, none⟩ = some (.int .i64 p.1) := (HQ.out.cell 0).trans rfl
            have hq_1 : v5.cell? ⟨gq, 1, none⟩ = some (.int .i64 p.2) := (HQ.out.cell 1).trans rfl
            have hv_0 : v5.cell? ⟨gv, 0, none⟩ = some (.int .i64 v.1) := (HV.out.cell 0).trans rfl
            have hv_1 : v5.cell? ⟨gv, 1, none⟩ = some (.int .i64 v.2) := (HV.out.cell 1).trans rfl
            have fq0 := HQ.out.frozen 0
            have fq1 := HQ.out.frozen 1
            go_wp2_with fail
            refine (WK.out _).mono ?_
            rintro e v6 ⟨rfl, hb1⟩
            go_wp2
            go_ret
            exact ⟨rfl, ((HB.out.setCell (by dsimp only; omega) _).setCell (by dsimp only; omega) _).trans (hb1.mono (by have := HB.out.size; simp [World.setCell]; omega))⟩
        · as_aux_lemma =>
            have m1 : (v.1 == 0) = false := by simpa using n1
            have m1' : (v.1 != 0) = true := by simpa using n1
            have k1 : (z.2 == p.2) = false := by have := Y2.out n1; simpa using this
            have k1' : (z.2 != p.2) = true := by have := Y2.out n1; simpa using this
            have m2 : (v.2 == 0) = false := by simpa using n2
            have m2' : (v.2 != 0) = true := by simpa using n2
            have k2 : (z.1 == p.1) = false := by have := Y3.out n2; simpa using this
            have k2' : (z.1 != p.1) = true := by have := Y3.out n2; simpa using this
            go_wp2_with fail
            obtain ⟨V3, hW⟩ : ∃ V3, ((v2.setCell ⟨gq, 0, none⟩ (.int .i64 p.1)).setCell ⟨gq, 1, none⟩ (.int .i64 p.2)).alloc (.cells #[.int .i64 v.1, .int .i64 v.2] 25) = V3 := ⟨_, rfl⟩
            obtain ⟨gu, hgu⟩ : ∃ g, v2.heap.size = g := ⟨_, rfl⟩
            replace HK : Hid (Blk V3 (w.heap.size) 23 #[.int .i64 c.half, .int .i64 c.gain, .int .i64 c.thin, .int .i64 c.wide, .int .i64 c.slope, .int .i64 c.jerk, .int .i64 c.stylus]) := Lib.hid (by rw [← hW]; exact ((HK.out.far (by dsimp only; omega) _).far (by dsimp only; omega) _).alloc _)
            replace HP : Hid (Blk V3 (w.heap.size + 1 + 1) 27 #[.int .i64 p.1, .int .i64 p.2]) := Lib.hid (by rw [← hW]; exact ((HP.out.far (by dsimp only; omega) _).far (by dsimp only; omega) _).alloc _)
            replace HL : Hid (Blk V3 (w.heap.size + 1 + 1 + 1) 58 #[.int .u16 b0, .int .u16 b1]) := Lib.hid (by rw [← hW]; exact ((HL.out.far (by dsimp only; omega) _).far (by dsimp only; omega) _).alloc _)
            replace HQ : Hid (Blk V3 gq 27 #[.int .i64 p.1, .int .i64 p.2]) := Lib.hid (by rw [← hW]; exact (((HQ.out.set_ 0 _).set_ 1 _).cast rfl).alloc _)
            replace HV : Hid (Blk V3 (gv) 25 #[.int .i64 v.1, .int .i64 v.2]) := Lib.hid (by rw [← hW]; exact ((HV.out.far (by dsimp only; omega) _).far (by dsimp only; omega) _).alloc _)
            have HU : Hid (Blk V3 gu 25 #[.int .i64 v.1, .int .i64 v.2]) := Lib.hid (by rw [← hW]; exact blk_al (by simp [World.setCell]; exact hgu))
            replace HB : Hid (Below w.heap.size w V3) := Lib.hid (by rw [← hW]; exact ((HB.out.setCell (by dsimp only; omega) _).setCell (by dsimp only; omega) _).alloc (by have := HB.out.size; simp [World.setCell]; omega) _)
            rw [hW, hgu]
            rw [hgu] at zv2 zr zs
            clear hW hgu zv2a zv2b zv2c fq0 fq1 eqp hk_0 hk_1 hk_2 hk_3 hk_4 hk_5 hk_6 hp_0 hp_1 hl_0 hl_1 hq_0 hq_1 hv_0 hv_1
            have hl_0 : V3.cell? ⟨w.heap.size + 1 + 1 + 1, 0, none⟩ = some (.int .u16 b0) := (HL.out.cell 0).trans rfl
            have hl_1 : V3.cell? ⟨w.heap.size + 1 + 1 + 1, 1, none⟩ = some (.int .u16 b1) := (HL.out.cell 1).trans rfl
            have hv_0 : V3.cell? ⟨gv, 0, none⟩ = some (.int .i64 v.1) := (HV.out.cell 0).trans rfl
            have hv_1 : V3.cell? ⟨gv, 1, none⟩ = some (.int .i64 v.2) := (HV.out.cell 1).trans rfl
            have fu := HU.out.frozen 0
            have cu : V3.cell? ⟨gu, 0, none⟩ = some (.int .i64 v.1) := (HU.out.cell 0).trans rfl
            obtain ⟨a0, ha0⟩ : ∃ a, am v.1 = a := ⟨_, rfl⟩
            have na0 : ¬ a0 = 0 := by rw [← ha0]; unfold am; omega
            obtain ⟨d0, hd0⟩ : ∃ d, Int.tdiv (v.1) a0 = d := ⟨_, rfl⟩
            have hdd : d0 = 1 ∨ d0 = -1 := by
              rw [← hd0, ← ha0]; exact tdiv_am (by omega)
            obtain ⟨m0, hm0⟩ : ∃ m, (if 1 + b0 < a0 then 1 + b0 else a0) = m := ⟨_, rfl⟩
            have hA0 : 0 ≤ a0 ∧ a0 ≤ 32767 := by rw [← ha0]; unfold am; omega
            have hmb0 : 0 ≤ m0 ∧ m0 ≤ 65536 := by rw [← hm0]; split <;> omega
            have hmm0 : min a0 (1 + b0) = m0 := by rw [← hm0]; split <;> omega
            have hpb0 : -65536 ≤ d0 * m0 ∧ d0 * m0 ≤ 65536 := by rcases hdd with h | h <;> rw [h] <;> omega
            have le0 : v.1 - d0 * m0 = les (v.1) b0 := by unfold les; rw [if_neg (by omega), ha0, hd0, hmm0]
            obtain ⟨u0, hu0⟩ : ∃ u, les (v.1) b0 = u := ⟨_, rfl⟩
            rw [hu0] at le0 CU
            rw [ha0] at AM0
            have w10 : IntKind.i64.wrap d0 = d0 := IntWalk.i64_in _ (by omega)
            have w20 : IntKind.i64.wrap (1 + b0) = 1 + b0 := IntWalk.i64_in _ (by omega)
            have w30 : IntKind.i64.wrap (d0 * m0) = d0 * m0 := IntWalk.i64_in _ (by omega)
            have w40 : IntKind.i64.wrap u0 = u0 := IntWalk.i64_in _ (by rw [← le0]; omega)
            clear hdd hA0 hmb0 hmm0 hpb0 hu0 ha0
            go_still_tail 19, (by kernel_rfl)
            still_call (AM0.out _)
            repeat still_step
            still_call (AM0.out _)
            repeat still_step
            refine wpStill_nil ?_
            change wpList _ _ _ _ _ V3.drew
            clear hd0 hm0 w10 w20 w30 w40 le0
            have hk_0 : V3.cell? ⟨w.heap.size, 0, none⟩ = some (.int .i64 c.half) := (HK.out.cell 0).trans rfl
            have hk_1 : V3.cell? ⟨w.heap.size, 1, none⟩ = some (.int .i64 c.gain) := (HK.out.cell 1).trans rfl
            have hk_2 : V3.cell? ⟨w.heap.size, 2, none⟩ = some (.int .i64 c.thin) := (HK.out.cell 2).trans rfl
            have hk_3 : V3.cell? ⟨w.heap.size, 3, none⟩ = some (.int .i64 c.wide) := (HK.out.cell 3).trans rfl
            have hk_4 : V3.cell? ⟨w.heap.size, 4, none⟩ = some (.int .i64 c.slope) := (HK.out.cell 4).trans rfl
            have hk_5 : V3.cell? ⟨w.heap.size, 5, none⟩ = some (.int .i64 c.jerk) := (HK.out.cell 5).trans rfl
            have hk_6 : V3.cell? ⟨w.heap.size, 6, none⟩ = some (.int .i64 c.stylus) := (HK.out.cell 6).trans rfl
            have cw : V3.cell? ⟨gu, 1, none⟩ = some (.int .i64 v.2) := (HU.out.cell 1).trans rfl
            go_wp2_with fail
            obtain ⟨V4, hW⟩ : ∃ V, (V3.setCell ⟨gu, 0, none⟩ (.int .i64 u0)).drew = V := ⟨_, rfl⟩
            replace HK : Hid (Blk V4 (w.heap.size) 23 #[.int .i64 c.half, .int .i64 c.gain, .int .i64 c.thin, .int .i64 c.wide, .int .i64 c.slope, .int .i64 c.jerk, .int .i64 c.stylus]) := Lib.hid (by rw [← hW]; exact (HK.out.far (by dsimp only; omega) _).drew)
            replace HP : Hid (Blk V4 (w.heap.size + 1 + 1) 27 #[.int .i64 p.1, .int .i64 p.2]) := Lib.hid (by rw [← hW]; exact (HP.out.far (by dsimp only; omega) _).drew)
            replace HL : Hid (Blk V4 (w.heap.size + 1 + 1 + 1) 58 #[.int .u16 b0, .int .u16 b1]) := Lib.hid (by rw [← hW]; exact (HL.out.far (by dsimp only; omega) _).drew)
            replace HQ : Hid (Blk V4 (gq) 27 #[.int .i64 p.1, .int .i64 p.2]) := Lib.hid (by rw [← hW]; exact (HQ.out.far (by dsimp only; omega) _).drew)
            replace HV : Hid (Blk V4 (gv) 25 #[.int .i64 v.1, .int .i64 v.2]) := Lib.hid (by rw [← hW]; exact (HV.out.far (by dsimp only; omega) _).drew)
            replace HU : Hid (Blk V4 gu 25 #[.int .i64 u0, .int .i64 v.2]) := Lib.hid (by rw [← hW]; exact ((HU.out.set_ 0 _).cast rfl).drew)
            replace HB : Hid (Below w.heap.size w V4) := Lib.hid (by rw [← hW]; exact (HB.out.setCell (by dsimp only; omega) _).drew)
            rw [hW]
            clear hW fu cu cw hl_0 hl_1 hv_0 hv_1 hk_0 hk_1 hk_2 hk_3 hk_4 hk_5 hk_6
            have hl_0 : V4.cell? ⟨w.heap.size + 1 + 1 + 1, 0, none⟩ = some (.int .u16 b0) := (HL.out.cell 0).trans rfl
            have hl_1 : V4.cell? ⟨w.heap.size + 1 + 1 + 1, 1, none⟩ = some (.int .u16 b1) := (HL.out.cell 1).trans rfl
            have hv_0 : V4.cell? ⟨gv, 0, none⟩ = some (.int .i64 v.1) := (HV.out.cell 0).trans rfl
            have hv_1 : V4.cell? ⟨gv, 1, none⟩ = some (.int .i64 v.2) := (HV.out.cell 1).trans rfl
            have fu := HU.out.frozen 1
            have cu : V4.cell? ⟨gu, 1, none⟩ = some (.int .i64 v.2) := (HU.out.cell 1).trans rfl
            obtain ⟨a1, ha1⟩ : ∃ a, am v.2 = a := ⟨_, rfl⟩
            have na1 : ¬ a1 = 0 := by rw [← ha1]; unfold am; omega
            obtain ⟨d1, hd1⟩ : ∃ d, Int.tdiv (v.2) a1 = d := ⟨_, rfl⟩
            have hdd : d1 = 1 ∨ d1 = -1 := by
              rw [← hd1, ← ha1]; exact tdiv_am (by omega)
            obtain ⟨m1, hm1⟩ : ∃ m, (if 1 + b1 < a1 then 1 + b1 else a1) = m := ⟨_, rfl⟩
            have hA1 : 0 ≤ a1 ∧ a1 ≤ 32767 := by rw [← ha1]; unfold am; omega
            have hmb1 : 0 ≤ m1 ∧ m1 ≤ 65536 := by rw [← hm1]; split <;> omega
            have hmm1 : min a1 (1 + b1) = m1 := by rw [← hm1]; split <;> omega
            have hpb1 : -65536 ≤ d1 * m1 ∧ d1 * m1 ≤ 65536 := by rcases hdd with h | h <;> rw [h] <;> omega
            have le1 : v.2 - d1 * m1 = les (v.2) b1 := by unfold les; rw [if_neg (by omega), ha1, hd1, hmm1]
            obtain ⟨u1, hu1⟩ : ∃ u, les (v.2) b1 = u := ⟨_, rfl⟩
            rw [hu1] at le1 CU
            rw [ha1] at AM1
            have w11 : IntKind.i64.wrap d1 = d1 := IntWalk.i64_in _ (by omega)
            have w21 : IntKind.i64.wrap (1 + b1) = 1 + b1 := IntWalk.i64_in _ (by omega)
            have w31 : IntKind.i64.wrap (d1 * m1) = d1 * m1 := IntWalk.i64_in _ (by omega)
            have w41 : IntKind.i64.wrap u1 = u1 := IntWalk.i64_in _ (by rw [← le1]; omega)
            clear hdd hA1 hmb1 hmm1 hpb1 hu1 ha1
            go_still_tail 19, (by kernel_rfl)
            still_call (AM1.out _)
            repeat still_step
            still_call (AM1.out _)
            repeat still_step
            refine wpStill_nil ?_
            change wpList _ _ _ _ _ V4.drew
            clear hd1 hm1 w11 w21 w31 w41 le1
            have hk_0 : V4.cell? ⟨w.heap.size, 0, none⟩ = some (.int .i64 c.half) := (HK.out.cell 0).trans rfl
            have hk_1 : V4.cell? ⟨w.heap.size, 1, none⟩ = some (.int .i64 c.gain) := (HK.out.cell 1).trans rfl
            have hk_2 : V4.cell? ⟨w.heap.size, 2, none⟩ = some (.int .i64 c.thin) := (HK.out.cell 2).trans rfl
            have hk_3 : V4.cell? ⟨w.heap.size, 3, none⟩ = some (.int .i64 c.wide) := (HK.out.cell 3).trans rfl
            have hk_4 : V4.cell? ⟨w.heap.size, 4, none⟩ = some (.int .i64 c.slope) := (HK.out.cell 4).trans rfl
            have hk_5 : V4.cell? ⟨w.heap.size, 5, none⟩ = some (.int .i64 c.jerk) := (HK.out.cell 5).trans rfl
            have hk_6 : V4.cell? ⟨w.heap.size, 6, none⟩ = some (.int .i64 c.stylus) := (HK.out.cell 6).trans rfl
            have cw : V4.cell? ⟨gu, 0, none⟩ = some (.int .i64 u0) := (HU.out.cell 0).trans rfl
            go_wp2_with fail
            obtain ⟨V5, hW⟩ : ∃ V, (V4.setCell ⟨gu, 1, none⟩ (.int .i64 u1)).drew = V := ⟨_, rfl⟩
            replace HK : Hid (Blk V5 (w.heap.size) 23 #[.int .i64 c.half, .int .i64 c.gain, .int .i64 c.thin, .int .i64 c.wide, .int .i64 c.slope, .int .i64 c.jerk, .int .i64 c.stylus]) := Lib.hid (by rw [← hW]; exact (HK.out.far (by dsimp only; omega) _).drew)
            replace HP : Hid (Blk V5 (w.heap.size + 1 + 1) 27 #[.int .i64 p.1, .int .i64 p.2]) := Lib.hid (by rw [← hW]; exact (HP.out.far (by dsimp only; omega) _).drew)
            replace HL : Hid (Blk V5 (w.heap.size + 1 + 1 + 1) 58 #[.int .u16 b0, .int .u16 b1]) := Lib.hid (by rw [← hW]; exact (HL.out.far (by dsimp only; omega) _).drew)
            replace HQ : Hid (Blk V5 (gq) 27 #[.int .i64 p.1, .int .i64 p.2]) := Lib.hid (by rw [← hW]; exact (HQ.out.far (by dsimp only; omega) _).drew)
            replace HV : Hid (Blk V5 (gv) 25 #[.int .i64 v.1, .int .i64 v.2]) := Lib.hid (by rw [← hW]; exact (HV.out.far (by dsimp only; omega) _).drew)
            replace HU : Hid (Blk V5 gu 25 #[.int .i64 u0, .int .i64 u1]) := Lib.hid (by rw [← hW]; exact ((HU.out.set_ 1 _).cast rfl).drew)
            replace HB : Hid (Below w.heap.size w V5) := Lib.hid (by rw [← hW]; exact (HB.out.setCell (by dsimp only; omega) _).drew)
            rw [hW]
            clear hW fu cu cw hl_0 hl_1 hv_0 hv_1 hk_0 hk_1 hk_2 hk_3 hk_4 hk_5 hk_6
            refine (CU.out _).mono ?_
            rintro e v5 ⟨rfl, hb1⟩
            replace HK := Lib.hid (HK.out.below hb1 HK.out.lt)
            replace HP := Lib.hid (HP.out.below hb1 HP.out.lt)
            replace HL := Lib.hid (HL.out.below hb1 HL.out.lt)
            replace HQ := Lib.hid (HQ.out.below hb1 HQ.out.lt)
            replace HV := Lib.hid (HV.out.below hb1 HV.out.lt)
            replace HU := Lib.hid (HU.out.below hb1 HU.out.lt)
            replace HB := Lib.hid (HB.out.trans (hb1.mono HB.out.size))
            clear hb1
            have zv5 := HL.out.lt
            have zv5a : w.heap.size < v5.heap.size := by omega
            have zv5b : w.heap.size + 1 < v5.heap.size := by omega
            have zv5c : w.heap.size + 1 + 1 < v5.heap.size := by omega
            have zt : gq < v5.heap.size := HQ.out.lt
            have zu : gv < v5.heap.size := HV.out.lt
            have hp_0 : v5.cell? ⟨w.heap.size + 1 + 1, 0, none⟩ = some (.int .i64 p.1) := (HP.out.cell 0).trans rfl
            have hp_1 : v5.cell? ⟨w.heap.size + 1 + 1, 1, none⟩ = some (.int .i64 p.2) := (HP.out.cell 1).trans rfl
            have hq_0 : v5.cell? ⟨gq, 0, none⟩ = some (.int .i64 p.1) := (HQ.out.cell 0).trans rfl
            have hq_1 : v5.cell? ⟨gq, 1, none⟩ = some (.int .i64 p.2) := (HQ.out.cell 1).trans rfl
            have hv_0 : v5.cell? ⟨gv, 0, none⟩ = some (.int .i64 v.1) := (HV.out.cell 0).trans rfl
            have hv_1 : v5.cell? ⟨gv, 1, none⟩ = some (.int .i64 v.2) := (HV.out.cell 1).trans rfl
            have fq0 := HQ.out.frozen 0
            have fq1 := HQ.out.frozen 1
            go_wp2_with fail
            refine (WK.out _).mono ?_
            rintro e v6 ⟨rfl, hb1⟩
            go_wp2
            go_ret
            exact ⟨rfl, ((HB.out.setCell (by dsimp only; omega) _).setCell (by dsimp only; omega) _).trans (hb1.mono (by have := HB.out.size; simp [World.setCell]; omega))⟩
    · have hv : bkV c p = (0, 0) := by unfold bkV; rw [if_neg hz]
      have CP := Lib.hid (fun W => Back_any c p W)
      rw [hv] at CP
      obtain ⟨er, her⟩ : ∃ e, bkEr c p = e := ⟨_, rfl⟩
      rw [her] at CP
      have d1 : (er != 0) = true := by rw [← her]; simpa using hz
      have d2 : (er == 0) = false := by rw [← her]; simpa using hz
      clear hz her hv
      have eqz := fun W : World => eq_smp_ 0 0 W
      go_wp2_with fail
      refine (CP.out _).mono ?_
      rintro e v1 ⟨rfl, hb1⟩
      replace HK := Lib.hid (HK.out.below hb1 HK.out.lt)
      replace HP := Lib.hid (HP.out.below hb1 HP.out.lt)
      replace HL := Lib.hid (HL.out.below hb1 HL.out.lt)
      replace HQ := Lib.hid (HQ.out.below hb1 HQ.out.lt)
      replace HB := Lib.hid (HB.out.trans (hb1.mono HB.out.size))
      clear hb1
      clear hk_0 hk_1 hk_2 hk_3 hk_4 hk_5 hk_6 hp_0 hp_1
      have zv1 := HL.out.lt
      have zv1a : w.heap.size < v1.heap.size := by omega
      have zv1b : w.heap.size + 1 < v1.heap.size := by omega
      have zv1c : w.heap.size + 1 + 1 < v1.heap.size := by omega
      go_wp2_with fail
      refine (WK.out _).mono ?_
      rintro e v2 ⟨rfl, hb1⟩
      go_wp2
      go_ret
      exact ⟨rfl, (HB.out.alloc HB.out.size _).trans (hb1.mono (by have := HB.out.size; simp; omega))⟩
end Go.Proofs.Ytaiigdbbpdkamaa
