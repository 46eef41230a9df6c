/-
  The walk of GrooveCuts.
-/
import Derived.Test.YtaiigdbbpdkamaaK8
import Derived.Test.YtaiigdbbpdkamaaN3
import Derived.Test.YtaiigdbbpdkamaaR6
import Derived.Test.YtaiigdbbpdkamaaZ2
namespace Go.Proofs.Ytaiigdbbpdkamaa
open Go.RowKit

theorem cutRes_len (c : Ctr) (l : List Smp) : (cutRes c l).length ≤ l.length := by
  unfold cutRes; split <;> simp
set_option maxRecDepth 100000 in
set_option maxHeartbeats 4000000 in
theorem cuts_walk (B : Nat) (A A2 : Option Addr) (n k n2 k2 : Nat) (c : Ctr) (s p : Smp) (l m : List Smp) (w : World) (h0 : RS w B A n l) (g0 : RS w B A2 n2 m) (hB : B ≤ w.heap.size) (hl : n ≤ 9223372036854775807) (hl2 : n2 ≤ 9223372036854775807) (hi : I64s l) (hs : I64 s.1 ∧ I64 s.2) :
    Calls Try.prog 3 #[.agg #[.int .i64 c.half, .int .i64 c.gain, .int .i64 c.thin, .int .i64 c.wide, .int .i64 c.slope, .int .i64 c.jerk, .int .i64 c.stylus], .agg #[.int .i64 s.1, .int .i64 s.2], .agg #[.int .i64 p.1, .int .i64 p.2], .slice A n k, .slice A2 n2 k2] w fun e w' => e = .returned (.bool true) ∧ Below w.heap.size w w' := by
  have HN := Lib.hid h0.1
  have H := Lib.hid (h0.more hB)
  have G := Lib.hid (g0.more hB)
  clear h0 g0 hB
  have WK := Lib.hid (fun W => Works_any W)
  have LG := Lib.hid (fun W => long_any n W)
  have LM := Lib.hid (fun W => long_any n2 W)
  have C1 := Lib.hid (fun W => Wall_any c s W)
  have C2 := Lib.hid (fun W => refWall_any c s W hs)
  have C3 := Lib.hid (fun W (hb : Below w.heap.size w W) => Cut_any w.heap.size A n k c l W (H.out.below hb (Nat.le_refl _)) hb.size hl)
  have C4 := Lib.hid (fun W (hb : Below w.heap.size w W) => refCut_any w.heap.size A n k c l W (H.out.below hb (Nat.le_refl _)) hb.size hl hi)
  have C5 := Lib.hid (fun W => Back_any c p W)
  have C6 := Lib.hid (fun W => refBack_any c p W)
  obtain ⟨q, hq⟩ : ∃ q, wallV c s = q := ⟨_, rfl⟩
  obtain ⟨e1, h1⟩ : ∃ q, cutEr c [s] = q := ⟨_, rfl⟩
  obtain ⟨e2, h2⟩ : ∃ q, cutEr c l = q := ⟨_, rfl⟩
  obtain ⟨v, hv⟩ : ∃ q, bkV c p = q := ⟨_, rfl⟩
  obtain ⟨e3, h3⟩ : ∃ q, bkEr c p = q := ⟨_, rfl⟩
  rw [hq, h1] at C1 C2
  rw [h2] at C3 C4
  rw [hv, h3] at C5 C6
  clear hq h1 h2 hv h3 hi hs
  obtain ⟨b, hb⟩ : ∃ b, lng n = b := ⟨_, rfl⟩
  rw [hb] at LG
  clear hb
  obtain ⟨b2, hb⟩ : ∃ b, lng n2 = b := ⟨_, rfl⟩
  rw [hb] at LM
  clear hb
  cases b
  · cases b2
    · skip
      go_enter Try.func3, Try.ntmps3
      go_wp2_with fail
      obtain ⟨W0, hW⟩ : ∃ W0, ((w.alloc (.cells #[.int .i64 c.half, .int .i64 c.gain, .int .i64 c.thin, .int .i64 c.wide, .int .i64 c.slope, .int .i64 c.jerk, .int .i64 c.stylus] 23)).alloc (.cells #[.int .i64 s.1, .int .i64 s.2] 25)).alloc (.cells #[.int .i64 p.1, .int .i64 p.2] 27) = W0 := ⟨_, rfl⟩
      have HK : Hid (Blk W0 w.heap.size 23 #[.int .i64 c.half, .int .i64 c.gain, .int .i64 c.thin, .int .i64 c.wide, .int .i64 c.slope, .int .i64 c.jerk, .int .i64 c.stylus]) := Lib.hid (by rw [← hW]; exact ((Blk.new _ _ _).alloc _).alloc _)
      have HS : Hid (Blk W0 (w.heap.size + 1) 25 #[.int .i64 s.1, .int .i64 s.2]) := Lib.hid (by rw [← hW]; exact (blk_al (by simp)).alloc _)
      have HP : Hid (Blk W0 (w.heap.size + 1 + 1) 27 #[.int .i64 p.1, .int .i64 p.2]) := Lib.hid (by rw [← hW]; exact blk_al (by simp))
      have HB : Hid (Below w.heap.size w W0) := Lib.hid (by rw [← hW]; exact (((Below.refl _ w).alloc (Nat.le_refl _) _).alloc (by simp) _).alloc (by simp <;> omega) _)
      rw [hW]
      clear hW
      refine (LG.out _).mono ?_
      rintro e w' ⟨rfl, rfl⟩
      go_wp2_with fail
      refine (LM.out _).mono ?_
      rintro e w' ⟨rfl, rfl⟩
      have hk_0 : W0.cell? ⟨w.heap.size, 0, none⟩ = some (.int .i64 c.half) := (HK.out.cell 0).trans rfl
      have hk_1 : W0.cell? ⟨w.heap.size, 1, none⟩ = some (.int .i64 c.gain) := (HK.out.cell 1).trans rfl
      have hk_2 : W0.cell? ⟨w.heap.size, 2, none⟩ = some (.int .i64 c.thin) := (HK.out.cell 2).trans rfl
      have hk_3 : W0.cell? ⟨w.heap.size, 3, none⟩ = some (.int .i64 c.wide) := (HK.out.cell 3).trans rfl
      have hk_4 : W0.cell? ⟨w.heap.size, 4, none⟩ = some (.int .i64 c.slope) := (HK.out.cell 4).trans rfl
      have hk_5 : W0.cell? ⟨w.heap.size, 5, none⟩ = some (.int .i64 c.jerk) := (HK.out.cell 5).trans rfl
      have hk_6 : W0.cell? ⟨w.heap.size, 6, none⟩ = some (.int .i64 c.stylus) := (HK.out.cell 6).trans rfl
      have hs_0 : W0.cell? ⟨w.heap.size + 1, 0, none⟩ = some (.int .i64 s.1) := (HS.out.cell 0).trans rfl
      have hs_1 : W0.cell? ⟨w.heap.size + 1, 1, none⟩ = some (.int .i64 s.2) := (HS.out.cell 1).trans rfl
      go_wp2_with fail
      refine (C1.out _).mono ?_
      rintro e w1 ⟨rfl, hb1⟩
      replace HK := Lib.hid (HK.out.below hb1 HK.out.lt)
      replace HS := Lib.hid (HS.out.below hb1 HS.out.lt)
      replace HP := Lib.hid (HP.out.below hb1 HP.out.lt)
      replace HB := Lib.hid (HB.out.trans (hb1.mono HB.out.size))
      clear hb1
      clear hk_0 hk_1 hk_2 hk_3 hk_4 hk_5 hk_6 hs_0 hs_1
      have zw1 := HP.out.lt
      have zw1a : w.heap.size < w1.heap.size := by omega
      have zw1b : w.heap.size + 1 < w1.heap.size := by omega
      have hk_0 : w1.cell? ⟨w.heap.size, 0, none⟩ = some (.int .i64 c.half) := (HK.out.cell 0).trans rfl
      have hk_1 : w1.cell? ⟨w.heap.size, 1, none⟩ = some (.int .i64 c.gain) := (HK.out.cell 1).trans rfl
      have hk_2 : w1.cell? ⟨w.heap.size, 2, none⟩ = some (.int .i64 c.thin) := (HK.out.cell 2).trans rfl
      have hk_3 : w1.cell? ⟨w.heap.size, 3, none⟩ = some (.int .i64 c.wide) := (HK.out.cell 3).trans rfl
      have hk_4 : w1.cell? ⟨w.heap.size, 4, none⟩ = some (.int .i64 c.slope) := (HK.out.cell 4).trans rfl
      have hk_5 : w1.cell? ⟨w.heap.size, 5, none⟩ = some (.int .i64 c.jerk) := (HK.out.cell 5).trans rfl
      have hk_6 : w1.cell? ⟨w.heap.size, 6, none⟩ = some (.int .i64 c.stylus) := (HK.out.cell 6).trans rfl
      have hs_0 : w1.cell? ⟨w.heap.size + 1, 0, none⟩ = some (.int .i64 s.1) := (HS.out.cell 0).trans rfl
      have hs_1 : w1.cell? ⟨w.heap.size + 1, 1, none⟩ = some (.int .i64 s.2) := (HS.out.cell 1).trans rfl
      go_wp2_with fail
      obtain ⟨W1, hW⟩ : ∃ W, w1.alloc (.cells #[.int .i64 q.1, .int .i64 q.2] 27) = W := ⟨_, rfl⟩
      obtain ⟨ga, hga⟩ : ∃ g, w1.heap.size = g := ⟨_, rfl⟩
      replace HK : Hid (Blk W1 (w.heap.size) 23 #[.int .i64 c.half, .int .i64 c.gain, .int .i64 c.thin, .int .i64 c.wide, .int .i64 c.slope, .int .i64 c.jerk, .int .i64 c.stylus]) := Lib.hid (by rw [← hW]; exact HK.out.alloc _)
      replace HS : Hid (Blk W1 (w.heap.size + 1) 25 #[.int .i64 s.1, .int .i64 s.2]) := Lib.hid (by rw [← hW]; exact HS.out.alloc _)
      replace HP : Hid (Blk W1 (w.heap.size + 1 + 1) 27 #[.int .i64 p.1, .int .i64 p.2]) := Lib.hid (by rw [← hW]; exact HP.out.alloc _)
      have HA : Hid (Blk W1 ga 27 #[.int .i64 q.1, .int .i64 q.2]) := Lib.hid (by rw [← hW]; exact blk_al hga)
      replace HB : Hid (Below w.heap.size w W1) := Lib.hid (by rw [← hW]; exact HB.out.alloc HB.out.size _)
      rw [hW, hga]
      rw [hga] at zw1
      clear hW hga zw1a zw1b
      refine (C2.out _).mono ?_
      rintro e w2 ⟨rfl, hb1⟩
      replace HK := Lib.hid (HK.out.below hb1 HK.out.lt)
      replace HS := Lib.hid (HS.out.below hb1 HS.out.lt)
      replace HP := Lib.hid (HP.out.below hb1 HP.out.lt)
      replace HA := Lib.hid (HA.out.below hb1 HA.out.lt)
      replace HB := Lib.hid (HB.out.trans (hb1.mono HB.out.size))
      clear hb1
      clear hk_0 hk_1 hk_2 hk_3 hk_4 hk_5 hk_6 hs_0 hs_1
      have zw2 := HP.out.lt
      have zw2a : w.heap.size < w2.heap.size := by omega
      have zw2b : w.heap.size + 1 < w2.heap.size := by omega
      have hk_0 : w2.cell? ⟨w.heap.size, 0, none⟩ = some (.int .i64 c.half) := (HK.out.cell 0).trans rfl
      have hk_1 : w2.cell? ⟨w.heap.size, 1, none⟩ = some (.int .i64 c.gain) := (HK.out.cell 1).trans rfl
      have hk_2 : w2.cell? ⟨w.heap.size, 2, none⟩ = some (.int .i64 c.thin) := (HK.out.cell 2).trans rfl
      have hk_3 : w2.cell? ⟨w.heap.size, 3, none⟩ = some (.int .i64 c.wide) := (HK.out.cell 3).trans rfl
      have hk_4 : w2.cell? ⟨w.heap.size, 4, none⟩ = some (.int .i64 c.slope) := (HK.out.cell 4).trans rfl
      have hk_5 : w2.cell? ⟨w.heap.size, 5, none⟩ = some (.int .i64 c.jerk) := (HK.out.cell 5).trans rfl
      have hk_6 : w2.cell? ⟨w.heap.size, 6, none⟩ = some (.int .i64 c.stylus) := (HK.out.cell 6).trans rfl
      go_wp2_with fail
      obtain ⟨W2, hW⟩ : ∃ W, w2.alloc (.cells #[.int .i64 q.1, .int .i64 q.2] 27) = W := ⟨_, rfl⟩
      obtain ⟨gb, hgb⟩ : ∃ g, w2.heap.size = g := ⟨_, rfl⟩
      replace HK : Hid (Blk W2 (w.heap.size) 23 #[.int .i64 c.half, .int .i64 c.gain, .int .i64 c.thin, .int .i64 c.wide, .int .i64 c.slope, .int .i64 c.jerk, .int .i64 c.stylus]) := Lib.hid (by rw [← hW]; exact HK.out.alloc _)
      replace HS : Hid (Blk W2 (w.heap.size + 1) 25 #[.int .i64 s.1, .int .i64 s.2]) := Lib.hid (by rw [← hW]; exact HS.out.alloc _)
      replace HP : Hid (Blk W2 (w.heap.size + 1 + 1) 27 #[.int .i64 p.1, .int .i64 p.2]) := Lib.hid (by rw [← hW]; exact HP.out.alloc _)
      replace HA : Hid (Blk W2 (ga) 27 #[.int .i64 q.1, .int .i64 q.2]) := Lib.hid (by rw [← hW]; exact HA.out.alloc _)
      have HA2 : Hid (Blk W2 gb 27 #[.int .i64 q.1, .int .i64 q.2]) := Lib.hid (by rw [← hW]; exact blk_al hgb)
      replace HB : Hid (Below w.heap.size w W2) := Lib.hid (by rw [← hW]; exact HB.out.alloc HB.out.size _)
      rw [hW, hgb]
      rw [hgb] at zw2
      clear hW hgb zw2a zw2b
      refine Calls.mono (C3.out _ HB.out) ?_
      rintro e w3 ⟨A3, n3, k3, rfl, hr3, hb1⟩
      have RX := Lib.hid hr3
      clear hr3
      replace HK := Lib.hid (HK.out.below hb1 HK.out.lt)
      replace HS := Lib.hid (HS.out.below hb1 HS.out.lt)
      replace HP := Lib.hid (HP.out.below hb1 HP.out.lt)
      replace HA := Lib.hid (HA.out.below hb1 HA.out.lt)
      replace HA2 := Lib.hid (HA2.out.below hb1 HA2.out.lt)
      replace HB := Lib.hid (HB.out.trans (hb1.mono HB.out.size))
      clear hb1
      clear hk_0 hk_1 hk_2 hk_3 hk_4 hk_5 hk_6
      have hk_0 : w3.cell? ⟨w.heap.size, 0, none⟩ = some (.int .i64 c.half) := (HK.out.cell 0).trans rfl
      have hk_1 : w3.cell? ⟨w.heap.size, 1, none⟩ = some (.int .i64 c.gain) := (HK.out.cell 1).trans rfl
      have hk_2 : w3.cell? ⟨w.heap.size, 2, none⟩ = some (.int .i64 c.thin) := (HK.out.cell 2).trans rfl
      have hk_3 : w3.cell? ⟨w.heap.size, 3, none⟩ = some (.int .i64 c.wide) := (HK.out.cell 3).trans rfl
      have hk_4 : w3.cell? ⟨w.heap.size, 4, none⟩ = some (.int .i64 c.slope) := (HK.out.cell 4).trans rfl
      have hk_5 : w3.cell? ⟨w.heap.size, 5, none⟩ = some (.int .i64 c.jerk) := (HK.out.cell 5).trans rfl
      have hk_6 : w3.cell? ⟨w.heap.size, 6, none⟩ = some (.int .i64 c.stylus) := (HK.out.cell 6).trans rfl
      go_wp2_with fail
      refine Calls.mono (C4.out _ HB.out) ?_
      rintro e w4 ⟨A4, n4, k4, rfl, hr4, hnk, hb1⟩
      clear hnk
      have RY := Lib.hid hr4
      clear hr4
      replace HK := Lib.hid (HK.out.below hb1 HK.out.lt)
      replace HS := Lib.hid (HS.out.below hb1 HS.out.lt)
      replace HP := Lib.hid (HP.out.below hb1 HP.out.lt)
      replace HA := Lib.hid (HA.out.below hb1 HA.out.lt)
      replace HA2 := Lib.hid (HA2.out.below hb1 HA2.out.lt)
      replace RX := Lib.hid ((RX.out.below hb1 (Nat.le_refl _)).more hb1.size)
      replace HB := Lib.hid (HB.out.trans (hb1.mono HB.out.size))
      clear hb1
      clear hk_0 hk_1 hk_2 hk_3 hk_4 hk_5 hk_6
      have hk_0 : w4.cell? ⟨w.heap.size, 0, none⟩ = some (.int .i64 c.half) := (HK.out.cell 0).trans rfl
      have hk_1 : w4.cell? ⟨w.heap.size, 1, none⟩ = some (.int .i64 c.gain) := (HK.out.cell 1).trans rfl
      have hk_2 : w4.cell? ⟨w.heap.size, 2, none⟩ = some (.int .i64 c.thin) := (HK.out.cell 2).trans rfl
      have hk_3 : w4.cell? ⟨w.heap.size, 3, none⟩ = some (.int .i64 c.wide) := (HK.out.cell 3).trans rfl
      have hk_4 : w4.cell? ⟨w.heap.size, 4, none⟩ = some (.int .i64 c.slope) := (HK.out.cell 4).trans rfl
      have hk_5 : w4.cell? ⟨w.heap.size, 5, none⟩ = some (.int .i64 c.jerk) := (HK.out.cell 5).trans rfl
      have hk_6 : w4.cell? ⟨w.heap.size, 6, none⟩ = some (.int .i64 c.stylus) := (HK.out.cell 6).trans rfl
      have hp_0 : w4.cell? ⟨w.heap.size + 1 + 1, 0, none⟩ = some (.int .i64 p.1) := (HP.out.cell 0).trans rfl
      have hp_1 : w4.cell? ⟨w.heap.size + 1 + 1, 1, none⟩ = some (.int .i64 p.2) := (HP.out.cell 1).trans rfl
      go_wp2_with fail
      refine (C5.out _).mono ?_
      rintro e w5 ⟨rfl, hb1⟩
      replace HK := Lib.hid (HK.out.below hb1 HK.out.lt)
      replace HS := Lib.hid (HS.out.below hb1 HS.out.lt)
      replace HP := Lib.hid (HP.out.below hb1 HP.out.lt)
      replace HA := Lib.hid (HA.out.below hb1 HA.out.lt)
      replace HA2 := Lib.hid (HA2.out.below hb1 HA2.out.lt)
      replace RX := Lib.hid ((RX.out.below hb1 (Nat.le_refl _)).more hb1.size)
      replace RY := Lib.hid ((RY.out.below hb1 (Nat.le_refl _)).more hb1.size)
      replace HB := Lib.hid (HB.out.trans (hb1.mono HB.out.size))
      clear hb1
      clear hk_0 hk_1 hk_2 hk_3 hk_4 hk_5 hk_6 hp_0 hp_1
      have zw5 := HP.out.lt
      have zw5a : w.heap.size < w5.heap.size := by omega
      have zw5b : w.heap.size + 1 < w5.heap.size := by omega
      have hk_0 : w5.cell? ⟨w.heap.size, 0, none⟩ = some (.int .i64 c.half) := (HK.out.cell 0).trans rfl
      have hk_1 : w5.cell? ⟨w.heap.size, 1, none⟩ = some (.int .i64 c.gain) := (HK.out.cell 1).trans rfl
      have hk_2 : w5.cell? ⟨w.heap.size, 2, none⟩ = some (.int .i64 c.thin) := (HK.out.cell 2).trans rfl
      have hk_3 : w5.cell? ⟨w.heap.size, 3, none⟩ = some (.int .i64 c.wide) := (HK.out.cell 3).trans rfl
      have hk_4 : w5.cell? ⟨w.heap.size, 4, none⟩ = some (.int .i64 c.slope) := (HK.out.cell 4).trans rfl
      have hk_5 : w5.cell? ⟨w.heap.size, 5, none⟩ = some (.int .i64 c.jerk) := (HK.out.cell 5).trans rfl
      have hk_6 : w5.cell? ⟨w.heap.size, 6, none⟩ = some (.int .i64 c.stylus) := (HK.out.cell 6).trans rfl
      have hp_0 : w5.cell? ⟨w.heap.size + 1 + 1, 0, none⟩ = some (.int .i64 p.1) := (HP.out.cell 0).trans rfl
      have hp_1 : w5.cell? ⟨w.heap.size + 1 + 1, 1, none⟩ = some (.int .i64 p.2) := (HP.out.cell 1).trans rfl
      go_wp2_with fail
      obtain ⟨W5, hW⟩ : ∃ W, w5.alloc (.cells #[.int .i64 v.1, .int .i64 v.2] 25) = W := ⟨_, rfl⟩
      obtain ⟨gu, hgu⟩ : ∃ g, w5.heap.size = g := ⟨_, rfl⟩
      replace HK : Hid (Blk W5 (w.heap.size) 23 #[.int .i64 c.half, .int .i64 c.gain, .int .i64 c.thin, .int .i64 c.wide, .int .i64 c.slope, .int .i64 c.jerk, .int .i64 c.stylus]) := Lib.hid (by rw [← hW]; exact HK.out.alloc _)
      replace HS : Hid (Blk W5 (w.heap.size + 1) 25 #[.int .i64 s.1, .int .i64 s.2]) := Lib.hid (by rw [← hW]; exact HS.out.alloc _)
      replace HP : Hid (Blk W5 (w.heap.size + 1 + 1) 27 #[.int .i64 p.1, .int .i64 p.2]) := Lib.hid (by rw [← hW]; exact HP.out.alloc _)
      replace HA : Hid (Blk W5 (ga) 27 #[.int .i64 q.1, .int .i64 q.2]) := Lib.hid (by rw [← hW]; exact HA.out.alloc _)
      replace HA2 : Hid (Blk W5 (gb) 27 #[.int .i64 q.1, .int .i64 q.2]) := Lib.hid (by rw [← hW]; exact HA2.out.alloc _)
      replace RX := Lib.hid (show RS W5 W5.heap.size A3 n3 (cutRes c l) from by rw [← hW]; exact (RX.out.below (below_a _ _) (Nat.le_refl _)).more (below_a _ _).size)
      replace RY := Lib.hid (show RS W5 W5.heap.size A4 n4 (cutRes c l) from by rw [← hW]; exact (RY.out.below (below_a _ _) (Nat.le_refl _)).more (below_a _ _).size)
      have HU : Hid (Blk W5 gu 25 #[.int .i64 v.1, .int .i64 v.2]) := Lib.hid (by rw [← hW]; exact blk_al hgu)
      replace HB : Hid (Below w.heap.size w W5) := Lib.hid (by rw [← hW]; exact HB.out.alloc HB.out.size _)
      rw [hW, hgu]
      rw [hgu] at zw5
      clear hW hgu zw5a zw5b
      refine (C6.out _).mono ?_
      rintro e w6 ⟨rfl, hb1⟩
      replace HK := Lib.hid (HK.out.below hb1 HK.out.lt)
      replace HS := Lib.hid (HS.out.below hb1 HS.out.lt)
      replace HP := Lib.hid (HP.out.below hb1 HP.out.lt)
      replace HA := Lib.hid (HA.out.below hb1 HA.out.lt)
      replace HA2 := Lib.hid (HA2.out.below hb1 HA2.out.lt)
      replace HU := Lib.hid (HU.out.below hb1 HU.out.lt)
      replace RX := Lib.hid ((RX.out.below hb1 (Nat.le_refl _)).more hb1.size)
      replace RY := Lib.hid ((RY.out.below hb1 (Nat.le_refl _)).more hb1.size)
      replace HB := Lib.hid (HB.out.trans (hb1.mono HB.out.size))
      clear hb1
      clear hk_0 hk_1 hk_2 hk_3 hk_4 hk_5 hk_6 hp_0 hp_1
      have zw6 := HP.out.lt
      have zw6a : w.heap.size < w6.heap.size := by omega
      have zw6b : w.heap.size + 1 < w6.heap.size := by omega
      go_wp2_with fail
      obtain ⟨W6, hW⟩ : ∃ W, w6.alloc (.cells #[.int .i64 v.1, .int .i64 v.2] 25) = W := ⟨_, rfl⟩
      obtain ⟨gv, hgv⟩ : ∃ g, w6.heap.size = g := ⟨_, rfl⟩
      replace HK : Hid (Blk W6 (w.heap.size) 23 #[.int .i64 c.half, .int .i64 c.gain, .int .i64 c.thin, .int .i64 c.wide, .int .i64 c.slope, .int .i64 c.jerk, .int .i64 c.stylus]) := Lib.hid (by rw [← hW]; exact HK.out.alloc _)
      replace HS : Hid (Blk W6 (w.heap.size + 1) 25 #[.int .i64 s.1, .int .i64 s.2]) := Lib.hid (by rw [← hW]; exact HS.out.alloc _)
      replace HP : Hid (Blk W6 (w.heap.size + 1 + 1) 27 #[.int .i64 p.1, .int .i64 p.2]) := Lib.hid (by rw [← hW]; exact HP.out.alloc _)
      replace HA : Hid (Blk W6 (ga) 27 #[.int .i64 q.1, .int .i64 q.2]) := Lib.hid (by rw [← hW]; exact HA.out.alloc _)
      replace HA2 : Hid (Blk W6 (gb) 27 #[.int .i64 q.1, .int .i64 q.2]) := Lib.hid (by rw [← hW]; exact HA2.out.alloc _)
      replace HU : Hid (Blk W6 (gu) 25 #[.int .i64 v.1, .int .i64 v.2]) := Lib.hid (by rw [← hW]; exact HU.out.alloc _)
      replace RX := Lib.hid (show RS W6 W6.heap.size A3 n3 (cutRes c l) from by rw [← hW]; exact (RX.out.below (below_a _ _) (Nat.le_refl _)).more (below_a _ _).size)
      replace RY := Lib.hid (show RS W6 W6.heap.size A4 n4 (cutRes c l) from by rw [← hW]; exact (RY.out.below (below_a _ _) (Nat.le_refl _)).more (below_a _ _).size)
      have HU2 : Hid (Blk W6 gv 25 #[.int .i64 v.1, .int .i64 v.2]) := Lib.hid (by rw [← hW]; exact blk_al hgv)
      replace HB : Hid (Below w.heap.size w W6) := Lib.hid (by rw [← hW]; exact HB.out.alloc HB.out.size _)
      rw [hW, hgv]
      rw [hgv] at zw6
      clear hW hgv zw6a zw6b
      have D1 := Lib.hid (fun x : Lat W6 => Check_any c x.w)
      have D2 := Lib.hid (fun x : Lat W6 => refCheck_any c x.w)
      have D3 := Lib.hid (fun x : Lat W6 => CheckPoints_any w.heap.size A2 n2 k2 m x.w (G.out.below (HB.out.trans (x.below.mono HB.out.size)) (Nat.le_refl _)) (Nat.le_trans HB.out.size x.below.size) hl2)
      have D4 := Lib.hid (fun x : Lat W6 => refCheckPoints_any w.heap.size A2 n2 k2 m x.w (G.out.below (HB.out.trans (x.below.mono HB.out.size)) (Nat.le_refl _)) (Nat.le_trans HB.out.size x.below.size) hl2)
      have hn3 : n3 ≤ 9223372036854775807 := by have h := RX.out.1; have h2 := cutRes_len c l; have := HN.out; omega
      have D5 := Lib.hid (fun x : Lat W6 => Same_any W6.heap.size A3 A4 n3 k3 n4 k4 (cutRes c l) x.w (RX.out.below x.below (Nat.le_refl _)) (RY.out.below x.below (Nat.le_refl _)) x.below.size hn3)
      have D6 := Lib.hid (fun x : Lat W6 => Works_any x.w)
      have eqq := fun W : World => eqPt q.1 q.2 W
      have eqv := fun W : World => eqSm v.1 v.2 W
      obtain ⟨y1, hy1⟩ : ∃ y, ckC c = y := ⟨_, rfl⟩
      obtain ⟨y2, hy2⟩ : ∃ y, ckG m = y := ⟨_, rfl⟩
      rw [hy1] at D1 D2
      rw [hy2] at D3 D4
      clear hy1 hy2 hn3
      have hk_0 := Lat.cell (w := W6) (p := ⟨w.heap.size, 0, none⟩) (v := .int .i64 c.half) ((HK.out.cell 0).trans rfl)
      have hk_1 := Lat.cell (w := W6) (p := ⟨w.heap.size, 1, none⟩) (v := .int .i64 c.gain) ((HK.out.cell 1).trans rfl)
      have hk_2 := Lat.cell (w := W6) (p := ⟨w.heap.size, 2, none⟩) (v := .int .i64 c.thin) ((HK.out.cell 2).trans rfl)
      have hk_3 := Lat.cell (w := W6) (p := ⟨w.heap.size, 3, none⟩) (v := .int .i64 c.wide) ((HK.out.cell 3).trans rfl)
      have hk_4 := Lat.cell (w := W6) (p := ⟨w.heap.size, 4, none⟩) (v := .int .i64 c.slope) ((HK.out.cell 4).trans rfl)
      have hk_5 := Lat.cell (w := W6) (p := ⟨w.heap.size, 5, none⟩) (v := .int .i64 c.jerk) ((HK.out.cell 5).trans rfl)
      have hk_6 := Lat.cell (w := W6) (p := ⟨w.heap.size, 6, none⟩) (v := .int .i64 c.stylus) ((HK.out.cell 6).trans rfl)
      have ha_0 := Lat.cell (w := W6) (p := ⟨ga, 0, none⟩) (v := .int .i64 q.1) ((HA.out.cell 0).trans rfl)
      have ha_1 := Lat.cell (w := W6) (p := ⟨ga, 1, none⟩) (v := .int .i64 q.2) ((HA.out.cell 1).trans rfl)
      have ha2_0 := Lat.cell (w := W6) (p := ⟨gb, 0, none⟩) (v := .int .i64 q.1) ((HA2.out.cell 0).trans rfl)
      have ha2_1 := Lat.cell (w := W6) (p := ⟨gb, 1, none⟩) (v := .int .i64 q.2) ((HA2.out.cell 1).trans rfl)
      have hu_0 := Lat.cell (w := W6) (p := ⟨gu, 0, none⟩) (v := .int .i64 v.1) ((HU.out.cell 0).trans rfl)
      have hu_1 := Lat.cell (w := W6) (p := ⟨gu, 1, none⟩) (v := .int .i64 v.2) ((HU.out.cell 1).trans rfl)
      have hu2_0 := Lat.cell (w := W6) (p := ⟨gv, 0, none⟩) (v := .int .i64 v.1) ((HU2.out.cell 0).trans rfl)
      have hu2_1 := Lat.cell (w := W6) (p := ⟨gv, 1, none⟩) (v := .int .i64 v.2) ((HU2.out.cell 1).trans rfl)
      try dsimp only [List.append]
      refine wp_region_lat (by kernel_rfl) (by kernel_rfl) ?_
      repeat (go_big_quiet_step ((first | (with_reducible exact Calls.lat (D1.out _)) | (with_reducible exact Calls.lat (D2.out _)) | (with_reducible exact Calls.lat (D3.out _)) | (with_reducible exact Calls.lat (D4.out _)) | (with_reducible exact Calls.lat (D5.out _)) | (with_reducible exact Calls.lat (D6.out _)))))
      refine wpQuiet_nil ?_
      intro W7 hw'
      have hb1 := lat_out hw'
      clear hw'
      go_wp2
      go_ret
      exact ⟨rfl, HB.out.trans (hb1.mono HB.out.size)⟩
    · skip
      go_enter Try.func3, Try.ntmps3
      go_wp2_with fail
      obtain ⟨W0, hW⟩ : ∃ W0, ((w.alloc (.cells #[.int .i64 c.half, .int .i64 c.gain, .int .i64 c.thin, .int .i64 c.wide, .int .i64 c.slope, .int .i64 c.jerk, .int .i64 c.stylus] 23)).alloc (.cells #[.int .i64 s.1, .int .i64 s.2] 25)).alloc (.cells #[.int .i64 p.1, .int .i64 p.2] 27) = W0 := ⟨_, rfl⟩
      have HK : Hid (Blk W0 w.heap.size 23 #[.int .i64 c.half, .int .i64 c.gain, .int .i64 c.thin, .int .i64 c.wide, .int .i64 c.slope, .int .i64 c.jerk, .int .i64 c.stylus]) := Lib.hid (by rw [← hW]; exact ((Blk.new _ _ _).alloc _).alloc _)
      have HS : Hid (Blk W0 (w.heap.size + 1) 25 #[.int .i64 s.1, .int .i64 s.2]) := Lib.hid (by rw [← hW]; exact (blk_al (by simp)).alloc _)
      have HP : Hid (Blk W0 (w.heap.size + 1 + 1) 27 #[.int .i64 p.1, .int .i64 p.2]) := Lib.hid (by rw [← hW]; exact blk_al (by simp))
      have HB : Hid (Below w.heap.size w W0) := Lib.hid (by rw [← hW]; exact (((Below.refl _ w).alloc (Nat.le_refl _) _).alloc (by simp) _).alloc (by simp <;> omega) _)
      rw [hW]
      clear hW
      refine (LG.out _).mono ?_
      rintro e w' ⟨rfl, rfl⟩
      go_wp2_with fail
      refine (LM.out _).mono ?_
      rintro e w' ⟨rfl, rfl⟩
      go_wp2_with fail
      refine (WK.out _).mono ?_
      rintro e v9 ⟨rfl, hb1⟩
      go_wp2
      go_ret
      exact ⟨rfl, HB.out.trans (hb1.mono HB.out.size)⟩
  · skip
    go_enter Try.func3, Try.ntmps3
    go_wp2_with fail
    obtain ⟨W0, hW⟩ : ∃ W0, ((w.alloc (.cells #[.int .i64 c.half, .int .i64 c.gain, .int .i64 c.thin, .int .i64 c.wide, .int .i64 c.slope, .int .i64 c.jerk, .int .i64 c.stylus] 23)).alloc (.cells #[.int .i64 s.1, .int .i64 s.2] 25)).alloc (.cells #[.int .i64 p.1, .int .i64 p.2] 27) = W0 := ⟨_, rfl⟩
    have HK : Hid (Blk W0 w.heap.size 23 #[.int .i64 c.half, .int .i64 c.gain, .int .i64 c.thin, .int .i64 c.wide, .int .i64 c.slope, .int .i64 c.jerk, .int .i64 c.stylus]) := Lib.hid (by rw [← hW]; exact ((Blk.new _ _ _).alloc _).alloc _)
    have HS : Hid (Blk W0 (w.heap.size + 1) 25 #[.int .i64 s.1, .int .i64 s.2]) := Lib.hid (by rw [← hW]; exact (blk_al (by simp)).alloc _)
    have HP : Hid (Blk W0 (w.heap.size + 1 + 1) 27 #[.int .i64 p.1, .int .i64 p.2]) := Lib.hid (by rw [← hW]; exact blk_al (by simp))
    have HB : Hid (Below w.heap.size w W0) := Lib.hid (by rw [← hW]; exact (((Below.refl _ w).alloc (Nat.le_refl _) _).alloc (by simp) _).alloc (by simp <;> omega) _)
    rw [hW]
    clear hW
    refine (LG.out _).mono ?_
    rintro e w' ⟨rfl, rfl⟩
    go_wp2_with fail
    refine (WK.out _).mono ?_
    rintro e v9 ⟨rfl, hb1⟩
    go_wp2
    go_ret
    exact ⟨rfl, HB.out.trans (hb1.mono HB.out.size)⟩
end Go.Proofs.Ytaiigdbbpdkamaa
