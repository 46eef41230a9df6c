/-
  The document's Needs of a groove.
-/
import Derived.Test.YtaiigdbbpdkamaaR5
namespace Go.Proofs.Ytaiigdbbpdkamaa
open Go.RowKit

set_option maxRecDepth 100000 in
set_option maxHeartbeats 4000000 in
theorem refNeedsE_any (B : Nat) (A : Option Addr) (n k : Nat) (c : Ctr) (l : List Smp) (per i : Int) (w : World) (h0 : RS w B A n l) (hB : B ≤ w.heap.size) (hl : n ≤ 9223372036854775807) (hk : n ≤ k) :
    Calls Try.prog 35 #[.agg #[.int .i64 c.half, .int .i64 c.gain, .int .i64 c.thin, .int .i64 c.wide, .int .i64 c.slope, .int .i64 c.jerk, .int .i64 c.stylus], .slice A n k, .int .i64 per, .int .i64 i] w (LePost (ndQ c l per i) w) := by
  have HN := Lib.hid h0.1
  have H := Lib.hid (h0.more hB)
  clear h0 hB
  have GR := Lib.hid (fun W (hb : Below w.heap.size w W) => refGrooved_any w.heap.size A n k c l W (H.out.below hb (Nat.le_refl _)) hb.size hl)
  have CT := Lib.hid (fun W => refTurn_any per W)
  rcases ckGr_or c l [ckT per] with ⟨g1, g2, g3, g4⟩ | ⟨g1, g2⟩
  · rw [g1] at GR
    rcases ckT_3 per with h1 | h1
    · rw [h1] at CT
      have he : lsEr c l per = 0 := by unfold lsEr; rw [g4, h1]; rfl
      obtain ⟨hc, hed, p1, p2⟩ := ls_ok he
      have hl4 : n ≤ 4096 := by
        have := HN.out
        unfold ckG at g3
        split at g3 <;> omega
      have HE := Lib.hid he
      clear he g1 g2 g3 g4 h1
      by_cases i0 : i < 0
      · have hi1 : decide (i < 0) = true := decide_eq_true i0
        go_enter Try.func35, Try.ntmps35
        go_wp2_with fail
        obtain ⟨W0, hW⟩ : ∃ W0, w.alloc (.cells #[.int .i64 c.half, .int .i64 c.gain, .int .i64 c.thin, .int .i64 c.wide, .int .i64 c.slope, .int .i64 c.jerk, .int .i64 c.stylus] 23) = W0 := ⟨_, rfl⟩
        have HK : Hid (Blk W0 w.heap.size 23 #[.int .i64 c.half, .int .i64 c.gain, .int .i64 c.thin, .int .i64 c.wide, .int .i64 c.slope, .int .i64 c.jerk, .int .i64 c.stylus]) := Lib.hid (by rw [← hW]; exact Blk.new _ _ _)
        have HB : Hid (Below w.heap.size w W0) := Lib.hid (by rw [← hW]; exact (Below.refl _ w).alloc (Nat.le_refl _) _)
        rw [hW]
        clear hW
        refine (GR.out _ HB.out).mono ?_
        rintro e w1 ⟨rfl, hb1⟩
        replace HK := Lib.hid (HK.out.below hb1 HK.out.lt)
        replace HB := Lib.hid (HB.out.trans (hb1.mono HB.out.size))
        clear hb1
        have hk_0 : w1.cell? ⟨w.heap.size, 0, none⟩ = some (.int .i64 c.half) := (HK.out.cell 0).trans rfl
        have hk_1 : w1.cell? ⟨w.heap.size, 1, none⟩ = some (.int .i64 c.gain) := (HK.out.cell 1).trans rfl
        have hk_2 : w1.cell? ⟨w.heap.size, 2, none⟩ = some (.int .i64 c.thin) := (HK.out.cell 2).trans rfl
        have hk_3 : w1.cell? ⟨w.heap.size, 3, none⟩ = some (.int .i64 c.wide) := (HK.out.cell 3).trans rfl
        have hk_4 : w1.cell? ⟨w.heap.size, 4, none⟩ = some (.int .i64 c.slope) := (HK.out.cell 4).trans rfl
        have hk_5 : w1.cell? ⟨w.heap.size, 5, none⟩ = some (.int .i64 c.jerk) := (HK.out.cell 5).trans rfl
        have hk_6 : w1.cell? ⟨w.heap.size, 6, none⟩ = some (.int .i64 c.stylus) := (HK.out.cell 6).trans rfl
        go_wp2_with fail
        refine (CT.out _).mono ?_
        rintro e w' ⟨rfl, rfl⟩
        go_wp2
        go_ret2
        exact ⟨_, _, rfl, by unfold ndQ; rw [if_pos HE.out, if_pos (.inl i0)]; exact ⟨rfl, rfl⟩, HB.out⟩
      by_cases i1 : (n : Int) ≤ i
      · have hi1 : decide (i < 0) = false := decide_eq_false i0
        have hi2 : decide ((n : Int) ≤ i) = true := decide_eq_true i1
        go_enter Try.func35, Try.ntmps35
        go_wp2_with fail
        obtain ⟨W0, hW⟩ : ∃ W0, w.alloc (.cells #[.int .i64 c.half, .int .i64 c.gain, .int .i64 c.thin, .int .i64 c.wide, .int .i64 c.slope, .int .i64 c.jerk, .int .i64 c.stylus] 23) = W0 := ⟨_, rfl⟩
        have HK : Hid (Blk W0 w.heap.size 23 #[.int .i64 c.half, .int .i64 c.gain, .int .i64 c.thin, .int .i64 c.wide, .int .i64 c.slope, .int .i64 c.jerk, .int .i64 c.stylus]) := Lib.hid (by rw [← hW]; exact Blk.new _ _ _)
        have HB : Hid (Below w.heap.size w W0) := Lib.hid (by rw [← hW]; exact (Below.refl _ w).alloc (Nat.le_refl _) _)
        rw [hW]
        clear hW
        refine (GR.out _ HB.out).mono ?_
        rintro e w1 ⟨rfl, hb1⟩
        replace HK := Lib.hid (HK.out.below hb1 HK.out.lt)
        replace HB := Lib.hid (HB.out.trans (hb1.mono HB.out.size))
        clear hb1
        have hk_0 : w1.cell? ⟨w.heap.size, 0, none⟩ = some (.int .i64 c.half) := (HK.out.cell 0).trans rfl
        have hk_1 : w1.cell? ⟨w.heap.size, 1, none⟩ = some (.int .i64 c.gain) := (HK.out.cell 1).trans rfl
        have hk_2 : w1.cell? ⟨w.heap.size, 2, none⟩ = some (.int .i64 c.thin) := (HK.out.cell 2).trans rfl
        have hk_3 : w1.cell? ⟨w.heap.size, 3, none⟩ = some (.int .i64 c.wide) := (HK.out.cell 3).trans rfl
        have hk_4 : w1.cell? ⟨w.heap.size, 4, none⟩ = some (.int .i64 c.slope) := (HK.out.cell 4).trans rfl
        have hk_5 : w1.cell? ⟨w.heap.size, 5, none⟩ = some (.int .i64 c.jerk) := (HK.out.cell 5).trans rfl
        have hk_6 : w1.cell? ⟨w.heap.size, 6, none⟩ = some (.int .i64 c.stylus) := (HK.out.cell 6).trans rfl
        go_wp2_with fail
        refine (CT.out _).mono ?_
        rintro e w' ⟨rfl, rfl⟩
        go_wp2
        go_ret2
        exact ⟨_, _, rfl, by unfold ndQ; rw [if_pos HE.out, if_pos (.inr (by rw [← HN.out]; exact i1))]; exact ⟨rfl, rfl⟩, HB.out⟩
      obtain ⟨j, rfl⟩ := Int.eq_ofNat_of_zero_le (show 0 ≤ i by omega)
      have hlt : j < n := by omega
      have HQI : Hid (∀ v er, LeastIs (fun r => brk c l r per j == 0) v er → ndQ c l per (j : Int) v er) := Lib.hid (fun v er h => by
        unfold ndQ; rw [if_pos HE.out, if_neg (by have := HN.out; omega)]; exact h)
      have HM := Lib.hid (brk_mono (l := l) (i := j) hc p1 p2)
      have BK := Lib.hid (fun (r : Int) (r1 : 0 ≤ r) (r2 : r ≤ 4194304) (x : Int) (hx : x = ((j - (j - 1) : Nat) : Int)) (W : World) (hb : Below w.heap.size w W) => refBroken_nbr w.heap.size A n k c l r per j W (H.out.below hb (Nat.le_refl _)) hb.size hl4 hk hlt hed hc ⟨r1, r2, p1, p2⟩ x hx)
      obtain ⟨nb, hnb⟩ : ∃ x, min n (j + 2) - (j - 1) = x := ⟨_, rfl⟩
      have SL := Lib.hid (fun F T hF hT W => slice_nbr A n k j F T hF hT hlt hk W)
      rw [hnb] at BK SL
      have hw1 : IntKind.i64.wrap ((j : Int) - 1) = (j : Int) - 1 := IntWalk.i64_in _ (by omega)
      have hw2 : IntKind.i64.wrap ((j : Int) + 2) = (j : Int) + 2 := IntWalk.i64_in _ (by omega)
      have hi1 : decide ((j : Int) < 0) = false := decide_eq_false i0
      have hi2 : decide ((n : Int) ≤ (j : Int)) = false := decide_eq_false i1
      clear hnb hc hed i0 i1
      by_cases ha : 1 < j
      · by_cases hb2 : j + 2 < n
        · have ha1 : (1 : Int) < (j : Int) := by omega
          have ha2 : (0 : Int) < (j : Int) - 1 := by omega
          have hb3 : (j : Int) + 2 < (n : Int) := by omega
          have hw3 : IntKind.i64.wrap ((j : Int) - ((j : Int) - 1)) = 1 := by rw [IntWalk.i64_in _ (by omega)]; omega
          have hw4 : (j : Int) - ((j : Int) - 1) = 1 := by omega
          have sl := SL.out ((j : Int) - 1) ((j : Int) + 2) (by omega) (by omega)
          go_enter Try.func35, Try.ntmps35
          go_wp2_with fail
          obtain ⟨W0, hW⟩ : ∃ W0, w.alloc (.cells #[.int .i64 c.half, .int .i64 c.gain, .int .i64 c.thin, .int .i64 c.wide, .int .i64 c.slope, .int .i64 c.jerk, .int .i64 c.stylus] 23) = W0 := ⟨_, rfl⟩
          have HK : Hid (Blk W0 w.heap.size 23 #[.int .i64 c.half, .int .i64 c.gain, .int .i64 c.thin, .int .i64 c.wide, .int .i64 c.slope, .int .i64 c.jerk, .int .i64 c.stylus]) := Lib.hid (by rw [← hW]; exact Blk.new _ _ _)
          have HB : Hid (Below w.heap.size w W0) := Lib.hid (by rw [← hW]; exact (Below.refl _ w).alloc (Nat.le_refl _) _)
          rw [hW]
          clear hW
          refine (GR.out _ HB.out).mono ?_
          rintro e w1 ⟨rfl, hb1⟩
          replace HK := Lib.hid (HK.out.below hb1 HK.out.lt)
          replace HB := Lib.hid (HB.out.trans (hb1.mono HB.out.size))
          clear hb1
          have hk_0 : w1.cell? ⟨w.heap.size, 0, none⟩ = some (.int .i64 c.half) := (HK.out.cell 0).trans rfl
          have hk_1 : w1.cell? ⟨w.heap.size, 1, none⟩ = some (.int .i64 c.gain) := (HK.out.cell 1).trans rfl
          have hk_2 : w1.cell? ⟨w.heap.size, 2, none⟩ = some (.int .i64 c.thin) := (HK.out.cell 2).trans rfl
          have hk_3 : w1.cell? ⟨w.heap.size, 3, none⟩ = some (.int .i64 c.wide) := (HK.out.cell 3).trans rfl
          have hk_4 : w1.cell? ⟨w.heap.size, 4, none⟩ = some (.int .i64 c.slope) := (HK.out.cell 4).trans rfl
          have hk_5 : w1.cell? ⟨w.heap.size, 5, none⟩ = some (.int .i64 c.jerk) := (HK.out.cell 5).trans rfl
          have hk_6 : w1.cell? ⟨w.heap.size, 6, none⟩ = some (.int .i64 c.stylus) := (HK.out.cell 6).trans rfl
          go_wp2_with fail
          refine (CT.out _).mono ?_
          rintro e w' ⟨rfl, rfl⟩
          replace HK := Lib.hid HK.out
          clear hk_0 hk_1 hk_2 hk_3 hk_4 hk_5 hk_6
          go_wp2_with fail
          go_loopw [12, 13] (fun a b wr => ∃ lo hi : Int, a = .int .i64 lo ∧ b = .int .i64 hi ∧ 0 ≤ lo ∧ lo ≤ hi ∧ hi ≤ 4194305 ∧ Hid (Half (fun r => brk c l r per j == 0) lo hi) ∧ Hid (Blk wr w.heap.size 23 #[.int .i64 c.half, .int .i64 c.gain, .int .i64 c.thin, .int .i64 c.wide, .int .i64 c.slope, .int .i64 c.jerk, .int .i64 c.stylus]) ∧ Hid (Below w.heap.size w wr)) (fun a b _ => (intOf b - intOf a).toNat)
          case atStart => exact ⟨0, 4194305, rfl, rfl, by omega, by omega, by omega, Lib.hid ⟨.inl rfl, fun q q1 q2 => absurd q2 (by omega)⟩, HK, HB⟩
          case round =>
            clear HK HB
            obtain ⟨lo, hi, rfl, rfl, h1, h2, h3, HH, HK, HB⟩ := hrel
            by_cases hlh : lo < hi
            · obtain ⟨mid, hmid⟩ : ∃ mid, (lo + hi) / 2 = mid := ⟨_, rfl⟩
              have hm1 : lo ≤ mid ∧ mid < hi := by omega
              obtain ⟨hm1, hm2⟩ := hm1
              have HMID := Lib.hid hmid
              have BM := Lib.hid (BK.out mid (by omega) (by omega) 1 (by omega))
              obtain ⟨b, hbb⟩ : ∃ b, brk c l mid per j = b := ⟨_, rfl⟩
              rw [hbb] at BM
              by_cases hz : b = 0
              · have HH2 := Lib.hid (HH.out.hi (mid := mid) (by show (brk c l mid per j == 0) = true; rw [hbb]; simpa using hz))
                have hz1 : (b == 0) = true := by simpa using hz
                clear hz hbb
                go_wp2_with fail
                try dsimp only [List.append]
                have hk_0 := Lat.cell (w := wr) (p := ⟨w.heap.size, 0, none⟩) (v := .int .i64 c.half) ((HK.out.cell 0).trans rfl)
                have hk_1 := Lat.cell (w := wr) (p := ⟨w.heap.size, 1, none⟩) (v := .int .i64 c.gain) ((HK.out.cell 1).trans rfl)
                have hk_2 := Lat.cell (w := wr) (p := ⟨w.heap.size, 2, none⟩) (v := .int .i64 c.thin) ((HK.out.cell 2).trans rfl)
                have hk_3 := Lat.cell (w := wr) (p := ⟨w.heap.size, 3, none⟩) (v := .int .i64 c.wide) ((HK.out.cell 3).trans rfl)
                have hk_4 := Lat.cell (w := wr) (p := ⟨w.heap.size, 4, none⟩) (v := .int .i64 c.slope) ((HK.out.cell 4).trans rfl)
                have hk_5 := Lat.cell (w := wr) (p := ⟨w.heap.size, 5, none⟩) (v := .int .i64 c.jerk) ((HK.out.cell 5).trans rfl)
                have hk_6 := Lat.cell (w := wr) (p := ⟨w.heap.size, 6, none⟩) (v := .int .i64 c.stylus) ((HK.out.cell 6).trans rfl)
                refine wp_region_lat (by kernel_rfl) (by kernel_rfl) ?_
                repeat (go_big_quiet_step ((first | (with_reducible exact Calls.lat (BM.out _ (HB.out.trans ((Lat.below _).mono HB.out.size)))))))
                refine wpQuiet_nil ?_
                intro W2 hw'
                have hb1 := lat_out hw'
                replace HK := Lib.hid (HK.out.below hb1 HK.out.lt)
                replace HB := Lib.hid (HB.out.trans (hb1.mono HB.out.size))
                clear hb1 hw' hmid
                clear hk_0 hk_1 hk_2 hk_3 hk_4 hk_5 hk_6
                go_wp2_with fail
                go_roundw
                case rel => exact ⟨lo, mid, by first | rfl | go_num, by first | rfl | exact congrArg _ (by have := HMID.out; omega), h1, by omega, by omega, HH2, HK, HB⟩
                case measure => have := HMID.out; simp [intOf]; omega
              · have HH2 := Lib.hid (HH.out.lo HM.out (mid := mid) (by omega) (by show (brk c l mid per j == 0) = false; rw [hbb]; simpa using hz))
                have hz1 : (b == 0) = false := by simpa using hz
                clear hz hbb
                go_wp2_with fail
                try dsimp only [List.append]
                have hk_0 := Lat.cell (w := wr) (p := ⟨w.heap.size, 0, none⟩) (v := .int .i64 c.half) ((HK.out.cell 0).trans rfl)
                have hk_1 := Lat.cell (w := wr) (p := ⟨w.heap.size, 1, none⟩) (v := .int .i64 c.gain) ((HK.out.cell 1).trans rfl)
                have hk_2 := Lat.cell (w := wr) (p := ⟨w.heap.size, 2, none⟩) (v := .int .i64 c.thin) ((HK.out.cell 2).trans rfl)
                have hk_3 := Lat.cell (w := wr) (p := ⟨w.heap.size, 3, none⟩) (v := .int .i64 c.wide) ((HK.out.cell 3).trans rfl)
                have hk_4 := Lat.cell (w := wr) (p := ⟨w.heap.size, 4, none⟩) (v := .int .i64 c.slope) ((HK.out.cell 4).trans rfl)
                have hk_5 := Lat.cell (w := wr) (p := ⟨w.heap.size, 5, none⟩) (v := .int .i64 c.jerk) ((HK.out.cell 5).trans rfl)
                have hk_6 := Lat.cell (w := wr) (p := ⟨w.heap.size, 6, none⟩) (v := .int .i64 c.stylus) ((HK.out.cell 6).trans rfl)
                refine wp_region_lat (by kernel_rfl) (by kernel_rfl) ?_
                repeat (go_big_quiet_step ((first | (with_reducible exact Calls.lat (BM.out _ (HB.out.trans ((Lat.below _).mono HB.out.size)))))))
                refine wpQuiet_nil ?_
                intro W2 hw'
                have hb1 := lat_out hw'
                replace HK := Lib.hid (HK.out.below hb1 HK.out.lt)
                replace HB := Lib.hid (HB.out.trans (hb1.mono HB.out.size))
                clear hb1 hw' hmid
                clear hk_0 hk_1 hk_2 hk_3 hk_4 hk_5 hk_6
                go_wp2_with fail
                go_roundw
                case rel => exact ⟨mid + 1, hi, by first | rfl | exact congrArg _ (by have := HMID.out; omega), by first | rfl | go_num, by omega, by omega, h3, HH2, HK, HB⟩
                case measure => have := HMID.out; simp [intOf]; omega
            · obtain rfl : lo = hi := by omega
              have hf := HH.out.fin h1 h3
              by_cases hg : 4194304 < lo
              · rw [if_pos hg] at hf
                have HF := Lib.hid hf
                clear hf
                go_wp2_with fail
                go_ret2
                exact ⟨_, _, rfl, HQI.out _ _ HF.out, HB.out⟩
              · rw [if_neg hg] at hf
                have HF := Lib.hid hf
                clear hf
                go_wp2_with fail
                go_ret2
                exact ⟨_, _, rfl, HQI.out _ _ HF.out, HB.out⟩
        · have ha1 : (1 : Int) < (j : Int) := by omega
          have ha2 : (0 : Int) < (j : Int) - 1 := by omega
          have hb3 : (n : Int) ≤ (j : Int) + 2 := by omega
          have hw3 : IntKind.i64.wrap ((j : Int) - ((j : Int) - 1)) = 1 := by rw [IntWalk.i64_in _ (by omega)]; omega
          have hw4 : (j : Int) - ((j : Int) - 1) = 1 := by omega
          have sl := SL.out ((j : Int) - 1) (n : Int) (by omega) (by omega)
          go_enter Try.func35, Try.ntmps35
          go_wp2_with fail
          obtain ⟨W0, hW⟩ : ∃ W0, w.alloc (.cells #[.int .i64 c.half, .int .i64 c.gain, .int .i64 c.thin, .int .i64 c.wide, .int .i64 c.slope, .int .i64 c.jerk, .int .i64 c.stylus] 23) = W0 := ⟨_, rfl⟩
          have HK : Hid (Blk W0 w.heap.size 23 #[.int .i64 c.half, .int .i64 c.gain, .int .i64 c.thin, .int .i64 c.wide, .int .i64 c.slope, .int .i64 c.jerk, .int .i64 c.stylus]) := Lib.hid (by rw [← hW]; exact Blk.new _ _ _)
          have HB : Hid (Below w.heap.size w W0) := Lib.hid (by rw [← hW]; exact (Below.refl _ w).alloc (Nat.le_refl _) _)
          rw [hW]
          clear hW
          refine (GR.out _ HB.out).mono ?_
          rintro e w1 ⟨rfl, hb1⟩
          replace HK := Lib.hid (HK.out.below hb1 HK.out.lt)
          replace HB := Lib.hid (HB.out.trans (hb1.mono HB.out.size))
          clear hb1
          have hk_0 : w1.cell? ⟨w.heap.size, 0, none⟩ = some (.int .i64 c.half) := (HK.out.cell 0).trans rfl
          have hk_1 : w1.cell? ⟨w.heap.size, 1, none⟩ = some (.int .i64 c.gain) := (HK.out.cell 1).trans rfl
          have hk_2 : w1.cell? ⟨w.heap.size, 2, none⟩ = some (.int .i64 c.thin) := (HK.out.cell 2).trans rfl
          have hk_3 : w1.cell? ⟨w.heap.size, 3, none⟩ = some (.int .i64 c.wide) := (HK.out.cell 3).trans rfl
          have hk_4 : w1.cell? ⟨w.heap.size, 4, none⟩ = some (.int .i64 c.slope) := (HK.out.cell 4).trans rfl
          have hk_5 : w1.cell? ⟨w.heap.size, 5, none⟩ = some (.int .i64 c.jerk) := (HK.out.cell 5).trans rfl
          have hk_6 : w1.cell? ⟨w.heap.size, 6, none⟩ = some (.int .i64 c.stylus) := (HK.out.cell 6).trans rfl
          go_wp2_with fail
          refine (CT.out _).mono ?_
          rintro e w' ⟨rfl, rfl⟩
          replace HK := Lib.hid HK.out
          clear hk_0 hk_1 hk_2 hk_3 hk_4 hk_5 hk_6
          go_wp2_with fail
          go_loopw [12, 13] (fun a b wr => ∃ lo hi : Int, a = .int .i64 lo ∧ b = .int .i64 hi ∧ 0 ≤ lo ∧ lo ≤ hi ∧ hi ≤ 4194305 ∧ Hid (Half (fun r => brk c l r per j == 0) lo hi) ∧ Hid (Blk wr w.heap.size 23 #[.int .i64 c.half, .int .i64 c.gain, .int .i64 c.thin, .int .i64 c.wide, .int .i64 c.slope, .int .i64 c.jerk, .int .i64 c.stylus]) ∧ Hid (Below w.heap.size w wr)) (fun a b _ => (intOf b - intOf a).toNat)
          case atStart => exact ⟨0, 4194305, rfl, rfl, by omega, by omega, by omega, Lib.hid ⟨.inl rfl, fun q q1 q2 => absurd q2 (by omega)⟩, HK, HB⟩
          case round =>
            clear HK HB
            obtain ⟨lo, hi, rfl, rfl, h1, h2, h3, HH, HK, HB⟩ := hrel
            by_cases hlh : lo < hi
            · obtain ⟨mid, hmid⟩ : ∃ mid, (lo + hi) / 2 = mid := ⟨_, rfl⟩
              have hm1 : lo ≤ mid ∧ mid < hi := by omega
              obtain ⟨hm1, hm2⟩ := hm1
              have HMID := Lib.hid hmid
              have BM := Lib.hid (BK.out mid (by omega) (by omega) 1 (by omega))
              obtain ⟨b, hbb⟩ : ∃ b, brk c l mid per j = b := ⟨_, rfl⟩
              rw [hbb] at BM
              by_cases hz : b = 0
              · have HH2 := Lib.hid (HH.out.hi (mid := mid) (by show (brk c l mid per j == 0) = true; rw [hbb]; simpa using hz))
                have hz1 : (b == 0) = true := by simpa using hz
                clear hz hbb
                go_wp2_with fail
                try dsimp only [List.append]
                have hk_0 := Lat.cell (w := wr) (p := ⟨w.heap.size, 0, none⟩) (v := .int .i64 c.half) ((HK.out.cell 0).trans rfl)
                have hk_1 := Lat.cell (w := wr) (p := ⟨w.heap.size, 1, none⟩) (v := .int .i64 c.gain) ((HK.out.cell 1).trans rfl)
                have hk_2 := Lat.cell (w := wr) (p := ⟨w.heap.size, 2, none⟩) (v := .int .i64 c.thin) ((HK.out.cell 2).trans rfl)
                have hk_3 := Lat.cell (w := wr) (p := ⟨w.heap.size, 3, none⟩) (v := .int .i64 c.wide) ((HK.out.cell 3).trans rfl)
                have hk_4 := Lat.cell (w := wr) (p := ⟨w.heap.size, 4, none⟩) (v := .int .i64 c.slope) ((HK.out.cell 4).trans rfl)
                have hk_5 := Lat.cell (w := wr) (p := ⟨w.heap.size, 5, none⟩) (v := .int .i64 c.jerk) ((HK.out.cell 5).trans rfl)
                have hk_6 := Lat.cell (w := wr) (p := ⟨w.heap.size, 6, none⟩) (v := .int .i64 c.stylus) ((HK.out.cell 6).trans rfl)
                refine wp_region_lat (by kernel_rfl) (by kernel_rfl) ?_
                repeat (go_big_quiet_step ((first | (with_reducible exact Calls.lat (BM.out _ (HB.out.trans ((Lat.below _).mono HB.out.size)))))))
                refine wpQuiet_nil ?_
                intro W2 hw'
                have hb1 := lat_out hw'
                replace HK := Lib.hid (HK.out.below hb1 HK.out.lt)
                replace HB := Lib.hid (HB.out.trans (hb1.mono HB.out.size))
                clear hb1 hw' hmid
                clear hk_0 hk_1 hk_2 hk_3 hk_4 hk_5 hk_6
                go_wp2_with fail
                go_roundw
                case rel => exact ⟨lo, mid, by first | rfl | go_num, by first | rfl | exact congrArg _ (by have := HMID.out; omega), h1, by omega, by omega, HH2, HK, HB⟩
                case measure => have := HMID.out; simp [intOf]; omega
              · have HH2 := Lib.hid (HH.out.lo HM.out (mid := mid) (by omega) (by show (brk c l mid per j == 0) = false; rw [hbb]; simpa using hz))
                have hz1 : (b == 0) = false := by simpa using hz
                clear hz hbb
                go_wp2_with fail
                try dsimp only [List.append]
                have hk_0 := Lat.cell (w := wr) (p := ⟨w.heap.size, 0, none⟩) (v := .int .i64 c.half) ((HK.out.cell 0).trans rfl)
                have hk_1 := Lat.cell (w := wr) (p := ⟨w.heap.size, 1, none⟩) (v := .int .i64 c.gain) ((HK.out.cell 1).trans rfl)
                have hk_2 := Lat.cell (w := wr) (p := ⟨w.heap.size, 2, none⟩) (v := .int .i64 c.thin) ((HK.out.cell 2).trans rfl)
                have hk_3 := Lat.cell (w := wr) (p := ⟨w.heap.size, 3, none⟩) (v := .int .i64 c.wide) ((HK.out.cell 3).trans rfl)
                have hk_4 := Lat.cell (w := wr) (p := ⟨w.heap.size, 4, none⟩) (v := .int .i64 c.slope) ((HK.out.cell 4).trans rfl)
                have hk_5 := Lat.cell (w := wr) (p := ⟨w.heap.size, 5, none⟩) (v := .int .i64 c.jerk) ((HK.out.cell 5).trans rfl)
                have hk_6 := Lat.cell (w := wr) (p := ⟨w.heap.size, 6, none⟩) (v := .int .i64 c.stylus) ((HK.out.cell 6).trans rfl)
                refine wp_region_lat (by kernel_rfl) (by kernel_rfl) ?_
                repeat (go_big_quiet_step ((first | (with_reducible exact Calls.lat (BM.out _ (HB.out.trans ((Lat.below _).mono HB.out.size)))))))
                refine wpQuiet_nil ?_
                intro W2 hw'
                have hb1 := lat_out hw'
                replace HK := Lib.hid (HK.out.below hb1 HK.out.lt)
                replace HB := Lib.hid (HB.out.trans (hb1.mono HB.out.size))
                clear hb1 hw' hmid
                clear hk_0 hk_1 hk_2 hk_3 hk_4 hk_5 hk_6
                go_wp2_with fail
                go_roundw
                case rel => exact ⟨mid + 1, hi, by first | rfl | exact congrArg _ (by have := HMID.out; omega), by first | rfl | go_num, by omega, by omega, h3, HH2, HK, HB⟩
                case measure => have := HMID.out; simp [intOf]; omega
            · obtain rfl : lo = hi := by omega
              have hf := HH.out.fin h1 h3
              by_cases hg : 4194304 < lo
              · rw [if_pos hg] at hf
                have HF := Lib.hid hf
                clear hf
                go_wp2_with fail
                go_ret2
                exact ⟨_, _, rfl, HQI.out _ _ HF.out, HB.out⟩
              · rw [if_neg hg] at hf
                have HF := Lib.hid hf
                clear hf
                go_wp2_with fail
                go_ret2
                exact ⟨_, _, rfl, HQI.out _ _ HF.out, HB.out⟩
      · by_cases hb2 : j + 2 < n
        · have ha1 : (j : Int) ≤ 1 := by omega
          have hb3 : (j : Int) + 2 < (n : Int) := by omega
          have sl := SL.out 0 ((j : Int) + 2) (by omega) (by omega)
          go_enter Try.func35, Try.ntmps35
          go_wp2_with fail
          obtain ⟨W0, hW⟩ : ∃ W0, w.alloc (.cells #[.int .i64 c.half, .int .i64 c.gain, .int .i64 c.thin, .int .i64 c.wide, .int .i64 c.slope, .int .i64 c.jerk, .int .i64 c.stylus] 23) = W0 := ⟨_, rfl⟩
          have HK : Hid (Blk W0 w.heap.size 23 #[.int .i64 c.half, .int .i64 c.gain, .int .i64 c.thin, .int .i64 c.wide, .int .i64 c.slope, .int .i64 c.jerk, .int .i64 c.stylus]) := Lib.hid (by rw [← hW]; exact Blk.new _ _ _)
          have HB : Hid (Below w.heap.size w W0) := Lib.hid (by rw [← hW]; exact (Below.refl _ w).alloc (Nat.le_refl _) _)
          rw [hW]
          clear hW
          refine (GR.out _ HB.out).mono ?_
          rintro e w1 ⟨rfl, hb1⟩
          replace HK := Lib.hid (HK.out.below hb1 HK.out.lt)
          replace HB := Lib.hid (HB.out.trans (hb1.mono HB.out.size))
          clear hb1
          have hk_0 : w1.cell? ⟨w.heap.size, 0, none⟩ = some (.int .i64 c.half) := (HK.out.cell 0).trans rfl
          have hk_1 : w1.cell? ⟨w.heap.size, 1, none⟩ = some (.int .i64 c.gain) := (HK.out.cell 1).trans rfl
          have hk_2 : w1.cell? ⟨w.heap.size, 2, none⟩ = some (.int .i64 c.thin) := (HK.out.cell 2).trans rfl
          have hk_3 : w1.cell? ⟨w.heap.size, 3, none⟩ = some (.int .i64 c.wide) := (HK.out.cell 3).trans rfl
          have hk_4 : w1.cell? ⟨w.heap.size, 4, none⟩ = some (.int .i64 c.slope) := (HK.out.cell 4).trans rfl
          have hk_5 : w1.cell? ⟨w.heap.size, 5, none⟩ = some (.int .i64 c.jerk) := (HK.out.cell 5).trans rfl
          have hk_6 : w1.cell? ⟨w.heap.size, 6, none⟩ = some (.int .i64 c.stylus) := (HK.out.cell 6).trans rfl
          go_wp2_with fail
          refine (CT.out _).mono ?_
          rintro e w' ⟨rfl, rfl⟩
          replace HK := Lib.hid HK.out
          clear hk_0 hk_1 hk_2 hk_3 hk_4 hk_5 hk_6
          go_wp2_with fail
          go_loopw [12, 13] (fun a b wr => ∃ lo hi : Int, a = .int .i64 lo ∧ b = .int .i64 hi ∧ 0 ≤ lo ∧ lo ≤ hi ∧ hi ≤ 4194305 ∧ Hid (Half (fun r => brk c l r per j == 0) lo hi) ∧ Hid (Blk wr w.heap.size 23 #[.int .i64 c.half, .int .i64 c.gain, .int .i64 c.thin, .int .i64 c.wide, .int .i64 c.slope, .int .i64 c.jerk, .int .i64 c.stylus]) ∧ Hid (Below w.heap.size w wr)) (fun a b _ => (intOf b - intOf a).toNat)
          case atStart => exact ⟨0, 4194305, rfl, rfl, by omega, by omega, by omega, Lib.hid ⟨.inl rfl, fun q q1 q2 => absurd q2 (by omega)⟩, HK, HB⟩
          case round =>
            clear HK HB
            obtain ⟨lo, hi, rfl, rfl, h1, h2, h3, HH, HK, HB⟩ := hrel
            by_cases hlh : lo < hi
            · obtain ⟨mid, hmid⟩ : ∃ mid, (lo + hi) / 2 = mid := ⟨_, rfl⟩
              have hm1 : lo ≤ mid ∧ mid < hi := by omega
              obtain ⟨hm1, hm2⟩ := hm1
              have HMID := Lib.hid hmid
              have BM := Lib.hid (BK.out mid (by omega) (by omega) (j : Int) (by omega))
              obtain ⟨b, hbb⟩ : ∃ b, brk c l mid per j = b := ⟨_, rfl⟩
              rw [hbb] at BM
              by_cases hz : b = 0
              · have HH2 := Lib.hid (HH.out.hi (mid := mid) (by show (brk c l mid per j == 0) = true; rw [hbb]; simpa using hz))
                have hz1 : (b == 0) = true := by simpa using hz
                clear hz hbb
                go_wp2_with fail
                try dsimp only [List.append]
                have hk_0 := Lat.cell (w := wr) (p := ⟨w.heap.size, 0, none⟩) (v := .int .i64 c.half) ((HK.out.cell 0).trans rfl)
                have hk_1 := Lat.cell (w := wr) (p := ⟨w.heap.size, 1, none⟩) (v := .int .i64 c.gain) ((HK.out.cell 1).trans rfl)
                have hk_2 := Lat.cell (w := wr) (p := ⟨w.heap.size, 2, none⟩) (v := .int .i64 c.thin) ((HK.out.cell 2).trans rfl)
                have hk_3 := Lat.cell (w := wr) (p := ⟨w.heap.size, 3, none⟩) (v := .int .i64 c.wide) ((HK.out.cell 3).trans rfl)
                have hk_4 := Lat.cell (w := wr) (p := ⟨w.heap.size, 4, none⟩) (v := .int .i64 c.slope) ((HK.out.cell 4).trans rfl)
                have hk_5 := Lat.cell (w := wr) (p := ⟨w.heap.size, 5, none⟩) (v := .int .i64 c.jerk) ((HK.out.cell 5).trans rfl)
                have hk_6 := Lat.cell (w := wr) (p := ⟨w.heap.size, 6, none⟩) (v := .int .i64 c.stylus) ((HK.out.cell 6).trans rfl)
                refine wp_region_lat (by kernel_rfl) (by kernel_rfl) ?_
                repeat (go_big_quiet_step ((first | (with_reducible exact Calls.lat (BM.out _ (HB.out.trans ((Lat.below _).mono HB.out.size)))))))
                refine wpQuiet_nil ?_
                intro W2 hw'
                have hb1 := lat_out hw'
                replace HK := Lib.hid (HK.out.below hb1 HK.out.lt)
                replace HB := Lib.hid (HB.out.trans (hb1.mono HB.out.size))
                clear hb1 hw' hmid
                clear hk_0 hk_1 hk_2 hk_3 hk_4 hk_5 hk_6
                go_wp2_with fail
                go_roundw
                case rel => exact ⟨lo, mid, by first | rfl | go_num, by first | rfl | exact congrArg _ (by have := HMID.out; omega), h1, by omega, by omega, HH2, HK, HB⟩
                case measure => have := HMID.out; simp [intOf]; omega
              · have HH2 := Lib.hid (HH.out.lo HM.out (mid := mid) (by omega) (by show (brk c l mid per j == 0) = false; rw [hbb]; simpa using hz))
                have hz1 : (b == 0) = false := by simpa using hz
                clear hz hbb
                go_wp2_with fail
                try dsimp only [List.append]
                have hk_0 := Lat.cell (w := wr) (p := ⟨w.heap.size, 0, none⟩) (v := .int .i64 c.half) ((HK.out.cell 0).trans rfl)
                have hk_1 := Lat.cell (w := wr) (p := ⟨w.heap.size, 1, none⟩) (v := .int .i64 c.gain) ((HK.out.cell 1).trans rfl)
                have hk_2 := Lat.cell (w := wr) (p := ⟨w.heap.size, 2, none⟩) (v := .int .i64 c.thin) ((HK.out.cell 2).trans rfl)
                have hk_3 := Lat.cell (w := wr) (p := ⟨w.heap.size, 3, none⟩) (v := .int .i64 c.wide) ((HK.out.cell 3).trans rfl)
                have hk_4 := Lat.cell (w := wr) (p := ⟨w.heap.size, 4, none⟩) (v := .int .i64 c.slope) ((HK.out.cell 4).trans rfl)
                have hk_5 := Lat.cell (w := wr) (p := ⟨w.heap.size, 5, none⟩) (v := .int .i64 c.jerk) ((HK.out.cell 5).trans rfl)
                have hk_6 := Lat.cell (w := wr) (p := ⟨w.heap.size, 6, none⟩) (v := .int .i64 c.stylus) ((HK.out.cell 6).trans rfl)
                refine wp_region_lat (by kernel_rfl) (by kernel_rfl) ?_
                repeat (go_big_quiet_step ((first | (with_reducible exact Calls.lat (BM.out _ (HB.out.trans ((Lat.below _).mono HB.out.size)))))))
                refine wpQuiet_nil ?_
                intro W2 hw'
                have hb1 := lat_out hw'
                replace HK := Lib.hid (HK.out.below hb1 HK.out.lt)
                replace HB := Lib.hid (HB.out.trans (hb1.mono HB.out.size))
                clear hb1 hw' hmid
                clear hk_0 hk_1 hk_2 hk_3 hk_4 hk_5 hk_6
                go_wp2_with fail
                go_roundw
                case rel => exact ⟨mid + 1, hi, by first | rfl | exact congrArg _ (by have := HMID.out; omega), by first | rfl | go_num, by omega, by omega, h3, HH2, HK, HB⟩
                case measure => have := HMID.out; simp [intOf]; omega
            · obtain rfl : lo = hi := by omega
              have hf := HH.out.fin h1 h3
              by_cases hg : 4194304 < lo
              · rw [if_pos hg] at hf
                have HF := Lib.hid hf
                clear hf
                go_wp2_with fail
                go_ret2
                exact ⟨_, _, rfl, HQI.out _ _ HF.out, HB.out⟩
              · rw [if_neg hg] at hf
                have HF := Lib.hid hf
                clear hf
                go_wp2_with fail
                go_ret2
                exact ⟨_, _, rfl, HQI.out _ _ HF.out, HB.out⟩
        · have ha1 : (j : Int) ≤ 1 := by omega
          have hb3 : (n : Int) ≤ (j : Int) + 2 := by omega
          have sl := SL.out 0 (n : Int) (by omega) (by omega)
          go_enter Try.func35, Try.ntmps35
          go_wp2_with fail
          obtain ⟨W0, hW⟩ : ∃ W0, w.alloc (.cells #[.int .i64 c.half, .int .i64 c.gain, .int .i64 c.thin, .int .i64 c.wide, .int .i64 c.slope, .int .i64 c.jerk, .int .i64 c.stylus] 23) = W0 := ⟨_, rfl⟩
          have HK : Hid (Blk W0 w.heap.size 23 #[.int .i64 c.half, .int .i64 c.gain, .int .i64 c.thin, .int .i64 c.wide, .int .i64 c.slope, .int .i64 c.jerk, .int .i64 c.stylus]) := Lib.hid (by rw [← hW]; exact Blk.new _ _ _)
          have HB : Hid (Below w.heap.size w W0) := Lib.hid (by rw [← hW]; exact (Below.refl _ w).alloc (Nat.le_refl _) _)
          rw [hW]
          clear hW
          refine (GR.out _ HB.out).mono ?_
          rintro e w1 ⟨rfl, hb1⟩
          replace HK := Lib.hid (HK.out.below hb1 HK.out.lt)
          replace HB := Lib.hid (HB.out.trans (hb1.mono HB.out.size))
          clear hb1
          have hk_0 : w1.cell? ⟨w.heap.size, 0, none⟩ = some (.int .i64 c.half) := (HK.out.cell 0).trans rfl
          have hk_1 : w1.cell? ⟨w.heap.size, 1, none⟩ = some (.int .i64 c.gain) := (HK.out.cell 1).trans rfl
          have hk_2 : w1.cell? ⟨w.heap.size, 2, none⟩ = some (.int .i64 c.thin) := (HK.out.cell 2).trans rfl
          have hk_3 : w1.cell? ⟨w.heap.size, 3, none⟩ = some (.int .i64 c.wide) := (HK.out.cell 3).trans rfl
          have hk_4 : w1.cell? ⟨w.heap.size, 4, none⟩ = some (.int .i64 c.slope) := (HK.out.cell 4).trans rfl
          have hk_5 : w1.cell? ⟨w.heap.size, 5, none⟩ = some (.int .i64 c.jerk) := (HK.out.cell 5).trans rfl
          have hk_6 : w1.cell? ⟨w.heap.size, 6, none⟩ = some (.int .i64 c.stylus) := (HK.out.cell 6).trans rfl
          go_wp2_with fail
          refine (CT.out _).mono ?_
          rintro e w' ⟨rfl, rfl⟩
          replace HK := Lib.hid HK.out
          clear hk_0 hk_1 hk_2 hk_3 hk_4 hk_5 hk_6
          go_wp2_with fail
          go_loopw [12, 13] (fun a b wr => ∃ lo hi : Int, a = .int .i64 lo ∧ b = .int .i64 hi ∧ 0 ≤ lo ∧ lo ≤ hi ∧ hi ≤ 4194305 ∧ Hid (Half (fun r => brk c l r per j == 0) lo hi) ∧ Hid (Blk wr w.heap.size 23 #[.int .i64 c.half, .int .i64 c.gain, .int .i64 c.thin, .int .i64 c.wide, .int .i64 c.slope, .int .i64 c.jerk, .int .i64 c.stylus]) ∧ Hid (Below w.heap.size w wr)) (fun a b _ => (intOf b - intOf a).toNat)
          case atStart => exact ⟨0, 4194305, rfl, rfl, by omega, by omega, by omega, Lib.hid ⟨.inl rfl, fun q q1 q2 => absurd q2 (by omega)⟩, HK, HB⟩
          case round =>
            clear HK HB
            obtain ⟨lo, hi, rfl, rfl, h1, h2, h3, HH, HK, HB⟩ := hrel
            by_cases hlh : lo < hi
            · obtain ⟨mid, hmid⟩ : ∃ mid, (lo + hi) / 2 = mid := ⟨_, rfl⟩
              have hm1 : lo ≤ mid ∧ mid < hi := by omega
              obtain ⟨hm1, hm2⟩ := hm1
              have HMID := Lib.hid hmid
              have BM := Lib.hid (BK.out mid (by omega) (by omega) (j : Int) (by omega))
              obtain ⟨b, hbb⟩ : ∃ b, brk c l mid per j = b := ⟨_, rfl⟩
              rw [hbb] at BM
              by_cases hz : b = 0
              · have HH2 := Lib.hid (HH.out.hi (mid := mid) (by show (brk c l mid per j == 0) = true; rw [hbb]; simpa using hz))
                have hz1 : (b == 0) = true := by simpa using hz
                clear hz hbb
                go_wp2_with fail
                try dsimp only [List.append]
                have hk_0 := Lat.cell (w := wr) (p := ⟨w.heap.size, 0, none⟩) (v := .int .i64 c.half) ((HK.out.cell 0).trans rfl)
                have hk_1 := Lat.cell (w := wr) (p := ⟨w.heap.size, 1, none⟩) (v := .int .i64 c.gain) ((HK.out.cell 1).trans rfl)
                have hk_2 := Lat.cell (w := wr) (p := ⟨w.heap.size, 2, none⟩) (v := .int .i64 c.thin) ((HK.out.cell 2).trans rfl)
                have hk_3 := Lat.cell (w := wr) (p := ⟨w.heap.size, 3, none⟩) (v := .int .i64 c.wide) ((HK.out.cell 3).trans rfl)
                have hk_4 := Lat.cell (w := wr) (p := ⟨w.heap.size, 4, none⟩) (v := .int .i64 c.slope) ((HK.out.cell 4).trans rfl)
                have hk_5 := Lat.cell (w := wr) (p := ⟨w.heap.size, 5, none⟩) (v := .int .i64 c.jerk) ((HK.out.cell 5).trans rfl)
                have hk_6 := Lat.cell (w := wr) (p := ⟨w.heap.size, 6, none⟩) (v := .int .i64 c.stylus) ((HK.out.cell 6).trans rfl)
                refine wp_region_lat (by kernel_rfl) (by kernel_rfl) ?_
                repeat (go_big_quiet_step ((first | (with_reducible exact Calls.lat (BM.out _ (HB.out.trans ((Lat.below _).mono HB.out.size)))))))
                refine wpQuiet_nil ?_
                intro W2 hw'
                have hb1 := lat_out hw'
                replace HK := Lib.hid (HK.out.below hb1 HK.out.lt)
                replace HB := Lib.hid (HB.out.trans (hb1.mono HB.out.size))
                clear hb1 hw' hmid
                clear hk_0 hk_1 hk_2 hk_3 hk_4 hk_5 hk_6
                go_wp2_with fail
                go_roundw
                case rel => exact ⟨lo, mid, by first | rfl | go_num, by first | rfl | exact congrArg _ (by have := HMID.out; omega), h1, by omega, by omega, HH2, HK, HB⟩
                case measure => have := HMID.out; simp [intOf]; omega
              · have HH2 := Lib.hid (HH.out.lo HM.out (mid := mid) (by omega) (by show (brk c l mid per j == 0) = false; rw [hbb]; simpa using hz))
                have hz1 : (b == 0) = false := by simpa using hz
                clear hz hbb
                go_wp2_with fail
                try dsimp only [List.append]
                have hk_0 := Lat.cell (w := wr) (p := ⟨w.heap.size, 0, none⟩) (v := .int .i64 c.half) ((HK.out.cell 0).trans rfl)
                have hk_1 := Lat.cell (w := wr) (p := ⟨w.heap.size, 1, none⟩) (v := .int .i64 c.gain) ((HK.out.cell 1).trans rfl)
                have hk_2 := Lat.cell (w := wr) (p := ⟨w.heap.size, 2, none⟩) (v := .int .i64 c.thin) ((HK.out.cell 2).trans rfl)
                have hk_3 := Lat.cell (w := wr) (p := ⟨w.heap.size, 3, none⟩) (v := .int .i64 c.wide) ((HK.out.cell 3).trans rfl)
                have hk_4 := Lat.cell (w := wr) (p := ⟨w.heap.size, 4, none⟩) (v := .int .i64 c.slope) ((HK.out.cell 4).trans rfl)
                have hk_5 := Lat.cell (w := wr) (p := ⟨w.heap.size, 5, none⟩) (v := .int .i64 c.jerk) ((HK.out.cell 5).trans rfl)
                have hk_6 := Lat.cell (w := wr) (p := ⟨w.heap.size, 6, none⟩) (v := .int .i64 c.stylus) ((HK.out.cell 6).trans rfl)
                refine wp_region_lat (by kernel_rfl) (by kernel_rfl) ?_
                repeat (go_big_quiet_step ((first | (with_reducible exact Calls.lat (BM.out _ (HB.out.trans ((Lat.below _).mono HB.out.size)))))))
                refine wpQuiet_nil ?_
                intro W2 hw'
                have hb1 := lat_out hw'
                replace HK := Lib.hid (HK.out.below hb1 HK.out.lt)
                replace HB := Lib.hid (HB.out.trans (hb1.mono HB.out.size))
                clear hb1 hw' hmid
                clear hk_0 hk_1 hk_2 hk_3 hk_4 hk_5 hk_6
                go_wp2_with fail
                go_roundw
                case rel => exact ⟨mid + 1, hi, by first | rfl | exact congrArg _ (by have := HMID.out; omega), by first | rfl | go_num, by omega, by omega, h3, HH2, HK, HB⟩
                case measure => have := HMID.out; simp [intOf]; omega
            · obtain rfl : lo = hi := by omega
              have hf := HH.out.fin h1 h3
              by_cases hg : 4194304 < lo
              · rw [if_pos hg] at hf
                have HF := Lib.hid hf
                clear hf
                go_wp2_with fail
                go_ret2
                exact ⟨_, _, rfl, HQI.out _ _ HF.out, HB.out⟩
              · rw [if_neg hg] at hf
                have HF := Lib.hid hf
                clear hf
                go_wp2_with fail
                go_ret2
                exact ⟨_, _, rfl, HQI.out _ _ HF.out, HB.out⟩
    · rw [h1] at CT
      have he : lsEr c l per = 3 := by unfold lsEr; rw [g4, h1]; rfl
      have HE := Lib.hid he
      clear he g1 g2 g3 g4 h1
      go_enter Try.func35, Try.ntmps35
      go_wp2_with fail
      obtain ⟨W0, hW⟩ : ∃ W0, w.alloc (.cells #[.int .i64 c.half, .int .i64 c.gain, .int .i64 c.thin, .int .i64 c.wide, .int .i64 c.slope, .int .i64 c.jerk, .int .i64 c.stylus] 23) = W0 := ⟨_, rfl⟩
      have HK : Hid (Blk W0 w.heap.size 23 #[.int .i64 c.half, .int .i64 c.gain, .int .i64 c.thin, .int .i64 c.wide, .int .i64 c.slope, .int .i64 c.jerk, .int .i64 c.stylus]) := Lib.hid (by rw [← hW]; exact Blk.new _ _ _)
      have HB : Hid (Below w.heap.size w W0) := Lib.hid (by rw [← hW]; exact (Below.refl _ w).alloc (Nat.le_refl _) _)
      rw [hW]
      clear hW
      refine (GR.out _ HB.out).mono ?_
      rintro e w1 ⟨rfl, hb1⟩
      replace HK := Lib.hid (HK.out.below hb1 HK.out.lt)
      replace HB := Lib.hid (HB.out.trans (hb1.mono HB.out.size))
      clear hb1
      have hk_0 : w1.cell? ⟨w.heap.size, 0, none⟩ = some (.int .i64 c.half) := (HK.out.cell 0).trans rfl
      have hk_1 : w1.cell? ⟨w.heap.size, 1, none⟩ = some (.int .i64 c.gain) := (HK.out.cell 1).trans rfl
      have hk_2 : w1.cell? ⟨w.heap.size, 2, none⟩ = some (.int .i64 c.thin) := (HK.out.cell 2).trans rfl
      have hk_3 : w1.cell? ⟨w.heap.size, 3, none⟩ = some (.int .i64 c.wide) := (HK.out.cell 3).trans rfl
      have hk_4 : w1.cell? ⟨w.heap.size, 4, none⟩ = some (.int .i64 c.slope) := (HK.out.cell 4).trans rfl
      have hk_5 : w1.cell? ⟨w.heap.size, 5, none⟩ = some (.int .i64 c.jerk) := (HK.out.cell 5).trans rfl
      have hk_6 : w1.cell? ⟨w.heap.size, 6, none⟩ = some (.int .i64 c.stylus) := (HK.out.cell 6).trans rfl
      go_wp2_with fail
      refine (CT.out _).mono ?_
      rintro e w' ⟨rfl, rfl⟩
      go_wp2
      go_ret2
      exact ⟨_, _, rfl, by unfold ndQ; rw [if_neg (by rw [HE.out]; decide), HE.out]; exact ⟨rfl, rfl⟩, HB.out⟩
  · have he : lsEr c l per = ckGr c l := g2
    obtain ⟨g, hg⟩ : ∃ g, ckGr c l = g := ⟨_, rfl⟩
    rw [hg] at GR he
    have hgz : ¬ g = 0 := by rw [← hg]; exact g1
    have HE := Lib.hid he
    have HZ := Lib.hid hgz
    clear he g1 g2 hg
    have hne : (g == 0) = false := by simpa using hgz
    have hne' : (g != 0) = true := by simpa using hgz
    clear hgz
    go_enter Try.func35, Try.ntmps35
    go_wp2_with fail
    obtain ⟨W0, hW⟩ : ∃ W0, w.alloc (.cells #[.int .i64 c.half, .int .i64 c.gain, .int .i64 c.thin, .int .i64 c.wide, .int .i64 c.slope, .int .i64 c.jerk, .int .i64 c.stylus] 23) = W0 := ⟨_, rfl⟩
    have HK : Hid (Blk W0 w.heap.size 23 #[.int .i64 c.half, .int .i64 c.gain, .int .i64 c.thin, .int .i64 c.wide, .int .i64 c.slope, .int .i64 c.jerk, .int .i64 c.stylus]) := Lib.hid (by rw [← hW]; exact Blk.new _ _ _)
    have HB : Hid (Below w.heap.size w W0) := Lib.hid (by rw [← hW]; exact (Below.refl _ w).alloc (Nat.le_refl _) _)
    rw [hW]
    clear hW
    refine (GR.out _ HB.out).mono ?_
    rintro e w1 ⟨rfl, hb1⟩
    replace HK := Lib.hid (HK.out.below hb1 HK.out.lt)
    replace HB := Lib.hid (HB.out.trans (hb1.mono HB.out.size))
    clear hb1
    have hk_0 : w1.cell? ⟨w.heap.size, 0, none⟩ = some (.int .i64 c.half) := (HK.out.cell 0).trans rfl
    have hk_1 : w1.cell? ⟨w.heap.size, 1, none⟩ = some (.int .i64 c.gain) := (HK.out.cell 1).trans rfl
    have hk_2 : w1.cell? ⟨w.heap.size, 2, none⟩ = some (.int .i64 c.thin) := (HK.out.cell 2).trans rfl
    have hk_3 : w1.cell? ⟨w.heap.size, 3, none⟩ = some (.int .i64 c.wide) := (HK.out.cell 3).trans rfl
    have hk_4 : w1.cell? ⟨w.heap.size, 4, none⟩ = some (.int .i64 c.slope) := (HK.out.cell 4).trans rfl
    have hk_5 : w1.cell? ⟨w.heap.size, 5, none⟩ = some (.int .i64 c.jerk) := (HK.out.cell 5).trans rfl
    have hk_6 : w1.cell? ⟨w.heap.size, 6, none⟩ = some (.int .i64 c.stylus) := (HK.out.cell 6).trans rfl
    go_wp2_with fail
    refine (GR.out _ HB.out).mono ?_
    rintro e w2 ⟨rfl, hb1⟩
    replace HK := Lib.hid (HK.out.below hb1 HK.out.lt)
    replace HB := Lib.hid (HB.out.trans (hb1.mono HB.out.size))
    clear hb1
    clear hk_0 hk_1 hk_2 hk_3 hk_4 hk_5 hk_6
    go_wp2
    go_ret2
    exact ⟨_, _, rfl, by unfold ndQ; rw [if_neg (by rw [HE.out]; exact HZ.out), HE.out]; exact ⟨rfl, rfl⟩, HB.out⟩
end Go.Proofs.Ytaiigdbbpdkamaa
