/-
  The document's fault and least.
-/
import Derived.Test.YtaiigdbbpdkamaaR3
import Derived.Test.YtaiigdbbpdkamaaSp
import Derived.Test.YtaiigdbbpdkamaaJ9
namespace Go.Proofs.Ytaiigdbbpdkamaa
open Go.RowKit

/-- A point with its neighbours. -/
def nbr (l : List Smp) (i : Nat) : List Smp := (l.drop (i - 1)).take (min l.length (i + 2) - (i - 1))
theorem nbr_len (l : List Smp) (i : Nat) (h : i < l.length) : (nbr l i).length = min l.length (i + 2) - (i - 1) := by
  unfold nbr; rw [List.length_take, List.length_drop]; omega
theorem nbr_at (l : List Smp) (i j : Nat) (h : j < min l.length (i + 2) - (i - 1)) : gAt (nbr l i) j = gAt l (i - 1 + j) := gAt_part _ _ _ _ h
theorem brk_nbr (c : Ctr) (l : List Smp) (r per : Int) (i : Nat) (h : i < l.length) : brk c (nbr l i) r per (i - (i - 1)) = brk c l r per i := by
  have e0 : gAt (nbr l i) (i - (i - 1)) = gAt l i := by rw [nbr_at _ _ _ (by omega)]; congr 1; omega
  have e1 : chgAt (nbr l i) (i - (i - 1)) = chgAt l i := by
    unfold chgAt
    by_cases hz : i = 0
    · rw [if_pos (by omega), if_pos hz]
    · rw [if_neg (by omega), if_neg hz, e0, nbr_at _ _ _ (by omega)]
      congr 2; omega
  have e2 : bndAt (nbr l i) (i - (i - 1)) = bndAt l i := by
    unfold bndAt
    rw [nbr_len l i h]
    by_cases hz : i = 0 ∨ i = l.length - 1
    · rw [if_pos (by omega), if_pos hz]
    · rw [if_neg (by omega), if_neg hz, e0, nbr_at _ _ _ (by omega), nbr_at _ _ _ (by omega)]
      congr 2 <;> omega
  unfold brk thinB wideB steepB suddenB bentB
  rw [e0, e1, e2]
theorem nbr_ok {l : List Smp} (he : ∀ p ∈ l, EdOk p) (i : Nat) : ∀ p ∈ nbr l i, EdOk p := fun p hp => he p (List.mem_of_mem_drop (List.mem_of_mem_take hp))

/-- The document's Broken for a point with its neighbours. -/
theorem refBroken_nbr (B : Nat) (A : Option Addr) (n k : Nat) (c : Ctr) (l : List Smp) (r per : Int) (i : Nat) (w : World) (h0 : RS w B A n l) (hB : B ≤ w.heap.size) (hl : n ≤ 4096) (hk : n ≤ k) (hi : i < n) (he : ∀ p ∈ l, EdOk p) (hc : CtOk c) (hs : SpOk r per) (x : Int) (hx : x = ((i - (i - 1) : Nat) : Int)) :
    Calls Try.prog 68 #[.agg #[.int .i64 c.half, .int .i64 c.gain, .int .i64 c.thin, .int .i64 c.wide, .int .i64 c.slope, .int .i64 c.jerk, .int .i64 c.stylus], .slice (prtA A k (i - 1)) (min n (i + 2) - (i - 1)) (k - (i - 1)), .int .i64 r, .int .i64 per, .int .i64 x] w fun e w' => e = .returned (.int .i64 (brk c l r per i)) ∧ Below w.heap.size w w' := by
  subst hx
  have hn := h0.1
  rw [← brk_nbr c l r per i (by omega)]
  have h := rs_part h0 hk (i - 1) (min n (i + 2)) (by omega) (by omega)
  have e : (l.drop (i - 1)).take (min n (i + 2) - (i - 1)) = nbr l i := by unfold nbr; rw [hn]
  rw [e] at h
  exact refBroken_any B _ _ _ c (nbr l i) r per _ w h hB (by omega) (by rw [nbr_len l i (by omega)]; omega) (nbr_ok he i) hc hs
theorem slice_nbr (A : Option Addr) (n k i : Nat) (F T : Int) (hF : F = ((i - 1 : Nat) : Int)) (hT : T = ((min n (i + 2) : Nat) : Int)) (hi : i < n) (hk : n ≤ k) (W : World) :
    (Instr.slice 29 (.slice A n k) (some (.int .i64 F)) (some (.int .i64 T)) none).run Try.prog W = .ok (.slice (prtA A k (i - 1)) (min n (i + 2) - (i - 1)) (k - (i - 1))) W := by
  subst hF hT; exact slice_pts A n k _ _ (by omega) (by omega) W

set_option maxRecDepth 100000 in
set_option maxHeartbeats 8000000 in
theorem refFault_any (B : Nat) (A : Option Addr) (n k : Nat) (c : Ctr) (l : List Smp) (r per : Int) (w : World) (h0 : RS w B A n l) (hB : B ≤ w.heap.size) (hl : n ≤ 4096) (hk : n ≤ k) (he : ∀ p ∈ l, EdOk p) (hc : CtOk c) (hs : SpOk r per) :
    Calls Try.prog 60 #[.agg #[.int .i64 c.half, .int .i64 c.gain, .int .i64 c.thin, .int .i64 c.wide, .int .i64 c.slope, .int .i64 c.jerk, .int .i64 c.stylus], .slice A n k, .int .i64 r, .int .i64 per] w fun e w' => e = .returned (.tuple #[.int .i64 (flt c l r per).1, .int .i64 (flt c l r per).2]) ∧ Below w.heap.size w w' := by
  have HN := Lib.hid h0.1
  have H := Lib.hid (h0.more hB)
  have HE := Lib.hid he
  have HC := Lib.hid hc
  have HSP := Lib.hid hs
  clear h0 hB he hc hs
  go_enter Try.func60, Try.ntmps60
  go_wp2_with fail
  go_loopw [10] (fun z wr => ∃ j : Nat, j ≤ n ∧ z = .int .i64 j ∧ Hid (Below w.heap.size w wr) ∧ Hid (Blk wr w.heap.size 23 #[.int .i64 c.half, .int .i64 c.gain, .int .i64 c.thin, .int .i64 c.wide, .int .i64 c.slope, .int .i64 c.jerk, .int .i64 c.stylus]) ∧ Hid (∀ i, i < j → brk c l r per i = 0)) (fun i wr => n - (intOf i).toNat)
  case atStart => exact ⟨0, Nat.zero_le _, rfl, Lib.hid ((Below.refl _ _).alloc (Nat.le_refl _) _), Lib.hid (Blk.new _ _ _), Lib.hid (fun i hi => absurd hi (by omega))⟩
  case round =>
    obtain ⟨j, hj, rfl, HB, HK, HJ⟩ := hrel
    by_cases hlt : j < n
    · have BK := Lib.hid (fun (x : Int) (hx : x = ((j - (j - 1) : Nat) : Int)) (W : World) (hb : Below w.heap.size w W) => refBroken_nbr w.heap.size A n k c l r per j W (H.out.below hb (Nat.le_refl _)) hb.size hl hk hlt HE.out HC.out HSP.out x hx)
      obtain ⟨b, hbb⟩ : ∃ b, brk c l r per j = b := ⟨_, rfl⟩
      have hb0 : 0 ≤ b := by rw [← hbb]; unfold brk; repeat (first | omega | split)
      rw [hbb] at BK
      have HBB := Lib.hid hbb
      clear hbb
      obtain ⟨nb, hnb⟩ : ∃ x, min n (j + 2) - (j - 1) = x := ⟨_, rfl⟩
      have SL := Lib.hid (fun F T hF hT W => slice_nbr A n k j F T hF hT hlt hk W)
      rw [hnb] at BK SL
      clear hnb
      have hw1 : IntKind.i64.wrap ((j : Int) - 1) = (j : Int) - 1 := IntWalk.i64_in _ (by omega)
      have hw2 : IntKind.i64.wrap ((j : Int) + 2) = (j : Int) + 2 := IntWalk.i64_in _ (by omega)
      by_cases hb : b = 0
      · have hs0 : decide (0 < b) = false := decide_eq_false (by omega)
        have HJ2 := Lib.hid (show ∀ i, i < j + 1 → brk c l r per i = 0 from fun i hi => by
          rcases Nat.lt_or_ge i j with h | h
          · exact HJ.out i h
          · obtain rfl : i = j := by omega
            exact HBB.out.trans hb)
        clear hb HJ
        by_cases ha : 1 < j
        · by_cases hb2 : j + 2 < n
          · have ha1 : (1 : Int) < (j : Int) := by omega
            have ha2 : (0 : Int) < (j : Int) - 1 := by omega
            have hb3 : (j : Int) + 2 < (n : Int) := by omega
            have hw3 : IntKind.i64.wrap ((j : Int) - ((j : Int) - 1)) = 1 := by rw [IntWalk.i64_in _ (by omega)]; omega
            have hw4 : (j : Int) - ((j : Int) - 1) = 1 := by omega
            have sl := SL.out ((j : Int) - 1) ((j : Int) + 2) (by omega) (by omega)
            have BK2 := Lib.hid (BK.out 1 (by omega))
            have hk_0 : wr.cell? ⟨w.heap.size, 0, none⟩ = some (.int .i64 c.half) := (HK.out.cell 0).trans rfl
            have hk_1 : wr.cell? ⟨w.heap.size, 1, none⟩ = some (.int .i64 c.gain) := (HK.out.cell 1).trans rfl
            have hk_2 : wr.cell? ⟨w.heap.size, 2, none⟩ = some (.int .i64 c.thin) := (HK.out.cell 2).trans rfl
            have hk_3 : wr.cell? ⟨w.heap.size, 3, none⟩ = some (.int .i64 c.wide) := (HK.out.cell 3).trans rfl
            have hk_4 : wr.cell? ⟨w.heap.size, 4, none⟩ = some (.int .i64 c.slope) := (HK.out.cell 4).trans rfl
            have hk_5 : wr.cell? ⟨w.heap.size, 5, none⟩ = some (.int .i64 c.jerk) := (HK.out.cell 5).trans rfl
            have hk_6 : wr.cell? ⟨w.heap.size, 6, none⟩ = some (.int .i64 c.stylus) := (HK.out.cell 6).trans rfl
            go_wp2_with fail
            try dsimp only [List.append]
            clear hk_0 hk_1 hk_2 hk_3 hk_4 hk_5 hk_6
            have hk_0 := Lat.cell (w := wr) (p := ⟨w.heap.size, 0, none⟩) (v := .int .i64 c.half) ((HK.out.cell 0).trans rfl)
            have hk_1 := Lat.cell (w := wr) (p := ⟨w.heap.size, 1, none⟩) (v := .int .i64 c.gain) ((HK.out.cell 1).trans rfl)
            have hk_2 := Lat.cell (w := wr) (p := ⟨w.heap.size, 2, none⟩) (v := .int .i64 c.thin) ((HK.out.cell 2).trans rfl)
            have hk_3 := Lat.cell (w := wr) (p := ⟨w.heap.size, 3, none⟩) (v := .int .i64 c.wide) ((HK.out.cell 3).trans rfl)
            have hk_4 := Lat.cell (w := wr) (p := ⟨w.heap.size, 4, none⟩) (v := .int .i64 c.slope) ((HK.out.cell 4).trans rfl)
            have hk_5 := Lat.cell (w := wr) (p := ⟨w.heap.size, 5, none⟩) (v := .int .i64 c.jerk) ((HK.out.cell 5).trans rfl)
            have hk_6 := Lat.cell (w := wr) (p := ⟨w.heap.size, 6, none⟩) (v := .int .i64 c.stylus) ((HK.out.cell 6).trans rfl)
            refine wp_region_lat (by kernel_rfl) (by kernel_rfl) ?_
            repeat (go_big_quiet_step ((first | (with_reducible exact Calls.lat (BK2.out _ (HB.out.trans ((Lat.below _).mono HB.out.size)))))))
            refine wpQuiet_nil ?_
            intro W2 hw'
            have hb1 := lat_out hw'
            replace HK := Lib.hid (HK.out.below hb1 HK.out.lt)
            replace HB := Lib.hid (HB.out.trans (hb1.mono HB.out.size))
            clear hb1 hw' sl hw1 hw2
            clear hk_0 hk_1 hk_2 hk_3 hk_4 hk_5 hk_6
            go_wp2_with fail
            go_roundw
            case rel => exact ⟨j + 1, by omega, by go_num, HB, HK, HJ2⟩
            case measure => simp [intOf]; omega
          · have ha1 : (1 : Int) < (j : Int) := by omega
            have ha2 : (0 : Int) < (j : Int) - 1 := by omega
            have hb3 : (n : Int) ≤ (j : Int) + 2 := by omega
            have hw3 : IntKind.i64.wrap ((j : Int) - ((j : Int) - 1)) = 1 := by rw [IntWalk.i64_in _ (by omega)]; omega
            have hw4 : (j : Int) - ((j : Int) - 1) = 1 := by omega
            have sl := SL.out ((j : Int) - 1) (n : Int) (by omega) (by omega)
            have BK2 := Lib.hid (BK.out 1 (by omega))
            have hk_0 : wr.cell? ⟨w.heap.size, 0, none⟩ = some (.int .i64 c.half) := (HK.out.cell 0).trans rfl
            have hk_1 : wr.cell? ⟨w.heap.size, 1, none⟩ = some (.int .i64 c.gain) := (HK.out.cell 1).trans rfl
            have hk_2 : wr.cell? ⟨w.heap.size, 2, none⟩ = some (.int .i64 c.thin) := (HK.out.cell 2).trans rfl
            have hk_3 : wr.cell? ⟨w.heap.size, 3, none⟩ = some (.int .i64 c.wide) := (HK.out.cell 3).trans rfl
            have hk_4 : wr.cell? ⟨w.heap.size, 4, none⟩ = some (.int .i64 c.slope) := (HK.out.cell 4).trans rfl
            have hk_5 : wr.cell? ⟨w.heap.size, 5, none⟩ = some (.int .i64 c.jerk) := (HK.out.cell 5).trans rfl
            have hk_6 : wr.cell? ⟨w.heap.size, 6, none⟩ = some (.int .i64 c.stylus) := (HK.out.cell 6).trans rfl
            go_wp2_with fail
            try dsimp only [List.append]
            clear hk_0 hk_1 hk_2 hk_3 hk_4 hk_5 hk_6
            have hk_0 := Lat.cell (w := wr) (p := ⟨w.heap.size, 0, none⟩) (v := .int .i64 c.half) ((HK.out.cell 0).trans rfl)
            have hk_1 := Lat.cell (w := wr) (p := ⟨w.heap.size, 1, none⟩) (v := .int .i64 c.gain) ((HK.out.cell 1).trans rfl)
            have hk_2 := Lat.cell (w := wr) (p := ⟨w.heap.size, 2, none⟩) (v := .int .i64 c.thin) ((HK.out.cell 2).trans rfl)
            have hk_3 := Lat.cell (w := wr) (p := ⟨w.heap.size, 3, none⟩) (v := .int .i64 c.wide) ((HK.out.cell 3).trans rfl)
            have hk_4 := Lat.cell (w := wr) (p := ⟨w.heap.size, 4, none⟩) (v := .int .i64 c.slope) ((HK.out.cell 4).trans rfl)
            have hk_5 := Lat.cell (w := wr) (p := ⟨w.heap.size, 5, none⟩) (v := .int .i64 c.jerk) ((HK.out.cell 5).trans rfl)
            have hk_6 := Lat.cell (w := wr) (p := ⟨w.heap.size, 6, none⟩) (v := .int .i64 c.stylus) ((HK.out.cell 6).trans rfl)
            refine wp_region_lat (by kernel_rfl) (by kernel_rfl) ?_
            repeat (go_big_quiet_step ((first | (with_reducible exact Calls.lat (BK2.out _ (HB.out.trans ((Lat.below _).mono HB.out.size)))))))
            refine wpQuiet_nil ?_
            intro W2 hw'
            have hb1 := lat_out hw'
            replace HK := Lib.hid (HK.out.below hb1 HK.out.lt)
            replace HB := Lib.hid (HB.out.trans (hb1.mono HB.out.size))
            clear hb1 hw' sl hw1 hw2
            clear hk_0 hk_1 hk_2 hk_3 hk_4 hk_5 hk_6
            go_wp2_with fail
            go_roundw
            case rel => exact ⟨j + 1, by omega, by go_num, HB, HK, HJ2⟩
            case measure => simp [intOf]; omega
        · by_cases hb2 : j + 2 < n
          · have ha1 : (j : Int) ≤ 1 := by omega
            have hb3 : (j : Int) + 2 < (n : Int) := by omega
            have sl := SL.out 0 ((j : Int) + 2) (by omega) (by omega)
            have BK2 := Lib.hid (BK.out (j : Int) (by omega))
            have hk_0 : wr.cell? ⟨w.heap.size, 0, none⟩ = some (.int .i64 c.half) := (HK.out.cell 0).trans rfl
            have hk_1 : wr.cell? ⟨w.heap.size, 1, none⟩ = some (.int .i64 c.gain) := (HK.out.cell 1).trans rfl
            have hk_2 : wr.cell? ⟨w.heap.size, 2, none⟩ = some (.int .i64 c.thin) := (HK.out.cell 2).trans rfl
            have hk_3 : wr.cell? ⟨w.heap.size, 3, none⟩ = some (.int .i64 c.wide) := (HK.out.cell 3).trans rfl
            have hk_4 : wr.cell? ⟨w.heap.size, 4, none⟩ = some (.int .i64 c.slope) := (HK.out.cell 4).trans rfl
            have hk_5 : wr.cell? ⟨w.heap.size, 5, none⟩ = some (.int .i64 c.jerk) := (HK.out.cell 5).trans rfl
            have hk_6 : wr.cell? ⟨w.heap.size, 6, none⟩ = some (.int .i64 c.stylus) := (HK.out.cell 6).trans rfl
            go_wp2_with fail
            try dsimp only [List.append]
            clear hk_0 hk_1 hk_2 hk_3 hk_4 hk_5 hk_6
            have hk_0 := Lat.cell (w := wr) (p := ⟨w.heap.size, 0, none⟩) (v := .int .i64 c.half) ((HK.out.cell 0).trans rfl)
            have hk_1 := Lat.cell (w := wr) (p := ⟨w.heap.size, 1, none⟩) (v := .int .i64 c.gain) ((HK.out.cell 1).trans rfl)
            have hk_2 := Lat.cell (w := wr) (p := ⟨w.heap.size, 2, none⟩) (v := .int .i64 c.thin) ((HK.out.cell 2).trans rfl)
            have hk_3 := Lat.cell (w := wr) (p := ⟨w.heap.size, 3, none⟩) (v := .int .i64 c.wide) ((HK.out.cell 3).trans rfl)
            have hk_4 := Lat.cell (w := wr) (p := ⟨w.heap.size, 4, none⟩) (v := .int .i64 c.slope) ((HK.out.cell 4).trans rfl)
            have hk_5 := Lat.cell (w := wr) (p := ⟨w.heap.size, 5, none⟩) (v := .int .i64 c.jerk) ((HK.out.cell 5).trans rfl)
            have hk_6 := Lat.cell (w := wr) (p := ⟨w.heap.size, 6, none⟩) (v := .int .i64 c.stylus) ((HK.out.cell 6).trans rfl)
            refine wp_region_lat (by kernel_rfl) (by kernel_rfl) ?_
            repeat (go_big_quiet_step ((first | (with_reducible exact Calls.lat (BK2.out _ (HB.out.trans ((Lat.below _).mono HB.out.size)))))))
            refine wpQuiet_nil ?_
            intro W2 hw'
            have hb1 := lat_out hw'
            replace HK := Lib.hid (HK.out.below hb1 HK.out.lt)
            replace HB := Lib.hid (HB.out.trans (hb1.mono HB.out.size))
            clear hb1 hw' sl hw1 hw2
            clear hk_0 hk_1 hk_2 hk_3 hk_4 hk_5 hk_6
            go_wp2_with fail
            go_roundw
            case rel => exact ⟨j + 1, by omega, by go_num, HB, HK, HJ2⟩
            case measure => simp [intOf]; omega
          · have ha1 : (j : Int) ≤ 1 := by omega
            have hb3 : (n : Int) ≤ (j : Int) + 2 := by omega
            have sl := SL.out 0 (n : Int) (by omega) (by omega)
            have BK2 := Lib.hid (BK.out (j : Int) (by omega))
            have hk_0 : wr.cell? ⟨w.heap.size, 0, none⟩ = some (.int .i64 c.half) := (HK.out.cell 0).trans rfl
            have hk_1 : wr.cell? ⟨w.heap.size, 1, none⟩ = some (.int .i64 c.gain) := (HK.out.cell 1).trans rfl
            have hk_2 : wr.cell? ⟨w.heap.size, 2, none⟩ = some (.int .i64 c.thin) := (HK.out.cell 2).trans rfl
            have hk_3 : wr.cell? ⟨w.heap.size, 3, none⟩ = some (.int .i64 c.wide) := (HK.out.cell 3).trans rfl
            have hk_4 : wr.cell? ⟨w.heap.size, 4, none⟩ = some (.int .i64 c.slope) := (HK.out.cell 4).trans rfl
            have hk_5 : wr.cell? ⟨w.heap.size, 5, none⟩ = some (.int .i64 c.jerk) := (HK.out.cell 5).trans rfl
            have hk_6 : wr.cell? ⟨w.heap.size, 6, none⟩ = some (.int .i64 c.stylus) := (HK.out.cell 6).trans rfl
            go_wp2_with fail
            try dsimp only [List.append]
            clear hk_0 hk_1 hk_2 hk_3 hk_4 hk_5 hk_6
            have hk_0 := Lat.cell (w := wr) (p := ⟨w.heap.size, 0, none⟩) (v := .int .i64 c.half) ((HK.out.cell 0).trans rfl)
            have hk_1 := Lat.cell (w := wr) (p := ⟨w.heap.size, 1, none⟩) (v := .int .i64 c.gain) ((HK.out.cell 1).trans rfl)
            have hk_2 := Lat.cell (w := wr) (p := ⟨w.heap.size, 2, none⟩) (v := .int .i64 c.thin) ((HK.out.cell 2).trans rfl)
            have hk_3 := Lat.cell (w := wr) (p := ⟨w.heap.size, 3, none⟩) (v := .int .i64 c.wide) ((HK.out.cell 3).trans rfl)
            have hk_4 := Lat.cell (w := wr) (p := ⟨w.heap.size, 4, none⟩) (v := .int .i64 c.slope) ((HK.out.cell 4).trans rfl)
            have hk_5 := Lat.cell (w := wr) (p := ⟨w.heap.size, 5, none⟩) (v := .int .i64 c.jerk) ((HK.out.cell 5).trans rfl)
            have hk_6 := Lat.cell (w := wr) (p := ⟨w.heap.size, 6, none⟩) (v := .int .i64 c.stylus) ((HK.out.cell 6).trans rfl)
            refine wp_region_lat (by kernel_rfl) (by kernel_rfl) ?_
            repeat (go_big_quiet_step ((first | (with_reducible exact Calls.lat (BK2.out _ (HB.out.trans ((Lat.below _).mono HB.out.size)))))))
            refine wpQuiet_nil ?_
            intro W2 hw'
            have hb1 := lat_out hw'
            replace HK := Lib.hid (HK.out.below hb1 HK.out.lt)
            replace HB := Lib.hid (HB.out.trans (hb1.mono HB.out.size))
            clear hb1 hw' sl hw1 hw2
            clear hk_0 hk_1 hk_2 hk_3 hk_4 hk_5 hk_6
            go_wp2_with fail
            go_roundw
            case rel => exact ⟨j + 1, by omega, by go_num, HB, HK, HJ2⟩
            case measure => simp [intOf]; omega
      · have hs0 : decide (0 < b) = true := decide_eq_true (by omega)
        have HF : Hid (flt c l r per = (j, b)) := Lib.hid (by rw [← HBB.out]; exact flt_some (by have := HN.out; omega) HJ.out (by rw [HBB.out]; exact hb))
        clear hb HJ
        by_cases ha : 1 < j
        · by_cases hb2 : j + 2 < n
          · have ha1 : (1 : Int) < (j : Int) := by omega
            have ha2 : (0 : Int) < (j : Int) - 1 := by omega
            have hb3 : (j : Int) + 2 < (n : Int) := by omega
            have hw3 : IntKind.i64.wrap ((j : Int) - ((j : Int) - 1)) = 1 := by rw [IntWalk.i64_in _ (by omega)]; omega
            have hw4 : (j : Int) - ((j : Int) - 1) = 1 := by omega
            have sl := SL.out ((j : Int) - 1) ((j : Int) + 2) (by omega) (by omega)
            have BK2 := Lib.hid (BK.out 1 (by omega))
            have hk_0 : wr.cell? ⟨w.heap.size, 0, none⟩ = some (.int .i64 c.half) := (HK.out.cell 0).trans rfl
            have hk_1 : wr.cell? ⟨w.heap.size, 1, none⟩ = some (.int .i64 c.gain) := (HK.out.cell 1).trans rfl
            have hk_2 : wr.cell? ⟨w.heap.size, 2, none⟩ = some (.int .i64 c.thin) := (HK.out.cell 2).trans rfl
            have hk_3 : wr.cell? ⟨w.heap.size, 3, none⟩ = some (.int .i64 c.wide) := (HK.out.cell 3).trans rfl
            have hk_4 : wr.cell? ⟨w.heap.size, 4, none⟩ = some (.int .i64 c.slope) := (HK.out.cell 4).trans rfl
            have hk_5 : wr.cell? ⟨w.heap.size, 5, none⟩ = some (.int .i64 c.jerk) := (HK.out.cell 5).trans rfl
            have hk_6 : wr.cell? ⟨w.heap.size, 6, none⟩ = some (.int .i64 c.stylus) := (HK.out.cell 6).trans rfl
            go_wp2_with fail
            try dsimp only [List.append]
            clear hk_0 hk_1 hk_2 hk_3 hk_4 hk_5 hk_6
            have hk_0 := Lat.cell (w := wr) (p := ⟨w.heap.size, 0, none⟩) (v := .int .i64 c.half) ((HK.out.cell 0).trans rfl)
            have hk_1 := Lat.cell (w := wr) (p := ⟨w.heap.size, 1, none⟩) (v := .int .i64 c.gain) ((HK.out.cell 1).trans rfl)
            have hk_2 := Lat.cell (w := wr) (p := ⟨w.heap.size, 2, none⟩) (v := .int .i64 c.thin) ((HK.out.cell 2).trans rfl)
            have hk_3 := Lat.cell (w := wr) (p := ⟨w.heap.size, 3, none⟩) (v := .int .i64 c.wide) ((HK.out.cell 3).trans rfl)
            have hk_4 := Lat.cell (w := wr) (p := ⟨w.heap.size, 4, none⟩) (v := .int .i64 c.slope) ((HK.out.cell 4).trans rfl)
            have hk_5 := Lat.cell (w := wr) (p := ⟨w.heap.size, 5, none⟩) (v := .int .i64 c.jerk) ((HK.out.cell 5).trans rfl)
            have hk_6 := Lat.cell (w := wr) (p := ⟨w.heap.size, 6, none⟩) (v := .int .i64 c.stylus) ((HK.out.cell 6).trans rfl)
            refine wp_region_lat (by kernel_rfl) (by kernel_rfl) ?_
            repeat (go_big_quiet_step ((first | (with_reducible exact Calls.lat (BK2.out _ (HB.out.trans ((Lat.below _).mono HB.out.size)))))))
            refine wpQuiet_nil ?_
            intro W2 hw'
            have hb1 := lat_out hw'
            replace HK := Lib.hid (HK.out.below hb1 HK.out.lt)
            replace HB := Lib.hid (HB.out.trans (hb1.mono HB.out.size))
            clear hb1 hw' sl hw1 hw2
            clear hk_0 hk_1 hk_2 hk_3 hk_4 hk_5 hk_6
            go_wp2_with fail
            go_ret2
            exact ⟨ret_2 (by rw [HF.out]) (by rw [HF.out]), HB.out⟩
          · have ha1 : (1 : Int) < (j : Int) := by omega
            have ha2 : (0 : Int) < (j : Int) - 1 := by omega
            have hb3 : (n : Int) ≤ (j : Int) + 2 := by omega
            have hw3 : IntKind.i64.wrap ((j : Int) - ((j : Int) - 1)) = 1 := by rw [IntWalk.i64_in _ (by omega)]; omega
            have hw4 : (j : Int) - ((j : Int) - 1) = 1 := by omega
            have sl := SL.out ((j : Int) - 1) (n : Int) (by omega) (by omega)
            have BK2 := Lib.hid (BK.out 1 (by omega))
            have hk_0 : wr.cell? ⟨w.heap.size, 0, none⟩ = some (.int .i64 c.half) := (HK.out.cell 0).trans rfl
            have hk_1 : wr.cell? ⟨w.heap.size, 1, none⟩ = some (.int .i64 c.gain) := (HK.out.cell 1).trans rfl
            have hk_2 : wr.cell? ⟨w.heap.size, 2, none⟩ = some (.int .i64 c.thin) := (HK.out.cell 2).trans rfl
            have hk_3 : wr.cell? ⟨w.heap.size, 3, none⟩ = some (.int .i64 c.wide) := (HK.out.cell 3).trans rfl
            have hk_4 : wr.cell? ⟨w.heap.size, 4, none⟩ = some (.int .i64 c.slope) := (HK.out.cell 4).trans rfl
            have hk_5 : wr.cell? ⟨w.heap.size, 5, none⟩ = some (.int .i64 c.jerk) := (HK.out.cell 5).trans rfl
            have hk_6 : wr.cell? ⟨w.heap.size, 6, none⟩ = some (.int .i64 c.stylus) := (HK.out.cell 6).trans rfl
            go_wp2_with fail
            try dsimp only [List.append]
            clear hk_0 hk_1 hk_2 hk_3 hk_4 hk_5 hk_6
            have hk_0 := Lat.cell (w := wr) (p := ⟨w.heap.size, 0, none⟩) (v := .int .i64 c.half) ((HK.out.cell 0).trans rfl)
            have hk_1 := Lat.cell (w := wr) (p := ⟨w.heap.size, 1, none⟩) (v := .int .i64 c.gain) ((HK.out.cell 1).trans rfl)
            have hk_2 := Lat.cell (w := wr) (p := ⟨w.heap.size, 2, none⟩) (v := .int .i64 c.thin) ((HK.out.cell 2).trans rfl)
            have hk_3 := Lat.cell (w := wr) (p := ⟨w.heap.size, 3, none⟩) (v := .int .i64 c.wide) ((HK.out.cell 3).trans rfl)
            have hk_4 := Lat.cell (w := wr) (p := ⟨w.heap.size, 4, none⟩) (v := .int .i64 c.slope) ((HK.out.cell 4).trans rfl)
            have hk_5 := Lat.cell (w := wr) (p := ⟨w.heap.size, 5, none⟩) (v := .int .i64 c.jerk) ((HK.out.cell 5).trans rfl)
            have hk_6 := Lat.cell (w := wr) (p := ⟨w.heap.size, 6, none⟩) (v := .int .i64 c.stylus) ((HK.out.cell 6).trans rfl)
            refine wp_region_lat (by kernel_rfl) (by kernel_rfl) ?_
            repeat (go_big_quiet_step ((first | (with_reducible exact Calls.lat (BK2.out _ (HB.out.trans ((Lat.below _).mono HB.out.size)))))))
            refine wpQuiet_nil ?_
            intro W2 hw'
            have hb1 := lat_out hw'
            replace HK := Lib.hid (HK.out.below hb1 HK.out.lt)
            replace HB := Lib.hid (HB.out.trans (hb1.mono HB.out.size))
            clear hb1 hw' sl hw1 hw2
            clear hk_0 hk_1 hk_2 hk_3 hk_4 hk_5 hk_6
            go_wp2_with fail
            go_ret2
            exact ⟨ret_2 (by rw [HF.out]) (by rw [HF.out]), HB.out⟩
        · by_cases hb2 : j + 2 < n
          · have ha1 : (j : Int) ≤ 1 := by omega
            have hb3 : (j : Int) + 2 < (n : Int) := by omega
            have sl := SL.out 0 ((j : Int) + 2) (by omega) (by omega)
            have BK2 := Lib.hid (BK.out (j : Int) (by omega))
            have hk_0 : wr.cell? ⟨w.heap.size, 0, none⟩ = some (.int .i64 c.half) := (HK.out.cell 0).trans rfl
            have hk_1 : wr.cell? ⟨w.heap.size, 1, none⟩ = some (.int .i64 c.gain) := (HK.out.cell 1).trans rfl
            have hk_2 : wr.cell? ⟨w.heap.size, 2, none⟩ = some (.int .i64 c.thin) := (HK.out.cell 2).trans rfl
            have hk_3 : wr.cell? ⟨w.heap.size, 3, none⟩ = some (.int .i64 c.wide) := (HK.out.cell 3).trans rfl
            have hk_4 : wr.cell? ⟨w.heap.size, 4, none⟩ = some (.int .i64 c.slope) := (HK.out.cell 4).trans rfl
            have hk_5 : wr.cell? ⟨w.heap.size, 5, none⟩ = some (.int .i64 c.jerk) := (HK.out.cell 5).trans rfl
            have hk_6 : wr.cell? ⟨w.heap.size, 6, none⟩ = some (.int .i64 c.stylus) := (HK.out.cell 6).trans rfl
            go_wp2_with fail
            try dsimp only [List.append]
            clear hk_0 hk_1 hk_2 hk_3 hk_4 hk_5 hk_6
            have hk_0 := Lat.cell (w := wr) (p := ⟨w.heap.size, 0, none⟩) (v := .int .i64 c.half) ((HK.out.cell 0).trans rfl)
            have hk_1 := Lat.cell (w := wr) (p := ⟨w.heap.size, 1, none⟩) (v := .int .i64 c.gain) ((HK.out.cell 1).trans rfl)
            have hk_2 := Lat.cell (w := wr) (p := ⟨w.heap.size, 2, none⟩) (v := .int .i64 c.thin) ((HK.out.cell 2).trans rfl)
            have hk_3 := Lat.cell (w := wr) (p := ⟨w.heap.size, 3, none⟩) (v := .int .i64 c.wide) ((HK.out.cell 3).trans rfl)
            have hk_4 := Lat.cell (w := wr) (p := ⟨w.heap.size, 4, none⟩) (v := .int .i64 c.slope) ((HK.out.cell 4).trans rfl)
            have hk_5 := Lat.cell (w := wr) (p := ⟨w.heap.size, 5, none⟩) (v := .int .i64 c.jerk) ((HK.out.cell 5).trans rfl)
            have hk_6 := Lat.cell (w := wr) (p := ⟨w.heap.size, 6, none⟩) (v := .int .i64 c.stylus) ((HK.out.cell 6).trans rfl)
            refine wp_region_lat (by kernel_rfl) (by kernel_rfl) ?_
            repeat (go_big_quiet_step ((first | (with_reducible exact Calls.lat (BK2.out _ (HB.out.trans ((Lat.below _).mono HB.out.size)))))))
            refine wpQuiet_nil ?_
            intro W2 hw'
            have hb1 := lat_out hw'
            replace HK := Lib.hid (HK.out.below hb1 HK.out.lt)
            replace HB := Lib.hid (HB.out.trans (hb1.mono HB.out.size))
            clear hb1 hw' sl hw1 hw2
            clear hk_0 hk_1 hk_2 hk_3 hk_4 hk_5 hk_6
            go_wp2_with fail
            go_ret2
            exact ⟨ret_2 (by rw [HF.out]) (by rw [HF.out]), HB.out⟩
          · have ha1 : (j : Int) ≤ 1 := by omega
            have hb3 : (n : Int) ≤ (j : Int) + 2 := by omega
            have sl := SL.out 0 (n : Int) (by omega) (by omega)
            have BK2 := Lib.hid (BK.out (j : Int) (by omega))
            have hk_0 : wr.cell? ⟨w.heap.size, 0, none⟩ = some (.int .i64 c.half) := (HK.out.cell 0).trans rfl
            have hk_1 : wr.cell? ⟨w.heap.size, 1, none⟩ = some (.int .i64 c.gain) := (HK.out.cell 1).trans rfl
            have hk_2 : wr.cell? ⟨w.heap.size, 2, none⟩ = some (.int .i64 c.thin) := (HK.out.cell 2).trans rfl
            have hk_3 : wr.cell? ⟨w.heap.size, 3, none⟩ = some (.int .i64 c.wide) := (HK.out.cell 3).trans rfl
            have hk_4 : wr.cell? ⟨w.heap.size, 4, none⟩ = some (.int .i64 c.slope) := (HK.out.cell 4).trans rfl
            have hk_5 : wr.cell? ⟨w.heap.size, 5, none⟩ = some (.int .i64 c.jerk) := (HK.out.cell 5).trans rfl
            have hk_6 : wr.cell? ⟨w.heap.size, 6, none⟩ = some (.int .i64 c.stylus) := (HK.out.cell 6).trans rfl
            go_wp2_with fail
            try dsimp only [List.append]
            clear hk_0 hk_1 hk_2 hk_3 hk_4 hk_5 hk_6
            have hk_0 := Lat.cell (w := wr) (p := ⟨w.heap.size, 0, none⟩) (v := .int .i64 c.half) ((HK.out.cell 0).trans rfl)
            have hk_1 := Lat.cell (w := wr) (p := ⟨w.heap.size, 1, none⟩) (v := .int .i64 c.gain) ((HK.out.cell 1).trans rfl)
            have hk_2 := Lat.cell (w := wr) (p := ⟨w.heap.size, 2, none⟩) (v := .int .i64 c.thin) ((HK.out.cell 2).trans rfl)
            have hk_3 := Lat.cell (w := wr) (p := ⟨w.heap.size, 3, none⟩) (v := .int .i64 c.wide) ((HK.out.cell 3).trans rfl)
            have hk_4 := Lat.cell (w := wr) (p := ⟨w.heap.size, 4, none⟩) (v := .int .i64 c.slope) ((HK.out.cell 4).trans rfl)
            have hk_5 := Lat.cell (w := wr) (p := ⟨w.heap.size, 5, none⟩) (v := .int .i64 c.jerk) ((HK.out.cell 5).trans rfl)
            have hk_6 := Lat.cell (w := wr) (p := ⟨w.heap.size, 6, none⟩) (v := .int .i64 c.stylus) ((HK.out.cell 6).trans rfl)
            refine wp_region_lat (by kernel_rfl) (by kernel_rfl) ?_
            repeat (go_big_quiet_step ((first | (with_reducible exact Calls.lat (BK2.out _ (HB.out.trans ((Lat.below _).mono HB.out.size)))))))
            refine wpQuiet_nil ?_
            intro W2 hw'
            have hb1 := lat_out hw'
            replace HK := Lib.hid (HK.out.below hb1 HK.out.lt)
            replace HB := Lib.hid (HB.out.trans (hb1.mono HB.out.size))
            clear hb1 hw' sl hw1 hw2
            clear hk_0 hk_1 hk_2 hk_3 hk_4 hk_5 hk_6
            go_wp2_with fail
            go_ret2
            exact ⟨ret_2 (by rw [HF.out]) (by rw [HF.out]), HB.out⟩
    · obtain rfl : n = j := by omega
      have HF : Hid (flt c l r per = (0, 0)) := Lib.hid (flt_none (fun i hi => HJ.out i (by have := HN.out; omega)))
      go_wp2_with fail
      go_ret2
      exact ⟨ret_2 (by rw [HF.out]; rfl) (by rw [HF.out]), HB.out⟩
end Go.Proofs.Ytaiigdbbpdkamaa
