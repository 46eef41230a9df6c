/-
  The walk of LatheRefuses.
-/
import Derived.Test.YtgdkcbnpgpjnbaaL16
import Derived.Test.YtgdkcbnpgpjnbaaL30
import Derived.Test.YtgdkcbnpgpjnbaaL35
namespace Go.Proofs.Ytgdkcbnpgpjnbaa
open Go.RowKit

theorem erL_in (b : Bk) (P : List Smp) : erL b P ≠ 15 := by
  have h1 : ckB b = 0 ∨ ckB b = 2 := by unfold ckB; split <;> omega
  have h2 : ckG P = 0 ∨ ckG P = 2 ∨ ckG P = 6 := by
    unfold ckG
    split
    · omega
    · split <;> omega
  unfold erL
  rcases h1 with h1 | h1 <;> rcases h2 with h2 | h2 | h2 <;> rw [h1, h2] <;> decide

set_option maxRecDepth 100000 in
set_option maxHeartbeats 8000000 in
theorem refuses_walk (B : Nat) (A AS : Option Addr) (n c m d : Nat) (b : Bk) (P S : List Smp) (w : World) (h0 : RS w B A n P) (h1 : RS w B AS m S) (hB : B ≤ w.heap.size) (hl : n ≤ 9223372036854775807) (hl' : m ≤ 9223372036854775807) :
    Calls Try.prog 4 #[.agg #[.int .i64 b.per, .int .i64 b.rim, .int .i64 b.core, .int .i64 b.land, .int .i64 b.slow, .int .i64 b.fast], .slice A n c, .slice AS m d] w fun e w' => e = .returned (.bool true) ∧ Below w.heap.size w w' := by
  have HP := Lib.hid (h0.more hB)
  have HR := Lib.hid (h1.more hB)
  have HN := Lib.hid h0.1
  have HM := Lib.hid h1.1
  clear h0 h1 hB
  go_enter Try.func4, Try.ntmps4
  go_upto_region 1 with fail
  obtain ⟨w0, hW⟩ : ∃ W, w.alloc (.cells #[.int .i64 b.per, .int .i64 b.rim, .int .i64 b.core, .int .i64 b.land, .int .i64 b.slow, .int .i64 b.fast] 23) = W := ⟨_, rfl⟩
  have hb0 : Below w.heap.size w w0 := by rw [← hW]; exact below_a _ _
  have k0 : Blk w0 w.heap.size 23 #[.int .i64 b.per, .int .i64 b.rim, .int .i64 b.core, .int .i64 b.land, .int .i64 b.slow, .int .i64 b.fast] := by rw [← hW]; exact Blk.new _ _ _
  rw [hW]
  have HB := Lib.hid hb0
  have HK := Lib.hid k0
  obtain ⟨c0, c1, c2, c3, c4, c5⟩ := k0.six
  clear hW hb0 k0
  cases hg1 : lnK n with
  | true =>
    have G1 := Lib.hid hg1
    clear hg1
    go_wp2_with fail
    refine (long5K_any _ _).mono ?_
    rintro e w' ⟨rfl, rfl⟩
    rw [G1.out]
    go_wp2_with fail
    refine (works5_any _).mono ?_
    rintro e w1 ⟨rfl, hb⟩
    replace HB := Lib.hid (HB.out.trans (hb.mono HB.out.size))
    clear hb
    go_wp2
    go_ret
    exact ⟨rfl, HB.out⟩
  | false =>
    have G1 := Lib.hid hg1
    clear hg1
    by_cases hm1 : 200 < m ∧ m ≤ 16384
    · have a1 : (m : Int) > 200 := by omega
      have a2 : (m : Int) ≤ 16384 := by omega
      go_wp2_with fail
      refine (long5K_any _ _).mono ?_
      rintro e w' ⟨rfl, rfl⟩
      rw [G1.out]
      go_wp2_with fail
      refine (works5_any _).mono ?_
      rintro e w2 ⟨rfl, hb⟩
      replace HB := Lib.hid (HB.out.trans (hb.mono HB.out.size))
      clear hb
      go_wp2
      go_ret
      exact ⟨rfl, HB.out⟩
    · by_cases hm2 : 16400 < m
      · have a1 : (m : Int) > 200 := by omega
        have a2 : ¬ (m : Int) ≤ 16384 := by omega
        have a3 : (m : Int) > 16400 := by omega
        go_wp2_with fail
        refine (long5K_any _ _).mono ?_
        rintro e w' ⟨rfl, rfl⟩
        rw [G1.out]
        go_wp2_with fail
        refine (works5_any _).mono ?_
        rintro e w3 ⟨rfl, hb⟩
        replace HB := Lib.hid (HB.out.trans (hb.mono HB.out.size))
        clear hb
        go_wp2
        go_ret
        exact ⟨rfl, HB.out⟩
      · have a3 : ¬ (m : Int) > 16400 := by omega
        by_cases hm3 : 200 < m
        · have a1 : (m : Int) > 200 := by omega
          have a2 : ¬ (m : Int) ≤ 16384 := by omega
          by_cases hq : erL b P = 0
          · cases hs : sol b P P.length with
            | none =>
              have HQ : Hid (refE b P = 0 ∧ outE b P = 15) := Lib.hid (by unfold refE outE; rw [if_pos hq, if_pos hq, hs]; exact ⟨rfl, rfl⟩)
              clear hs hq
              go_wp2_with fail
              refine (long5K_any _ _).mono ?_
              rintro e w' ⟨rfl, rfl⟩
              rw [G1.out]
              go_wp2_with fail
              have CALL := Refuse_any w.heap.size A n c b P w0 (HP.out.below HB.out (Nat.le_refl _)) HB.out.size hl
              refine CALL.mono ?_
              rintro e w5 ⟨v, E, l, rfl, hE, hE0, hE1, ho, hb⟩
              clear CALL
              rw [HQ.out.1] at hE
              subst hE
              have hlp := (hE0 rfl).ne
              obtain ⟨lx, hlx⟩ : ∃ x, l.length = x := ⟨_, rfl⟩
              rw [hlx] at ho
              rw [hlx] at hlp
              clear hlx
              have hlz : (lx : Int) > 0 := by omega
              obtain ⟨Ax, kx, rfl, -⟩ := own_reads ho
              clear ho hE0 hE1
              replace HK := Lib.hid (HK.out.below hb HK.out.lt)
              replace HB := Lib.hid (HB.out.trans (hb.mono HB.out.size))
              clear hb c0 c1 c2 c3 c4 c5
              obtain ⟨c0, c1, c2, c3, c4, c5⟩ := HK.out.six
              go_wp2_with fail
              have CALL := refOutermost_any w.heap.size A n c b P w5 (HP.out.below HB.out (Nat.le_refl _)) HB.out.size hl
              refine CALL.mono ?_
              rintro e w6 ⟨v2, E2, rfl, hE2, -, hb⟩
              clear CALL
              rw [HQ.out.2] at hE2
              subst hE2
              replace HK := Lib.hid (HK.out.below hb HK.out.lt)
              replace HB := Lib.hid (HB.out.trans (hb.mono HB.out.size))
              clear hb c0 c1 c2 c3 c4 c5
              obtain ⟨c0, c1, c2, c3, c4, c5⟩ := HK.out.six
              have K1 := Lib.hid (fun z : Lat w6 => Calls.lat (CheckRefusal_any z.w.heap.size A AS n c m d b P S z.w ((HP.out.below (HB.out.trans (z.below.mono HB.out.size)) (Nat.le_refl _)).more (HB.out.trans (z.below.mono HB.out.size)).size) ((HR.out.below (HB.out.trans (z.below.mono HB.out.size)) (Nat.le_refl _)).more (HB.out.trans (z.below.mono HB.out.size)).size) (Nat.le_refl _) hl hl'))
              have K2 := Lib.hid (fun z : Lat w6 => Calls.lat (refCheckRefusal_any z.w.heap.size A AS n c m d b P S z.w ((HP.out.below (HB.out.trans (z.below.mono HB.out.size)) (Nat.le_refl _)).more (HB.out.trans (z.below.mono HB.out.size)).size) ((HR.out.below (HB.out.trans (z.below.mono HB.out.size)) (Nat.le_refl _)).more (HB.out.trans (z.below.mono HB.out.size)).size) (Nat.le_refl _) hl hl'))
              have K4 := Lib.hid (fun z : Lat w6 => Calls.lat (works5_any z.w))
              have p0 := Lat.cell c0
              have p1 := Lat.cell c1
              have p2 := Lat.cell c2
              have p3 := Lat.cell c3
              have p4 := Lat.cell c4
              have p5 := Lat.cell c5
              clear c0 c1 c2 c3 c4 c5
              go_wp2_with fail
              try dsimp only [List.append]
              refine wp_region_lat (by kernel_rfl) (by kernel_rfl) ?_
              repeat (go_big_quiet_step ((first | (with_reducible exact K1.out _) | (with_reducible exact K2.out _) | (with_reducible exact K4.out _))))
              refine wpQuiet_nil ?_
              intro w7 hw'
              have hb7 := lat_out hw'
              replace HB := Lib.hid (HB.out.trans (hb7.mono HB.out.size))
              clear hb7 hw'
              go_wp2
              go_ret
              exact ⟨rfl, HB.out⟩
            | some X =>
              have HQ : Hid (refE b P = 5 ∧ outE b P = 0) := Lib.hid (by unfold refE outE; rw [if_pos hq, if_pos hq, hs]; exact ⟨rfl, rfl⟩)
              clear hs hq
              go_wp2_with fail
              refine (long5K_any _ _).mono ?_
              rintro e w' ⟨rfl, rfl⟩
              rw [G1.out]
              go_wp2_with fail
              have CALL := Refuse_any w.heap.size A n c b P w0 (HP.out.below HB.out (Nat.le_refl _)) HB.out.size hl
              refine CALL.mono ?_
              rintro e w8 ⟨v, E, l, rfl, hE, hE0, hE1, ho, hb⟩
              clear CALL
              rw [HQ.out.1] at hE
              subst hE
              obtain rfl := hE1 (by omega)
              rw [List.length_nil] at ho
              obtain ⟨Ax, kx, rfl, -⟩ := own_reads ho
              clear ho hE0 hE1
              replace HK := Lib.hid (HK.out.below hb HK.out.lt)
              replace HB := Lib.hid (HB.out.trans (hb.mono HB.out.size))
              clear hb c0 c1 c2 c3 c4 c5
              obtain ⟨c0, c1, c2, c3, c4, c5⟩ := HK.out.six
              go_wp2_with fail
              have CALL := refOutermost_any w.heap.size A n c b P w8 (HP.out.below HB.out (Nat.le_refl _)) HB.out.size hl
              refine CALL.mono ?_
              rintro e w9 ⟨v2, E2, rfl, hE2, -, hb⟩
              clear CALL
              rw [HQ.out.2] at hE2
              subst hE2
              replace HK := Lib.hid (HK.out.below hb HK.out.lt)
              replace HB := Lib.hid (HB.out.trans (hb.mono HB.out.size))
              clear hb c0 c1 c2 c3 c4 c5
              obtain ⟨c0, c1, c2, c3, c4, c5⟩ := HK.out.six
              have K1 := Lib.hid (fun z : Lat w9 => Calls.lat (CheckRefusal_any z.w.heap.size A AS n c m d b P S z.w ((HP.out.below (HB.out.trans (z.below.mono HB.out.size)) (Nat.le_refl _)).more (HB.out.trans (z.below.mono HB.out.size)).size) ((HR.out.below (HB.out.trans (z.below.mono HB.out.size)) (Nat.le_refl _)).more (HB.out.trans (z.below.mono HB.out.size)).size) (Nat.le_refl _) hl hl'))
              have K2 := Lib.hid (fun z : Lat w9 => Calls.lat (refCheckRefusal_any z.w.heap.size A AS n c m d b P S z.w ((HP.out.below (HB.out.trans (z.below.mono HB.out.size)) (Nat.le_refl _)).more (HB.out.trans (z.below.mono HB.out.size)).size) ((HR.out.below (HB.out.trans (z.below.mono HB.out.size)) (Nat.le_refl _)).more (HB.out.trans (z.below.mono HB.out.size)).size) (Nat.le_refl _) hl hl'))
              have K4 := Lib.hid (fun z : Lat w9 => Calls.lat (works5_any z.w))
              have p0 := Lat.cell c0
              have p1 := Lat.cell c1
              have p2 := Lat.cell c2
              have p3 := Lat.cell c3
              have p4 := Lat.cell c4
              have p5 := Lat.cell c5
              clear c0 c1 c2 c3 c4 c5
              go_wp2_with fail
              try dsimp only [List.append]
              refine wp_region_lat (by kernel_rfl) (by kernel_rfl) ?_
              repeat (go_big_quiet_step ((first | (with_reducible exact K1.out _) | (with_reducible exact K2.out _) | (with_reducible exact K4.out _))))
              refine wpQuiet_nil ?_
              intro w7 hw'
              have hb7 := lat_out hw'
              replace HB := Lib.hid (HB.out.trans (hb7.mono HB.out.size))
              clear hb7 hw'
              go_wp2
              go_ret
              exact ⟨rfl, HB.out⟩
          · obtain ⟨q, hqq⟩ : ∃ q, erL b P = q := ⟨_, rfl⟩
            have hq15 := erL_in b P
            rw [hqq] at hq hq15
            have HQ : Hid (refE b P = q ∧ outE b P = q) := Lib.hid (by unfold refE outE; rw [if_neg (by rw [hqq]; exact hq), if_neg (by rw [hqq]; exact hq)]; exact ⟨hqq, hqq⟩)
            have b1 : (q == 0) = false := beq_eq_false_iff_ne.2 hq
            have b2 : (q == 15) = false := beq_eq_false_iff_ne.2 hq15
            clear hqq hq15
            go_wp2_with fail
            refine (long5K_any _ _).mono ?_
            rintro e w' ⟨rfl, rfl⟩
            rw [G1.out]
            go_wp2_with fail
            have CALL := Refuse_any w.heap.size A n c b P w0 (HP.out.below HB.out (Nat.le_refl _)) HB.out.size hl
            refine CALL.mono ?_
            rintro e w11 ⟨v, E, l, rfl, hE, hE0, hE1, ho, hb⟩
            clear CALL
            rw [HQ.out.1] at hE
            subst hE
            obtain rfl := hE1 hq
            rw [List.length_nil] at ho
            obtain ⟨Ax, kx, rfl, -⟩ := own_reads ho
            clear ho hE0 hE1
            replace HK := Lib.hid (HK.out.below hb HK.out.lt)
            replace HB := Lib.hid (HB.out.trans (hb.mono HB.out.size))
            clear hb c0 c1 c2 c3 c4 c5
            obtain ⟨c0, c1, c2, c3, c4, c5⟩ := HK.out.six
            go_wp2_with fail
            have CALL := refOutermost_any w.heap.size A n c b P w11 (HP.out.below HB.out (Nat.le_refl _)) HB.out.size hl
            refine CALL.mono ?_
            rintro e w12 ⟨v2, E2, rfl, hE2, -, hb⟩
            clear CALL
            rw [HQ.out.2] at hE2
            subst hE2
            replace HK := Lib.hid (HK.out.below hb HK.out.lt)
            replace HB := Lib.hid (HB.out.trans (hb.mono HB.out.size))
            clear hb c0 c1 c2 c3 c4 c5
            obtain ⟨c0, c1, c2, c3, c4, c5⟩ := HK.out.six
            have K1 := Lib.hid (fun z : Lat w12 => Calls.lat (CheckRefusal_any z.w.heap.size A AS n c m d b P S z.w ((HP.out.below (HB.out.trans (z.below.mono HB.out.size)) (Nat.le_refl _)).more (HB.out.trans (z.below.mono HB.out.size)).size) ((HR.out.below (HB.out.trans (z.below.mono HB.out.size)) (Nat.le_refl _)).more (HB.out.trans (z.below.mono HB.out.size)).size) (Nat.le_refl _) hl hl'))
            have K2 := Lib.hid (fun z : Lat w12 => Calls.lat (refCheckRefusal_any z.w.heap.size A AS n c m d b P S z.w ((HP.out.below (HB.out.trans (z.below.mono HB.out.size)) (Nat.le_refl _)).more (HB.out.trans (z.below.mono HB.out.size)).size) ((HR.out.below (HB.out.trans (z.below.mono HB.out.size)) (Nat.le_refl _)).more (HB.out.trans (z.below.mono HB.out.size)).size) (Nat.le_refl _) hl hl'))
            have K4 := Lib.hid (fun z : Lat w12 => Calls.lat (works5_any z.w))
            have p0 := Lat.cell c0
            have p1 := Lat.cell c1
            have p2 := Lat.cell c2
            have p3 := Lat.cell c3
            have p4 := Lat.cell c4
            have p5 := Lat.cell c5
            clear c0 c1 c2 c3 c4 c5
            go_wp2_with fail
            try dsimp only [List.append]
            refine wp_region_lat (by kernel_rfl) (by kernel_rfl) ?_
            repeat (go_big_quiet_step ((first | (with_reducible exact K1.out _) | (with_reducible exact K2.out _) | (with_reducible exact K4.out _))))
            refine wpQuiet_nil ?_
            intro w7 hw'
            have hb7 := lat_out hw'
            replace HB := Lib.hid (HB.out.trans (hb7.mono HB.out.size))
            clear hb7 hw'
            go_wp2
            go_ret
            exact ⟨rfl, HB.out⟩
        · have a1 : ¬ (m : Int) > 200 := by omega
          by_cases hq : erL b P = 0
          · cases hs : sol b P P.length with
            | none =>
              have HQ : Hid (refE b P = 0 ∧ outE b P = 15) := Lib.hid (by unfold refE outE; rw [if_pos hq, if_pos hq, hs]; exact ⟨rfl, rfl⟩)
              clear hs hq
              go_wp2_with fail
              refine (long5K_any _ _).mono ?_
              rintro e w' ⟨rfl, rfl⟩
              rw [G1.out]
              go_wp2_with fail
              have CALL := Refuse_any w.heap.size A n c b P w0 (HP.out.below HB.out (Nat.le_refl _)) HB.out.size hl
              refine CALL.mono ?_
              rintro e w14 ⟨v, E, l, rfl, hE, hE0, hE1, ho, hb⟩
              clear CALL
              rw [HQ.out.1] at hE
              subst hE
              have hlp := (hE0 rfl).ne
              obtain ⟨lx, hlx⟩ : ∃ x, l.length = x := ⟨_, rfl⟩
              rw [hlx] at ho
              rw [hlx] at hlp
              clear hlx
              have hlz : (lx : Int) > 0 := by omega
              obtain ⟨Ax, kx, rfl, -⟩ := own_reads ho
              clear ho hE0 hE1
              replace HK := Lib.hid (HK.out.below hb HK.out.lt)
              replace HB := Lib.hid (HB.out.trans (hb.mono HB.out.size))
              clear hb c0 c1 c2 c3 c4 c5
              obtain ⟨c0, c1, c2, c3, c4, c5⟩ := HK.out.six
              go_wp2_with fail
              have CALL := refOutermost_any w.heap.size A n c b P w14 (HP.out.below HB.out (Nat.le_refl _)) HB.out.size hl
              refine CALL.mono ?_
              rintro e w15 ⟨v2, E2, rfl, hE2, -, hb⟩
              clear CALL
              rw [HQ.out.2] at hE2
              subst hE2
              replace HK := Lib.hid (HK.out.below hb HK.out.lt)
              replace HB := Lib.hid (HB.out.trans (hb.mono HB.out.size))
              clear hb c0 c1 c2 c3 c4 c5
              obtain ⟨c0, c1, c2, c3, c4, c5⟩ := HK.out.six
              have K1 := Lib.hid (fun z : Lat w15 => Calls.lat (CheckRefusal_any z.w.heap.size A AS n c m d b P S z.w ((HP.out.below (HB.out.trans (z.below.mono HB.out.size)) (Nat.le_refl _)).more (HB.out.trans (z.below.mono HB.out.size)).size) ((HR.out.below (HB.out.trans (z.below.mono HB.out.size)) (Nat.le_refl _)).more (HB.out.trans (z.below.mono HB.out.size)).size) (Nat.le_refl _) hl hl'))
              have K2 := Lib.hid (fun z : Lat w15 => Calls.lat (refCheckRefusal_any z.w.heap.size A AS n c m d b P S z.w ((HP.out.below (HB.out.trans (z.below.mono HB.out.size)) (Nat.le_refl _)).more (HB.out.trans (z.below.mono HB.out.size)).size) ((HR.out.below (HB.out.trans (z.below.mono HB.out.size)) (Nat.le_refl _)).more (HB.out.trans (z.below.mono HB.out.size)).size) (Nat.le_refl _) hl hl'))
              have K4 := Lib.hid (fun z : Lat w15 => Calls.lat (works5_any z.w))
              have p0 := Lat.cell c0
              have p1 := Lat.cell c1
              have p2 := Lat.cell c2
              have p3 := Lat.cell c3
              have p4 := Lat.cell c4
              have p5 := Lat.cell c5
              clear c0 c1 c2 c3 c4 c5
              go_wp2_with fail
              try dsimp only [List.append]
              refine wp_region_lat (by kernel_rfl) (by kernel_rfl) ?_
              repeat (go_big_quiet_step ((first | (with_reducible exact K1.out _) | (with_reducible exact K2.out _) | (with_reducible exact K4.out _))))
              refine wpQuiet_nil ?_
              intro w7 hw'
              have hb7 := lat_out hw'
              replace HB := Lib.hid (HB.out.trans (hb7.mono HB.out.size))
              clear hb7 hw'
              go_wp2
              go_ret
              exact ⟨rfl, HB.out⟩
            | some X =>
              have HQ : Hid (refE b P = 5 ∧ outE b P = 0) := Lib.hid (by unfold refE outE; rw [if_pos hq, if_pos hq, hs]; exact ⟨rfl, rfl⟩)
              clear hs hq
              go_wp2_with fail
              refine (long5K_any _ _).mono ?_
              rintro e w' ⟨rfl, rfl⟩
              rw [G1.out]
              go_wp2_with fail
              have CALL := Refuse_any w.heap.size A n c b P w0 (HP.out.below HB.out (Nat.le_refl _)) HB.out.size hl
              refine CALL.mono ?_
              rintro e w17 ⟨v, E, l, rfl, hE, hE0, hE1, ho, hb⟩
              clear CALL
              rw [HQ.out.1] at hE
              subst hE
              obtain rfl := hE1 (by omega)
              rw [List.length_nil] at ho
              obtain ⟨Ax, kx, rfl, -⟩ := own_reads ho
              clear ho hE0 hE1
              replace HK := Lib.hid (HK.out.below hb HK.out.lt)
              replace HB := Lib.hid (HB.out.trans (hb.mono HB.out.size))
              clear hb c0 c1 c2 c3 c4 c5
              obtain ⟨c0, c1, c2, c3, c4, c5⟩ := HK.out.six
              go_wp2_with fail
              have CALL := refOutermost_any w.heap.size A n c b P w17 (HP.out.below HB.out (Nat.le_refl _)) HB.out.size hl
              refine CALL.mono ?_
              rintro e w18 ⟨v2, E2, rfl, hE2, -, hb⟩
              clear CALL
              rw [HQ.out.2] at hE2
              subst hE2
              replace HK := Lib.hid (HK.out.below hb HK.out.lt)
              replace HB := Lib.hid (HB.out.trans (hb.mono HB.out.size))
              clear hb c0 c1 c2 c3 c4 c5
              obtain ⟨c0, c1, c2, c3, c4, c5⟩ := HK.out.six
              have K1 := Lib.hid (fun z : Lat w18 => Calls.lat (CheckRefusal_any z.w.heap.size A AS n c m d b P S z.w ((HP.out.below (HB.out.trans (z.below.mono HB.out.size)) (Nat.le_refl _)).more (HB.out.trans (z.below.mono HB.out.size)).size) ((HR.out.below (HB.out.trans (z.below.mono HB.out.size)) (Nat.le_refl _)).more (HB.out.trans (z.below.mono HB.out.size)).size) (Nat.le_refl _) hl hl'))
              have K2 := Lib.hid (fun z : Lat w18 => Calls.lat (refCheckRefusal_any z.w.heap.size A AS n c m d b P S z.w ((HP.out.below (HB.out.trans (z.below.mono HB.out.size)) (Nat.le_refl _)).more (HB.out.trans (z.below.mono HB.out.size)).size) ((HR.out.below (HB.out.trans (z.below.mono HB.out.size)) (Nat.le_refl _)).more (HB.out.trans (z.below.mono HB.out.size)).size) (Nat.le_refl _) hl hl'))
              have K4 := Lib.hid (fun z : Lat w18 => Calls.lat (works5_any z.w))
              have p0 := Lat.cell c0
              have p1 := Lat.cell c1
              have p2 := Lat.cell c2
              have p3 := Lat.cell c3
              have p4 := Lat.cell c4
              have p5 := Lat.cell c5
              clear c0 c1 c2 c3 c4 c5
              go_wp2_with fail
              try dsimp only [List.append]
              refine wp_region_lat (by kernel_rfl) (by kernel_rfl) ?_
              repeat (go_big_quiet_step ((first | (with_reducible exact K1.out _) | (with_reducible exact K2.out _) | (with_reducible exact K4.out _))))
              refine wpQuiet_nil ?_
              intro w7 hw'
              have hb7 := lat_out hw'
              replace HB := Lib.hid (HB.out.trans (hb7.mono HB.out.size))
              clear hb7 hw'
              go_wp2
              go_ret
              exact ⟨rfl, HB.out⟩
          · obtain ⟨q, hqq⟩ : ∃ q, erL b P = q := ⟨_, rfl⟩
            have hq15 := erL_in b P
            rw [hqq] at hq hq15
            have HQ : Hid (refE b P = q ∧ outE b P = q) := Lib.hid (by unfold refE outE; rw [if_neg (by rw [hqq]; exact hq), if_neg (by rw [hqq]; exact hq)]; exact ⟨hqq, hqq⟩)
            have b1 : (q == 0) = false := beq_eq_false_iff_ne.2 hq
            have b2 : (q == 15) = false := beq_eq_false_iff_ne.2 hq15
            clear hqq hq15
            go_wp2_with fail
            refine (long5K_any _ _).mono ?_
            rintro e w' ⟨rfl, rfl⟩
            rw [G1.out]
            go_wp2_with fail
            have CALL := Refuse_any w.heap.size A n c b P w0 (HP.out.below HB.out (Nat.le_refl _)) HB.out.size hl
            refine CALL.mono ?_
            rintro e w20 ⟨v, E, l, rfl, hE, hE0, hE1, ho, hb⟩
            clear CALL
            rw [HQ.out.1] at hE
            subst hE
            obtain rfl := hE1 hq
            rw [List.length_nil] at ho
            obtain ⟨Ax, kx, rfl, -⟩ := own_reads ho
            clear ho hE0 hE1
            replace HK := Lib.hid (HK.out.below hb HK.out.lt)
            replace HB := Lib.hid (HB.out.trans (hb.mono HB.out.size))
            clear hb c0 c1 c2 c3 c4 c5
            obtain ⟨c0, c1, c2, c3, c4, c5⟩ := HK.out.six
            go_wp2_with fail
            have CALL := refOutermost_any w.heap.size A n c b P w20 (HP.out.below HB.out (Nat.le_refl _)) HB.out.size hl
            refine CALL.mono ?_
            rintro e w21 ⟨v2, E2, rfl, hE2, -, hb⟩
            clear CALL
            rw [HQ.out.2] at hE2
            subst hE2
            replace HK := Lib.hid (HK.out.below hb HK.out.lt)
            replace HB := Lib.hid (HB.out.trans (hb.mono HB.out.size))
            clear hb c0 c1 c2 c3 c4 c5
            obtain ⟨c0, c1, c2, c3, c4, c5⟩ := HK.out.six
            have K1 := Lib.hid (fun z : Lat w21 => Calls.lat (CheckRefusal_any z.w.heap.size A AS n c m d b P S z.w ((HP.out.below (HB.out.trans (z.below.mono HB.out.size)) (Nat.le_refl _)).more (HB.out.trans (z.below.mono HB.out.size)).size) ((HR.out.below (HB.out.trans (z.below.mono HB.out.size)) (Nat.le_refl _)).more (HB.out.trans (z.below.mono HB.out.size)).size) (Nat.le_refl _) hl hl'))
            have K2 := Lib.hid (fun z : Lat w21 => Calls.lat (refCheckRefusal_any z.w.heap.size A AS n c m d b P S z.w ((HP.out.below (HB.out.trans (z.below.mono HB.out.size)) (Nat.le_refl _)).more (HB.out.trans (z.below.mono HB.out.size)).size) ((HR.out.below (HB.out.trans (z.below.mono HB.out.size)) (Nat.le_refl _)).more (HB.out.trans (z.below.mono HB.out.size)).size) (Nat.le_refl _) hl hl'))
            have K4 := Lib.hid (fun z : Lat w21 => Calls.lat (works5_any z.w))
            have p0 := Lat.cell c0
            have p1 := Lat.cell c1
            have p2 := Lat.cell c2
            have p3 := Lat.cell c3
            have p4 := Lat.cell c4
            have p5 := Lat.cell c5
            clear c0 c1 c2 c3 c4 c5
            go_wp2_with fail
            try dsimp only [List.append]
            refine wp_region_lat (by kernel_rfl) (by kernel_rfl) ?_
            repeat (go_big_quiet_step ((first | (with_reducible exact K1.out _) | (with_reducible exact K2.out _) | (with_reducible exact K4.out _))))
            refine wpQuiet_nil ?_
            intro w7 hw'
            have hb7 := lat_out hw'
            replace HB := Lib.hid (HB.out.trans (hb7.mono HB.out.size))
            clear hb7 hw'
            go_wp2
            go_ret
            exact ⟨rfl, HB.out⟩
end Go.Proofs.Ytgdkcbnpgpjnbaa
