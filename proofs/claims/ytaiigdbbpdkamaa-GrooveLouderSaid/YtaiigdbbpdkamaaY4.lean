/-
  The document's Loudest.
-/
import Derived.Test.YtaiigdbbpdkamaaY3
namespace Go.Proofs.Ytaiigdbbpdkamaa
open Go.RowKit

theorem ldEr_cases (c : Ctr) (xs : List Smp) (r per : Int) : (ckC c = 2 ∧ ldEr c xs r per = 2) ∨ (ckC c = 0 ∧ ckS xs ≠ 0 ∧ ldEr c xs r per = ckS xs) ∨ (ckC c = 0 ∧ ckS xs = 0 ∧ ckP2 r per = 3 ∧ ldEr c xs r per = 3) ∨ (ckC c = 0 ∧ ckS xs = 0 ∧ ckP2 r per = 0 ∧ ldEr c xs r per = 0) := by
  unfold ldEr
  rcases ckC_2 c with h | h
  · right
    by_cases hs : ckS xs = 0
    · right
      rcases ckP2_3 r per with ⟨h1, h2, h3⟩ | ⟨h1, h2⟩
      · right; exact ⟨h, hs, h1, by simp [orL, h, hs, h2, h3]⟩
      · left
        refine ⟨h, hs, h1, ?_⟩
        rcases ckR_3 r with h4 | h4 <;> rcases ckT_3 per with h5 | h5 <;> simp_all [orL]
    · left; exact ⟨h, hs, by simp [orL, h, hs]⟩
  · left; exact ⟨h, by simp [orL, h]⟩

set_option maxRecDepth 100000 in
set_option maxHeartbeats 4000000 in
theorem refLoudest_any (B : Nat) (A : Option Addr) (n k : Nat) (c : Ctr) (xs : List Smp) (r per : Int) (w : World) (h0 : RS w B A n xs) (hB : B ≤ w.heap.size) (hl : n ≤ 9223372036854775807) (hi : I64s xs) :
    Calls Try.prog 37 #[.agg #[.int .i64 c.half, .int .i64 c.gain, .int .i64 c.thin, .int .i64 c.wide, .int .i64 c.slope, .int .i64 c.jerk, .int .i64 c.stylus], .slice A n k, .int .i64 r, .int .i64 per] w (LePost (ldQ c xs r per) w) := by
  have HN := Lib.hid h0.1
  have H := Lib.hid (h0.more hB)
  clear h0 hB
  have CS := Lib.hid (fun W (hb : Below w.heap.size w W) => refCheckSamples_any w.heap.size A n k xs W (H.out.below hb (Nat.le_refl _)) hb.size hl hi)
  have CK := Lib.hid (fun W => refCheck_any c W)
  have CP := Lib.hid (fun W => refPlace_any r per W)
  rcases ldEr_cases c xs r per with ⟨h1, h2⟩ | ⟨h1, h2, h3⟩ | ⟨h1, h2, h3, h4⟩ | ⟨h1, h2, h3, h4⟩
  · rw [h1] at CK
    have HER := Lib.hid h2
    clear h1 h2
    go_enter Try.func37, Try.ntmps37
    go_wp2_with fail
    obtain ⟨W0, hW⟩ : ∃ W0, w.alloc (.cells #[.int .i64 c.half, .int .i64 c.gain, .int .i64 c.thin, .int .i64 c.wide, .int .i64 c.slope, .int .i64 c.jerk, .int .i64 c.stylus] 23) = W0 := ⟨_, rfl⟩
    have HK : Hid (Blk W0 w.heap.size 23 #[.int .i64 c.half, .int .i64 c.gain, .int .i64 c.thin, .int .i64 c.wide, .int .i64 c.slope, .int .i64 c.jerk, .int .i64 c.stylus]) := Lib.hid (by rw [← hW]; exact Blk.new _ _ _)
    have HB : Hid (Below w.heap.size w W0) := Lib.hid (by rw [← hW]; exact (Below.refl _ w).alloc (Nat.le_refl _) _)
    rw [hW]
    clear hW
    go_wp2_with fail
    refine (CK.out _).mono ?_
    rintro e w1 ⟨rfl, hb1⟩
    go_wp2
    go_ret2
    exact ⟨_, _, rfl, by unfold ldQ; rw [if_neg (by rw [HER.out]; decide), HER.out]; exact ⟨rfl, rfl⟩, HB.out.trans (hb1.mono HB.out.size)⟩
  · rw [h1] at CK
    obtain ⟨g, hg⟩ : ∃ g, ckS xs = g := ⟨_, rfl⟩
    rw [hg] at CS h2 h3
    have HER := Lib.hid h3
    have HG := Lib.hid h2
    have hz1 : (g == 0) = false := by simpa using h2
    have hz2 : (g != 0) = true := by simpa using h2
    clear h1 h2 h3 hg
    go_enter Try.func37, Try.ntmps37
    go_wp2_with fail
    obtain ⟨W0, hW⟩ : ∃ W0, w.alloc (.cells #[.int .i64 c.half, .int .i64 c.gain, .int .i64 c.thin, .int .i64 c.wide, .int .i64 c.slope, .int .i64 c.jerk, .int .i64 c.stylus] 23) = W0 := ⟨_, rfl⟩
    have HK : Hid (Blk W0 w.heap.size 23 #[.int .i64 c.half, .int .i64 c.gain, .int .i64 c.thin, .int .i64 c.wide, .int .i64 c.slope, .int .i64 c.jerk, .int .i64 c.stylus]) := Lib.hid (by rw [← hW]; exact Blk.new _ _ _)
    have HB : Hid (Below w.heap.size w W0) := Lib.hid (by rw [← hW]; exact (Below.refl _ w).alloc (Nat.le_refl _) _)
    rw [hW]
    clear hW
    go_wp2_with fail
    refine (CK.out _).mono ?_
    rintro e w1 ⟨rfl, hb1⟩
    replace HK := Lib.hid (HK.out.below hb1 HK.out.lt)
    replace HB := Lib.hid (HB.out.trans (hb1.mono HB.out.size))
    clear hb1
    go_wp2_with fail
    refine (CS.out _ HB.out).mono ?_
    rintro e w2 ⟨rfl, hb1⟩
    replace HK := Lib.hid (HK.out.below hb1 HK.out.lt)
    replace HB := Lib.hid (HB.out.trans (hb1.mono HB.out.size))
    clear hb1
    go_wp2_with fail
    refine (CS.out _ HB.out).mono ?_
    rintro e w3 ⟨rfl, hb1⟩
    go_wp2
    go_ret2
    exact ⟨_, _, rfl, by unfold ldQ; rw [if_neg (by rw [HER.out]; exact HG.out), HER.out]; exact ⟨rfl, rfl⟩, HB.out.trans (hb1.mono HB.out.size)⟩
  · rw [h1] at CK
    rw [h2] at CS
    rw [h3] at CP
    have HER := Lib.hid h4
    clear h1 h2 h3 h4
    go_enter Try.func37, Try.ntmps37
    go_wp2_with fail
    obtain ⟨W0, hW⟩ : ∃ W0, w.alloc (.cells #[.int .i64 c.half, .int .i64 c.gain, .int .i64 c.thin, .int .i64 c.wide, .int .i64 c.slope, .int .i64 c.jerk, .int .i64 c.stylus] 23) = W0 := ⟨_, rfl⟩
    have HK : Hid (Blk W0 w.heap.size 23 #[.int .i64 c.half, .int .i64 c.gain, .int .i64 c.thin, .int .i64 c.wide, .int .i64 c.slope, .int .i64 c.jerk, .int .i64 c.stylus]) := Lib.hid (by rw [← hW]; exact Blk.new _ _ _)
    have HB : Hid (Below w.heap.size w W0) := Lib.hid (by rw [← hW]; exact (Below.refl _ w).alloc (Nat.le_refl _) _)
    rw [hW]
    clear hW
    go_wp2_with fail
    refine (CK.out _).mono ?_
    rintro e w1 ⟨rfl, hb1⟩
    replace HK := Lib.hid (HK.out.below hb1 HK.out.lt)
    replace HB := Lib.hid (HB.out.trans (hb1.mono HB.out.size))
    clear hb1
    go_wp2_with fail
    refine (CS.out _ HB.out).mono ?_
    rintro e w2 ⟨rfl, hb1⟩
    replace HK := Lib.hid (HK.out.below hb1 HK.out.lt)
    replace HB := Lib.hid (HB.out.trans (hb1.mono HB.out.size))
    clear hb1
    go_wp2_with fail
    refine (CP.out _).mono ?_
    rintro e w' ⟨rfl, rfl⟩
    go_wp2
    go_ret2
    exact ⟨_, _, rfl, by unfold ldQ; rw [if_neg (by rw [HER.out]; decide), HER.out]; exact ⟨rfl, rfl⟩, HB.out⟩
  rw [h1] at CK
  rw [h2] at CS
  rw [h3] at CP
  have HER := Lib.hid h4
  obtain ⟨hc, -, hs, hsp⟩ := ld_ok h4
  have HC := Lib.hid hc
  have HSO := Lib.hid (ckS_ok hs)
  have HSP := Lib.hid hsp
  have hn4 : n ≤ 4096 := by have := HSO.out.1; have := HN.out; omega
  clear h1 h2 h3 h4 hc hs hsp
  go_enter Try.func37, Try.ntmps37
  go_wp2_with fail
  obtain ⟨W0, hW⟩ : ∃ W0, w.alloc (.cells #[.int .i64 c.half, .int .i64 c.gain, .int .i64 c.thin, .int .i64 c.wide, .int .i64 c.slope, .int .i64 c.jerk, .int .i64 c.stylus] 23) = W0 := ⟨_, rfl⟩
  have HK : Hid (Blk W0 w.heap.size 23 #[.int .i64 c.half, .int .i64 c.gain, .int .i64 c.thin, .int .i64 c.wide, .int .i64 c.slope, .int .i64 c.jerk, .int .i64 c.stylus]) := Lib.hid (by rw [← hW]; exact Blk.new _ _ _)
  have HB : Hid (Below w.heap.size w W0) := Lib.hid (by rw [← hW]; exact (Below.refl _ w).alloc (Nat.le_refl _) _)
  rw [hW]
  clear hW
  go_wp2_with fail
  refine (CK.out _).mono ?_
  rintro e w1 ⟨rfl, hb1⟩
  replace HK := Lib.hid (HK.out.below hb1 HK.out.lt)
  replace HB := Lib.hid (HB.out.trans (hb1.mono HB.out.size))
  clear hb1
  go_wp2_with fail
  refine (CS.out _ HB.out).mono ?_
  rintro e w2 ⟨rfl, hb1⟩
  replace HK := Lib.hid (HK.out.below hb1 HK.out.lt)
  replace HB := Lib.hid (HB.out.trans (hb1.mono HB.out.size))
  clear hb1
  go_wp2_with fail
  refine (CP.out _).mono ?_
  rintro e w' ⟨rfl, rfl⟩
  go_wp2_with fail
  go_loopw [10] (fun z wr => ∃ j : Nat, j ≤ 41 ∧ z = .int .i64 j ∧ Hid (∀ i : Nat, i < j → ldOk c xs r per i = true) ∧ Hid (Blk wr w.heap.size 23 #[.int .i64 c.half, .int .i64 c.gain, .int .i64 c.thin, .int .i64 c.wide, .int .i64 c.slope, .int .i64 c.jerk, .int .i64 c.stylus]) ∧ Hid (Below w.heap.size w wr)) (fun z wr => 41 - (intOf z).toNat)
  case atStart => exact ⟨0, by omega, rfl, Lib.hid (fun i hi => absurd hi (by omega)), HK, HB⟩
  case round =>
    clear HK HB
    obtain ⟨j, hj, rfl, HJ, HK, HB⟩ := hrel
    by_cases hlt : j < 41
    · have LO := Lib.hid (fun W (hb : Below w.heap.size w W) => refLouder_any w.heap.size A n k xs j W (H.out.below hb (Nat.le_refl _)) hb.size hn4 HSO.out.2 (by omega) (by omega))
      have HOK : Hid (ldOk c xs r per j = ((cutEr c (xs.map (lou j)) == 0) && fls c ((xs.map (lou j)).map (wallP c)) r per)) := Lib.hid rfl
      have HED : Hid (cutEr c (xs.map (lou j)) = 0 → ∀ p ∈ (xs.map (lou j)).map (wallP c), EdOk p) := Lib.hid (fun h => walls_ed h)
      have HRES : Hid (cutEr c (xs.map (lou j)) = 0 → cutRes c (xs.map (lou j)) = (xs.map (lou j)).map (wallP c)) := Lib.hid (fun h => by unfold cutRes; rw [if_pos h])
      have HIY := Lib.hid (lou_i64 (xs := xs) HSO.out.2 (k := (j : Int)) (by omega) (by omega))
      have hlen : (xs.map (lou j)).length = n := by rw [List.length_map]; exact HN.out.symm
      obtain ⟨ys, hys⟩ : ∃ ys, xs.map (lou j) = ys := ⟨_, rfl⟩
      rw [hys] at LO HOK HED HRES hlen HIY
      have HLEN := Lib.hid hlen
      clear hys hlen
      have hk_0 : wr.cell? ⟨w.heap.size, 0, none⟩ = some (.int .i64 c.half) := (HK.out.cell 0).trans rfl
      have hk_1 : wr.cell? ⟨w.heap.size, 1, none⟩ = some (.int .i64 c.gain) := (HK.out.cell 1).trans rfl
      have hk_2 : wr.cell? ⟨w.heap.size, 2, none⟩ = some (.int .i64 c.thin) := (HK.out.cell 2).trans rfl
      have hk_3 : wr.cell? ⟨w.heap.size, 3, none⟩ = some (.int .i64 c.wide) := (HK.out.cell 3).trans rfl
      have hk_4 : wr.cell? ⟨w.heap.size, 4, none⟩ = some (.int .i64 c.slope) := (HK.out.cell 4).trans rfl
      have hk_5 : wr.cell? ⟨w.heap.size, 5, none⟩ = some (.int .i64 c.jerk) := (HK.out.cell 5).trans rfl
      have hk_6 : wr.cell? ⟨w.heap.size, 6, none⟩ = some (.int .i64 c.stylus) := (HK.out.cell 6).trans rfl
      go_wp2_with fail
      go_region_held3 (fun w' => w'.cell? ⟨w.heap.size, 0, none⟩ = some (.int .i64 c.half) ∧ w'.cell? ⟨w.heap.size, 1, none⟩ = some (.int .i64 c.gain) ∧ w'.cell? ⟨w.heap.size, 2, none⟩ = some (.int .i64 c.thin) ∧ w'.cell? ⟨w.heap.size, 3, none⟩ = some (.int .i64 c.wide) ∧ w'.cell? ⟨w.heap.size, 4, none⟩ = some (.int .i64 c.slope) ∧ w'.cell? ⟨w.heap.size, 5, none⟩ = some (.int .i64 c.jerk) ∧ w'.cell? ⟨w.heap.size, 6, none⟩ = some (.int .i64 c.stylus)) ((refine ⟨?_, ?_, ?_, ?_, ?_, ?_, ?_⟩ <;> (repeat (with_reducible (first | refine cell_al _ ?_ | refine cell_dr ?_))) <;> (with_reducible assumption)))
        (first | (go_at_call 40; refine Calls.mono (LO.out _ (by first | exact HB.out | exact HB.out.drew)) ?_; rintro e wa ⟨Aa, na, ka, rfl, hra, hb1⟩; have HK := Lib.hid (by first | exact HK.out.below hb1 HK.out.lt | exact HK.out.drew.below hb1 HK.out.lt); have HB := Lib.hid (by first | exact HB.out.trans (hb1.mono HB.out.size) | exact HB.out.drew.trans (hb1.mono HB.out.size)); have HRA := Lib.hid hra; clear hb1 hra; have hk_0 : wa.cell? ⟨w.heap.size, 0, none⟩ = some (.int .i64 c.half) := (HK.out.cell 0).trans rfl; have hk_1 : wa.cell? ⟨w.heap.size, 1, none⟩ = some (.int .i64 c.gain) := (HK.out.cell 1).trans rfl; have hk_2 : wa.cell? ⟨w.heap.size, 2, none⟩ = some (.int .i64 c.thin) := (HK.out.cell 2).trans rfl; have hk_3 : wa.cell? ⟨w.heap.size, 3, none⟩ = some (.int .i64 c.wide) := (HK.out.cell 3).trans rfl; have hk_4 : wa.cell? ⟨w.heap.size, 4, none⟩ = some (.int .i64 c.slope) := (HK.out.cell 4).trans rfl; have hk_5 : wa.cell? ⟨w.heap.size, 5, none⟩ = some (.int .i64 c.jerk) := (HK.out.cell 5).trans rfl; have hk_6 : wa.cell? ⟨w.heap.size, 6, none⟩ = some (.int .i64 c.stylus) := (HK.out.cell 6).trans rfl) | (go_at_call 20; refine Calls.mono (refCut_any wa.heap.size Aa na ka c ys wa HRA.out (Nat.le_refl _) (by have := HRA.out.1; have := HLEN.out; omega) HIY.out) ?_; rintro e wb ⟨Ab, nb, kb, rfl, hrb, hnk, hb1⟩; have HK := Lib.hid (HK.out.below hb1 HK.out.lt); have HB := Lib.hid (HB.out.trans (hb1.mono HB.out.size)); have HRB := Lib.hid hrb; have HNK := Lib.hid hnk; clear hb1 hrb hnk; have hk_0 : wb.cell? ⟨w.heap.size, 0, none⟩ = some (.int .i64 c.half) := (HK.out.cell 0).trans rfl; have hk_1 : wb.cell? ⟨w.heap.size, 1, none⟩ = some (.int .i64 c.gain) := (HK.out.cell 1).trans rfl; have hk_2 : wb.cell? ⟨w.heap.size, 2, none⟩ = some (.int .i64 c.thin) := (HK.out.cell 2).trans rfl; have hk_3 : wb.cell? ⟨w.heap.size, 3, none⟩ = some (.int .i64 c.wide) := (HK.out.cell 3).trans rfl; have hk_4 : wb.cell? ⟨w.heap.size, 4, none⟩ = some (.int .i64 c.slope) := (HK.out.cell 4).trans rfl; have hk_5 : wb.cell? ⟨w.heap.size, 5, none⟩ = some (.int .i64 c.jerk) := (HK.out.cell 5).trans rfl; have hk_6 : wb.cell? ⟨w.heap.size, 6, none⟩ = some (.int .i64 c.stylus) := (HK.out.cell 6).trans rfl))
      by_cases hz : cutEr c ys = 0
      · have hres := HRES.out hz
        have hed := HED.out hz
        rw [hres] at HRB
        have FL := Lib.hid (refFault_any wb.heap.size Ab nb kb c (ys.map (wallP c)) r per wb HRB.out (Nat.le_refl _) (by have := HRB.out.1; rw [List.length_map] at this; have := HLEN.out; omega) HNK.out hed HC.out HSP.out)
        have hnn : 0 ≤ (flt c (ys.map (wallP c)) r per).2 := by
          unfold flt
          split
          · show 0 ≤ brk _ _ _ _ _
            unfold brk; repeat (first | omega | split)
          · exact Int.le_refl _
        rw [hz] at HOK
        have hfl : fls c (ys.map (wallP c)) r per = ((flt c (ys.map (wallP c)) r per).2 == 0) := rfl
        rw [hfl] at HOK
        obtain ⟨q, hq⟩ : ∃ q, flt c (ys.map (wallP c)) r per = q := ⟨_, rfl⟩
        rw [hq] at FL HOK hnn
        rw [hz]
        clear hz hres hed hq hfl
        by_cases hq0 : q.2 = 0
        · have HOK2 : Hid (ldOk c xs r per j = true) := Lib.hid (by rw [HOK.out]; simp [hq0])
          have hq1 : decide (0 < q.2) = false := decide_eq_false (by omega)
          clear HOK hq0
          go_wp2_with fail
          refine FL.out.mono ?_
          rintro e w5 ⟨rfl, hb1⟩
          replace HK := Lib.hid (HK.out.below hb1 HK.out.lt)
          replace HB := Lib.hid (HB.out.trans (hb1.mono HB.out.size))
          clear hb1 hk_0 hk_1 hk_2 hk_3 hk_4 hk_5 hk_6
          go_wp2
          go_roundw
          case rel => exact ⟨j + 1, by omega, by go_num, Lib.hid (ldOk_more HJ.out HOK2.out), HK, HB⟩
          case measure => simp [intOf]; omega
        · have HOK2 : Hid (ldOk c xs r per j = false) := Lib.hid (by rw [HOK.out]; simp [hq0])
          have hq1 : decide (0 < q.2) = true := decide_eq_true (by omega)
          clear HOK hq0
          by_cases hj0 : j = 0
          · subst hj0
            go_wp2_with fail
            refine FL.out.mono ?_
            rintro e w5 ⟨rfl, hb1⟩
            go_wp2
            go_ret2
            exact ⟨_, _, rfl, ldQ_mk HER.out 0 (by omega) HJ.out (fun _ => HOK2.out) (by simp), HB.out.trans (hb1.mono HB.out.size)⟩
          · have hj1 : ((j : Int) == 0) = false := beq_eq_false_iff_ne.2 (by omega)
            have hw1 : IntKind.i64.wrap ((j : Int) - 1) = (j : Int) - 1 := IntWalk.i64_in _ (by omega)
            go_wp2_with fail
            refine FL.out.mono ?_
            rintro e w5 ⟨rfl, hb1⟩
            go_wp2
            go_ret2
            exact ⟨_, _, rfl, ldQ_mk HER.out j (by omega) HJ.out (fun _ => HOK2.out) (by rw [if_neg hj0]; exact ⟨rfl, rfl⟩), HB.out.trans (hb1.mono HB.out.size)⟩
      · obtain ⟨g, hg⟩ : ∃ g, cutEr c ys = g := ⟨_, rfl⟩
        rw [hg] at HOK hz ⊢
        have HOK2 : Hid (ldOk c xs r per j = false) := Lib.hid (by rw [HOK.out]; simp [hz])
        have hz1 : (g == 0) = false := by simpa using hz
        have hz2 : (g != 0) = true := by simpa using hz
        clear hg hz HOK
        by_cases hj0 : j = 0
        · subst hj0
          go_wp2
          go_ret2
          exact ⟨_, _, rfl, ldQ_mk HER.out 0 (by omega) HJ.out (fun _ => HOK2.out) (by simp), HB.out⟩
        · have hj1 : ((j : Int) == 0) = false := beq_eq_false_iff_ne.2 (by omega)
          have hw1 : IntKind.i64.wrap ((j : Int) - 1) = (j : Int) - 1 := IntWalk.i64_in _ (by omega)
          go_wp2
          go_ret2
          exact ⟨_, _, rfl, ldQ_mk HER.out j (by omega) HJ.out (fun _ => HOK2.out) (by rw [if_neg hj0]; exact ⟨rfl, rfl⟩), HB.out⟩
    · obtain rfl : j = 41 := by omega
      go_wp2
      go_ret2
      exact ⟨_, _, rfl, ldQ_mk HER.out 41 (by omega) HJ.out (fun h => absurd h (by omega)) (by simp), HB.out⟩
end Go.Proofs.Ytaiigdbbpdkamaa
