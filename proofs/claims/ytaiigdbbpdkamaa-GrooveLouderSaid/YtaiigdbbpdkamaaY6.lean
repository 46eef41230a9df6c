/-
  The walk of GrooveLouder.
-/
import Derived.Test.YtaiigdbbpdkamaaK8
import Derived.Test.YtaiigdbbpdkamaaN2
import Derived.Test.YtaiigdbbpdkamaaY4
namespace Go.Proofs.Ytaiigdbbpdkamaa
open Go.RowKit

theorem ckG_of {l : List Smp} (h1 : l.length ≤ 4096) (h2 : ∀ p ∈ l, EdOk p) : ckG l = 0 := by
  have h3 : vPs l = true := by
    unfold vPs
    rw [List.all_eq_true]
    intro p hp
    obtain ⟨a, b, d, e⟩ := h2 p hp
    unfold vE win
    simp; omega
  unfold ckG
  rw [if_neg (by omega), if_pos h3]
theorem ldEr_not {c : Ctr} {xs : List Smp} {r per : Int} : ldEr c xs r per ≠ 14 := by
  rcases ldEr_cases c xs r per with ⟨h1, h2⟩ | ⟨h1, h2, h3⟩ | ⟨h1, h2, h3, h4⟩ | ⟨h1, h2, h3, h4⟩
  · omega
  · rw [h3]; unfold ckS; split
    · omega
    · split <;> omega
  · omega
  · omega
/-- What a step that is not too loud comes to. -/
theorem ld_true {c : Ctr} {xs : List Smp} {r per k : Int} (h0 : ldEr c xs r per = 0) (h : ldOk c xs r per k = true) :
    ckS (xs.map (lou k)) = 0 ∧ cutEr c (xs.map (lou k)) = 0 ∧ cutRes c (xs.map (lou k)) = (xs.map (lou k)).map (wallP c) ∧ fuR c ((xs.map (lou k)).map (wallP c)) r per = (0, 0, 5) := by
  obtain ⟨hc, hk, hs, hsp⟩ := ld_ok h0
  unfold ldOk at h
  simp only [Bool.and_eq_true, beq_iff_eq] at h
  obtain ⟨h1, h2⟩ := h
  have h3 : ckS (xs.map (lou k)) = 0 := (cut_ok h1).2
  have hl := (ckS_ok h3).1
  refine ⟨h3, h1, by unfold cutRes; rw [if_pos h1], ?_⟩
  exact fu_true (fuEr_zero hc (ckG_of (by simpa using hl) (walls_ed h1)) hsp) h2
theorem ld_false {c : Ctr} {xs : List Smp} {r per k : Int} (h0 : ldEr c xs r per = 0) (h : ldOk c xs r per k = false) (h3 : ckS (xs.map (lou k)) = 0) :
    cutEr c (xs.map (lou k)) = 0 ∧ cutRes c (xs.map (lou k)) = (xs.map (lou k)).map (wallP c) ∧ ∃ i q : Int, fuR c ((xs.map (lou k)).map (wallP c)) r per = (i, q, 0) := by
  obtain ⟨hc, hk, hs, hsp⟩ := ld_ok h0
  have h1 : cutEr c (xs.map (lou k)) = 0 := by unfold cutEr; rw [hk, h3]; rfl
  unfold ldOk at h
  rw [h1] at h
  have h2 : fls c ((xs.map (lou k)).map (wallP c)) r per = false := by simpa using h
  have hl := (ckS_ok h3).1
  refine ⟨h1, by unfold cutRes; rw [if_pos h1], ?_⟩
  obtain ⟨i, q, e, -⟩ := fu_false (fuEr_zero hc (ckG_of (by simpa using hl) (walls_ed h1)) hsp) h2
  exact ⟨i, q, e⟩

set_option maxRecDepth 100000 in
set_option maxHeartbeats 8000000 in
theorem louder_walk (B : Nat) (A : Option Addr) (n k : Nat) (c : Ctr) (xs : List Smp) (r per le : Int) (w : World) (h0 : RS w B A n xs) (hB : B ≤ w.heap.size) (hl : n ≤ 9223372036854775807) (hi : I64s xs) (l0 : 0 ≤ le) (l1 : le ≤ 255) :
    Calls Try.prog 12 #[.agg #[.int .i64 c.half, .int .i64 c.gain, .int .i64 c.thin, .int .i64 c.wide, .int .i64 c.slope, .int .i64 c.jerk, .int .i64 c.stylus], .slice A n k, .int .i64 r, .int .i64 per, .int .u8 le] w fun e w' => e = .returned (.bool true) ∧ Below w.heap.size w w' := by
  have HN := Lib.hid h0.1
  have H := Lib.hid (h0.more hB)
  clear h0 hB
  have WK := Lib.hid (fun W => Works_any W)
  by_cases h60 : 60 < n
  · have d1 : (60 : Int) < (n : Int) := by omega
    have d2 : decide ((60 : Int) < (n : Int)) = true := decide_eq_true d1
    go_enter Try.func12, Try.ntmps12
    go_wp2_with fail
    refine (WK.out _).mono ?_
    rintro e w1 ⟨rfl, hb1⟩
    go_wp2
    go_ret
    exact ⟨rfl, ((Below.refl _ w).alloc (Nat.le_refl _) _).trans (hb1.mono (by simp))⟩
  have d1 : (n : Int) ≤ 60 := by omega
  have LD := Lib.hid (fun W (hb : Below w.heap.size w W) => Loudest_any w.heap.size A n k c xs r per W (H.out.below hb (Nat.le_refl _)) hb.size hl)
  have CK := Lib.hid (fun W => refCheck_any c W)
  have CS := Lib.hid (fun W (hb : Below w.heap.size w W) => refCheckSamples_any w.heap.size A n k xs W (H.out.below hb (Nat.le_refl _)) hb.size hl hi)
  go_enter Try.func12, Try.ntmps12
  go_wp2_with fail
  obtain ⟨W0, hW⟩ : ∃ W0, w.alloc (.cells #[.int .i64 c.half, .int .i64 c.gain, .int .i64 c.thin, .int .i64 c.wide, .int .i64 c.slope, .int .i64 c.jerk, .int .i64 c.stylus] 23) = W0 := ⟨_, rfl⟩
  have HK : Hid (Blk W0 w.heap.size 23 #[.int .i64 c.half, .int .i64 c.gain, .int .i64 c.thin, .int .i64 c.wide, .int .i64 c.slope, .int .i64 c.jerk, .int .i64 c.stylus]) := Lib.hid (by rw [← hW]; exact Blk.new _ _ _)
  have HB : Hid (Below w.heap.size w W0) := Lib.hid (by rw [← hW]; exact (Below.refl _ w).alloc (Nat.le_refl _) _)
  rw [hW]
  clear hW
  have hk_0 : W0.cell? ⟨w.heap.size, 0, none⟩ = some (.int .i64 c.half) := (HK.out.cell 0).trans rfl
  have hk_1 : W0.cell? ⟨w.heap.size, 1, none⟩ = some (.int .i64 c.gain) := (HK.out.cell 1).trans rfl
  have hk_2 : W0.cell? ⟨w.heap.size, 2, none⟩ = some (.int .i64 c.thin) := (HK.out.cell 2).trans rfl
  have hk_3 : W0.cell? ⟨w.heap.size, 3, none⟩ = some (.int .i64 c.wide) := (HK.out.cell 3).trans rfl
  have hk_4 : W0.cell? ⟨w.heap.size, 4, none⟩ = some (.int .i64 c.slope) := (HK.out.cell 4).trans rfl
  have hk_5 : W0.cell? ⟨w.heap.size, 5, none⟩ = some (.int .i64 c.jerk) := (HK.out.cell 5).trans rfl
  have hk_6 : W0.cell? ⟨w.heap.size, 6, none⟩ = some (.int .i64 c.stylus) := (HK.out.cell 6).trans rfl
  go_wp2_with fail
  refine (LD.out _ HB.out).mono ?_
  rintro e w1 ⟨v, er, rfl, hq, hb1⟩
  replace HK := Lib.hid (HK.out.below hb1 HK.out.lt)
  replace HB := Lib.hid (HB.out.trans (hb1.mono HB.out.size))
  clear hb1
  clear hk_0 hk_1 hk_2 hk_3 hk_4 hk_5 hk_6
  by_cases he : ldEr c xs r per = 0
  rotate_left
  · have hv : v = 0 ∧ er = ldEr c xs r per := by unfold ldQ at hq; rw [if_neg he] at hq; exact hq
    obtain ⟨rfl, hee⟩ := hv
    have hz1 : (er == 0) = false := by rw [hee]; simpa using he
    have hz2 : (er != 0) = true := by rw [hee]; simpa using he
    have hz3 : (er == 14) = false := by rw [hee]; have := @ldEr_not c xs r per; simpa using this
    have hz4 : (er != 14) = true := by rw [hee]; have := @ldEr_not c xs r per; simpa using this
    clear hee he hq
    go_wp2_with fail
    refine (WK.out _).mono ?_
    rintro e w2 ⟨rfl, hb1⟩
    go_wp2
    go_ret
    exact ⟨rfl, HB.out.trans (hb1.mono HB.out.size)⟩
  obtain ⟨hc, hck, hs, hsp⟩ := ld_ok he
  rw [hck] at CK
  rw [hs] at CS
  have HE := Lib.hid he
  have HSO := Lib.hid (ckS_ok hs)
  have hn4 : n ≤ 4096 := by omega
  have LO := Lib.hid (fun (j : Int) (j0 : 0 ≤ j) (j1 : j ≤ 40) W (hb : Below w.heap.size w W) => refLouder_any w.heap.size A n k xs j W (H.out.below hb (Nat.le_refl _)) hb.size hn4 HSO.out.2 j0 j1)
  have LI := Lib.hid (fun (j : Int) (j0 : 0 ≤ j) (j1 : j ≤ 40) => lou_i64 (xs := xs) HSO.out.2 j0 j1)
  have HLEN := Lib.hid (fun j : Int => show (xs.map (lou j)).length = n by rw [List.length_map]; exact HN.out.symm)
  unfold ldQ at hq
  rw [if_pos he] at hq
  obtain ⟨q, q1, q2, q3, q4⟩ := hq
  have HT := Lib.hid (fun (j : Int) (j0 : 0 ≤ j) (j1 : j < (q : Int)) => show ldOk c xs r per j = true by
    obtain ⟨jn, rfl⟩ := Int.eq_ofNat_of_zero_le j0
    exact q2 jn (by omega))
  have HF := Lib.hid q3
  clear hc hck hs hsp he q2 q3
  by_cases hq0 : q = 0
  · subst hq0
    rw [if_pos rfl] at q4
    obtain ⟨rfl, rfl⟩ := q4
    have hr0 : le % 1 = 0 := Int.emod_one le
    clear q1
    have hk_0 : w1.cell? ⟨w.heap.size, 0, none⟩ = some (.int .i64 c.half) := (HK.out.cell 0).trans rfl
    have hk_1 : w1.cell? ⟨w.heap.size, 1, none⟩ = some (.int .i64 c.gain) := (HK.out.cell 1).trans rfl
    have hk_2 : w1.cell? ⟨w.heap.size, 2, none⟩ = some (.int .i64 c.thin) := (HK.out.cell 2).trans rfl
    have hk_3 : w1.cell? ⟨w.heap.size, 3, none⟩ = some (.int .i64 c.wide) := (HK.out.cell 3).trans rfl
    have hk_4 : w1.cell? ⟨w.heap.size, 4, none⟩ = some (.int .i64 c.slope) := (HK.out.cell 4).trans rfl
    have hk_5 : w1.cell? ⟨w.heap.size, 5, none⟩ = some (.int .i64 c.jerk) := (HK.out.cell 5).trans rfl
    have hk_6 : w1.cell? ⟨w.heap.size, 6, none⟩ = some (.int .i64 c.stylus) := (HK.out.cell 6).trans rfl
    go_wp2_with fail
    refine (CK.out _).mono ?_
    rintro e w2 ⟨rfl, hb1⟩
    replace HK := Lib.hid (HK.out.below hb1 HK.out.lt)
    replace HB := Lib.hid (HB.out.trans (hb1.mono HB.out.size))
    clear hb1
    clear hk_0 hk_1 hk_2 hk_3 hk_4 hk_5 hk_6
    go_wp2_with fail
    refine (CS.out _ HB.out).mono ?_
    rintro e w3 ⟨rfl, hb1⟩
    replace HK := Lib.hid (HK.out.below hb1 HK.out.lt)
    replace HB := Lib.hid (HB.out.trans (hb1.mono HB.out.size))
    clear hb1
    go_wp2_with fail
    go_loopw [13] (fun z wr => ∃ m : Nat, m ≤ 3 ∧ z = .int .i64 m ∧ Hid (Blk wr w.heap.size 23 #[.int .i64 c.half, .int .i64 c.gain, .int .i64 c.thin, .int .i64 c.wide, .int .i64 c.slope, .int .i64 c.jerk, .int .i64 c.stylus]) ∧ Hid (Below w.heap.size w wr)) (fun z wr => 3 - (intOf z).toNat)
    case atStart => exact ⟨0, by omega, rfl, HK, HB⟩
    case round =>
      clear HK HB
      obtain ⟨m, hm, rfl, HK, HB⟩ := hrel
      have hm4 : m = 0 ∨ m = 1 ∨ m = 2 ∨ m = 3 := by omega
      clear hm
      rcases hm4 with rfl | rfl | rfl | rfl
      · as_aux_lemma =>
          replace HK := Lib.hid (HK.out.alloc (.cells #[.int .i64 (-1), .int .i64 (0), .int .i64 (0)] 3))
          replace HB := Lib.hid (HB.out.alloc HB.out.size (.cells #[.int .i64 (-1), .int .i64 (0), .int .i64 (0)] 3))
          go_wp2_with fail
          go_roundw
          case rel => exact ⟨1, by omega, rfl, HK, HB⟩
          case measure => simp [intOf]
      · as_aux_lemma =>
          replace HK := Lib.hid (HK.out.alloc (.cells #[.int .i64 (-1), .int .i64 (0), .int .i64 (0)] 3))
          replace HB := Lib.hid (HB.out.alloc HB.out.size (.cells #[.int .i64 (-1), .int .i64 (0), .int .i64 (0)] 3))
          go_wp2_with fail
          go_roundw
          case rel => exact ⟨2, by omega, rfl, HK, HB⟩
          case measure => simp [intOf]
      · as_aux_lemma =>
          have LJ := Lib.hid (LO.out (0) (by omega) (by omega))
          have LIJ := Lib.hid (LI.out (0) (by omega) (by omega))
          have hlen := HLEN.out (0)
          have HX := Lib.hid (fun h => ld_false (k := 0) HE.out (HF.out (by omega)) h)
          obtain ⟨ys, hys⟩ : ∃ ys, xs.map (lou (0)) = ys := ⟨_, rfl⟩
          rw [hys] at LJ LIJ HX hlen
          have HLY := Lib.hid hlen
          clear hys hlen
          go_wp2_with fail
          refine (LJ.out _ (by first | exact HB.out | exact HB.out.alloc HB.out.size _)).mono ?_
          rintro e wa ⟨Aa, na, ka, rfl, hra, hb1⟩
          replace HK := Lib.hid (by first | exact HK.out.below hb1 HK.out.lt | exact (HK.out.alloc _).below hb1 (HK.out.alloc _).lt)
          replace HB := Lib.hid (by first | exact HB.out.trans (hb1.mono HB.out.size) | exact (HB.out.alloc HB.out.size _).trans (hb1.mono (HB.out.alloc HB.out.size _).size))
          have HRA := Lib.hid hra
          have hna : na = n := by have := HRA.out.1; have := HLY.out; omega
          have HNA := Lib.hid hna
          clear hb1 hra hna
          by_cases hcy : ckS ys = 0
          · obtain ⟨x1, x2, i, qq, x3⟩ := HX.out hcy
            have HFU := Lib.hid x3
            have CSY := Lib.hid (refCheckSamples_any wa.heap.size Aa na ka ys wa HRA.out (Nat.le_refl _) (by have := HNA.out; omega) LIJ.out)
            rw [hcy] at CSY
            clear x3
            go_wp2_with fail
            refine CSY.out.mono ?_
            rintro e wb ⟨rfl, hb1⟩
            have HRB := Lib.hid ((HRA.out.below hb1 (Nat.le_refl _)).more hb1.size)
            replace HK := Lib.hid (HK.out.below hb1 HK.out.lt)
            replace HB := Lib.hid (HB.out.trans (hb1.mono HB.out.size))
            clear hb1
            have CUY := Lib.hid (Cut_any wb.heap.size Aa na ka c ys wb HRB.out (Nat.le_refl _) (by have := HNA.out; omega))
            rw [x1, x2] at CUY
            clear x1 x2 hcy
            have hk_0 : wb.cell? ⟨w.heap.size, 0, none⟩ = some (.int .i64 c.half) := (HK.out.cell 0).trans rfl
            have hk_1 : wb.cell? ⟨w.heap.size, 1, none⟩ = some (.int .i64 c.gain) := (HK.out.cell 1).trans rfl
            have hk_2 : wb.cell? ⟨w.heap.size, 2, none⟩ = some (.int .i64 c.thin) := (HK.out.cell 2).trans rfl
            have hk_3 : wb.cell? ⟨w.heap.size, 3, none⟩ = some (.int .i64 c.wide) := (HK.out.cell 3).trans rfl
            have hk_4 : wb.cell? ⟨w.heap.size, 4, none⟩ = some (.int .i64 c.slope) := (HK.out.cell 4).trans rfl
            have hk_5 : wb.cell? ⟨w.heap.size, 5, none⟩ = some (.int .i64 c.jerk) := (HK.out.cell 5).trans rfl
            have hk_6 : wb.cell? ⟨w.heap.size, 6, none⟩ = some (.int .i64 c.stylus) := (HK.out.cell 6).trans rfl
            go_wp2_with fail
            refine CUY.out.mono ?_
            rintro e wd ⟨Ab, nb, kb, rfl, hrb, hb1⟩
            have HRD := Lib.hid hrb
            replace HK := Lib.hid (HK.out.below hb1 HK.out.lt)
            replace HB := Lib.hid (HB.out.trans (hb1.mono HB.out.size))
            clear hb1
            clear hrb
            clear hk_0 hk_1 hk_2 hk_3 hk_4 hk_5 hk_6
            have FUY := Lib.hid (Fault_any wd.heap.size Ab nb kb c (ys.map (wallP c)) r per wd HRD.out (Nat.le_refl _) (by have := HRD.out.1; rw [List.length_map] at this; have := HLY.out; omega))
            rw [HFU.out] at FUY
            have hk_0 : wd.cell? ⟨w.heap.size, 0, none⟩ = some (.int .i64 c.half) := (HK.out.cell 0).trans rfl
            have hk_1 : wd.cell? ⟨w.heap.size, 1, none⟩ = some (.int .i64 c.gain) := (HK.out.cell 1).trans rfl
            have hk_2 : wd.cell? ⟨w.heap.size, 2, none⟩ = some (.int .i64 c.thin) := (HK.out.cell 2).trans rfl
            have hk_3 : wd.cell? ⟨w.heap.size, 3, none⟩ = some (.int .i64 c.wide) := (HK.out.cell 3).trans rfl
            have hk_4 : wd.cell? ⟨w.heap.size, 4, none⟩ = some (.int .i64 c.slope) := (HK.out.cell 4).trans rfl
            have hk_5 : wd.cell? ⟨w.heap.size, 5, none⟩ = some (.int .i64 c.jerk) := (HK.out.cell 5).trans rfl
            have hk_6 : wd.cell? ⟨w.heap.size, 6, none⟩ = some (.int .i64 c.stylus) := (HK.out.cell 6).trans rfl
            go_wp2_with fail
            refine FUY.out.mono ?_
            rintro e we ⟨rfl, hb1⟩
            replace HK := Lib.hid (HK.out.below hb1 HK.out.lt)
            replace HB := Lib.hid (HB.out.trans (hb1.mono HB.out.size))
            clear hb1
            clear hk_0 hk_1 hk_2 hk_3 hk_4 hk_5 hk_6
            go_wp2_with fail
            go_roundw
            case rel => exact ⟨3, by omega, rfl, HK, HB⟩
            case measure => simp [intOf]
          · have CSY := Lib.hid (refCheckSamples_any wa.heap.size Aa na ka ys wa HRA.out (Nat.le_refl _) (by have := HNA.out; omega) LIJ.out)
            obtain ⟨g, hg⟩ : ∃ g, ckS ys = g := ⟨_, rfl⟩
            rw [hg] at CSY hcy
            have hz1 : (g == 0) = false := by simpa using hcy
            have hz2 : (g != 0) = true := by simpa using hcy
            clear hg hcy
            go_wp2_with fail
            refine CSY.out.mono ?_
            rintro e wb ⟨rfl, hb1⟩
            have HRB := Lib.hid ((HRA.out.below hb1 (Nat.le_refl _)).more hb1.size)
            replace HK := Lib.hid (HK.out.below hb1 HK.out.lt)
            replace HB := Lib.hid (HB.out.trans (hb1.mono HB.out.size))
            clear hb1
            go_wp2_with fail
            go_roundw
            case rel => exact ⟨3, by omega, rfl, HK, HB⟩
            case measure => simp [intOf]
      · as_aux_lemma =>
          go_wp2_with fail
          go_wp2_with fail
          refine (WK.out _).mono ?_
          rintro e v9 ⟨rfl, hb1⟩
          go_wp2
          go_ret
          exact ⟨rfl, HB.out.trans (hb1.mono HB.out.size)⟩
  · rw [if_neg hq0] at q4
    obtain ⟨hv, rfl⟩ := q4
    have v0 : 0 ≤ v := by omega
    have v1 : v ≤ 40 := by omega
    have HV := Lib.hid hv
    obtain ⟨jm, hjm⟩ : ∃ jm, le % (v + 2) = jm := ⟨_, rfl⟩
    have jm0 : 0 ≤ jm := by rw [← hjm]; exact Int.emod_nonneg _ (by omega)
    have jm1 : jm < v + 2 := by rw [← hjm]; exact Int.emod_lt_of_pos _ (by omega)
    have qv : (q : Int) = v + 1 := by omega
    have HQV := Lib.hid qv
    have wz1 : IntKind.i64.wrap (v + 1) = v + 1 := IntWalk.i64_in _ (by omega)
    have wz2 : IntKind.i64.wrap (v + 2) = v + 2 := IntWalk.i64_in _ (by omega)
    rw [qv] at HT
    clear hv hq0 q1 qv
    have hk_0 : w1.cell? ⟨w.heap.size, 0, none⟩ = some (.int .i64 c.half) := (HK.out.cell 0).trans rfl
    have hk_1 : w1.cell? ⟨w.heap.size, 1, none⟩ = some (.int .i64 c.gain) := (HK.out.cell 1).trans rfl
    have hk_2 : w1.cell? ⟨w.heap.size, 2, none⟩ = some (.int .i64 c.thin) := (HK.out.cell 2).trans rfl
    have hk_3 : w1.cell? ⟨w.heap.size, 3, none⟩ = some (.int .i64 c.wide) := (HK.out.cell 3).trans rfl
    have hk_4 : w1.cell? ⟨w.heap.size, 4, none⟩ = some (.int .i64 c.slope) := (HK.out.cell 4).trans rfl
    have hk_5 : w1.cell? ⟨w.heap.size, 5, none⟩ = some (.int .i64 c.jerk) := (HK.out.cell 5).trans rfl
    have hk_6 : w1.cell? ⟨w.heap.size, 6, none⟩ = some (.int .i64 c.stylus) := (HK.out.cell 6).trans rfl
    go_wp2_with fail
    refine (CK.out _).mono ?_
    rintro e w2 ⟨rfl, hb1⟩
    replace HK := Lib.hid (HK.out.below hb1 HK.out.lt)
    replace HB := Lib.hid (HB.out.trans (hb1.mono HB.out.size))
    clear hb1
    clear hk_0 hk_1 hk_2 hk_3 hk_4 hk_5 hk_6
    go_wp2_with fail
    refine (CS.out _ HB.out).mono ?_
    rintro e w3 ⟨rfl, hb1⟩
    replace HK := Lib.hid (HK.out.below hb1 HK.out.lt)
    replace HB := Lib.hid (HB.out.trans (hb1.mono HB.out.size))
    clear hb1
    go_wp2_with fail
    go_loopw [13] (fun z wr => ∃ m : Nat, m ≤ 3 ∧ z = .int .i64 m ∧ Hid (Blk wr w.heap.size 23 #[.int .i64 c.half, .int .i64 c.gain, .int .i64 c.thin, .int .i64 c.wide, .int .i64 c.slope, .int .i64 c.jerk, .int .i64 c.stylus]) ∧ Hid (Below w.heap.size w wr)) (fun z wr => 3 - (intOf z).toNat)
    case atStart => exact ⟨0, by omega, rfl, HK, HB⟩
    case round =>
      clear HK HB
      obtain ⟨m, hm, rfl, HK, HB⟩ := hrel
      have hm4 : m = 0 ∨ m = 1 ∨ m = 2 ∨ m = 3 := by omega
      clear hm
      rcases hm4 with rfl | rfl | rfl | rfl
      · as_aux_lemma =>
          have LJ := Lib.hid (LO.out (v) (by omega) (by omega))
          have LIJ := Lib.hid (LI.out (v) (by omega) (by omega))
          have hlen := HLEN.out (v)
          have HX := Lib.hid (ld_true HE.out (HT.out (v) (by omega) (by omega)))
          obtain ⟨ys, hys⟩ : ∃ ys, xs.map (lou (v)) = ys := ⟨_, rfl⟩
          rw [hys] at LJ LIJ HX hlen
          have HLY := Lib.hid hlen
          clear hys hlen
          have HFU := Lib.hid HX.out.2.2.2
          go_wp2_with fail
          refine (LJ.out _ (by first | exact HB.out | exact HB.out.alloc HB.out.size _)).mono ?_
          rintro e wa ⟨Aa, na, ka, rfl, hra, hb1⟩
          replace HK := Lib.hid (by first | exact HK.out.below hb1 HK.out.lt | exact (HK.out.alloc _).below hb1 (HK.out.alloc _).lt)
          replace HB := Lib.hid (by first | exact HB.out.trans (hb1.mono HB.out.size) | exact (HB.out.alloc HB.out.size _).trans (hb1.mono (HB.out.alloc HB.out.size _).size))
          have HRA := Lib.hid hra
          have hna : na = n := by have := HRA.out.1; have := HLY.out; omega
          have HNA := Lib.hid hna
          clear hb1 hra hna
          have CSY := Lib.hid (refCheckSamples_any wa.heap.size Aa na ka ys wa HRA.out (Nat.le_refl _) (by have := HNA.out; omega) LIJ.out)
          rw [HX.out.1] at CSY
          go_wp2_with fail
          refine CSY.out.mono ?_
          rintro e wb ⟨rfl, hb1⟩
          have HRB := Lib.hid ((HRA.out.below hb1 (Nat.le_refl _)).more hb1.size)
          replace HK := Lib.hid (HK.out.below hb1 HK.out.lt)
          replace HB := Lib.hid (HB.out.trans (hb1.mono HB.out.size))
          clear hb1
          have CUY := Lib.hid (Cut_any wb.heap.size Aa na ka c ys wb HRB.out (Nat.le_refl _) (by have := HNA.out; omega))
          rw [HX.out.2.1, HX.out.2.2.1] at CUY
          have hk_0 : wb.cell? ⟨w.heap.size, 0, none⟩ = some (.int .i64 c.half) := (HK.out.cell 0).trans rfl
          have hk_1 : wb.cell? ⟨w.heap.size, 1, none⟩ = some (.int .i64 c.gain) := (HK.out.cell 1).trans rfl
          have hk_2 : wb.cell? ⟨w.heap.size, 2, none⟩ = some (.int .i64 c.thin) := (HK.out.cell 2).trans rfl
          have hk_3 : wb.cell? ⟨w.heap.size, 3, none⟩ = some (.int .i64 c.wide) := (HK.out.cell 3).trans rfl
          have hk_4 : wb.cell? ⟨w.heap.size, 4, none⟩ = some (.int .i64 c.slope) := (HK.out.cell 4).trans rfl
          have hk_5 : wb.cell? ⟨w.heap.size, 5, none⟩ = some (.int .i64 c.jerk) := (HK.out.cell 5).trans rfl
          have hk_6 : wb.cell? ⟨w.heap.size, 6, none⟩ = some (.int .i64 c.stylus) := (HK.out.cell 6).trans rfl
          go_wp2_with fail
          refine CUY.out.mono ?_
          rintro e wd ⟨Ab, nb, kb, rfl, hrb, hb1⟩
          have HRD := Lib.hid hrb
          replace HK := Lib.hid (HK.out.below hb1 HK.out.lt)
          replace HB := Lib.hid (HB.out.trans (hb1.mono HB.out.size))
          clear hb1
          clear hrb
          clear hk_0 hk_1 hk_2 hk_3 hk_4 hk_5 hk_6
          have FUY := Lib.hid (Fault_any wd.heap.size Ab nb kb c (ys.map (wallP c)) r per wd HRD.out (Nat.le_refl _) (by have := HRD.out.1; rw [List.length_map] at this; have := HLY.out; omega))
          rw [HFU.out] at FUY
          have hk_0 : wd.cell? ⟨w.heap.size, 0, none⟩ = some (.int .i64 c.half) := (HK.out.cell 0).trans rfl
          have hk_1 : wd.cell? ⟨w.heap.size, 1, none⟩ = some (.int .i64 c.gain) := (HK.out.cell 1).trans rfl
          have hk_2 : wd.cell? ⟨w.heap.size, 2, none⟩ = some (.int .i64 c.thin) := (HK.out.cell 2).trans rfl
          have hk_3 : wd.cell? ⟨w.heap.size, 3, none⟩ = some (.int .i64 c.wide) := (HK.out.cell 3).trans rfl
          have hk_4 : wd.cell? ⟨w.heap.size, 4, none⟩ = some (.int .i64 c.slope) := (HK.out.cell 4).trans rfl
          have hk_5 : wd.cell? ⟨w.heap.size, 5, none⟩ = some (.int .i64 c.jerk) := (HK.out.cell 5).trans rfl
          have hk_6 : wd.cell? ⟨w.heap.size, 6, none⟩ = some (.int .i64 c.stylus) := (HK.out.cell 6).trans rfl
          go_wp2_with fail
          refine FUY.out.mono ?_
          rintro e we ⟨rfl, hb1⟩
          replace HK := Lib.hid (HK.out.below hb1 HK.out.lt)
          replace HB := Lib.hid (HB.out.trans (hb1.mono HB.out.size))
          clear hb1
          clear hk_0 hk_1 hk_2 hk_3 hk_4 hk_5 hk_6
          go_wp2_with fail
          go_roundw
          case rel => exact ⟨1, by omega, rfl, HK, HB⟩
          case measure => simp [intOf]
      · as_aux_lemma =>
          by_cases hjm : jm ≤ v
          · have LJ := Lib.hid (LO.out (jm) (by omega) (by omega))
            have LIJ := Lib.hid (LI.out (jm) (by omega) (by omega))
            have hlen := HLEN.out (jm)
            have HX := Lib.hid (ld_true HE.out (HT.out (jm) (by omega) (by omega)))
            obtain ⟨ys, hys⟩ : ∃ ys, xs.map (lou (jm)) = ys := ⟨_, rfl⟩
            rw [hys] at LJ LIJ HX hlen
            have HLY := Lib.hid hlen
            clear hys hlen
            have HFU := Lib.hid HX.out.2.2.2
            go_wp2_with fail
            refine (LJ.out _ (by first | exact HB.out | exact HB.out.alloc HB.out.size _)).mono ?_
            rintro e wa ⟨Aa, na, ka, rfl, hra, hb1⟩
            replace HK := Lib.hid (by first | exact HK.out.below hb1 HK.out.lt | exact (HK.out.alloc _).below hb1 (HK.out.alloc _).lt)
            replace HB := Lib.hid (by first | exact HB.out.trans (hb1.mono HB.out.size) | exact (HB.out.alloc HB.out.size _).trans (hb1.mono (HB.out.alloc HB.out.size _).size))
            have HRA := Lib.hid hra
            have hna : na = n := by have := HRA.out.1; have := HLY.out; omega
            have HNA := Lib.hid hna
            clear hb1 hra hna
            have CSY := Lib.hid (refCheckSamples_any wa.heap.size Aa na ka ys wa HRA.out (Nat.le_refl _) (by have := HNA.out; omega) LIJ.out)
            rw [HX.out.1] at CSY
            go_wp2_with fail
            refine CSY.out.mono ?_
            rintro e wb ⟨rfl, hb1⟩
            have HRB := Lib.hid ((HRA.out.below hb1 (Nat.le_refl _)).more hb1.size)
            replace HK := Lib.hid (HK.out.below hb1 HK.out.lt)
            replace HB := Lib.hid (HB.out.trans (hb1.mono HB.out.size))
            clear hb1
            have CUY := Lib.hid (Cut_any wb.heap.size Aa na ka c ys wb HRB.out (Nat.le_refl _) (by have := HNA.out; omega))
            rw [HX.out.2.1, HX.out.2.2.1] at CUY
            have hk_0 : wb.cell? ⟨w.heap.size, 0, none⟩ = some (.int .i64 c.half) := (HK.out.cell 0).trans rfl
            have hk_1 : wb.cell? ⟨w.heap.size, 1, none⟩ = some (.int .i64 c.gain) := (HK.out.cell 1).trans rfl
            have hk_2 : wb.cell? ⟨w.heap.size, 2, none⟩ = some (.int .i64 c.thin) := (HK.out.cell 2).trans rfl
            have hk_3 : wb.cell? ⟨w.heap.size, 3, none⟩ = some (.int .i64 c.wide) := (HK.out.cell 3).trans rfl
            have hk_4 : wb.cell? ⟨w.heap.size, 4, none⟩ = some (.int .i64 c.slope) := (HK.out.cell 4).trans rfl
            have hk_5 : wb.cell? ⟨w.heap.size, 5, none⟩ = some (.int .i64 c.jerk) := (HK.out.cell 5).trans rfl
            have hk_6 : wb.cell? ⟨w.heap.size, 6, none⟩ = some (.int .i64 c.stylus) := (HK.out.cell 6).trans rfl
            go_wp2_with fail
            refine CUY.out.mono ?_
            rintro e wd ⟨Ab, nb, kb, rfl, hrb, hb1⟩
            have HRD := Lib.hid hrb
            replace HK := Lib.hid (HK.out.below hb1 HK.out.lt)
            replace HB := Lib.hid (HB.out.trans (hb1.mono HB.out.size))
            clear hb1
            clear hrb
            clear hk_0 hk_1 hk_2 hk_3 hk_4 hk_5 hk_6
            have FUY := Lib.hid (Fault_any wd.heap.size Ab nb kb c (ys.map (wallP c)) r per wd HRD.out (Nat.le_refl _) (by have := HRD.out.1; rw [List.length_map] at this; have := HLY.out; omega))
            rw [HFU.out] at FUY
            have hk_0 : wd.cell? ⟨w.heap.size, 0, none⟩ = some (.int .i64 c.half) := (HK.out.cell 0).trans rfl
            have hk_1 : wd.cell? ⟨w.heap.size, 1, none⟩ = some (.int .i64 c.gain) := (HK.out.cell 1).trans rfl
            have hk_2 : wd.cell? ⟨w.heap.size, 2, none⟩ = some (.int .i64 c.thin) := (HK.out.cell 2).trans rfl
            have hk_3 : wd.cell? ⟨w.heap.size, 3, none⟩ = some (.int .i64 c.wide) := (HK.out.cell 3).trans rfl
            have hk_4 : wd.cell? ⟨w.heap.size, 4, none⟩ = some (.int .i64 c.slope) := (HK.out.cell 4).trans rfl
            have hk_5 : wd.cell? ⟨w.heap.size, 5, none⟩ = some (.int .i64 c.jerk) := (HK.out.cell 5).trans rfl
            have hk_6 : wd.cell? ⟨w.heap.size, 6, none⟩ = some (.int .i64 c.stylus) := (HK.out.cell 6).trans rfl
            go_wp2_with fail
            refine FUY.out.mono ?_
            rintro e we ⟨rfl, hb1⟩
            replace HK := Lib.hid (HK.out.below hb1 HK.out.lt)
            replace HB := Lib.hid (HB.out.trans (hb1.mono HB.out.size))
            clear hb1
            clear hk_0 hk_1 hk_2 hk_3 hk_4 hk_5 hk_6
            go_wp2_with fail
            go_roundw
            case rel => exact ⟨2, by omega, rfl, HK, HB⟩
            case measure => simp [intOf]
          · have hjm2 : v < jm := by omega
            replace HK := Lib.hid (HK.out.alloc (.cells #[.int .i64 (v), .int .i64 (jm), .int .i64 (v + 1)] 3))
            replace HB := Lib.hid (HB.out.alloc HB.out.size (.cells #[.int .i64 (v), .int .i64 (jm), .int .i64 (v + 1)] 3))
            go_wp2_with fail
            all_goals
              go_roundw
              case rel => exact ⟨2, by omega, rfl, HK, HB⟩
              case measure => simp [intOf]
      · as_aux_lemma =>
          by_cases hv40 : v + 1 ≤ 40
          · have LJ := Lib.hid (LO.out (v + 1) (by omega) (by omega))
            have LIJ := Lib.hid (LI.out (v + 1) (by omega) (by omega))
            have hlen := HLEN.out (v + 1)
            have HX := Lib.hid (fun h => ld_false (k := v + 1) HE.out (by have := HF.out (by have := HV.out; omega); rwa [show (q : Int) = v + 1 by have := HV.out; omega] at this) h)
            obtain ⟨ys, hys⟩ : ∃ ys, xs.map (lou (v + 1)) = ys := ⟨_, rfl⟩
            rw [hys] at LJ LIJ HX hlen
            have HLY := Lib.hid hlen
            clear hys hlen
            go_wp2_with fail
            refine (LJ.out _ (by first | exact HB.out | exact HB.out.alloc HB.out.size _)).mono ?_
            rintro e wa ⟨Aa, na, ka, rfl, hra, hb1⟩
            replace HK := Lib.hid (by first | exact HK.out.below hb1 HK.out.lt | exact (HK.out.alloc _).below hb1 (HK.out.alloc _).lt)
            replace HB := Lib.hid (by first | exact HB.out.trans (hb1.mono HB.out.size) | exact (HB.out.alloc HB.out.size _).trans (hb1.mono (HB.out.alloc HB.out.size _).size))
            have HRA := Lib.hid hra
            have hna : na = n := by have := HRA.out.1; have := HLY.out; omega
            have HNA := Lib.hid hna
            clear hb1 hra hna
            by_cases hcy : ckS ys = 0
            · obtain ⟨x1, x2, i, qq, x3⟩ := HX.out hcy
              have HFU := Lib.hid x3
              have CSY := Lib.hid (refCheckSamples_any wa.heap.size Aa na ka ys wa HRA.out (Nat.le_refl _) (by have := HNA.out; omega) LIJ.out)
              rw [hcy] at CSY
              clear x3
              go_wp2_with fail
              refine CSY.out.mono ?_
              rintro e wb ⟨rfl, hb1⟩
              have HRB := Lib.hid ((HRA.out.below hb1 (Nat.le_refl _)).more hb1.size)
              replace HK := Lib.hid (HK.out.below hb1 HK.out.lt)
              replace HB := Lib.hid (HB.out.trans (hb1.mono HB.out.size))
              clear hb1
              have CUY := Lib.hid (Cut_any wb.heap.size Aa na ka c ys wb HRB.out (Nat.le_refl _) (by have := HNA.out; omega))
              rw [x1, x2] at CUY
              clear x1 x2 hcy
              have hk_0 : wb.cell? ⟨w.heap.size, 0, none⟩ = some (.int .i64 c.half) := (HK.out.cell 0).trans rfl
              have hk_1 : wb.cell? ⟨w.heap.size, 1, none⟩ = some (.int .i64 c.gain) := (HK.out.cell 1).trans rfl
              have hk_2 : wb.cell? ⟨w.heap.size, 2, none⟩ = some (.int .i64 c.thin) := (HK.out.cell 2).trans rfl
              have hk_3 : wb.cell? ⟨w.heap.size, 3, none⟩ = some (.int .i64 c.wide) := (HK.out.cell 3).trans rfl
              have hk_4 : wb.cell? ⟨w.heap.size, 4, none⟩ = some (.int .i64 c.slope) := (HK.out.cell 4).trans rfl
              have hk_5 : wb.cell? ⟨w.heap.size, 5, none⟩ = some (.int .i64 c.jerk) := (HK.out.cell 5).trans rfl
              have hk_6 : wb.cell? ⟨w.heap.size, 6, none⟩ = some (.int .i64 c.stylus) := (HK.out.cell 6).trans rfl
              go_wp2_with fail
              refine CUY.out.mono ?_
              rintro e wd ⟨Ab, nb, kb, rfl, hrb, hb1⟩
              have HRD := Lib.hid hrb
              replace HK := Lib.hid (HK.out.below hb1 HK.out.lt)
              replace HB := Lib.hid (HB.out.trans (hb1.mono HB.out.size))
              clear hb1
              clear hrb
              clear hk_0 hk_1 hk_2 hk_3 hk_4 hk_5 hk_6
              have FUY := Lib.hid (Fault_any wd.heap.size Ab nb kb c (ys.map (wallP c)) r per wd HRD.out (Nat.le_refl _) (by have := HRD.out.1; rw [List.length_map] at this; have := HLY.out; omega))
              rw [HFU.out] at FUY
              have hk_0 : wd.cell? ⟨w.heap.size, 0, none⟩ = some (.int .i64 c.half) := (HK.out.cell 0).trans rfl
              have hk_1 : wd.cell? ⟨w.heap.size, 1, none⟩ = some (.int .i64 c.gain) := (HK.out.cell 1).trans rfl
              have hk_2 : wd.cell? ⟨w.heap.size, 2, none⟩ = some (.int .i64 c.thin) := (HK.out.cell 2).trans rfl
              have hk_3 : wd.cell? ⟨w.heap.size, 3, none⟩ = some (.int .i64 c.wide) := (HK.out.cell 3).trans rfl
              have hk_4 : wd.cell? ⟨w.heap.size, 4, none⟩ = some (.int .i64 c.slope) := (HK.out.cell 4).trans rfl
              have hk_5 : wd.cell? ⟨w.heap.size, 5, none⟩ = some (.int .i64 c.jerk) := (HK.out.cell 5).trans rfl
              have hk_6 : wd.cell? ⟨w.heap.size, 6, none⟩ = some (.int .i64 c.stylus) := (HK.out.cell 6).trans rfl
              go_wp2_with fail
              refine FUY.out.mono ?_
              rintro e we ⟨rfl, hb1⟩
              replace HK := Lib.hid (HK.out.below hb1 HK.out.lt)
              replace HB := Lib.hid (HB.out.trans (hb1.mono HB.out.size))
              clear hb1
              clear hk_0 hk_1 hk_2 hk_3 hk_4 hk_5 hk_6
              go_wp2_with fail
              go_roundw
              case rel => exact ⟨3, by omega, rfl, HK, HB⟩
              case measure => simp [intOf]
            · have CSY := Lib.hid (refCheckSamples_any wa.heap.size Aa na ka ys wa HRA.out (Nat.le_refl _) (by have := HNA.out; omega) LIJ.out)
              obtain ⟨g, hg⟩ : ∃ g, ckS ys = g := ⟨_, rfl⟩
              rw [hg] at CSY hcy
              have hz1 : (g == 0) = false := by simpa using hcy
              have hz2 : (g != 0) = true := by simpa using hcy
              clear hg hcy
              go_wp2_with fail
              refine CSY.out.mono ?_
              rintro e wb ⟨rfl, hb1⟩
              have HRB := Lib.hid ((HRA.out.below hb1 (Nat.le_refl _)).more hb1.size)
              replace HK := Lib.hid (HK.out.below hb1 HK.out.lt)
              replace HB := Lib.hid (HB.out.trans (hb1.mono HB.out.size))
              clear hb1
              go_wp2_with fail
              go_roundw
              case rel => exact ⟨3, by omega, rfl, HK, HB⟩
              case measure => simp [intOf]
          · have hv41 : 40 < v + 1 := by omega
            replace HK := Lib.hid (HK.out.alloc (.cells #[.int .i64 (v), .int .i64 (jm), .int .i64 (v + 1)] 3))
            replace HB := Lib.hid (HB.out.alloc HB.out.size (.cells #[.int .i64 (v), .int .i64 (jm), .int .i64 (v + 1)] 3))
            go_wp2_with fail
            go_roundw
            case rel => exact ⟨3, by omega, rfl, HK, HB⟩
            case measure => simp [intOf]
      · as_aux_lemma =>
          go_wp2_with fail
          refine (WK.out _).mono ?_
          rintro e v9 ⟨rfl, hb1⟩
          go_wp2
          go_ret
          exact ⟨rfl, HB.out.trans (hb1.mono HB.out.size)⟩
end Go.Proofs.Ytaiigdbbpdkamaa
