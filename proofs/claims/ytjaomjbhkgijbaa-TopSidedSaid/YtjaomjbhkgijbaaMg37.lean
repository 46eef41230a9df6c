/-
  The walk of TopTamed.
-/
import Derived.Test.YtjaomjbhkgijbaaMg28
import Derived.Test.YtjaomjbhkgijbaaMg35
import Derived.Test.YtjaomjbhkgijbaaMg36
import Derived.Test.YtjaomjbhkgijbaaMg14
import Derived.Deep.RegionHeld

namespace Go.Proofs.Ytjaomjbhkgijbaa
open Go.RowKit

theorem run1_length {d : Bool} {m : Int} {c : Cur} : ∀ {x : List Int} {h : List (Int × Int)} {y : List Int}, run1 d m c h x = some y → y.length = x.length
  | [], _, y, e => by unfold run1 at e; injection e with e; subst e; rfl
  | v :: x, h, y, e => by
    unfold run1 at e
    split at e
    · cases hr : run1 d m c (mom d c h v :: h) x with
      | none => rw [hr] at e; cases e
      | some z =>
        rw [hr] at e
        simp only [Option.map_some, Option.some.injEq] at e
        subst e
        simp [run1_length hr]
    · cases e
theorem swg_am {ct : Ctr} {v b : Int} (hg : 0 ≤ ct.gain) (hv : am v ≤ b) : am (swg ct v) ≤ (b * ct.gain).tdiv 1000 := by
  have h := am_of.1 hv
  have h1 := Int.mul_le_mul_of_nonneg_right h.1 hg
  have h2 := Int.mul_le_mul_of_nonneg_right h.2 hg
  rw [Int.neg_mul] at h1
  unfold swg
  obtain ⟨p, hp⟩ : ∃ p, v * ct.gain = p := ⟨_, rfl⟩
  obtain ⟨q, hq⟩ : ∃ q, b * ct.gain = q := ⟨_, rfl⟩
  rw [hp] at h1 h2 ⊢
  rw [hq] at h1 h2 ⊢
  rw [am_of, Int.tdiv_eq_ediv, Int.tdiv_eq_ediv]
  have : Int.sign 1000 = 1 := rfl
  rw [this]
  split <;> split <;> omega
/-- What is told of the output of a tame curve within its headroom, and of its groove. -/
structure Tmd (c : Cur) (ct : Ctr) (x y : List Int) (b bg Q : Int) : Prop where
  one : oneRes true c x = y ∧ oneErr true c x = 0
  len : y.length = x.length
  cut : cutEr ct (y.zip y) = 0 ∧ cutRes ct (y.zip y) = (y.zip y).map (wallP ct)
  wal : ∀ i (h : i < y.length), gAt ((y.zip y).map (wallP ct)) i = (swg ct y[i] - ct.half, swg ct y[i] + ct.half) ∧ am (swg ct y[i]) ≤ Q
  bgv : bg = b * ct.gain
  bgb : 0 ≤ bg ∧ bg ≤ 3276700000 ∧ 0 ≤ Q ∧ Q ≤ 3276700
  quo : bg.tdiv 1000 = Q
theorem tmd_of {c : Cur} {ct : Ctr} {x : List Int} (xs : ckX x = 0) (xc : ckV c = 0) (cc : ckC ct = 0) (ht : tm c = true) (hr : ldL x ≤ hdrF c) :
    ∃ y bg Q, Tmd c ct x y (bndF c (ldL x)) bg Q := by
  have hto := tm_ok (ckV_ok xc) ht
  have hct := ckC_ok cc
  have hxa : ∀ v ∈ x, am v ≤ ldL x := fun v hv => ldL_ge hv
  have hbb := (bnd_hdr hto (ldL x)).2 hr
  have hbp := bnd_pos hto (ldL_pos x)
  obtain ⟨r1, r2⟩ := run_bd hto (a := ldL x) (x := x) (hs := []) (fun m hm => by cases hm) hxa
  cases hy : run1 true 32767 c [] x with
  | none => exact absurd hy (r2 hbb)
  | some y =>
    have hya := r1 y hy
    have hl := run1_length hy
    have hxl := (ckX_ok xs).1
    obtain ⟨b, hb⟩ : ∃ b, bndF c (ldL x) = b := ⟨_, rfl⟩
    rw [hb] at hbb hbp hya ⊢
    have hvs : vss (y.zip y) = true := by
      unfold vss
      rw [List.all_eq_true]
      intro s hs
      have h1 := List.of_mem_zip (a := s.1) (b := s.2) hs
      have h2 := am_of.1 (hya _ h1.1)
      have h3 := am_of.1 (hya _ h1.2)
      unfold vs win
      simp
      omega
    have hcs : ckS (y.zip y) = 0 := by
      unfold ckS
      rw [if_neg (by rw [List.length_zip]; omega), hvs]
      rfl
    have hcu : cutEr ct (y.zip y) = 0 := by unfold cutEr orL; rw [if_pos cc]; unfold orL; rw [if_pos hcs]; rfl
    have hg2 := Int.mul_le_mul_of_nonneg_right hbb hct.g1
    have hg3 : 32767 * ct.gain ≤ 32767 * 100000 := Int.mul_le_mul_of_nonneg_left hct.g2 (by omega)
    have hg4 := Int.mul_nonneg hbp hct.g1
    obtain ⟨bg, hbg⟩ : ∃ bg, bg = b * ct.gain := ⟨_, rfl⟩
    rw [← hbg] at hg2 hg4
    have hq : bg.tdiv 1000 = bg / 1000 := Int.tdiv_eq_ediv_of_nonneg hg4
    refine ⟨y, bg, bg.tdiv 1000, one_some (one_er xc xs) (by rw [chain_one]; exact hy), hl, ⟨hcu, by unfold cutRes; rw [if_pos hcu]⟩, fun i h => ⟨?_, ?_⟩, hbg, by rw [hq]; omega, rfl⟩
    · rw [gAt_eq (by rw [List.length_map, List.length_zip]; omega), List.getElem_map, List.getElem_zip]
      rfl
    · rw [hbg]; exact swg_am hct.g1 (hya _ (List.getElem_mem h))

set_option maxRecDepth 100000 in
set_option maxHeartbeats 8000000 in
theorem tamed_walk (B : Nat) (t : CV) (Ax : Option Addr) (nx kx : Nat) (x : List Int) (c : Ctr) (w : World) (hc : CI w B t) (hX : LI w B Ax nx x) (hB : B ≤ w.heap.size) (hlx : nx ≤ 9223372036854775807) (hs : t.nf ≤ 9223372036854775807 ∧ t.nb ≤ 9223372036854775807) :
    Calls Try.prog 15 #[.slice Ax nx kx, .agg #[.slice t.Af t.nf t.kf, .slice t.Ab t.nb t.kb, .int .i64 t.c.share], .agg #[.int .i64 c.half, .int .i64 c.gain, .int .i64 c.thin, .int .i64 c.wide, .int .i64 c.slope, .int .i64 c.jerk, .int .i64 c.stylus]] w fun e w' => e = .returned (.bool true) ∧ Below w.heap.size w w' := by
  have HC := Lib.hid (hc.more hB)
  have HX := Lib.hid (hX.more hB)
  have HNX := Lib.hid hX.1
  clear hc hX hB
  by_cases h200 : 200 < nx
  · have g1 : (200 : Int) < (nx : Int) := by omega
    go_enter Try.func15, Try.ntmps15
    go_upto_region 1 with fail
    obtain ⟨w1, hW⟩ : ∃ W, (w.alloc (.cells #[.slice t.Af t.nf t.kf, .slice t.Ab t.nb t.kb, .int .i64 t.c.share] 43)).alloc (.cells #[.int .i64 c.half, .int .i64 c.gain, .int .i64 c.thin, .int .i64 c.wide, .int .i64 c.slope, .int .i64 c.jerk, .int .i64 c.stylus] 73) = W := ⟨_, rfl⟩
    have hb : Below w.heap.size w w1 := by rw [← hW]; exact (below_a _ _).alloc (by simp) _
    have HK : Hid (Blk w1 w.heap.size 43 #[.slice t.Af t.nf t.kf, .slice t.Ab t.nb t.kb, .int .i64 t.c.share]) := Lib.hid (by rw [← hW]; exact (Blk.new _ _ _).alloc _)
    have HD : Hid (Blk w1 (w.heap.size + 1) 73 #[.int .i64 c.half, .int .i64 c.gain, .int .i64 c.thin, .int .i64 c.wide, .int .i64 c.slope, .int .i64 c.jerk, .int .i64 c.stylus]) := Lib.hid (by rw [← hW]; exact blk_al (by simp))
    rw [hW]
    clear hW
    have hsz0 := hb.size
    have hszk := HD.out.lt
    replace HC := Lib.hid ((HC.out.below hb (Nat.le_refl _)).more hsz0)
    replace HX := Lib.hid ((HX.out.below hb (Nat.le_refl _)).more hsz0)
    have HB0 := Lib.hid hb
    have HB := Lib.hid (Below.refl w1.heap.size w1)
    have HD0 := HD
    clear hb
    obtain ⟨c0, c1, c2⟩ := HK.out.three_
    have d0 := (HD.out.cell 0).trans rfl
    have d1 := (HD.out.cell 1).trans rfl
    have d2 := (HD.out.cell 2).trans rfl
    have d3 := (HD.out.cell 3).trans rfl
    have d4 := (HD.out.cell 4).trans rfl
    have d5 := (HD.out.cell 5).trans rfl
    have d6 := (HD.out.cell 6).trans rfl
    go_wp2_with fail
    have CALL := works03_any w1
    refine CALL.mono ?_
    rintro e w_1 ⟨rfl, hb⟩
    clear CALL
    clear c0 c1 c2 d0 d1 d2 d3 d4 d5 d6
    replace HC := Lib.hid (HC.out.below hb (by first | omega | simp))
    replace HX := Lib.hid (HX.out.below hb (by first | omega | simp))
    replace HK := Lib.hid (HK.out.below hb HK.out.lt)
    replace HD := Lib.hid (HD.out.below hb HD.out.lt)
    replace HB := Lib.hid (HB.out.trans (hb.mono HB.out.size))
    have hsz2 := hb.size
    clear hb
    obtain ⟨c0, c1, c2⟩ := HK.out.three_
    have d0 := (HD.out.cell 0).trans rfl
    have d1 := (HD.out.cell 1).trans rfl
    have d2 := (HD.out.cell 2).trans rfl
    have d3 := (HD.out.cell 3).trans rfl
    have d4 := (HD.out.cell 4).trans rfl
    have d5 := (HD.out.cell 5).trans rfl
    have d6 := (HD.out.cell 6).trans rfl
    go_wp2
    go_ret
    exact ⟨rfl, HB0.out.trans (HB.out.mono HB0.out.size)⟩
  have g1 : ¬ (200 : Int) < (nx : Int) := by omega
  have hnx : nx ≤ 200 := by omega
  clear h200
  obtain ⟨E1, hE1⟩ : ∃ e, ckX x = e := ⟨_, rfl⟩
  by_cases h1 : E1 = 0
  · subst h1
    have HS := Lib.hid hE1
    obtain ⟨E2, hE2⟩ : ∃ e, ckV t.c = e := ⟨_, rfl⟩
    by_cases h2 : E2 = 0
    · subst h2
      have HV := Lib.hid hE2
      obtain ⟨E3, hE3⟩ : ∃ e, ckC c = e := ⟨_, rfl⟩
      by_cases h3 : E3 = 0
      · subst h3
        have HG := Lib.hid hE3
        have HXB := Lib.hid (ckX_ok hE1).2
        obtain ⟨a, haa⟩ : ∃ a, ldL x = a := ⟨_, rfl⟩
        have HLD := Lib.hid haa
        have ha0 : 0 ≤ a := haa ▸ ldL_pos x
        have ha1 : a ≤ 32767 := haa ▸ ldL_le (by omega) (fun u hu => am_of.2 (wib_bd (HXB.out u hu)))
        cases ht : tm t.c
        · have HH : Hid (hdrV t.c = 0 ∧ hdrEr t.c = 5) := Lib.hid (by
            have e : hdrEr t.c = 5 := by unfold hdrEr; rw [hE2, ht]; rfl
            exact ⟨by unfold hdrV; rw [e]; rfl, e⟩)
          clear ht hE1 hE2 hE3 haa
          go_enter Try.func15, Try.ntmps15
          go_upto_region 1 with fail
          obtain ⟨w1, hW⟩ : ∃ W, (w.alloc (.cells #[.slice t.Af t.nf t.kf, .slice t.Ab t.nb t.kb, .int .i64 t.c.share] 43)).alloc (.cells #[.int .i64 c.half, .int .i64 c.gain, .int .i64 c.thin, .int .i64 c.wide, .int .i64 c.slope, .int .i64 c.jerk, .int .i64 c.stylus] 73) = W := ⟨_, rfl⟩
          have hb : Below w.heap.size w w1 := by rw [← hW]; exact (below_a _ _).alloc (by simp) _
          have HK : Hid (Blk w1 w.heap.size 43 #[.slice t.Af t.nf t.kf, .slice t.Ab t.nb t.kb, .int .i64 t.c.share]) := Lib.hid (by rw [← hW]; exact (Blk.new _ _ _).alloc _)
          have HD : Hid (Blk w1 (w.heap.size + 1) 73 #[.int .i64 c.half, .int .i64 c.gain, .int .i64 c.thin, .int .i64 c.wide, .int .i64 c.slope, .int .i64 c.jerk, .int .i64 c.stylus]) := Lib.hid (by rw [← hW]; exact blk_al (by simp))
          rw [hW]
          clear hW
          have hsz0 := hb.size
          have hszk := HD.out.lt
          replace HC := Lib.hid ((HC.out.below hb (Nat.le_refl _)).more hsz0)
          replace HX := Lib.hid ((HX.out.below hb (Nat.le_refl _)).more hsz0)
          have HB0 := Lib.hid hb
          have HB := Lib.hid (Below.refl w1.heap.size w1)
          have HD0 := HD
          clear hb
          obtain ⟨c0, c1, c2⟩ := HK.out.three_
          have d0 := (HD.out.cell 0).trans rfl
          have d1 := (HD.out.cell 1).trans rfl
          have d2 := (HD.out.cell 2).trans rfl
          have d3 := (HD.out.cell 3).trans rfl
          have d4 := (HD.out.cell 4).trans rfl
          have d5 := (HD.out.cell 5).trans rfl
          have d6 := (HD.out.cell 6).trans rfl
          go_wp2_with fail
          have CALL := refSignal_any w1.heap.size Ax nx kx x w1 (HX.out.more (by omega)) (by omega)
          rw [HS.out] at CALL
          refine CALL.mono ?_
          rintro e w_ ⟨rfl, rfl⟩
          clear CALL
          go_wp2_with fail
          have CALL := refCheckCurve_any w1.heap.size t w1 (HC.out.more (by omega)) (Nat.le_refl _) hs
          rw [HV.out] at CALL
          refine CALL.mono ?_
          rintro e w_3 ⟨rfl, hb⟩
          clear CALL
          clear c0 c1 c2 d0 d1 d2 d3 d4 d5 d6
          replace HC := Lib.hid (HC.out.below hb (by first | omega | simp))
          replace HX := Lib.hid (HX.out.below hb (by first | omega | simp))
          replace HK := Lib.hid (HK.out.below hb HK.out.lt)
          replace HD := Lib.hid (HD.out.below hb HD.out.lt)
          replace HB := Lib.hid (HB.out.trans (hb.mono HB.out.size))
          have hsz4 := hb.size
          clear hb
          obtain ⟨c0, c1, c2⟩ := HK.out.three_
          have d0 := (HD.out.cell 0).trans rfl
          have d1 := (HD.out.cell 1).trans rfl
          have d2 := (HD.out.cell 2).trans rfl
          have d3 := (HD.out.cell 3).trans rfl
          have d4 := (HD.out.cell 4).trans rfl
          have d5 := (HD.out.cell 5).trans rfl
          have d6 := (HD.out.cell 6).trans rfl
          go_wp2_with fail
          have CALL := refCheck_any c w_3
          rw [HG.out] at CALL
          refine CALL.mono ?_
          rintro e w_5 ⟨rfl, hb⟩
          clear CALL
          clear c0 c1 c2 d0 d1 d2 d3 d4 d5 d6
          replace HC := Lib.hid (HC.out.below hb (by first | omega | simp))
          replace HX := Lib.hid (HX.out.below hb (by first | omega | simp))
          replace HK := Lib.hid (HK.out.below hb HK.out.lt)
          replace HD := Lib.hid (HD.out.below hb HD.out.lt)
          replace HB := Lib.hid (HB.out.trans (hb.mono HB.out.size))
          have hsz6 := hb.size
          clear hb
          obtain ⟨c0, c1, c2⟩ := HK.out.three_
          have d0 := (HD.out.cell 0).trans rfl
          have d1 := (HD.out.cell 1).trans rfl
          have d2 := (HD.out.cell 2).trans rfl
          have d3 := (HD.out.cell 3).trans rfl
          have d4 := (HD.out.cell 4).trans rfl
          have d5 := (HD.out.cell 5).trans rfl
          have d6 := (HD.out.cell 6).trans rfl
          go_wp2_with fail
          go_loopw [7, 8] (fun mv iv wr => ∃ (j : Nat), j ≤ nx ∧ iv = .int .i64 j ∧ mv = .int .i64 (ldL (x.take j)) ∧ w_5 = wr) (fun _ iv _ => nx - (intOf iv).toNat)
          case atStart => exact ⟨0, Nat.zero_le _, rfl, rfl, rfl⟩
          case round =>
            obtain ⟨j, hj, rfl, rfl, rfl⟩ := hrel
            by_cases hlt : j < nx
            · have hjx : j < x.length := by have := HNX.out; omega
              obtain ⟨ax, hA, -, k1⟩ := HX.out.at_ (k := j) hjx
              obtain rfl := hA
              have b1 := wib_bd (HXB.out _ (List.getElem_mem hjx))
              have hsn := ldL_snoc x j hjx
              obtain ⟨q, hq⟩ : ∃ q, x[j] = q := ⟨_, rfl⟩
              rw [hq] at k1 b1 hsn
              obtain ⟨m, hm⟩ : ∃ m, ldL (x.take j) = m := ⟨_, rfl⟩
              obtain ⟨a', ha'⟩ : ∃ a, am q = a := ⟨_, rfl⟩
              rw [hm, ha'] at hsn
              rw [hm]
              have HSN := Lib.hid hsn
              have mx : (if m < a' then a' else m) = max m a' := by omega
              have gj : (j : Int) < (nx : Int) := by omega
              have HAQ := Lib.hid ha'
              clear hsn hq hm ha'
              go_wp2_with fail
              have CALL := topAmount_any q w_5 (by omega) (by omega)
              rw [HAQ.out] at CALL
              refine CALL.mono ?_
              rintro e w_ ⟨rfl, rfl⟩
              clear CALL
              go_wp2
              go_roundw
              case rel => exact ⟨j + 1, by omega, by go_num, by rw [HSN.out], trivial⟩
              case measure => simp [intOf]; omega
            · obtain rfl : j = nx := by omega
              have htk : x.take j = x := List.take_of_length_le (by have := HNX.out; omega)
              rw [htk, HLD.out]
              have gj : ¬ (j : Int) < (j : Int) := by omega
              clear htk
              go_wp2_with fail
              have CALL := Headroom_any w_5.heap.size t w_5 (HC.out.more (by omega)) (Nat.le_refl _) hs
              rw [HH.out.1, HH.out.2] at CALL
              refine CALL.mono ?_
              rintro e w_7 ⟨rfl, hb⟩
              clear CALL
              clear c0 c1 c2 d0 d1 d2 d3 d4 d5 d6
              replace HC := Lib.hid (HC.out.below hb (by first | omega | simp))
              replace HX := Lib.hid (HX.out.below hb (by first | omega | simp))
              replace HK := Lib.hid (HK.out.below hb HK.out.lt)
              replace HD := Lib.hid (HD.out.below hb HD.out.lt)
              replace HB := Lib.hid (HB.out.trans (hb.mono HB.out.size))
              have hsz8 := hb.size
              clear hb
              obtain ⟨c0, c1, c2⟩ := HK.out.three_
              have d0 := (HD.out.cell 0).trans rfl
              have d1 := (HD.out.cell 1).trans rfl
              have d2 := (HD.out.cell 2).trans rfl
              have d3 := (HD.out.cell 3).trans rfl
              have d4 := (HD.out.cell 4).trans rfl
              have d5 := (HD.out.cell 5).trans rfl
              have d6 := (HD.out.cell 6).trans rfl
              go_wp2_with fail
              have CALL := works03_any w_7
              refine CALL.mono ?_
              rintro e w_9 ⟨rfl, hb⟩
              clear CALL
              clear c0 c1 c2 d0 d1 d2 d3 d4 d5 d6
              replace HC := Lib.hid (HC.out.below hb (by first | omega | simp))
              replace HX := Lib.hid (HX.out.below hb (by first | omega | simp))
              replace HK := Lib.hid (HK.out.below hb HK.out.lt)
              replace HD := Lib.hid (HD.out.below hb HD.out.lt)
              replace HB := Lib.hid (HB.out.trans (hb.mono HB.out.size))
              have hsz10 := hb.size
              clear hb
              obtain ⟨c0, c1, c2⟩ := HK.out.three_
              have d0 := (HD.out.cell 0).trans rfl
              have d1 := (HD.out.cell 1).trans rfl
              have d2 := (HD.out.cell 2).trans rfl
              have d3 := (HD.out.cell 3).trans rfl
              have d4 := (HD.out.cell 4).trans rfl
              have d5 := (HD.out.cell 5).trans rfl
              have d6 := (HD.out.cell 6).trans rfl
              go_wp2
              go_ret
              exact ⟨rfl, HB0.out.trans (HB.out.mono HB0.out.size)⟩
        · obtain ⟨hd, hhd⟩ : ∃ h, hdrF t.c = h := ⟨_, rfl⟩
          have HH : Hid (hdrV t.c = hd ∧ hdrEr t.c = 0) := Lib.hid (by
            have e : hdrEr t.c = 0 := by unfold hdrEr; rw [hE2, ht]; rfl
            exact ⟨by unfold hdrV; rw [e, if_pos rfl, hhd], e⟩)
          by_cases hr : a ≤ hd
          · obtain ⟨y, bg, Q, hT⟩ := tmd_of (ct := c) hE1 hE2 hE3 ht (by rw [haa, hhd]; exact hr)
            rw [haa] at hT
            obtain ⟨b, hb_⟩ : ∃ b, bndF t.c a = b := ⟨_, rfl⟩
            have BA : Hid (bndV t.c a = b ∧ bndEr t.c a = 0) := Lib.hid (by
              have e : bndEr t.c a = 0 := by unfold bndEr; rw [show rngE a 0 32767 = 0 from by unfold rngE; rw [if_neg (by omega)], hE2, ht]; rfl
              exact ⟨by unfold bndV; rw [e, if_pos rfl, hb_], e⟩)
            rw [hb_] at hT
            have EY := Lib.hid hT.one
            have HYL := Lib.hid hT.len
            have HE := Lib.hid hT.cut
            have HWL := Lib.hid hT.wal
            have HBG := Lib.hid hT.bgv
            have HBGB := Lib.hid hT.bgb
            have HQ := Lib.hid hT.quo
            have hyl : y.length ≤ 200 := by have := hT.len; have := HNX.out; omega
            have HHB : Hid ((1 ≤ c.half ∧ c.half ≤ 4096) ∧ Q ≤ 3276700) := Lib.hid ⟨⟨(ckC_ok hE3).h1, (ckC_ok hE3).h2⟩, hT.bgb.2.2.2⟩
            have gr : ¬ hd < a := by omega
            clear ht hE1 hE2 hE3 haa hhd hr hT hb_
            go_enter Try.func15, Try.ntmps15
            go_upto_region 1 with fail
            obtain ⟨w1, hW⟩ : ∃ W, (w.alloc (.cells #[.slice t.Af t.nf t.kf, .slice t.Ab t.nb t.kb, .int .i64 t.c.share] 43)).alloc (.cells #[.int .i64 c.half, .int .i64 c.gain, .int .i64 c.thin, .int .i64 c.wide, .int .i64 c.slope, .int .i64 c.jerk, .int .i64 c.stylus] 73) = W := ⟨_, rfl⟩
            have hb : Below w.heap.size w w1 := by rw [← hW]; exact (below_a _ _).alloc (by simp) _
            have HK : Hid (Blk w1 w.heap.size 43 #[.slice t.Af t.nf t.kf, .slice t.Ab t.nb t.kb, .int .i64 t.c.share]) := Lib.hid (by rw [← hW]; exact (Blk.new _ _ _).alloc _)
            have HD : Hid (Blk w1 (w.heap.size + 1) 73 #[.int .i64 c.half, .int .i64 c.gain, .int .i64 c.thin, .int .i64 c.wide, .int .i64 c.slope, .int .i64 c.jerk, .int .i64 c.stylus]) := Lib.hid (by rw [← hW]; exact blk_al (by simp))
            rw [hW]
            clear hW
            have hsz0 := hb.size
            have hszk := HD.out.lt
            replace HC := Lib.hid ((HC.out.below hb (Nat.le_refl _)).more hsz0)
            replace HX := Lib.hid ((HX.out.below hb (Nat.le_refl _)).more hsz0)
            have HB0 := Lib.hid hb
            have HB := Lib.hid (Below.refl w1.heap.size w1)
            have HD0 := HD
            clear hb
            obtain ⟨c0, c1, c2⟩ := HK.out.three_
            have d0 := (HD.out.cell 0).trans rfl
            have d1 := (HD.out.cell 1).trans rfl
            have d2 := (HD.out.cell 2).trans rfl
            have d3 := (HD.out.cell 3).trans rfl
            have d4 := (HD.out.cell 4).trans rfl
            have d5 := (HD.out.cell 5).trans rfl
            have d6 := (HD.out.cell 6).trans rfl
            go_wp2_with fail
            have CALL := refSignal_any w1.heap.size Ax nx kx x w1 (HX.out.more (by omega)) (by omega)
            rw [HS.out] at CALL
            refine CALL.mono ?_
            rintro e w_ ⟨rfl, rfl⟩
            clear CALL
            go_wp2_with fail
            have CALL := refCheckCurve_any w1.heap.size t w1 (HC.out.more (by omega)) (Nat.le_refl _) hs
            rw [HV.out] at CALL
            refine CALL.mono ?_
            rintro e w_3 ⟨rfl, hb⟩
            clear CALL
            clear c0 c1 c2 d0 d1 d2 d3 d4 d5 d6
            replace HC := Lib.hid (HC.out.below hb (by first | omega | simp))
            replace HX := Lib.hid (HX.out.below hb (by first | omega | simp))
            replace HK := Lib.hid (HK.out.below hb HK.out.lt)
            replace HD := Lib.hid (HD.out.below hb HD.out.lt)
            replace HB := Lib.hid (HB.out.trans (hb.mono HB.out.size))
            have hsz4 := hb.size
            clear hb
            obtain ⟨c0, c1, c2⟩ := HK.out.three_
            have d0 := (HD.out.cell 0).trans rfl
            have d1 := (HD.out.cell 1).trans rfl
            have d2 := (HD.out.cell 2).trans rfl
            have d3 := (HD.out.cell 3).trans rfl
            have d4 := (HD.out.cell 4).trans rfl
            have d5 := (HD.out.cell 5).trans rfl
            have d6 := (HD.out.cell 6).trans rfl
            go_wp2_with fail
            have CALL := refCheck_any c w_3
            rw [HG.out] at CALL
            refine CALL.mono ?_
            rintro e w_5 ⟨rfl, hb⟩
            clear CALL
            clear c0 c1 c2 d0 d1 d2 d3 d4 d5 d6
            replace HC := Lib.hid (HC.out.below hb (by first | omega | simp))
            replace HX := Lib.hid (HX.out.below hb (by first | omega | simp))
            replace HK := Lib.hid (HK.out.below hb HK.out.lt)
            replace HD := Lib.hid (HD.out.below hb HD.out.lt)
            replace HB := Lib.hid (HB.out.trans (hb.mono HB.out.size))
            have hsz6 := hb.size
            clear hb
            obtain ⟨c0, c1, c2⟩ := HK.out.three_
            have d0 := (HD.out.cell 0).trans rfl
            have d1 := (HD.out.cell 1).trans rfl
            have d2 := (HD.out.cell 2).trans rfl
            have d3 := (HD.out.cell 3).trans rfl
            have d4 := (HD.out.cell 4).trans rfl
            have d5 := (HD.out.cell 5).trans rfl
            have d6 := (HD.out.cell 6).trans rfl
            go_wp2_with fail
            go_loopw [7, 8] (fun mv iv wr => ∃ (j : Nat), j ≤ nx ∧ iv = .int .i64 j ∧ mv = .int .i64 (ldL (x.take j)) ∧ w_5 = wr) (fun _ iv _ => nx - (intOf iv).toNat)
            case atStart => exact ⟨0, Nat.zero_le _, rfl, rfl, rfl⟩
            case round =>
              obtain ⟨j, hj, rfl, rfl, rfl⟩ := hrel
              by_cases hlt : j < nx
              · have hjx : j < x.length := by have := HNX.out; omega
                obtain ⟨ax, hA, -, k1⟩ := HX.out.at_ (k := j) hjx
                obtain rfl := hA
                have b1 := wib_bd (HXB.out _ (List.getElem_mem hjx))
                have hsn := ldL_snoc x j hjx
                obtain ⟨q, hq⟩ : ∃ q, x[j] = q := ⟨_, rfl⟩
                rw [hq] at k1 b1 hsn
                obtain ⟨m, hm⟩ : ∃ m, ldL (x.take j) = m := ⟨_, rfl⟩
                obtain ⟨a', ha'⟩ : ∃ a, am q = a := ⟨_, rfl⟩
                rw [hm, ha'] at hsn
                rw [hm]
                have HSN := Lib.hid hsn
                have mx : (if m < a' then a' else m) = max m a' := by omega
                have gj : (j : Int) < (nx : Int) := by omega
                have HAQ := Lib.hid ha'
                clear hsn hq hm ha'
                go_wp2_with fail
                have CALL := topAmount_any q w_5 (by omega) (by omega)
                rw [HAQ.out] at CALL
                refine CALL.mono ?_
                rintro e w_ ⟨rfl, rfl⟩
                clear CALL
                go_wp2
                go_roundw
                case rel => exact ⟨j + 1, by omega, by go_num, by rw [HSN.out], trivial⟩
                case measure => simp [intOf]; omega
              · obtain rfl : j = nx := by omega
                have htk : x.take j = x := List.take_of_length_le (by have := HNX.out; omega)
                rw [htk, HLD.out]
                have gj : ¬ (j : Int) < (j : Int) := by omega
                clear htk
                go_wp2_with fail
                have CALL := Headroom_any w_5.heap.size t w_5 (HC.out.more (by omega)) (Nat.le_refl _) hs
                rw [HH.out.1, HH.out.2] at CALL
                refine CALL.mono ?_
                rintro e w_15 ⟨rfl, hb⟩
                clear CALL
                clear c0 c1 c2 d0 d1 d2 d3 d4 d5 d6
                replace HC := Lib.hid (HC.out.below hb (by first | omega | simp))
                replace HX := Lib.hid (HX.out.below hb (by first | omega | simp))
                replace HK := Lib.hid (HK.out.below hb HK.out.lt)
                replace HD := Lib.hid (HD.out.below hb HD.out.lt)
                replace HB := Lib.hid (HB.out.trans (hb.mono HB.out.size))
                have hsz16 := hb.size
                clear hb
                obtain ⟨c0, c1, c2⟩ := HK.out.three_
                have d0 := (HD.out.cell 0).trans rfl
                have d1 := (HD.out.cell 1).trans rfl
                have d2 := (HD.out.cell 2).trans rfl
                have d3 := (HD.out.cell 3).trans rfl
                have d4 := (HD.out.cell 4).trans rfl
                have d5 := (HD.out.cell 5).trans rfl
                have d6 := (HD.out.cell 6).trans rfl
                go_wp2_with fail
                have CALL := Bound_any w_15.heap.size t a w_15 (HC.out.more (by omega)) (Nat.le_refl _) hs
                rw [BA.out.1, BA.out.2] at CALL
                refine CALL.mono ?_
                rintro e w_17 ⟨rfl, hb⟩
                clear CALL
                clear c0 c1 c2 d0 d1 d2 d3 d4 d5 d6
                replace HC := Lib.hid (HC.out.below hb (by first | omega | simp))
                replace HX := Lib.hid (HX.out.below hb (by first | omega | simp))
                replace HK := Lib.hid (HK.out.below hb HK.out.lt)
                replace HD := Lib.hid (HD.out.below hb HD.out.lt)
                replace HB := Lib.hid (HB.out.trans (hb.mono HB.out.size))
                have hsz18 := hb.size
                clear hb
                obtain ⟨c0, c1, c2⟩ := HK.out.three_
                have d0 := (HD.out.cell 0).trans rfl
                have d1 := (HD.out.cell 1).trans rfl
                have d2 := (HD.out.cell 2).trans rfl
                have d3 := (HD.out.cell 3).trans rfl
                have d4 := (HD.out.cell 4).trans rfl
                have d5 := (HD.out.cell 5).trans rfl
                have d6 := (HD.out.cell 6).trans rfl
                go_wp2_with fail
                have CALL := Apply_any w_17.heap.size t Ax j kx x w_17 (HC.out.more (by omega)) (HX.out.more (by omega)) (Nat.le_refl _) (by omega) hs
                rw [EY.out.1, EY.out.2] at CALL
                refine CALL.mono ?_
                rintro e w_19 ⟨vy, rfl, ho, hb⟩
                clear CALL
                obtain ⟨Ay, ky, rfl, hL⟩ := li_own ho
                have HY := Lib.hid hL
                clear ho hL
                clear c0 c1 c2 d0 d1 d2 d3 d4 d5 d6
                replace HC := Lib.hid (HC.out.below hb (by first | omega | simp))
                replace HX := Lib.hid (HX.out.below hb (by first | omega | simp))
                replace HK := Lib.hid (HK.out.below hb HK.out.lt)
                replace HD := Lib.hid (HD.out.below hb HD.out.lt)
                replace HB := Lib.hid (HB.out.trans (hb.mono HB.out.size))
                have hsz20 := hb.size
                clear hb
                obtain ⟨c0, c1, c2⟩ := HK.out.three_
                have d0 := (HD.out.cell 0).trans rfl
                have d1 := (HD.out.cell 1).trans rfl
                have d2 := (HD.out.cell 2).trans rfl
                have d3 := (HD.out.cell 3).trans rfl
                have d4 := (HD.out.cell 4).trans rfl
                have d5 := (HD.out.cell 5).trans rfl
                have d6 := (HD.out.cell 6).trans rfl
                have hyj : y.length = j := by have := HYL.out; have := HNX.out; omega
                have qa : ((y.length : Int) == (j : Int)) = true := by simp; omega
                have qb : ((y.length : Int) != (j : Int)) = false := by simp; omega
                have qc : (y.length == j) = true := by simp; omega
                have qd : (y.length != j) = false := by simp; omega
                have HYJ := Lib.hid hyj
                clear hyj
                go_wp2_with fail
                have HYN := HY.out.1
                refine wp_region_held_drew (S := fun w' => Below w1.heap.size w1 w') (by kernel_rfl) HB.out.drew (fun hHeld => ?_)
                obtain ⟨wd, hwd⟩ : ∃ wd, w_19.drew = wd := ⟨_, rfl⟩
                have hb : Below w_19.heap.size w_19 wd := by rw [← hwd]; exact (Below.refl _ _).drew
                rw [hwd] at hHeld ⊢
                clear hwd
                clear c0 c1 c2 d0 d1 d2 d3 d4 d5 d6
                replace HC := Lib.hid (HC.out.below hb (by first | omega | simp))
                replace HX := Lib.hid (HX.out.below hb (by first | omega | simp))
                replace HY := Lib.hid (HY.out.below hb (by first | omega | simp))
                replace HK := Lib.hid (HK.out.below hb HK.out.lt)
                replace HD := Lib.hid (HD.out.below hb HD.out.lt)
                replace HB := Lib.hid (HB.out.trans (hb.mono HB.out.size))
                have hsz21 := hb.size
                clear hb
                obtain ⟨c0, c1, c2⟩ := HK.out.three_
                have d0 := (HD.out.cell 0).trans rfl
                have d1 := (HD.out.cell 1).trans rfl
                have d2 := (HD.out.cell 2).trans rfl
                have d3 := (HD.out.cell 3).trans rfl
                have d4 := (HD.out.cell 4).trans rfl
                have d5 := (HD.out.cell 5).trans rfl
                have d6 := (HD.out.cell 6).trans rfl
                refine wpAnyH_take (i := 0) (oi := { dst := some 90, op := Go.Op.load 73 (Go.Operand.tmp 5), type := 73, pos := "top03.go:303", after := #[], guard := none }) (v := ?vt1) rfl (by kernel_rfl) (by kernel_rfl) (by kernel_rfl) (fun _ _ _ h => h) (Or.inl ⟨by rfl, ?ht1⟩) hHeld ?_
                case ht1 => intro w hSw; (try dsimp only at hSw); have HDw := HD0.out.below hSw HD0.out.lt; have z0 := (HDw.cell 0).trans rfl; have z1 := (HDw.cell 1).trans rfl; have z2 := (HDw.cell 2).trans rfl; have z3 := (HDw.cell 3).trans rfl; have z4 := (HDw.cell 4).trans rfl; have z5 := (HDw.cell 5).trans rfl; have z6 := (HDw.cell 6).trans rfl; go_simp; try with_reducible rfl
                simp only [Act.put, List.setIfInBounds_toArray, List.set_cons_zero, List.set_cons_succ]
                refine wpAnyH_take (i := 1) (oi := { dst := some 91, op := Go.Op.move (Go.Operand.tmp 12), type := 41, pos := "top03.go:303", after := #[], guard := none }) (v := ?vt2) rfl (by kernel_rfl) (by kernel_rfl) (by kernel_rfl) (fun _ _ _ h => h) (Or.inl ⟨by rfl, ?ht2⟩) hHeld ?_
                case ht2 => intro w hSw; (try dsimp only at hSw); have HDw := HD0.out.below hSw HD0.out.lt; have z0 := (HDw.cell 0).trans rfl; have z1 := (HDw.cell 1).trans rfl; have z2 := (HDw.cell 2).trans rfl; have z3 := (HDw.cell 3).trans rfl; have z4 := (HDw.cell 4).trans rfl; have z5 := (HDw.cell 5).trans rfl; have z6 := (HDw.cell 6).trans rfl; go_simp; try with_reducible rfl
                simp only [Act.put, List.setIfInBounds_toArray, List.set_cons_zero, List.set_cons_succ]
                refine wpAnyH_take (i := 2) (oi := { dst := some 92, op := Go.Op.move (Go.Operand.tmp 12), type := 41, pos := "top03.go:303", after := #[], guard := none }) (v := ?vt3) rfl (by kernel_rfl) (by kernel_rfl) (by kernel_rfl) (fun _ _ _ h => h) (Or.inl ⟨by rfl, ?ht3⟩) hHeld ?_
                case ht3 => intro w hSw; (try dsimp only at hSw); have HDw := HD0.out.below hSw HD0.out.lt; have z0 := (HDw.cell 0).trans rfl; have z1 := (HDw.cell 1).trans rfl; have z2 := (HDw.cell 2).trans rfl; have z3 := (HDw.cell 3).trans rfl; have z4 := (HDw.cell 4).trans rfl; have z5 := (HDw.cell 5).trans rfl; have z6 := (HDw.cell 6).trans rfl; go_simp; try with_reducible rfl
                simp only [Act.put, List.setIfInBounds_toArray, List.set_cons_zero, List.set_cons_succ]
                refine wpAnyH_ready (rs := [3]) (by kernel_rfl) (by simp) ?_
                refine AllReadyH.cons rfl (fun K hK => ?_) AllReadyH.nil
                go_simp
                have CALL := joined_any wd.heap.size Ay Ay y.length ky ky y y wd (HY.out.more (by omega)) (HY.out.more (by omega)) (Nat.le_refl _) (by omega)
                refine CALL.mono ?_
                rintro e w_22 ⟨vj, rfl, ho, hb⟩
                clear CALL
                obtain ⟨Aj, kj, rfl, hr⟩ := own_reads ho
                have HJ : Hid (RS w_22 w_22.heap.size Aj y.length (y.zip y)) := Lib.hid ⟨by rw [List.length_zip]; omega, hr⟩
                clear ho hr
                clear c0 c1 c2 d0 d1 d2 d3 d4 d5 d6
                replace HC := Lib.hid (HC.out.below hb (by first | omega | simp))
                replace HX := Lib.hid (HX.out.below hb (by first | omega | simp))
                replace HY := Lib.hid (HY.out.below hb (by first | omega | simp))
                replace HK := Lib.hid (HK.out.below hb HK.out.lt)
                replace HD := Lib.hid (HD.out.below hb HD.out.lt)
                replace HB := Lib.hid (HB.out.trans (hb.mono HB.out.size))
                have hsz23 := hb.size
                clear hb
                obtain ⟨c0, c1, c2⟩ := HK.out.three_
                have d0 := (HD.out.cell 0).trans rfl
                have d1 := (HD.out.cell 1).trans rfl
                have d2 := (HD.out.cell 2).trans rfl
                have d3 := (HD.out.cell 3).trans rfl
                have d4 := (HD.out.cell 4).trans rfl
                have d5 := (HD.out.cell 5).trans rfl
                have d6 := (HD.out.cell 6).trans rfl
                refine hK.out _ _ ?_ (fun hH4 => ?_)
                · exact HB.out
                clear hK K
                refine wpAnyH_ready (rs := [4]) (by kernel_rfl) (by simp) ?_
                refine AllReadyH.cons rfl (fun K hK => ?_) AllReadyH.nil
                go_simp
                have CALL := Cut_any w_22.heap.size Aj y.length kj c (y.zip y) w_22 (HJ.out.more (by omega)) (Nat.le_refl _) (by omega)
                rw [HE.out.1, HE.out.2] at CALL
                refine CALL.mono ?_
                rintro e w_24 ⟨Ag, ng, kg, rfl, hr, hb⟩
                clear CALL
                have HR := Lib.hid hr
                clear hr
                clear c0 c1 c2 d0 d1 d2 d3 d4 d5 d6
                replace HC := Lib.hid (HC.out.below hb (by first | omega | simp))
                replace HX := Lib.hid (HX.out.below hb (by first | omega | simp))
                replace HY := Lib.hid (HY.out.below hb (by first | omega | simp))
                replace HJ := Lib.hid (HJ.out.below hb (by first | omega | simp))
                replace HK := Lib.hid (HK.out.below hb HK.out.lt)
                replace HD := Lib.hid (HD.out.below hb HD.out.lt)
                replace HB := Lib.hid (HB.out.trans (hb.mono HB.out.size))
                have hsz25 := hb.size
                clear hb
                obtain ⟨c0, c1, c2⟩ := HK.out.three_
                have d0 := (HD.out.cell 0).trans rfl
                have d1 := (HD.out.cell 1).trans rfl
                have d2 := (HD.out.cell 2).trans rfl
                have d3 := (HD.out.cell 3).trans rfl
                have d4 := (HD.out.cell 4).trans rfl
                have d5 := (HD.out.cell 5).trans rfl
                have d6 := (HD.out.cell 6).trans rfl
                clear HJ
                refine hK.out _ _ ?_ (fun hH5 => ?_)
                · exact HB.out
                clear hK K
                refine wpAnyH_take (i := 5) (oi := { dst := some 89, op := Go.Op.move (Go.Operand.tmp 94), type := 82, pos := "top03.go:303", after := #[{ on := 4, ground := Go.Ground.data }], guard := none }) (v := ?vt6) rfl (by kernel_rfl) (by kernel_rfl) (by kernel_rfl) (fun _ _ _ h => h) (Or.inl ⟨by rfl, ?ht6⟩) hH5 ?_
                case ht6 => intro w hSw; (try dsimp only at hSw); have HDw := HD0.out.below hSw HD0.out.lt; have z0 := (HDw.cell 0).trans rfl; have z1 := (HDw.cell 1).trans rfl; have z2 := (HDw.cell 2).trans rfl; have z3 := (HDw.cell 3).trans rfl; have z4 := (HDw.cell 4).trans rfl; have z5 := (HDw.cell 5).trans rfl; have z6 := (HDw.cell 6).trans rfl; go_simp; try with_reducible rfl
                simp only [Act.put, List.setIfInBounds_toArray, List.set_cons_zero, List.set_cons_succ]
                refine wpAnyH_take (i := 6) (oi := { dst := some 95, op := Go.Op.extract (Go.Operand.tmp 89) 0, type := 78, pos := "top03.go:303", after := #[{ on := 5, ground := Go.Ground.data }], guard := none }) (v := ?vt7) rfl (by kernel_rfl) (by kernel_rfl) (by kernel_rfl) (fun _ _ _ h => h) (Or.inl ⟨by rfl, ?ht7⟩) hH5 ?_
                case ht7 => intro w hSw; (try dsimp only at hSw); have HDw := HD0.out.below hSw HD0.out.lt; have z0 := (HDw.cell 0).trans rfl; have z1 := (HDw.cell 1).trans rfl; have z2 := (HDw.cell 2).trans rfl; have z3 := (HDw.cell 3).trans rfl; have z4 := (HDw.cell 4).trans rfl; have z5 := (HDw.cell 5).trans rfl; have z6 := (HDw.cell 6).trans rfl; go_simp; try with_reducible rfl
                simp only [Act.put, List.setIfInBounds_toArray, List.set_cons_zero, List.set_cons_succ]
                refine wpAnyH_take (i := 7) (oi := { dst := some 96, op := Go.Op.extract (Go.Operand.tmp 89) 1, type := 27, pos := "top03.go:303", after := #[{ on := 5, ground := Go.Ground.data }, { on := 8, ground := Go.Ground.gcOnly Go.Departure.lateStores }], guard := none }) (v := ?vt8) rfl (by kernel_rfl) (by kernel_rfl) (by kernel_rfl) (fun _ _ _ h => h) (Or.inl ⟨by rfl, ?ht8⟩) hH5 ?_
                case ht8 => intro w hSw; (try dsimp only at hSw); have HDw := HD0.out.below hSw HD0.out.lt; have z0 := (HDw.cell 0).trans rfl; have z1 := (HDw.cell 1).trans rfl; have z2 := (HDw.cell 2).trans rfl; have z3 := (HDw.cell 3).trans rfl; have z4 := (HDw.cell 4).trans rfl; have z5 := (HDw.cell 5).trans rfl; have z6 := (HDw.cell 6).trans rfl; go_simp; try with_reducible rfl
                simp only [Act.put, List.setIfInBounds_toArray, List.set_cons_zero, List.set_cons_succ]
                refine wpAnyH_take (i := 8) (oi := { dst := some 14, op := Go.Op.assign (Go.Operand.tmp 95), type := 78, pos := "top03.go:303", after := #[{ on := 6, ground := Go.Ground.data }, { on := 4, ground := Go.Ground.chain }, { on := 0, ground := Go.Ground.phase }, { on := 1, ground := Go.Ground.phase }, { on := 2, ground := Go.Ground.phase }, { on := 3, ground := Go.Ground.phase }, { on := 4, ground := Go.Ground.phase }, { on := 5, ground := Go.Ground.phase }, { on := 6, ground := Go.Ground.phase }, { on := 7, ground := Go.Ground.textOnly Go.Departure.lateStores }], guard := none }) (v := ?vt9) rfl (by kernel_rfl) (by kernel_rfl) (by kernel_rfl) (fun _ _ _ h => h) (Or.inl ⟨by rfl, ?ht9⟩) hH5 ?_
                case ht9 => intro w hSw; (try dsimp only at hSw); have HDw := HD0.out.below hSw HD0.out.lt; have z0 := (HDw.cell 0).trans rfl; have z1 := (HDw.cell 1).trans rfl; have z2 := (HDw.cell 2).trans rfl; have z3 := (HDw.cell 3).trans rfl; have z4 := (HDw.cell 4).trans rfl; have z5 := (HDw.cell 5).trans rfl; have z6 := (HDw.cell 6).trans rfl; go_simp; try with_reducible rfl
                simp only [Act.put, List.setIfInBounds_toArray, List.set_cons_zero, List.set_cons_succ]
                refine wpAnyH_take (i := 9) (oi := { dst := some 10, op := Go.Op.assign (Go.Operand.tmp 96), type := 27, pos := "top03.go:303", after := #[{ on := 7, ground := Go.Ground.data }, { on := 8, ground := Go.Ground.chain }, { on := 0, ground := Go.Ground.phase }, { on := 1, ground := Go.Ground.phase }, { on := 2, ground := Go.Ground.phase }, { on := 3, ground := Go.Ground.phase }, { on := 4, ground := Go.Ground.phase }, { on := 5, ground := Go.Ground.phase }, { on := 6, ground := Go.Ground.phase }, { on := 7, ground := Go.Ground.phase }, { on := 8, ground := Go.Ground.phase }], guard := none }) (v := ?vt10) rfl (by kernel_rfl) (by kernel_rfl) (by kernel_rfl) (fun _ _ _ h => h) (Or.inl ⟨by rfl, ?ht10⟩) hH5 ?_
                case ht10 => intro w hSw; (try dsimp only at hSw); have HDw := HD0.out.below hSw HD0.out.lt; have z0 := (HDw.cell 0).trans rfl; have z1 := (HDw.cell 1).trans rfl; have z2 := (HDw.cell 2).trans rfl; have z3 := (HDw.cell 3).trans rfl; have z4 := (HDw.cell 4).trans rfl; have z5 := (HDw.cell 5).trans rfl; have z6 := (HDw.cell 6).trans rfl; go_simp; try with_reducible rfl
                simp only [Act.put, List.setIfInBounds_toArray, List.set_cons_zero, List.set_cons_succ]
                refine wpAnyH_done (by kernel_rfl) ?_ _
                obtain rfl : ng = y.length := by have := HR.out.1; rw [List.length_map, List.length_zip] at this; omega
                go_wp2_with fail
                go_loopw [15] (fun iv wr => ∃ (i : Nat), i ≤ y.length ∧ iv = .int .i64 i ∧ Hid (Below w_24.heap.size w_24 wr)) (fun iv _ => y.length - (intOf iv).toNat)
                case atStart => exact ⟨0, Nat.zero_le _, rfl, Lib.hid (Below.refl _ _)⟩
                case round =>
                  obtain ⟨i, hi, rfl, HBR⟩ := hrel
                  by_cases hlt : i < y.length
                  · have hiz : i < ((y.zip y).map (wallP c)).length := by rw [List.length_map, List.length_zip]; omega
                    obtain ⟨ag, hA, -, p1, p2⟩ := (HR.out.below HBR.out (by omega)).at2 (k := i) hiz
                    obtain rfl := hA
                    have hw := HWL.out i hlt
                    have hhb := HHB.out
                    rw [hw.1] at p1 p2
                    dsimp only at p1 p2
                    have hq := hw.2
                    obtain ⟨s, hs_⟩ : ∃ s, swg c y[i] = s := ⟨_, rfl⟩
                    rw [hs_] at p1 p2 hq
                    obtain ⟨I1, hI1⟩ : ∃ z, s - c.half = z := ⟨_, rfl⟩
                    obtain ⟨O1, hO1⟩ : ∃ z, s + c.half = z := ⟨_, rfl⟩
                    rw [hI1] at p1
                    rw [hO1] at p2
                    have hsb := am_of.1 hq
                    have f0 : wrap64 (O1 - I1) = 2 * c.half := by unfold wrap64; omega
                    have f1 : wrap64 (2 * c.half) = 2 * c.half := by unfold wrap64; omega
                    have f2 : (wrap64 (O1 - I1) != wrap64 (2 * c.half)) = false := by rw [f0, f1]; simp
                    have f3 : wrap64 (O1 - c.half) = s := by unfold wrap64; omega
                    have f4 : wrap64 (b * c.gain) = bg := by rw [← HBG.out]; have := HBGB.out; unfold wrap64; omega
                    have f5 : bg.tdiv 1000 = Q := HQ.out
                    have f6 : wrap64 Q = Q := by unfold wrap64; have := HBGB.out; omega
                    have f7 : decide (Q < am s) = false := decide_eq_false (by omega)
                    have HAM : Hid (∀ W : World, Calls Try.prog 79 #[.int .i64 (wrap64 (O1 - c.half))] W fun e w' => e = .returned (.int .i64 (am s)) ∧ W = w') := Lib.hid (fun W => by rw [f3]; exact topAmount_any s W (by omega) (by omega))
                    have HAM2 : Hid (∀ W : World, Calls Try.prog 79 #[.int .i64 (O1 - c.half)] W fun e w' => e = .returned (.int .i64 (am s)) ∧ W = w') := Lib.hid (fun W => by rw [show O1 - c.half = s by omega]; exact topAmount_any s W (by omega) (by omega))
                    have HAM3 : Hid (∀ W : World, Calls Try.prog 79 #[.int .i64 s] W fun e w' => e = .returned (.int .i64 (am s)) ∧ W = w') := Lib.hid (fun W => topAmount_any s W (by omega) (by omega))
                    have gi : (i : Int) < (y.length : Int) := by omega
                    have HDr := HD.out.below HBR.out HD.out.lt
                    have e0 := (HDr.cell 0).trans rfl
                    have e1 := (HDr.cell 1).trans rfl
                    clear hw hq hs_ hI1 hO1 hsb
                    clear c0 c1 c2 d0 d1 d2 d3 d4 d5 d6
                    go_wp2_with fail
                    have hk0 := Lat.cell p1
                    have hk1 := Lat.cell p2
                    have hk2 := Lat.cell e0
                    have hk3 := Lat.cell e1
                    try dsimp only [List.append]
                    refine wp_region_lat (by kernel_rfl) (by kernel_rfl) ?_
                    repeat (go_big_quiet_step (first | (with_reducible exact Calls.lat_ (HAM.out _)) | (with_reducible exact Calls.lat_ (HAM2.out _)) | (with_reducible exact Calls.lat_ (HAM3.out _))))
                    refine wpQuiet_nil ?_
                    intro wy hw
                    have hb := lat_out hw
                    have HBR2 := Lib.hid (HBR.out.trans (hb.mono HBR.out.size))
                    clear hw hb hk0 hk1 hk2 hk3 p1 p2 e0 e1 HDr
                    go_wp2
                    go_roundw
                    case rel => exact ⟨i + 1, by omega, by go_num, HBR2⟩
                    case measure => simp [intOf]; omega
                  · obtain rfl : i = y.length := by omega
                    have gi : ¬ (y.length : Int) < (y.length : Int) := by omega
                    go_wp2_with fail
                    refine (works03_any _).mono ?_
                    rintro e wz ⟨rfl, hb⟩
                    have HBZ := Lib.hid (HB.out.trans ((HBR.out.trans (hb.mono HBR.out.size)).mono HB.out.size))
                    clear hb
                    go_wp2
                    go_ret
                    exact ⟨rfl, HB0.out.trans (HBZ.out.mono HB0.out.size)⟩
          · have gr : hd < a := by omega
            clear ht hE1 hE2 hE3 haa hhd hr
            go_enter Try.func15, Try.ntmps15
            go_upto_region 1 with fail
            obtain ⟨w1, hW⟩ : ∃ W, (w.alloc (.cells #[.slice t.Af t.nf t.kf, .slice t.Ab t.nb t.kb, .int .i64 t.c.share] 43)).alloc (.cells #[.int .i64 c.half, .int .i64 c.gain, .int .i64 c.thin, .int .i64 c.wide, .int .i64 c.slope, .int .i64 c.jerk, .int .i64 c.stylus] 73) = W := ⟨_, rfl⟩
            have hb : Below w.heap.size w w1 := by rw [← hW]; exact (below_a _ _).alloc (by simp) _
            have HK : Hid (Blk w1 w.heap.size 43 #[.slice t.Af t.nf t.kf, .slice t.Ab t.nb t.kb, .int .i64 t.c.share]) := Lib.hid (by rw [← hW]; exact (Blk.new _ _ _).alloc _)
            have HD : Hid (Blk w1 (w.heap.size + 1) 73 #[.int .i64 c.half, .int .i64 c.gain, .int .i64 c.thin, .int .i64 c.wide, .int .i64 c.slope, .int .i64 c.jerk, .int .i64 c.stylus]) := Lib.hid (by rw [← hW]; exact blk_al (by simp))
            rw [hW]
            clear hW
            have hsz0 := hb.size
            have hszk := HD.out.lt
            replace HC := Lib.hid ((HC.out.below hb (Nat.le_refl _)).more hsz0)
            replace HX := Lib.hid ((HX.out.below hb (Nat.le_refl _)).more hsz0)
            have HB0 := Lib.hid hb
            have HB := Lib.hid (Below.refl w1.heap.size w1)
            have HD0 := HD
            clear hb
            obtain ⟨c0, c1, c2⟩ := HK.out.three_
            have d0 := (HD.out.cell 0).trans rfl
            have d1 := (HD.out.cell 1).trans rfl
            have d2 := (HD.out.cell 2).trans rfl
            have d3 := (HD.out.cell 3).trans rfl
            have d4 := (HD.out.cell 4).trans rfl
            have d5 := (HD.out.cell 5).trans rfl
            have d6 := (HD.out.cell 6).trans rfl
            go_wp2_with fail
            have CALL := refSignal_any w1.heap.size Ax nx kx x w1 (HX.out.more (by omega)) (by omega)
            rw [HS.out] at CALL
            refine CALL.mono ?_
            rintro e w_ ⟨rfl, rfl⟩
            clear CALL
            go_wp2_with fail
            have CALL := refCheckCurve_any w1.heap.size t w1 (HC.out.more (by omega)) (Nat.le_refl _) hs
            rw [HV.out] at CALL
            refine CALL.mono ?_
            rintro e w_3 ⟨rfl, hb⟩
            clear CALL
            clear c0 c1 c2 d0 d1 d2 d3 d4 d5 d6
            replace HC := Lib.hid (HC.out.below hb (by first | omega | simp))
            replace HX := Lib.hid (HX.out.below hb (by first | omega | simp))
            replace HK := Lib.hid (HK.out.below hb HK.out.lt)
            replace HD := Lib.hid (HD.out.below hb HD.out.lt)
            replace HB := Lib.hid (HB.out.trans (hb.mono HB.out.size))
            have hsz4 := hb.size
            clear hb
            obtain ⟨c0, c1, c2⟩ := HK.out.three_
            have d0 := (HD.out.cell 0).trans rfl
            have d1 := (HD.out.cell 1).trans rfl
            have d2 := (HD.out.cell 2).trans rfl
            have d3 := (HD.out.cell 3).trans rfl
            have d4 := (HD.out.cell 4).trans rfl
            have d5 := (HD.out.cell 5).trans rfl
            have d6 := (HD.out.cell 6).trans rfl
            go_wp2_with fail
            have CALL := refCheck_any c w_3
            rw [HG.out] at CALL
            refine CALL.mono ?_
            rintro e w_5 ⟨rfl, hb⟩
            clear CALL
            clear c0 c1 c2 d0 d1 d2 d3 d4 d5 d6
            replace HC := Lib.hid (HC.out.below hb (by first | omega | simp))
            replace HX := Lib.hid (HX.out.below hb (by first | omega | simp))
            replace HK := Lib.hid (HK.out.below hb HK.out.lt)
            replace HD := Lib.hid (HD.out.below hb HD.out.lt)
            replace HB := Lib.hid (HB.out.trans (hb.mono HB.out.size))
            have hsz6 := hb.size
            clear hb
            obtain ⟨c0, c1, c2⟩ := HK.out.three_
            have d0 := (HD.out.cell 0).trans rfl
            have d1 := (HD.out.cell 1).trans rfl
            have d2 := (HD.out.cell 2).trans rfl
            have d3 := (HD.out.cell 3).trans rfl
            have d4 := (HD.out.cell 4).trans rfl
            have d5 := (HD.out.cell 5).trans rfl
            have d6 := (HD.out.cell 6).trans rfl
            go_wp2_with fail
            go_loopw [7, 8] (fun mv iv wr => ∃ (j : Nat), j ≤ nx ∧ iv = .int .i64 j ∧ mv = .int .i64 (ldL (x.take j)) ∧ w_5 = wr) (fun _ iv _ => nx - (intOf iv).toNat)
            case atStart => exact ⟨0, Nat.zero_le _, rfl, rfl, rfl⟩
            case round =>
              obtain ⟨j, hj, rfl, rfl, rfl⟩ := hrel
              by_cases hlt : j < nx
              · have hjx : j < x.length := by have := HNX.out; omega
                obtain ⟨ax, hA, -, k1⟩ := HX.out.at_ (k := j) hjx
                obtain rfl := hA
                have b1 := wib_bd (HXB.out _ (List.getElem_mem hjx))
                have hsn := ldL_snoc x j hjx
                obtain ⟨q, hq⟩ : ∃ q, x[j] = q := ⟨_, rfl⟩
                rw [hq] at k1 b1 hsn
                obtain ⟨m, hm⟩ : ∃ m, ldL (x.take j) = m := ⟨_, rfl⟩
                obtain ⟨a', ha'⟩ : ∃ a, am q = a := ⟨_, rfl⟩
                rw [hm, ha'] at hsn
                rw [hm]
                have HSN := Lib.hid hsn
                have mx : (if m < a' then a' else m) = max m a' := by omega
                have gj : (j : Int) < (nx : Int) := by omega
                have HAQ := Lib.hid ha'
                clear hsn hq hm ha'
                go_wp2_with fail
                have CALL := topAmount_any q w_5 (by omega) (by omega)
                rw [HAQ.out] at CALL
                refine CALL.mono ?_
                rintro e w_ ⟨rfl, rfl⟩
                clear CALL
                go_wp2
                go_roundw
                case rel => exact ⟨j + 1, by omega, by go_num, by rw [HSN.out], trivial⟩
                case measure => simp [intOf]; omega
              · obtain rfl : j = nx := by omega
                have htk : x.take j = x := List.take_of_length_le (by have := HNX.out; omega)
                rw [htk, HLD.out]
                have gj : ¬ (j : Int) < (j : Int) := by omega
                clear htk
                go_wp2_with fail
                have CALL := Headroom_any w_5.heap.size t w_5 (HC.out.more (by omega)) (Nat.le_refl _) hs
                rw [HH.out.1, HH.out.2] at CALL
                refine CALL.mono ?_
                rintro e w_11 ⟨rfl, hb⟩
                clear CALL
                clear c0 c1 c2 d0 d1 d2 d3 d4 d5 d6
                replace HC := Lib.hid (HC.out.below hb (by first | omega | simp))
                replace HX := Lib.hid (HX.out.below hb (by first | omega | simp))
                replace HK := Lib.hid (HK.out.below hb HK.out.lt)
                replace HD := Lib.hid (HD.out.below hb HD.out.lt)
                replace HB := Lib.hid (HB.out.trans (hb.mono HB.out.size))
                have hsz12 := hb.size
                clear hb
                obtain ⟨c0, c1, c2⟩ := HK.out.three_
                have d0 := (HD.out.cell 0).trans rfl
                have d1 := (HD.out.cell 1).trans rfl
                have d2 := (HD.out.cell 2).trans rfl
                have d3 := (HD.out.cell 3).trans rfl
                have d4 := (HD.out.cell 4).trans rfl
                have d5 := (HD.out.cell 5).trans rfl
                have d6 := (HD.out.cell 6).trans rfl
                go_wp2_with fail
                have CALL := works03_any w_11
                refine CALL.mono ?_
                rintro e w_13 ⟨rfl, hb⟩
                clear CALL
                clear c0 c1 c2 d0 d1 d2 d3 d4 d5 d6
                replace HC := Lib.hid (HC.out.below hb (by first | omega | simp))
                replace HX := Lib.hid (HX.out.below hb (by first | omega | simp))
                replace HK := Lib.hid (HK.out.below hb HK.out.lt)
                replace HD := Lib.hid (HD.out.below hb HD.out.lt)
                replace HB := Lib.hid (HB.out.trans (hb.mono HB.out.size))
                have hsz14 := hb.size
                clear hb
                obtain ⟨c0, c1, c2⟩ := HK.out.three_
                have d0 := (HD.out.cell 0).trans rfl
                have d1 := (HD.out.cell 1).trans rfl
                have d2 := (HD.out.cell 2).trans rfl
                have d3 := (HD.out.cell 3).trans rfl
                have d4 := (HD.out.cell 4).trans rfl
                have d5 := (HD.out.cell 5).trans rfl
                have d6 := (HD.out.cell 6).trans rfl
                go_wp2
                go_ret
                exact ⟨rfl, HB0.out.trans (HB.out.mono HB0.out.size)⟩
      · have HG := Lib.hid hE3
        have q3 : (E3 != 0) = true := by rw [bne_iff_ne]; exact h3
        clear hE1 hE2 hE3
        go_enter Try.func15, Try.ntmps15
        go_upto_region 1 with fail
        obtain ⟨w1, hW⟩ : ∃ W, (w.alloc (.cells #[.slice t.Af t.nf t.kf, .slice t.Ab t.nb t.kb, .int .i64 t.c.share] 43)).alloc (.cells #[.int .i64 c.half, .int .i64 c.gain, .int .i64 c.thin, .int .i64 c.wide, .int .i64 c.slope, .int .i64 c.jerk, .int .i64 c.stylus] 73) = W := ⟨_, rfl⟩
        have hb : Below w.heap.size w w1 := by rw [← hW]; exact (below_a _ _).alloc (by simp) _
        have HK : Hid (Blk w1 w.heap.size 43 #[.slice t.Af t.nf t.kf, .slice t.Ab t.nb t.kb, .int .i64 t.c.share]) := Lib.hid (by rw [← hW]; exact (Blk.new _ _ _).alloc _)
        have HD : Hid (Blk w1 (w.heap.size + 1) 73 #[.int .i64 c.half, .int .i64 c.gain, .int .i64 c.thin, .int .i64 c.wide, .int .i64 c.slope, .int .i64 c.jerk, .int .i64 c.stylus]) := Lib.hid (by rw [← hW]; exact blk_al (by simp))
        rw [hW]
        clear hW
        have hsz0 := hb.size
        have hszk := HD.out.lt
        replace HC := Lib.hid ((HC.out.below hb (Nat.le_refl _)).more hsz0)
        replace HX := Lib.hid ((HX.out.below hb (Nat.le_refl _)).more hsz0)
        have HB0 := Lib.hid hb
        have HB := Lib.hid (Below.refl w1.heap.size w1)
        have HD0 := HD
        clear hb
        obtain ⟨c0, c1, c2⟩ := HK.out.three_
        have d0 := (HD.out.cell 0).trans rfl
        have d1 := (HD.out.cell 1).trans rfl
        have d2 := (HD.out.cell 2).trans rfl
        have d3 := (HD.out.cell 3).trans rfl
        have d4 := (HD.out.cell 4).trans rfl
        have d5 := (HD.out.cell 5).trans rfl
        have d6 := (HD.out.cell 6).trans rfl
        go_wp2_with fail
        have CALL := refSignal_any w1.heap.size Ax nx kx x w1 (HX.out.more (by omega)) (by omega)
        rw [HS.out] at CALL
        refine CALL.mono ?_
        rintro e w_ ⟨rfl, rfl⟩
        clear CALL
        go_wp2_with fail
        have CALL := refCheckCurve_any w1.heap.size t w1 (HC.out.more (by omega)) (Nat.le_refl _) hs
        rw [HV.out] at CALL
        refine CALL.mono ?_
        rintro e w_26 ⟨rfl, hb⟩
        clear CALL
        clear c0 c1 c2 d0 d1 d2 d3 d4 d5 d6
        replace HC := Lib.hid (HC.out.below hb (by first | omega | simp))
        replace HX := Lib.hid (HX.out.below hb (by first | omega | simp))
        replace HK := Lib.hid (HK.out.below hb HK.out.lt)
        replace HD := Lib.hid (HD.out.below hb HD.out.lt)
        replace HB := Lib.hid (HB.out.trans (hb.mono HB.out.size))
        have hsz27 := hb.size
        clear hb
        obtain ⟨c0, c1, c2⟩ := HK.out.three_
        have d0 := (HD.out.cell 0).trans rfl
        have d1 := (HD.out.cell 1).trans rfl
        have d2 := (HD.out.cell 2).trans rfl
        have d3 := (HD.out.cell 3).trans rfl
        have d4 := (HD.out.cell 4).trans rfl
        have d5 := (HD.out.cell 5).trans rfl
        have d6 := (HD.out.cell 6).trans rfl
        go_wp2_with fail
        have CALL := refCheck_any c w_26
        rw [HG.out] at CALL
        refine CALL.mono ?_
        rintro e w_28 ⟨rfl, hb⟩
        clear CALL
        clear c0 c1 c2 d0 d1 d2 d3 d4 d5 d6
        replace HC := Lib.hid (HC.out.below hb (by first | omega | simp))
        replace HX := Lib.hid (HX.out.below hb (by first | omega | simp))
        replace HK := Lib.hid (HK.out.below hb HK.out.lt)
        replace HD := Lib.hid (HD.out.below hb HD.out.lt)
        replace HB := Lib.hid (HB.out.trans (hb.mono HB.out.size))
        have hsz29 := hb.size
        clear hb
        obtain ⟨c0, c1, c2⟩ := HK.out.three_
        have d0 := (HD.out.cell 0).trans rfl
        have d1 := (HD.out.cell 1).trans rfl
        have d2 := (HD.out.cell 2).trans rfl
        have d3 := (HD.out.cell 3).trans rfl
        have d4 := (HD.out.cell 4).trans rfl
        have d5 := (HD.out.cell 5).trans rfl
        have d6 := (HD.out.cell 6).trans rfl
        go_wp2_with fail
        have CALL := works03_any w_28
        refine CALL.mono ?_
        rintro e w_30 ⟨rfl, hb⟩
        clear CALL
        clear c0 c1 c2 d0 d1 d2 d3 d4 d5 d6
        replace HC := Lib.hid (HC.out.below hb (by first | omega | simp))
        replace HX := Lib.hid (HX.out.below hb (by first | omega | simp))
        replace HK := Lib.hid (HK.out.below hb HK.out.lt)
        replace HD := Lib.hid (HD.out.below hb HD.out.lt)
        replace HB := Lib.hid (HB.out.trans (hb.mono HB.out.size))
        have hsz31 := hb.size
        clear hb
        obtain ⟨c0, c1, c2⟩ := HK.out.three_
        have d0 := (HD.out.cell 0).trans rfl
        have d1 := (HD.out.cell 1).trans rfl
        have d2 := (HD.out.cell 2).trans rfl
        have d3 := (HD.out.cell 3).trans rfl
        have d4 := (HD.out.cell 4).trans rfl
        have d5 := (HD.out.cell 5).trans rfl
        have d6 := (HD.out.cell 6).trans rfl
        go_wp2
        go_ret
        exact ⟨rfl, HB0.out.trans (HB.out.mono HB0.out.size)⟩
    · have HV := Lib.hid hE2
      have q2 : (E2 != 0) = true := by rw [bne_iff_ne]; exact h2
      clear hE1 hE2
      go_enter Try.func15, Try.ntmps15
      go_upto_region 1 with fail
      obtain ⟨w1, hW⟩ : ∃ W, (w.alloc (.cells #[.slice t.Af t.nf t.kf, .slice t.Ab t.nb t.kb, .int .i64 t.c.share] 43)).alloc (.cells #[.int .i64 c.half, .int .i64 c.gain, .int .i64 c.thin, .int .i64 c.wide, .int .i64 c.slope, .int .i64 c.jerk, .int .i64 c.stylus] 73) = W := ⟨_, rfl⟩
      have hb : Below w.heap.size w w1 := by rw [← hW]; exact (below_a _ _).alloc (by simp) _
      have HK : Hid (Blk w1 w.heap.size 43 #[.slice t.Af t.nf t.kf, .slice t.Ab t.nb t.kb, .int .i64 t.c.share]) := Lib.hid (by rw [← hW]; exact (Blk.new _ _ _).alloc _)
      have HD : Hid (Blk w1 (w.heap.size + 1) 73 #[.int .i64 c.half, .int .i64 c.gain, .int .i64 c.thin, .int .i64 c.wide, .int .i64 c.slope, .int .i64 c.jerk, .int .i64 c.stylus]) := Lib.hid (by rw [← hW]; exact blk_al (by simp))
      rw [hW]
      clear hW
      have hsz0 := hb.size
      have hszk := HD.out.lt
      replace HC := Lib.hid ((HC.out.below hb (Nat.le_refl _)).more hsz0)
      replace HX := Lib.hid ((HX.out.below hb (Nat.le_refl _)).more hsz0)
      have HB0 := Lib.hid hb
      have HB := Lib.hid (Below.refl w1.heap.size w1)
      have HD0 := HD
      clear hb
      obtain ⟨c0, c1, c2⟩ := HK.out.three_
      have d0 := (HD.out.cell 0).trans rfl
      have d1 := (HD.out.cell 1).trans rfl
      have d2 := (HD.out.cell 2).trans rfl
      have d3 := (HD.out.cell 3).trans rfl
      have d4 := (HD.out.cell 4).trans rfl
      have d5 := (HD.out.cell 5).trans rfl
      have d6 := (HD.out.cell 6).trans rfl
      go_wp2_with fail
      have CALL := refSignal_any w1.heap.size Ax nx kx x w1 (HX.out.more (by omega)) (by omega)
      rw [HS.out] at CALL
      refine CALL.mono ?_
      rintro e w_ ⟨rfl, rfl⟩
      clear CALL
      go_wp2_with fail
      have CALL := refCheckCurve_any w1.heap.size t w1 (HC.out.more (by omega)) (Nat.le_refl _) hs
      rw [HV.out] at CALL
      refine CALL.mono ?_
      rintro e w_32 ⟨rfl, hb⟩
      clear CALL
      clear c0 c1 c2 d0 d1 d2 d3 d4 d5 d6
      replace HC := Lib.hid (HC.out.below hb (by first | omega | simp))
      replace HX := Lib.hid (HX.out.below hb (by first | omega | simp))
      replace HK := Lib.hid (HK.out.below hb HK.out.lt)
      replace HD := Lib.hid (HD.out.below hb HD.out.lt)
      replace HB := Lib.hid (HB.out.trans (hb.mono HB.out.size))
      have hsz33 := hb.size
      clear hb
      obtain ⟨c0, c1, c2⟩ := HK.out.three_
      have d0 := (HD.out.cell 0).trans rfl
      have d1 := (HD.out.cell 1).trans rfl
      have d2 := (HD.out.cell 2).trans rfl
      have d3 := (HD.out.cell 3).trans rfl
      have d4 := (HD.out.cell 4).trans rfl
      have d5 := (HD.out.cell 5).trans rfl
      have d6 := (HD.out.cell 6).trans rfl
      go_wp2_with fail
      have CALL := works03_any w_32
      refine CALL.mono ?_
      rintro e w_34 ⟨rfl, hb⟩
      clear CALL
      clear c0 c1 c2 d0 d1 d2 d3 d4 d5 d6
      replace HC := Lib.hid (HC.out.below hb (by first | omega | simp))
      replace HX := Lib.hid (HX.out.below hb (by first | omega | simp))
      replace HK := Lib.hid (HK.out.below hb HK.out.lt)
      replace HD := Lib.hid (HD.out.below hb HD.out.lt)
      replace HB := Lib.hid (HB.out.trans (hb.mono HB.out.size))
      have hsz35 := hb.size
      clear hb
      obtain ⟨c0, c1, c2⟩ := HK.out.three_
      have d0 := (HD.out.cell 0).trans rfl
      have d1 := (HD.out.cell 1).trans rfl
      have d2 := (HD.out.cell 2).trans rfl
      have d3 := (HD.out.cell 3).trans rfl
      have d4 := (HD.out.cell 4).trans rfl
      have d5 := (HD.out.cell 5).trans rfl
      have d6 := (HD.out.cell 6).trans rfl
      go_wp2
      go_ret
      exact ⟨rfl, HB0.out.trans (HB.out.mono HB0.out.size)⟩
  · have HS := Lib.hid hE1
    have q1 : (E1 != 0) = true := by rw [bne_iff_ne]; exact h1
    clear hE1
    go_enter Try.func15, Try.ntmps15
    go_upto_region 1 with fail
    obtain ⟨w1, hW⟩ : ∃ W, (w.alloc (.cells #[.slice t.Af t.nf t.kf, .slice t.Ab t.nb t.kb, .int .i64 t.c.share] 43)).alloc (.cells #[.int .i64 c.half, .int .i64 c.gain, .int .i64 c.thin, .int .i64 c.wide, .int .i64 c.slope, .int .i64 c.jerk, .int .i64 c.stylus] 73) = W := ⟨_, rfl⟩
    have hb : Below w.heap.size w w1 := by rw [← hW]; exact (below_a _ _).alloc (by simp) _
    have HK : Hid (Blk w1 w.heap.size 43 #[.slice t.Af t.nf t.kf, .slice t.Ab t.nb t.kb, .int .i64 t.c.share]) := Lib.hid (by rw [← hW]; exact (Blk.new _ _ _).alloc _)
    have HD : Hid (Blk w1 (w.heap.size + 1) 73 #[.int .i64 c.half, .int .i64 c.gain, .int .i64 c.thin, .int .i64 c.wide, .int .i64 c.slope, .int .i64 c.jerk, .int .i64 c.stylus]) := Lib.hid (by rw [← hW]; exact blk_al (by simp))
    rw [hW]
    clear hW
    have hsz0 := hb.size
    have hszk := HD.out.lt
    replace HC := Lib.hid ((HC.out.below hb (Nat.le_refl _)).more hsz0)
    replace HX := Lib.hid ((HX.out.below hb (Nat.le_refl _)).more hsz0)
    have HB0 := Lib.hid hb
    have HB := Lib.hid (Below.refl w1.heap.size w1)
    have HD0 := HD
    clear hb
    obtain ⟨c0, c1, c2⟩ := HK.out.three_
    have d0 := (HD.out.cell 0).trans rfl
    have d1 := (HD.out.cell 1).trans rfl
    have d2 := (HD.out.cell 2).trans rfl
    have d3 := (HD.out.cell 3).trans rfl
    have d4 := (HD.out.cell 4).trans rfl
    have d5 := (HD.out.cell 5).trans rfl
    have d6 := (HD.out.cell 6).trans rfl
    go_wp2_with fail
    have CALL := refSignal_any w1.heap.size Ax nx kx x w1 (HX.out.more (by omega)) (by omega)
    rw [HS.out] at CALL
    refine CALL.mono ?_
    rintro e w_ ⟨rfl, rfl⟩
    clear CALL
    go_wp2_with fail
    have CALL := works03_any w1
    refine CALL.mono ?_
    rintro e w_36 ⟨rfl, hb⟩
    clear CALL
    clear c0 c1 c2 d0 d1 d2 d3 d4 d5 d6
    replace HC := Lib.hid (HC.out.below hb (by first | omega | simp))
    replace HX := Lib.hid (HX.out.below hb (by first | omega | simp))
    replace HK := Lib.hid (HK.out.below hb HK.out.lt)
    replace HD := Lib.hid (HD.out.below hb HD.out.lt)
    replace HB := Lib.hid (HB.out.trans (hb.mono HB.out.size))
    have hsz37 := hb.size
    clear hb
    obtain ⟨c0, c1, c2⟩ := HK.out.three_
    have d0 := (HD.out.cell 0).trans rfl
    have d1 := (HD.out.cell 1).trans rfl
    have d2 := (HD.out.cell 2).trans rfl
    have d3 := (HD.out.cell 3).trans rfl
    have d4 := (HD.out.cell 4).trans rfl
    have d5 := (HD.out.cell 5).trans rfl
    have d6 := (HD.out.cell 6).trans rfl
    go_wp2
    go_ret
    exact ⟨rfl, HB0.out.trans (HB.out.mono HB0.out.size)⟩
end Go.Proofs.Ytjaomjbhkgijbaa

