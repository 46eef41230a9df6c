/-
  The walk of TopSided.
-/
import Derived.Test.YtjaomjbhkgijbaaMg44

namespace Go.Proofs.Ytjaomjbhkgijbaa
open Go.RowKit

set_option maxRecDepth 100000 in
set_option maxHeartbeats 8000000 in
theorem tsided_walk (B : Nat) (t : CV) (Ap : Option Addr) (np kp : Nat) (p : List Smp) (c : Ctr) (w : World) (hc : CI w B t) (hp : RS w B Ap np p) (hB : B ≤ w.heap.size) (hlx : np ≤ 9223372036854775807) (hs : t.nf ≤ 9223372036854775807 ∧ t.nb ≤ 9223372036854775807) (hcg : -9223372036854775808 ≤ c.gain ∧ c.gain ≤ 9223372036854775807) :
    Calls Try.prog 13 #[.slice Ap np kp, .agg #[.slice t.Af t.nf t.kf, .slice t.Ab t.nb t.kb, .int .i64 t.c.share], .agg #[.int .i64 c.half, .int .i64 c.gain, .int .i64 c.thin, .int .i64 c.wide, .int .i64 c.slope, .int .i64 c.jerk, .int .i64 c.stylus]] w fun e w' => e = .returned (.bool true) ∧ Below w.heap.size w w' := by
  have HC := Lib.hid (hc.more hB)
  have HP := Lib.hid (hp.more hB)
  have HNP := Lib.hid hp.1
  clear hc hp hB
  obtain ⟨k, hk⟩ : ∃ k, c.gain.tdiv 1000 = k := ⟨_, rfl⟩
  have hkb : -9223372036854775808 ≤ k * 1000 ∧ k * 1000 ≤ 9223372036854775807 := by
    have h1 := Int.tmod_add_mul_tdiv c.gain 1000
    rw [hk] at h1
    have h2 : (k * 1000).natAbs ≤ c.gain.natAbs := by
      have h3 := Int.natAbs_tdiv c.gain 1000
      rw [hk] at h3
      have h4 : c.gain.natAbs / (1000 : Int).natAbs * 1000 ≤ c.gain.natAbs := Nat.div_mul_le_self _ _
      have h5 := Int.natAbs_mul k 1000
      rw [h5, h3]
      exact h4
    omega
  obtain ⟨u, hu⟩ : ∃ u : Ctr, u = ⟨c.half, k * 1000, c.thin, c.wide, c.slope, c.jerk, c.stylus⟩ := ⟨_, rfl⟩
  have HU := Lib.hid hu
  have HGN : u.gain = k * 1000 := by rw [hu]
  have HGK : Hid (u.gain.tdiv 1000 = k) := Lib.hid (by rw [HGN]; exact Int.mul_tdiv_cancel _ (by omega))
  replace HGN := Lib.hid HGN
  have k1 : IntKind.i64.wrap k = k := IntWalk.i64_in _ (by omega)
  have k2 : IntKind.i64.wrap (k * 1000) = k * 1000 := IntWalk.i64_in _ (by omega)
  clear hu hcg
  by_cases h200 : 200 < np
  · have g1 : (200 : Int) < (np : Int) := by omega
    go_enter Try.func13, Try.ntmps13
    go_upto_region 1 with fail
    obtain ⟨w0, hW⟩ : ∃ W, (w.alloc (.cells #[.slice t.Af t.nf t.kf, .slice t.Ab t.nb t.kb, .int .i64 t.c.share] 43)).alloc (.cells #[.int .i64 c.half, .int .i64 c.gain, .int .i64 c.thin, .int .i64 c.wide, .int .i64 c.slope, .int .i64 c.jerk, .int .i64 c.stylus] 73) = W := ⟨_, rfl⟩
    have hb : Below w.heap.size w w0 := by rw [← hW]; exact (below_a _ _).alloc (by simp) _
    have HK : Hid (Blk w0 w.heap.size 43 #[.slice t.Af t.nf t.kf, .slice t.Ab t.nb t.kb, .int .i64 t.c.share]) := Lib.hid (by rw [← hW]; exact (Blk.new _ _ _).alloc _)
    have HD : Hid (Blk w0 (w.heap.size + 1) 73 #[.int .i64 c.half, .int .i64 c.gain, .int .i64 c.thin, .int .i64 c.wide, .int .i64 c.slope, .int .i64 c.jerk, .int .i64 c.stylus]) := Lib.hid (by rw [← hW]; exact blk_al (by simp))
    rw [hW]
    clear hW
    have hd1 := (HD.out.cell 1).trans rfl
    have hd2 := HD.out.frozen 1
    have hszk := HD.out.lt
    go_upto_region 2 with fail
    obtain ⟨w1, hW⟩ : ∃ W, w0.setCell ⟨w.heap.size + 1, 1, none⟩ (.int .i64 (k * 1000)) = W := ⟨_, rfl⟩
    have hb1 : Below w.heap.size w w1 := by rw [← hW]; exact hb.setCell (by show w.heap.size ≤ w.heap.size + 1; omega) _
    replace HK : Hid (Blk w1 w.heap.size 43 #[.slice t.Af t.nf t.kf, .slice t.Ab t.nb t.kb, .int .i64 t.c.share]) := Lib.hid (by rw [← hW]; exact HK.out.far (by show w.heap.size ≠ w.heap.size + 1; omega) _)
    replace HD : Hid (Blk w1 (w.heap.size + 1) 73 #[.int .i64 u.half, .int .i64 u.gain, .int .i64 u.thin, .int .i64 u.wide, .int .i64 u.slope, .int .i64 u.jerk, .int .i64 u.stylus]) := Lib.hid (by rw [← hW, HU.out]; exact HD.out.set_ 1 _)
    have hszw : w1.heap.size = w0.heap.size := by rw [← hW]; simp [World.setCell]
    rw [hW]
    clear hW hd1 hd2 hb
    have hsz0 := hb1.size
    replace HC := Lib.hid ((HC.out.below hb1 (Nat.le_refl _)).more hsz0)
    replace HP := Lib.hid ((HP.out.below hb1 (Nat.le_refl _)).more hsz0)
    have HB0 := Lib.hid hb1
    have HB := Lib.hid (Below.refl w1.heap.size w1)
    clear hb1
    obtain ⟨c0, c1, c2⟩ := HK.out.three_
    have d0 := (HD.out.cell 0).trans rfl
    have d1 := (HD.out.cell 1).trans rfl
    have d2 := (HD.out.cell 2).trans rfl
    have d3 := (HD.out.cell 3).trans rfl
    have d4 := (HD.out.cell 4).trans rfl
    have d5 := (HD.out.cell 5).trans rfl
    have d6 := (HD.out.cell 6).trans rfl
    go_wp2_with fail
    have CALL := works03_any w1
    refine CALL.mono ?_
    rintro e w_1 ⟨rfl, hb⟩
    clear CALL
    clear c0 c1 c2 d0 d1 d2 d3 d4 d5 d6
    replace HC := Lib.hid (HC.out.below hb (by first | omega | simp))
    replace HP := Lib.hid (HP.out.below hb (by first | omega | simp))
    replace HK := Lib.hid (HK.out.below hb HK.out.lt)
    replace HD := Lib.hid (HD.out.below hb HD.out.lt)
    replace HB := Lib.hid (HB.out.trans (hb.mono HB.out.size))
    have hsz2 := hb.size
    clear hb
    obtain ⟨c0, c1, c2⟩ := HK.out.three_
    have d0 := (HD.out.cell 0).trans rfl
    have d1 := (HD.out.cell 1).trans rfl
    have d2 := (HD.out.cell 2).trans rfl
    have d3 := (HD.out.cell 3).trans rfl
    have d4 := (HD.out.cell 4).trans rfl
    have d5 := (HD.out.cell 5).trans rfl
    have d6 := (HD.out.cell 6).trans rfl
    go_wp2
    go_ret
    exact ⟨rfl, HB0.out.trans (HB.out.mono HB0.out.size)⟩
  have g1 : ¬ (200 : Int) < (np : Int) := by omega
  have hnp : np ≤ 200 := by omega
  clear h200
  obtain ⟨E1, hE1⟩ : ∃ e, ckQ p = e := ⟨_, rfl⟩
  by_cases h1 : E1 = 0
  · subst h1
    have HS := Lib.hid hE1
    obtain ⟨E2, hE2⟩ : ∃ e, ckV t.c = e := ⟨_, rfl⟩
    by_cases h2 : E2 = 0
    · subst h2
      have HV := Lib.hid hE2
      obtain ⟨E3, hE3⟩ : ∃ e, ckC u = e := ⟨_, rfl⟩
      by_cases h3 : E3 = 0
      · subst h3
        have HG := Lib.hid hE3
        obtain ⟨m1, m2⟩ := spl_ok hE1
        obtain ⟨l1, l2⟩ := sp_len p
        have HLM : Hid ((splM p).length = np) := Lib.hid (by rw [m1, l1]; exact HNP.out.symm)
        have HLD : Hid ((splD p).length = np) := Lib.hid (by rw [m2, l2]; exact HNP.out.symm)
        have hEE := sd_err (d := true) hE2 hE1
        have hFF := one_err3 (d := splD p) hE2 (by have := HLD.out; omega)
        by_cases hb : sdE true t.c p = 0 ∧ oneErr true t.c (splD p) = 0
        · obtain ⟨q, y, hT⟩ := sdd_of (ct := u) hE2 hE1 hE3 HGN.out hb.1 hb.2
          have HN := Lib.hid hT.nar
          have HO := Lib.hid hT.one
          have HCQ := Lib.hid hT.ck
          have HSP := Lib.hid hT.spl
          have HYL : Hid (y.length = np) := Lib.hid (by rw [hT.len.1]; exact HNP.out.symm)
          have HQL : Hid (q.length = np) := Lib.hid (by rw [hT.len.2.1]; exact HNP.out.symm)
          have HCU := Lib.hid hT.cut
          have HWL := Lib.hid hT.wal
          have HHB : Hid ((1 ≤ u.half ∧ u.half ≤ 4096) ∧ 0 ≤ k ∧ k ≤ 100) := Lib.hid ⟨⟨(ckC_ok hE3).h1, (ckC_ok hE3).h2⟩, hT.kb⟩
          clear hE1 hE2 hE3 m1 m2 l1 l2 hEE hFF hb hT
          go_enter Try.func13, Try.ntmps13
          go_upto_region 1 with fail
          obtain ⟨w0, hW⟩ : ∃ W, (w.alloc (.cells #[.slice t.Af t.nf t.kf, .slice t.Ab t.nb t.kb, .int .i64 t.c.share] 43)).alloc (.cells #[.int .i64 c.half, .int .i64 c.gain, .int .i64 c.thin, .int .i64 c.wide, .int .i64 c.slope, .int .i64 c.jerk, .int .i64 c.stylus] 73) = W := ⟨_, rfl⟩
          have hb : Below w.heap.size w w0 := by rw [← hW]; exact (below_a _ _).alloc (by simp) _
          have HK : Hid (Blk w0 w.heap.size 43 #[.slice t.Af t.nf t.kf, .slice t.Ab t.nb t.kb, .int .i64 t.c.share]) := Lib.hid (by rw [← hW]; exact (Blk.new _ _ _).alloc _)
          have HD : Hid (Blk w0 (w.heap.size + 1) 73 #[.int .i64 c.half, .int .i64 c.gain, .int .i64 c.thin, .int .i64 c.wide, .int .i64 c.slope, .int .i64 c.jerk, .int .i64 c.stylus]) := Lib.hid (by rw [← hW]; exact blk_al (by simp))
          rw [hW]
          clear hW
          have hd1 := (HD.out.cell 1).trans rfl
          have hd2 := HD.out.frozen 1
          have hszk := HD.out.lt
          go_upto_region 2 with fail
          obtain ⟨w1, hW⟩ : ∃ W, w0.setCell ⟨w.heap.size + 1, 1, none⟩ (.int .i64 (k * 1000)) = W := ⟨_, rfl⟩
          have hb1 : Below w.heap.size w w1 := by rw [← hW]; exact hb.setCell (by show w.heap.size ≤ w.heap.size + 1; omega) _
          replace HK : Hid (Blk w1 w.heap.size 43 #[.slice t.Af t.nf t.kf, .slice t.Ab t.nb t.kb, .int .i64 t.c.share]) := Lib.hid (by rw [← hW]; exact HK.out.far (by show w.heap.size ≠ w.heap.size + 1; omega) _)
          replace HD : Hid (Blk w1 (w.heap.size + 1) 73 #[.int .i64 u.half, .int .i64 u.gain, .int .i64 u.thin, .int .i64 u.wide, .int .i64 u.slope, .int .i64 u.jerk, .int .i64 u.stylus]) := Lib.hid (by rw [← hW, HU.out]; exact HD.out.set_ 1 _)
          have hszw : w1.heap.size = w0.heap.size := by rw [← hW]; simp [World.setCell]
          rw [hW]
          clear hW hd1 hd2 hb
          have hsz0 := hb1.size
          replace HC := Lib.hid ((HC.out.below hb1 (Nat.le_refl _)).more hsz0)
          replace HP := Lib.hid ((HP.out.below hb1 (Nat.le_refl _)).more hsz0)
          have HB0 := Lib.hid hb1
          have HB := Lib.hid (Below.refl w1.heap.size w1)
          clear hb1
          obtain ⟨c0, c1, c2⟩ := HK.out.three_
          have d0 := (HD.out.cell 0).trans rfl
          have d1 := (HD.out.cell 1).trans rfl
          have d2 := (HD.out.cell 2).trans rfl
          have d3 := (HD.out.cell 3).trans rfl
          have d4 := (HD.out.cell 4).trans rfl
          have d5 := (HD.out.cell 5).trans rfl
          have d6 := (HD.out.cell 6).trans rfl
          go_wp2_with fail
          have CALL := refProgramme_any w1.heap.size Ap np kp p w1 (HP.out.more (by omega)) (by omega)
          rw [HS.out] at CALL
          refine CALL.mono ?_
          rintro e w_ ⟨rfl, rfl⟩
          clear CALL
          go_wp2_with fail
          have CALL := refCheckCurve_any w1.heap.size t w1 (HC.out.more (by omega)) (Nat.le_refl _) hs
          rw [HV.out] at CALL
          refine CALL.mono ?_
          rintro e w_3 ⟨rfl, hb⟩
          clear CALL
          clear c0 c1 c2 d0 d1 d2 d3 d4 d5 d6
          replace HC := Lib.hid (HC.out.below hb (by first | omega | simp))
          replace HP := Lib.hid (HP.out.below hb (by first | omega | simp))
          replace HK := Lib.hid (HK.out.below hb HK.out.lt)
          replace HD := Lib.hid (HD.out.below hb HD.out.lt)
          replace HB := Lib.hid (HB.out.trans (hb.mono HB.out.size))
          have hsz4 := hb.size
          clear hb
          obtain ⟨c0, c1, c2⟩ := HK.out.three_
          have d0 := (HD.out.cell 0).trans rfl
          have d1 := (HD.out.cell 1).trans rfl
          have d2 := (HD.out.cell 2).trans rfl
          have d3 := (HD.out.cell 3).trans rfl
          have d4 := (HD.out.cell 4).trans rfl
          have d5 := (HD.out.cell 5).trans rfl
          have d6 := (HD.out.cell 6).trans rfl
          go_wp2_with fail
          have CALL := refCheck_any u w_3
          rw [HG.out] at CALL
          refine CALL.mono ?_
          rintro e w_5 ⟨rfl, hb⟩
          clear CALL
          clear c0 c1 c2 d0 d1 d2 d3 d4 d5 d6
          replace HC := Lib.hid (HC.out.below hb (by first | omega | simp))
          replace HP := Lib.hid (HP.out.below hb (by first | omega | simp))
          replace HK := Lib.hid (HK.out.below hb HK.out.lt)
          replace HD := Lib.hid (HD.out.below hb HD.out.lt)
          replace HB := Lib.hid (HB.out.trans (hb.mono HB.out.size))
          have hsz6 := hb.size
          clear hb
          obtain ⟨c0, c1, c2⟩ := HK.out.three_
          have d0 := (HD.out.cell 0).trans rfl
          have d1 := (HD.out.cell 1).trans rfl
          have d2 := (HD.out.cell 2).trans rfl
          have d3 := (HD.out.cell 3).trans rfl
          have d4 := (HD.out.cell 4).trans rfl
          have d5 := (HD.out.cell 5).trans rfl
          have d6 := (HD.out.cell 6).trans rfl
          go_wp2_with fail
          have CALL := Split_any w_5.heap.size Ap np kp p w_5 (HP.out.more (by omega)) (Nat.le_refl _) (by omega)
          rw [HS.out] at CALL
          refine CALL.mono ?_
          rintro e w_7 ⟨sx, sy, rfl, ho1, ho2, hb⟩
          clear CALL
          rw [HLM.out] at ho1
          rw [HLD.out] at ho2
          obtain ⟨Am, km, rfl, hm⟩ := li_own ho1
          obtain ⟨Ad, kd, rfl, hd⟩ := li_own ho2
          have HM := Lib.hid hm
          have HDD := Lib.hid hd
          clear ho1 ho2 hm hd
          clear c0 c1 c2 d0 d1 d2 d3 d4 d5 d6
          replace HC := Lib.hid (HC.out.below hb (by first | omega | simp))
          replace HP := Lib.hid (HP.out.below hb (by first | omega | simp))
          replace HK := Lib.hid (HK.out.below hb HK.out.lt)
          replace HD := Lib.hid (HD.out.below hb HD.out.lt)
          replace HB := Lib.hid (HB.out.trans (hb.mono HB.out.size))
          have hsz8 := hb.size
          clear hb
          obtain ⟨c0, c1, c2⟩ := HK.out.three_
          have d0 := (HD.out.cell 0).trans rfl
          have d1 := (HD.out.cell 1).trans rfl
          have d2 := (HD.out.cell 2).trans rfl
          have d3 := (HD.out.cell 3).trans rfl
          have d4 := (HD.out.cell 4).trans rfl
          have d5 := (HD.out.cell 5).trans rfl
          have d6 := (HD.out.cell 6).trans rfl
          go_wp2_with fail
          have CALL := Narrow_any w_7.heap.size t Ap np kp p w_7 (HC.out.more (by omega)) (HP.out.more (by omega)) (Nat.le_refl _) (by omega) hs
          rw [HN.out.1, HN.out.2] at CALL
          refine CALL.mono ?_
          rintro e w_9 ⟨sq, rfl, ho, hb⟩
          clear CALL
          obtain ⟨Aq, kq, rfl, hr⟩ := own_reads ho
          rw [HQL.out] at hr ⊢
          have HQ : Hid (RS w_9 w_9.heap.size Aq np q) := Lib.hid ⟨HQL.out.symm, hr⟩
          clear ho hr
          clear c0 c1 c2 d0 d1 d2 d3 d4 d5 d6
          replace HC := Lib.hid (HC.out.below hb (by first | omega | simp))
          replace HP := Lib.hid (HP.out.below hb (by first | omega | simp))
          replace HM := Lib.hid (HM.out.below hb (by first | omega | simp))
          replace HDD := Lib.hid (HDD.out.below hb (by first | omega | simp))
          replace HK := Lib.hid (HK.out.below hb HK.out.lt)
          replace HD := Lib.hid (HD.out.below hb HD.out.lt)
          replace HB := Lib.hid (HB.out.trans (hb.mono HB.out.size))
          have hsz10 := hb.size
          clear hb
          obtain ⟨c0, c1, c2⟩ := HK.out.three_
          have d0 := (HD.out.cell 0).trans rfl
          have d1 := (HD.out.cell 1).trans rfl
          have d2 := (HD.out.cell 2).trans rfl
          have d3 := (HD.out.cell 3).trans rfl
          have d4 := (HD.out.cell 4).trans rfl
          have d5 := (HD.out.cell 5).trans rfl
          have d6 := (HD.out.cell 6).trans rfl
          go_wp2_with fail
          have CALL := Apply_any w_9.heap.size t Ad np kd (splD p) w_9 (HC.out.more (by omega)) (HDD.out.more (by omega)) (Nat.le_refl _) (by omega) hs
          rw [HO.out.1, HO.out.2] at CALL
          refine CALL.mono ?_
          rintro e w_11 ⟨sy, rfl, ho, hb⟩
          clear CALL
          rw [HYL.out] at ho
          obtain ⟨Ay, ky, rfl, hy⟩ := li_own ho
          have HY := Lib.hid hy
          clear ho hy
          clear c0 c1 c2 d0 d1 d2 d3 d4 d5 d6
          replace HC := Lib.hid (HC.out.below hb (by first | omega | simp))
          replace HP := Lib.hid (HP.out.below hb (by first | omega | simp))
          replace HM := Lib.hid (HM.out.below hb (by first | omega | simp))
          replace HDD := Lib.hid (HDD.out.below hb (by first | omega | simp))
          replace HQ := Lib.hid (HQ.out.below hb (by first | omega | simp))
          replace HK := Lib.hid (HK.out.below hb HK.out.lt)
          replace HD := Lib.hid (HD.out.below hb HD.out.lt)
          replace HB := Lib.hid (HB.out.trans (hb.mono HB.out.size))
          have hsz12 := hb.size
          clear hb
          obtain ⟨c0, c1, c2⟩ := HK.out.three_
          have d0 := (HD.out.cell 0).trans rfl
          have d1 := (HD.out.cell 1).trans rfl
          have d2 := (HD.out.cell 2).trans rfl
          have d3 := (HD.out.cell 3).trans rfl
          have d4 := (HD.out.cell 4).trans rfl
          have d5 := (HD.out.cell 5).trans rfl
          have d6 := (HD.out.cell 6).trans rfl
          go_wp2_with fail
          have CALL := Split_any w_11.heap.size Aq np kq q w_11 (HQ.out.more (by omega)) (Nat.le_refl _) (by omega)
          rw [HCQ.out, HSP.out.1, HSP.out.2] at CALL
          refine CALL.mono ?_
          rintro e w_13 ⟨sx, sy, rfl, ho1, ho2, hb⟩
          clear CALL
          rw [HLM.out] at ho1
          rw [HYL.out] at ho2
          obtain ⟨Au, ku, rfl, hu⟩ := li_own ho1
          obtain ⟨Av, kv, rfl, hv⟩ := li_own ho2
          have HUU := Lib.hid hu
          have HVV := Lib.hid hv
          clear ho1 ho2 hu hv
          clear c0 c1 c2 d0 d1 d2 d3 d4 d5 d6
          replace HC := Lib.hid (HC.out.below hb (by first | omega | simp))
          replace HP := Lib.hid (HP.out.below hb (by first | omega | simp))
          replace HM := Lib.hid (HM.out.below hb (by first | omega | simp))
          replace HDD := Lib.hid (HDD.out.below hb (by first | omega | simp))
          replace HQ := Lib.hid (HQ.out.below hb (by first | omega | simp))
          replace HY := Lib.hid (HY.out.below hb (by first | omega | simp))
          replace HK := Lib.hid (HK.out.below hb HK.out.lt)
          replace HD := Lib.hid (HD.out.below hb HD.out.lt)
          replace HB := Lib.hid (HB.out.trans (hb.mono HB.out.size))
          have hsz14 := hb.size
          clear hb
          obtain ⟨c0, c1, c2⟩ := HK.out.three_
          have d0 := (HD.out.cell 0).trans rfl
          have d1 := (HD.out.cell 1).trans rfl
          have d2 := (HD.out.cell 2).trans rfl
          have d3 := (HD.out.cell 3).trans rfl
          have d4 := (HD.out.cell 4).trans rfl
          have d5 := (HD.out.cell 5).trans rfl
          have d6 := (HD.out.cell 6).trans rfl
          go_wp2_with fail
          have CALL := Cut_any w_13.heap.size Aq np kq u q w_13 (HQ.out.more (by omega)) (Nat.le_refl _) (by omega)
          rw [HCU.out.1, HCU.out.2] at CALL
          refine CALL.mono ?_
          rintro e w_15 ⟨Ag, ng, kg, rfl, hr, hb⟩
          clear CALL
          obtain rfl : ng = np := by have := hr.1; rw [List.length_map, HQL.out] at this; exact this
          have HR := Lib.hid hr
          clear hr
          clear c0 c1 c2 d0 d1 d2 d3 d4 d5 d6
          replace HC := Lib.hid (HC.out.below hb (by first | omega | simp))
          replace HP := Lib.hid (HP.out.below hb (by first | omega | simp))
          replace HM := Lib.hid (HM.out.below hb (by first | omega | simp))
          replace HDD := Lib.hid (HDD.out.below hb (by first | omega | simp))
          replace HQ := Lib.hid (HQ.out.below hb (by first | omega | simp))
          replace HY := Lib.hid (HY.out.below hb (by first | omega | simp))
          replace HUU := Lib.hid (HUU.out.below hb (by first | omega | simp))
          replace HVV := Lib.hid (HVV.out.below hb (by first | omega | simp))
          replace HK := Lib.hid (HK.out.below hb HK.out.lt)
          replace HD := Lib.hid (HD.out.below hb HD.out.lt)
          replace HB := Lib.hid (HB.out.trans (hb.mono HB.out.size))
          have hsz16 := hb.size
          clear hb
          obtain ⟨c0, c1, c2⟩ := HK.out.three_
          have d0 := (HD.out.cell 0).trans rfl
          have d1 := (HD.out.cell 1).trans rfl
          have d2 := (HD.out.cell 2).trans rfl
          have d3 := (HD.out.cell 3).trans rfl
          have d4 := (HD.out.cell 4).trans rfl
          have d5 := (HD.out.cell 5).trans rfl
          have d6 := (HD.out.cell 6).trans rfl
          go_wp2_with fail
          go_loopw [17] (fun iv wr => ∃ (i : Nat), i ≤ ng ∧ iv = .int .i64 i ∧ Hid (Below w_15.heap.size w_15 wr)) (fun iv _ => ng - (intOf iv).toNat)
          case atStart => exact ⟨0, Nat.zero_le _, rfl, Lib.hid (Below.refl _ _)⟩
          case round =>
            obtain ⟨i, hi, rfl, HBR⟩ := hrel
            by_cases hlt : i < ng
            · have hiy : i < y.length := by have := HYL.out; omega
              have him : i < (splM p).length := by have := HLM.out; omega
              have hiq : i < (q.map (wallP u)).length := by rw [List.length_map]; have := HQL.out; omega
              obtain ⟨I1, O1, hw, hsum, bI, bO, bK⟩ := HWL.out i hiy
              obtain ⟨ag, hA, -, p1, p2⟩ := (HR.out.below HBR.out (by omega)).at2 (k := i) hiq
              obtain rfl := hA
              rw [hw] at p1 p2
              dsimp only at p1 p2
              obtain ⟨am, hA, -, m1⟩ := (HM.out.below HBR.out (by omega)).at_ (k := i) him
              obtain rfl := hA
              obtain ⟨ay, hA, -, y1⟩ := (HY.out.below HBR.out (by omega)).at_ (k := i) hiy
              obtain rfl := hA
              obtain ⟨au, hA, -, u1⟩ := (HUU.out.below HBR.out (by omega)).at_ (k := i) him
              obtain rfl := hA
              obtain ⟨av, hA, -, v1⟩ := (HVV.out.below HBR.out (by omega)).at_ (k := i) hiy
              obtain rfl := hA
              obtain ⟨m, hm⟩ : ∃ m, (splM p)[i] = m := ⟨_, rfl⟩
              obtain ⟨v, hv⟩ : ∃ v, y[i] = v := ⟨_, rfl⟩
              rw [hm] at m1 u1
              rw [hv] at y1 v1 hsum bK
              obtain ⟨kv, hkv⟩ : ∃ z, k * v = z := ⟨_, rfl⟩
              rw [hkv] at hsum bK
              obtain ⟨T, hT⟩ : ∃ z, 2 * u.half + kv = z := ⟨_, rfl⟩
              have hh := HHB.out
              have f0 : wrap64 (O1 - I1) = T := by unfold wrap64; omega
              have f1 : wrap64 (2 * u.half) = 2 * u.half := by unfold wrap64; omega
              have f2 : u.gain.tdiv 1000 = k := HGK.out
              have f3 : wrap64 k = k := by unfold wrap64; omega
              have f4 : wrap64 (k * v) = kv := by rw [hkv]; unfold wrap64; omega
              have f5 : wrap64 (2 * u.half + kv) = T := by unfold wrap64; omega
              have f6 : (T != T) = false := by simp
              have f7 : (m != m) = false := by simp
              have f8 : (v != v) = false := by simp
              have f10 : (T != 2 * u.half + kv) = false := by rw [hT]; simp
              have f9 : O1 - I1 = T := by omega
              have gi : (i : Int) < (ng : Int) := by omega
              have HDr := HD.out.below HBR.out HD.out.lt
              have e0 := (HDr.cell 0).trans rfl
              have e1 := (HDr.cell 1).trans rfl
              clear hw hsum hm hv hkv hT
              clear c0 c1 c2 d0 d1 d2 d3 d4 d5 d6
              go_wp2_with fail
              have hk0 := Lat.cell p1
              have hk1 := Lat.cell p2
              have hk2 := Lat.cell e0
              have hk3 := Lat.cell e1
              have hk4 := Lat.cell m1
              have hk5 := Lat.cell y1
              have hk6 := Lat.cell u1
              have hk7 := Lat.cell v1
              try dsimp only [List.append]
              refine wp_region_lat (by kernel_rfl) (by kernel_rfl) ?_
              repeat (go_big_quiet_step (fail))
              refine wpQuiet_nil ?_
              intro wy hw
              have hb := lat_out hw
              have HBR2 := Lib.hid (HBR.out.trans (hb.mono HBR.out.size))
              clear hw hb hk0 hk1 hk2 hk3 hk4 hk5 hk6 hk7 p1 p2 e0 e1 HDr m1 y1 u1 v1
              go_wp2
              go_roundw
              case rel => exact ⟨i + 1, by omega, by go_num, HBR2⟩
              case measure => simp [intOf]; omega
            · obtain rfl : i = ng := by omega
              have gi : ¬ (i : Int) < (i : Int) := by omega
              go_wp2_with fail
              refine (works03_any _).mono ?_
              rintro e wz ⟨rfl, hb⟩
              have HBZ := Lib.hid (HB.out.trans ((HBR.out.trans (hb.mono HBR.out.size)).mono HB.out.size))
              clear hb
              go_wp2
              go_ret
              exact ⟨rfl, HB0.out.trans (HBZ.out.mono HB0.out.size)⟩
        · obtain ⟨E, hE⟩ : ∃ e, sdE true t.c p = e := ⟨_, rfl⟩
          obtain ⟨F, hF⟩ : ∃ e, oneErr true t.c (splD p) = e := ⟨_, rfl⟩
          rw [hE] at hEE hb
          rw [hF] at hFF hb
          have HE := Lib.hid hE
          have HF := Lib.hid hF
          clear hE hF hE1 hE2 hE3 m1 m2 l1 l2
          rcases hEE with rfl | rfl <;> rcases hFF with rfl | rfl | rfl
          · exact absurd ⟨rfl, rfl⟩ hb
          all_goals
            clear hb
            go_enter Try.func13, Try.ntmps13
            go_upto_region 1 with fail
            obtain ⟨w0, hW⟩ : ∃ W, (w.alloc (.cells #[.slice t.Af t.nf t.kf, .slice t.Ab t.nb t.kb, .int .i64 t.c.share] 43)).alloc (.cells #[.int .i64 c.half, .int .i64 c.gain, .int .i64 c.thin, .int .i64 c.wide, .int .i64 c.slope, .int .i64 c.jerk, .int .i64 c.stylus] 73) = W := ⟨_, rfl⟩
            have hb : Below w.heap.size w w0 := by rw [← hW]; exact (below_a _ _).alloc (by simp) _
            have HK : Hid (Blk w0 w.heap.size 43 #[.slice t.Af t.nf t.kf, .slice t.Ab t.nb t.kb, .int .i64 t.c.share]) := Lib.hid (by rw [← hW]; exact (Blk.new _ _ _).alloc _)
            have HD : Hid (Blk w0 (w.heap.size + 1) 73 #[.int .i64 c.half, .int .i64 c.gain, .int .i64 c.thin, .int .i64 c.wide, .int .i64 c.slope, .int .i64 c.jerk, .int .i64 c.stylus]) := Lib.hid (by rw [← hW]; exact blk_al (by simp))
            rw [hW]
            clear hW
            have hd1 := (HD.out.cell 1).trans rfl
            have hd2 := HD.out.frozen 1
            have hszk := HD.out.lt
            go_upto_region 2 with fail
            obtain ⟨w1, hW⟩ : ∃ W, w0.setCell ⟨w.heap.size + 1, 1, none⟩ (.int .i64 (k * 1000)) = W := ⟨_, rfl⟩
            have hb1 : Below w.heap.size w w1 := by rw [← hW]; exact hb.setCell (by show w.heap.size ≤ w.heap.size + 1; omega) _
            replace HK : Hid (Blk w1 w.heap.size 43 #[.slice t.Af t.nf t.kf, .slice t.Ab t.nb t.kb, .int .i64 t.c.share]) := Lib.hid (by rw [← hW]; exact HK.out.far (by show w.heap.size ≠ w.heap.size + 1; omega) _)
            replace HD : Hid (Blk w1 (w.heap.size + 1) 73 #[.int .i64 u.half, .int .i64 u.gain, .int .i64 u.thin, .int .i64 u.wide, .int .i64 u.slope, .int .i64 u.jerk, .int .i64 u.stylus]) := Lib.hid (by rw [← hW, HU.out]; exact HD.out.set_ 1 _)
            have hszw : w1.heap.size = w0.heap.size := by rw [← hW]; simp [World.setCell]
            rw [hW]
            clear hW hd1 hd2 hb
            have hsz0 := hb1.size
            replace HC := Lib.hid ((HC.out.below hb1 (Nat.le_refl _)).more hsz0)
            replace HP := Lib.hid ((HP.out.below hb1 (Nat.le_refl _)).more hsz0)
            have HB0 := Lib.hid hb1
            have HB := Lib.hid (Below.refl w1.heap.size w1)
            clear hb1
            obtain ⟨c0, c1, c2⟩ := HK.out.three_
            have d0 := (HD.out.cell 0).trans rfl
            have d1 := (HD.out.cell 1).trans rfl
            have d2 := (HD.out.cell 2).trans rfl
            have d3 := (HD.out.cell 3).trans rfl
            have d4 := (HD.out.cell 4).trans rfl
            have d5 := (HD.out.cell 5).trans rfl
            have d6 := (HD.out.cell 6).trans rfl
            go_wp2_with fail
            have CALL := refProgramme_any w1.heap.size Ap np kp p w1 (HP.out.more (by omega)) (by omega)
            rw [HS.out] at CALL
            refine CALL.mono ?_
            rintro e w_ ⟨rfl, rfl⟩
            clear CALL
            go_wp2_with fail
            have CALL := refCheckCurve_any w1.heap.size t w1 (HC.out.more (by omega)) (Nat.le_refl _) hs
            rw [HV.out] at CALL
            refine CALL.mono ?_
            rintro e w_17 ⟨rfl, hb⟩
            clear CALL
            clear c0 c1 c2 d0 d1 d2 d3 d4 d5 d6
            replace HC := Lib.hid (HC.out.below hb (by first | omega | simp))
            replace HP := Lib.hid (HP.out.below hb (by first | omega | simp))
            replace HK := Lib.hid (HK.out.below hb HK.out.lt)
            replace HD := Lib.hid (HD.out.below hb HD.out.lt)
            replace HB := Lib.hid (HB.out.trans (hb.mono HB.out.size))
            have hsz18 := hb.size
            clear hb
            obtain ⟨c0, c1, c2⟩ := HK.out.three_
            have d0 := (HD.out.cell 0).trans rfl
            have d1 := (HD.out.cell 1).trans rfl
            have d2 := (HD.out.cell 2).trans rfl
            have d3 := (HD.out.cell 3).trans rfl
            have d4 := (HD.out.cell 4).trans rfl
            have d5 := (HD.out.cell 5).trans rfl
            have d6 := (HD.out.cell 6).trans rfl
            go_wp2_with fail
            have CALL := refCheck_any u w_17
            rw [HG.out] at CALL
            refine CALL.mono ?_
            rintro e w_19 ⟨rfl, hb⟩
            clear CALL
            clear c0 c1 c2 d0 d1 d2 d3 d4 d5 d6
            replace HC := Lib.hid (HC.out.below hb (by first | omega | simp))
            replace HP := Lib.hid (HP.out.below hb (by first | omega | simp))
            replace HK := Lib.hid (HK.out.below hb HK.out.lt)
            replace HD := Lib.hid (HD.out.below hb HD.out.lt)
            replace HB := Lib.hid (HB.out.trans (hb.mono HB.out.size))
            have hsz20 := hb.size
            clear hb
            obtain ⟨c0, c1, c2⟩ := HK.out.three_
            have d0 := (HD.out.cell 0).trans rfl
            have d1 := (HD.out.cell 1).trans rfl
            have d2 := (HD.out.cell 2).trans rfl
            have d3 := (HD.out.cell 3).trans rfl
            have d4 := (HD.out.cell 4).trans rfl
            have d5 := (HD.out.cell 5).trans rfl
            have d6 := (HD.out.cell 6).trans rfl
            go_wp2_with fail
            have CALL := Split_any w_19.heap.size Ap np kp p w_19 (HP.out.more (by omega)) (Nat.le_refl _) (by omega)
            rw [HS.out] at CALL
            refine CALL.mono ?_
            rintro e w_21 ⟨sx, sy, rfl, ho1, ho2, hb⟩
            clear CALL
            rw [HLM.out] at ho1
            rw [HLD.out] at ho2
            obtain ⟨Am, km, rfl, hm⟩ := li_own ho1
            obtain ⟨Ad, kd, rfl, hd⟩ := li_own ho2
            have HM := Lib.hid hm
            have HDD := Lib.hid hd
            clear ho1 ho2 hm hd
            clear c0 c1 c2 d0 d1 d2 d3 d4 d5 d6
            replace HC := Lib.hid (HC.out.below hb (by first | omega | simp))
            replace HP := Lib.hid (HP.out.below hb (by first | omega | simp))
            replace HK := Lib.hid (HK.out.below hb HK.out.lt)
            replace HD := Lib.hid (HD.out.below hb HD.out.lt)
            replace HB := Lib.hid (HB.out.trans (hb.mono HB.out.size))
            have hsz22 := hb.size
            clear hb
            obtain ⟨c0, c1, c2⟩ := HK.out.three_
            have d0 := (HD.out.cell 0).trans rfl
            have d1 := (HD.out.cell 1).trans rfl
            have d2 := (HD.out.cell 2).trans rfl
            have d3 := (HD.out.cell 3).trans rfl
            have d4 := (HD.out.cell 4).trans rfl
            have d5 := (HD.out.cell 5).trans rfl
            have d6 := (HD.out.cell 6).trans rfl
            go_wp2_with fail
            have CALL := Narrow_any w_21.heap.size t Ap np kp p w_21 (HC.out.more (by omega)) (HP.out.more (by omega)) (Nat.le_refl _) (by omega) hs
            rw [HE.out] at CALL
            refine CALL.mono ?_
            rintro e w_23 ⟨sq, rfl, ho, hb⟩
            clear CALL
            obtain ⟨Aq, kq, rfl, -⟩ := own_reads ho
            clear ho
            clear c0 c1 c2 d0 d1 d2 d3 d4 d5 d6
            replace HC := Lib.hid (HC.out.below hb (by first | omega | simp))
            replace HP := Lib.hid (HP.out.below hb (by first | omega | simp))
            replace HM := Lib.hid (HM.out.below hb (by first | omega | simp))
            replace HDD := Lib.hid (HDD.out.below hb (by first | omega | simp))
            replace HK := Lib.hid (HK.out.below hb HK.out.lt)
            replace HD := Lib.hid (HD.out.below hb HD.out.lt)
            replace HB := Lib.hid (HB.out.trans (hb.mono HB.out.size))
            have hsz24 := hb.size
            clear hb
            obtain ⟨c0, c1, c2⟩ := HK.out.three_
            have d0 := (HD.out.cell 0).trans rfl
            have d1 := (HD.out.cell 1).trans rfl
            have d2 := (HD.out.cell 2).trans rfl
            have d3 := (HD.out.cell 3).trans rfl
            have d4 := (HD.out.cell 4).trans rfl
            have d5 := (HD.out.cell 5).trans rfl
            have d6 := (HD.out.cell 6).trans rfl
            go_wp2_with fail
            have CALL := Apply_any w_23.heap.size t Ad np kd (splD p) w_23 (HC.out.more (by omega)) (HDD.out.more (by omega)) (Nat.le_refl _) (by omega) hs
            rw [HF.out] at CALL
            refine CALL.mono ?_
            rintro e w_25 ⟨sy, rfl, ho, hb⟩
            clear CALL
            obtain ⟨Ay, ky, rfl, -⟩ := li_own ho
            clear ho
            clear c0 c1 c2 d0 d1 d2 d3 d4 d5 d6
            replace HC := Lib.hid (HC.out.below hb (by first | omega | simp))
            replace HP := Lib.hid (HP.out.below hb (by first | omega | simp))
            replace HM := Lib.hid (HM.out.below hb (by first | omega | simp))
            replace HDD := Lib.hid (HDD.out.below hb (by first | omega | simp))
            replace HK := Lib.hid (HK.out.below hb HK.out.lt)
            replace HD := Lib.hid (HD.out.below hb HD.out.lt)
            replace HB := Lib.hid (HB.out.trans (hb.mono HB.out.size))
            have hsz26 := hb.size
            clear hb
            obtain ⟨c0, c1, c2⟩ := HK.out.three_
            have d0 := (HD.out.cell 0).trans rfl
            have d1 := (HD.out.cell 1).trans rfl
            have d2 := (HD.out.cell 2).trans rfl
            have d3 := (HD.out.cell 3).trans rfl
            have d4 := (HD.out.cell 4).trans rfl
            have d5 := (HD.out.cell 5).trans rfl
            have d6 := (HD.out.cell 6).trans rfl
            go_wp2_with fail
            have CALL := works03_any w_25
            refine CALL.mono ?_
            rintro e w_27 ⟨rfl, hb⟩
            clear CALL
            clear c0 c1 c2 d0 d1 d2 d3 d4 d5 d6
            replace HC := Lib.hid (HC.out.below hb (by first | omega | simp))
            replace HP := Lib.hid (HP.out.below hb (by first | omega | simp))
            replace HM := Lib.hid (HM.out.below hb (by first | omega | simp))
            replace HDD := Lib.hid (HDD.out.below hb (by first | omega | simp))
            replace HK := Lib.hid (HK.out.below hb HK.out.lt)
            replace HD := Lib.hid (HD.out.below hb HD.out.lt)
            replace HB := Lib.hid (HB.out.trans (hb.mono HB.out.size))
            have hsz28 := hb.size
            clear hb
            obtain ⟨c0, c1, c2⟩ := HK.out.three_
            have d0 := (HD.out.cell 0).trans rfl
            have d1 := (HD.out.cell 1).trans rfl
            have d2 := (HD.out.cell 2).trans rfl
            have d3 := (HD.out.cell 3).trans rfl
            have d4 := (HD.out.cell 4).trans rfl
            have d5 := (HD.out.cell 5).trans rfl
            have d6 := (HD.out.cell 6).trans rfl
            go_wp2
            go_ret
            exact ⟨rfl, HB0.out.trans (HB.out.mono HB0.out.size)⟩
      · have HG := Lib.hid hE3
        have q3 : (E3 != 0) = true := by rw [bne_iff_ne]; exact h3
        clear hE1 hE2 hE3
        go_enter Try.func13, Try.ntmps13
        go_upto_region 1 with fail
        obtain ⟨w0, hW⟩ : ∃ W, (w.alloc (.cells #[.slice t.Af t.nf t.kf, .slice t.Ab t.nb t.kb, .int .i64 t.c.share] 43)).alloc (.cells #[.int .i64 c.half, .int .i64 c.gain, .int .i64 c.thin, .int .i64 c.wide, .int .i64 c.slope, .int .i64 c.jerk, .int .i64 c.stylus] 73) = W := ⟨_, rfl⟩
        have hb : Below w.heap.size w w0 := by rw [← hW]; exact (below_a _ _).alloc (by simp) _
        have HK : Hid (Blk w0 w.heap.size 43 #[.slice t.Af t.nf t.kf, .slice t.Ab t.nb t.kb, .int .i64 t.c.share]) := Lib.hid (by rw [← hW]; exact (Blk.new _ _ _).alloc _)
        have HD : Hid (Blk w0 (w.heap.size + 1) 73 #[.int .i64 c.half, .int .i64 c.gain, .int .i64 c.thin, .int .i64 c.wide, .int .i64 c.slope, .int .i64 c.jerk, .int .i64 c.stylus]) := Lib.hid (by rw [← hW]; exact blk_al (by simp))
        rw [hW]
        clear hW
        have hd1 := (HD.out.cell 1).trans rfl
        have hd2 := HD.out.frozen 1
        have hszk := HD.out.lt
        go_upto_region 2 with fail
        obtain ⟨w1, hW⟩ : ∃ W, w0.setCell ⟨w.heap.size + 1, 1, none⟩ (.int .i64 (k * 1000)) = W := ⟨_, rfl⟩
        have hb1 : Below w.heap.size w w1 := by rw [← hW]; exact hb.setCell (by show w.heap.size ≤ w.heap.size + 1; omega) _
        replace HK : Hid (Blk w1 w.heap.size 43 #[.slice t.Af t.nf t.kf, .slice t.Ab t.nb t.kb, .int .i64 t.c.share]) := Lib.hid (by rw [← hW]; exact HK.out.far (by show w.heap.size ≠ w.heap.size + 1; omega) _)
        replace HD : Hid (Blk w1 (w.heap.size + 1) 73 #[.int .i64 u.half, .int .i64 u.gain, .int .i64 u.thin, .int .i64 u.wide, .int .i64 u.slope, .int .i64 u.jerk, .int .i64 u.stylus]) := Lib.hid (by rw [← hW, HU.out]; exact HD.out.set_ 1 _)
        have hszw : w1.heap.size = w0.heap.size := by rw [← hW]; simp [World.setCell]
        rw [hW]
        clear hW hd1 hd2 hb
        have hsz0 := hb1.size
        replace HC := Lib.hid ((HC.out.below hb1 (Nat.le_refl _)).more hsz0)
        replace HP := Lib.hid ((HP.out.below hb1 (Nat.le_refl _)).more hsz0)
        have HB0 := Lib.hid hb1
        have HB := Lib.hid (Below.refl w1.heap.size w1)
        clear hb1
        obtain ⟨c0, c1, c2⟩ := HK.out.three_
        have d0 := (HD.out.cell 0).trans rfl
        have d1 := (HD.out.cell 1).trans rfl
        have d2 := (HD.out.cell 2).trans rfl
        have d3 := (HD.out.cell 3).trans rfl
        have d4 := (HD.out.cell 4).trans rfl
        have d5 := (HD.out.cell 5).trans rfl
        have d6 := (HD.out.cell 6).trans rfl
        go_wp2_with fail
        have CALL := refProgramme_any w1.heap.size Ap np kp p w1 (HP.out.more (by omega)) (by omega)
        rw [HS.out] at CALL
        refine CALL.mono ?_
        rintro e w_ ⟨rfl, rfl⟩
        clear CALL
        go_wp2_with fail
        have CALL := refCheckCurve_any w1.heap.size t w1 (HC.out.more (by omega)) (Nat.le_refl _) hs
        rw [HV.out] at CALL
        refine CALL.mono ?_
        rintro e w_29 ⟨rfl, hb⟩
        clear CALL
        clear c0 c1 c2 d0 d1 d2 d3 d4 d5 d6
        replace HC := Lib.hid (HC.out.below hb (by first | omega | simp))
        replace HP := Lib.hid (HP.out.below hb (by first | omega | simp))
        replace HK := Lib.hid (HK.out.below hb HK.out.lt)
        replace HD := Lib.hid (HD.out.below hb HD.out.lt)
        replace HB := Lib.hid (HB.out.trans (hb.mono HB.out.size))
        have hsz30 := hb.size
        clear hb
        obtain ⟨c0, c1, c2⟩ := HK.out.three_
        have d0 := (HD.out.cell 0).trans rfl
        have d1 := (HD.out.cell 1).trans rfl
        have d2 := (HD.out.cell 2).trans rfl
        have d3 := (HD.out.cell 3).trans rfl
        have d4 := (HD.out.cell 4).trans rfl
        have d5 := (HD.out.cell 5).trans rfl
        have d6 := (HD.out.cell 6).trans rfl
        go_wp2_with fail
        have CALL := refCheck_any u w_29
        rw [HG.out] at CALL
        refine CALL.mono ?_
        rintro e w_31 ⟨rfl, hb⟩
        clear CALL
        clear c0 c1 c2 d0 d1 d2 d3 d4 d5 d6
        replace HC := Lib.hid (HC.out.below hb (by first | omega | simp))
        replace HP := Lib.hid (HP.out.below hb (by first | omega | simp))
        replace HK := Lib.hid (HK.out.below hb HK.out.lt)
        replace HD := Lib.hid (HD.out.below hb HD.out.lt)
        replace HB := Lib.hid (HB.out.trans (hb.mono HB.out.size))
        have hsz32 := hb.size
        clear hb
        obtain ⟨c0, c1, c2⟩ := HK.out.three_
        have d0 := (HD.out.cell 0).trans rfl
        have d1 := (HD.out.cell 1).trans rfl
        have d2 := (HD.out.cell 2).trans rfl
        have d3 := (HD.out.cell 3).trans rfl
        have d4 := (HD.out.cell 4).trans rfl
        have d5 := (HD.out.cell 5).trans rfl
        have d6 := (HD.out.cell 6).trans rfl
        go_wp2_with fail
        have CALL := works03_any w_31
        refine CALL.mono ?_
        rintro e w_33 ⟨rfl, hb⟩
        clear CALL
        clear c0 c1 c2 d0 d1 d2 d3 d4 d5 d6
        replace HC := Lib.hid (HC.out.below hb (by first | omega | simp))
        replace HP := Lib.hid (HP.out.below hb (by first | omega | simp))
        replace HK := Lib.hid (HK.out.below hb HK.out.lt)
        replace HD := Lib.hid (HD.out.below hb HD.out.lt)
        replace HB := Lib.hid (HB.out.trans (hb.mono HB.out.size))
        have hsz34 := hb.size
        clear hb
        obtain ⟨c0, c1, c2⟩ := HK.out.three_
        have d0 := (HD.out.cell 0).trans rfl
        have d1 := (HD.out.cell 1).trans rfl
        have d2 := (HD.out.cell 2).trans rfl
        have d3 := (HD.out.cell 3).trans rfl
        have d4 := (HD.out.cell 4).trans rfl
        have d5 := (HD.out.cell 5).trans rfl
        have d6 := (HD.out.cell 6).trans rfl
        go_wp2
        go_ret
        exact ⟨rfl, HB0.out.trans (HB.out.mono HB0.out.size)⟩
    · have HV := Lib.hid hE2
      have q2 : (E2 != 0) = true := by rw [bne_iff_ne]; exact h2
      clear hE1 hE2
      go_enter Try.func13, Try.ntmps13
      go_upto_region 1 with fail
      obtain ⟨w0, hW⟩ : ∃ W, (w.alloc (.cells #[.slice t.Af t.nf t.kf, .slice t.Ab t.nb t.kb, .int .i64 t.c.share] 43)).alloc (.cells #[.int .i64 c.half, .int .i64 c.gain, .int .i64 c.thin, .int .i64 c.wide, .int .i64 c.slope, .int .i64 c.jerk, .int .i64 c.stylus] 73) = W := ⟨_, rfl⟩
      have hb : Below w.heap.size w w0 := by rw [← hW]; exact (below_a _ _).alloc (by simp) _
      have HK : Hid (Blk w0 w.heap.size 43 #[.slice t.Af t.nf t.kf, .slice t.Ab t.nb t.kb, .int .i64 t.c.share]) := Lib.hid (by rw [← hW]; exact (Blk.new _ _ _).alloc _)
      have HD : Hid (Blk w0 (w.heap.size + 1) 73 #[.int .i64 c.half, .int .i64 c.gain, .int .i64 c.thin, .int .i64 c.wide, .int .i64 c.slope, .int .i64 c.jerk, .int .i64 c.stylus]) := Lib.hid (by rw [← hW]; exact blk_al (by simp))
      rw [hW]
      clear hW
      have hd1 := (HD.out.cell 1).trans rfl
      have hd2 := HD.out.frozen 1
      have hszk := HD.out.lt
      go_upto_region 2 with fail
      obtain ⟨w1, hW⟩ : ∃ W, w0.setCell ⟨w.heap.size + 1, 1, none⟩ (.int .i64 (k * 1000)) = W := ⟨_, rfl⟩
      have hb1 : Below w.heap.size w w1 := by rw [← hW]; exact hb.setCell (by show w.heap.size ≤ w.heap.size + 1; omega) _
      replace HK : Hid (Blk w1 w.heap.size 43 #[.slice t.Af t.nf t.kf, .slice t.Ab t.nb t.kb, .int .i64 t.c.share]) := Lib.hid (by rw [← hW]; exact HK.out.far (by show w.heap.size ≠ w.heap.size + 1; omega) _)
      replace HD : Hid (Blk w1 (w.heap.size + 1) 73 #[.int .i64 u.half, .int .i64 u.gain, .int .i64 u.thin, .int .i64 u.wide, .int .i64 u.slope, .int .i64 u.jerk, .int .i64 u.stylus]) := Lib.hid (by rw [← hW, HU.out]; exact HD.out.set_ 1 _)
      have hszw : w1.heap.size = w0.heap.size := by rw [← hW]; simp [World.setCell]
      rw [hW]
      clear hW hd1 hd2 hb
      have hsz0 := hb1.size
      replace HC := Lib.hid ((HC.out.below hb1 (Nat.le_refl _)).more hsz0)
      replace HP := Lib.hid ((HP.out.below hb1 (Nat.le_refl _)).more hsz0)
      have HB0 := Lib.hid hb1
      have HB := Lib.hid (Below.refl w1.heap.size w1)
      clear hb1
      obtain ⟨c0, c1, c2⟩ := HK.out.three_
      have d0 := (HD.out.cell 0).trans rfl
      have d1 := (HD.out.cell 1).trans rfl
      have d2 := (HD.out.cell 2).trans rfl
      have d3 := (HD.out.cell 3).trans rfl
      have d4 := (HD.out.cell 4).trans rfl
      have d5 := (HD.out.cell 5).trans rfl
      have d6 := (HD.out.cell 6).trans rfl
      go_wp2_with fail
      have CALL := refProgramme_any w1.heap.size Ap np kp p w1 (HP.out.more (by omega)) (by omega)
      rw [HS.out] at CALL
      refine CALL.mono ?_
      rintro e w_ ⟨rfl, rfl⟩
      clear CALL
      go_wp2_with fail
      have CALL := refCheckCurve_any w1.heap.size t w1 (HC.out.more (by omega)) (Nat.le_refl _) hs
      rw [HV.out] at CALL
      refine CALL.mono ?_
      rintro e w_35 ⟨rfl, hb⟩
      clear CALL
      clear c0 c1 c2 d0 d1 d2 d3 d4 d5 d6
      replace HC := Lib.hid (HC.out.below hb (by first | omega | simp))
      replace HP := Lib.hid (HP.out.below hb (by first | omega | simp))
      replace HK := Lib.hid (HK.out.below hb HK.out.lt)
      replace HD := Lib.hid (HD.out.below hb HD.out.lt)
      replace HB := Lib.hid (HB.out.trans (hb.mono HB.out.size))
      have hsz36 := hb.size
      clear hb
      obtain ⟨c0, c1, c2⟩ := HK.out.three_
      have d0 := (HD.out.cell 0).trans rfl
      have d1 := (HD.out.cell 1).trans rfl
      have d2 := (HD.out.cell 2).trans rfl
      have d3 := (HD.out.cell 3).trans rfl
      have d4 := (HD.out.cell 4).trans rfl
      have d5 := (HD.out.cell 5).trans rfl
      have d6 := (HD.out.cell 6).trans rfl
      go_wp2_with fail
      have CALL := works03_any w_35
      refine CALL.mono ?_
      rintro e w_37 ⟨rfl, hb⟩
      clear CALL
      clear c0 c1 c2 d0 d1 d2 d3 d4 d5 d6
      replace HC := Lib.hid (HC.out.below hb (by first | omega | simp))
      replace HP := Lib.hid (HP.out.below hb (by first | omega | simp))
      replace HK := Lib.hid (HK.out.below hb HK.out.lt)
      replace HD := Lib.hid (HD.out.below hb HD.out.lt)
      replace HB := Lib.hid (HB.out.trans (hb.mono HB.out.size))
      have hsz38 := hb.size
      clear hb
      obtain ⟨c0, c1, c2⟩ := HK.out.three_
      have d0 := (HD.out.cell 0).trans rfl
      have d1 := (HD.out.cell 1).trans rfl
      have d2 := (HD.out.cell 2).trans rfl
      have d3 := (HD.out.cell 3).trans rfl
      have d4 := (HD.out.cell 4).trans rfl
      have d5 := (HD.out.cell 5).trans rfl
      have d6 := (HD.out.cell 6).trans rfl
      go_wp2
      go_ret
      exact ⟨rfl, HB0.out.trans (HB.out.mono HB0.out.size)⟩
  · have HS := Lib.hid hE1
    have q1 : (E1 != 0) = true := by rw [bne_iff_ne]; exact h1
    clear hE1
    go_enter Try.func13, Try.ntmps13
    go_upto_region 1 with fail
    obtain ⟨w0, hW⟩ : ∃ W, (w.alloc (.cells #[.slice t.Af t.nf t.kf, .slice t.Ab t.nb t.kb, .int .i64 t.c.share] 43)).alloc (.cells #[.int .i64 c.half, .int .i64 c.gain, .int .i64 c.thin, .int .i64 c.wide, .int .i64 c.slope, .int .i64 c.jerk, .int .i64 c.stylus] 73) = W := ⟨_, rfl⟩
    have hb : Below w.heap.size w w0 := by rw [← hW]; exact (below_a _ _).alloc (by simp) _
    have HK : Hid (Blk w0 w.heap.size 43 #[.slice t.Af t.nf t.kf, .slice t.Ab t.nb t.kb, .int .i64 t.c.share]) := Lib.hid (by rw [← hW]; exact (Blk.new _ _ _).alloc _)
    have HD : Hid (Blk w0 (w.heap.size + 1) 73 #[.int .i64 c.half, .int .i64 c.gain, .int .i64 c.thin, .int .i64 c.wide, .int .i64 c.slope, .int .i64 c.jerk, .int .i64 c.stylus]) := Lib.hid (by rw [← hW]; exact blk_al (by simp))
    rw [hW]
    clear hW
    have hd1 := (HD.out.cell 1).trans rfl
    have hd2 := HD.out.frozen 1
    have hszk := HD.out.lt
    go_upto_region 2 with fail
    obtain ⟨w1, hW⟩ : ∃ W, w0.setCell ⟨w.heap.size + 1, 1, none⟩ (.int .i64 (k * 1000)) = W := ⟨_, rfl⟩
    have hb1 : Below w.heap.size w w1 := by rw [← hW]; exact hb.setCell (by show w.heap.size ≤ w.heap.size + 1; omega) _
    replace HK : Hid (Blk w1 w.heap.size 43 #[.slice t.Af t.nf t.kf, .slice t.Ab t.nb t.kb, .int .i64 t.c.share]) := Lib.hid (by rw [← hW]; exact HK.out.far (by show w.heap.size ≠ w.heap.size + 1; omega) _)
    replace HD : Hid (Blk w1 (w.heap.size + 1) 73 #[.int .i64 u.half, .int .i64 u.gain, .int .i64 u.thin, .int .i64 u.wide, .int .i64 u.slope, .int .i64 u.jerk, .int .i64 u.stylus]) := Lib.hid (by rw [← hW, HU.out]; exact HD.out.set_ 1 _)
    have hszw : w1.heap.size = w0.heap.size := by rw [← hW]; simp [World.setCell]
    rw [hW]
    clear hW hd1 hd2 hb
    have hsz0 := hb1.size
    replace HC := Lib.hid ((HC.out.below hb1 (Nat.le_refl _)).more hsz0)
    replace HP := Lib.hid ((HP.out.below hb1 (Nat.le_refl _)).more hsz0)
    have HB0 := Lib.hid hb1
    have HB := Lib.hid (Below.refl w1.heap.size w1)
    clear hb1
    obtain ⟨c0, c1, c2⟩ := HK.out.three_
    have d0 := (HD.out.cell 0).trans rfl
    have d1 := (HD.out.cell 1).trans rfl
    have d2 := (HD.out.cell 2).trans rfl
    have d3 := (HD.out.cell 3).trans rfl
    have d4 := (HD.out.cell 4).trans rfl
    have d5 := (HD.out.cell 5).trans rfl
    have d6 := (HD.out.cell 6).trans rfl
    go_wp2_with fail
    have CALL := refProgramme_any w1.heap.size Ap np kp p w1 (HP.out.more (by omega)) (by omega)
    rw [HS.out] at CALL
    refine CALL.mono ?_
    rintro e w_ ⟨rfl, rfl⟩
    clear CALL
    go_wp2_with fail
    have CALL := works03_any w1
    refine CALL.mono ?_
    rintro e w_39 ⟨rfl, hb⟩
    clear CALL
    clear c0 c1 c2 d0 d1 d2 d3 d4 d5 d6
    replace HC := Lib.hid (HC.out.below hb (by first | omega | simp))
    replace HP := Lib.hid (HP.out.below hb (by first | omega | simp))
    replace HK := Lib.hid (HK.out.below hb HK.out.lt)
    replace HD := Lib.hid (HD.out.below hb HD.out.lt)
    replace HB := Lib.hid (HB.out.trans (hb.mono HB.out.size))
    have hsz40 := hb.size
    clear hb
    obtain ⟨c0, c1, c2⟩ := HK.out.three_
    have d0 := (HD.out.cell 0).trans rfl
    have d1 := (HD.out.cell 1).trans rfl
    have d2 := (HD.out.cell 2).trans rfl
    have d3 := (HD.out.cell 3).trans rfl
    have d4 := (HD.out.cell 4).trans rfl
    have d5 := (HD.out.cell 5).trans rfl
    have d6 := (HD.out.cell 6).trans rfl
    go_wp2
    go_ret
    exact ⟨rfl, HB0.out.trans (HB.out.mono HB0.out.size)⟩
end Go.Proofs.Ytjaomjbhkgijbaa

