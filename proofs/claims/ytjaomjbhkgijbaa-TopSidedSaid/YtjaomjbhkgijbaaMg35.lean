/-
  The walk of FilterBounded: the output of a tame curve stays within its bound.
-/
import Derived.Test.YtjaomjbhkgijbaaMg34

namespace Go.Proofs.Ytjaomjbhkgijbaa
open Go.RowKit

set_option maxRecDepth 100000 in
set_option maxHeartbeats 8000000 in
theorem bounded_walk (B : Nat) (t : CV) (Ax : Option Addr) (nx kx : Nat) (x : List Int) (more : Int) (w : World) (hc : CI w B t) (hX : LI w B Ax nx x) (hB : B ≤ w.heap.size) (hlx : nx ≤ 9223372036854775807) (hs : t.nf ≤ 9223372036854775807 ∧ t.nb ≤ 9223372036854775807) (r1 : 0 ≤ more) (r2 : more ≤ 65535) :
    Calls Try.prog 10 #[.agg #[.slice t.Af t.nf t.kf, .slice t.Ab t.nb t.kb, .int .i64 t.c.share], .slice Ax nx kx, .int .u16 more] w fun e w' => e = .returned (.bool true) ∧ Below w.heap.size w w' := by
  have HC := Lib.hid (hc.more hB)
  have HX := Lib.hid (hX.more hB)
  have HNX := Lib.hid hX.1
  clear hc hX hB
  cases hv1 : vldF t.c x 400
  · have HV1 := Lib.hid hv1
    clear hv1
    go_enter Try.func10, Try.ntmps10
    go_upto_region 1 with fail
    obtain ⟨w1, hW⟩ : ∃ W, w.alloc (.cells #[.slice t.Af t.nf t.kf, .slice t.Ab t.nb t.kb, .int .i64 t.c.share] 43) = W := ⟨_, rfl⟩
    have hb : Below w.heap.size w w1 := by rw [← hW]; exact (Below.refl _ _).alloc (Nat.le_refl _) _
    have hsz1 := hb.size
    replace HC := Lib.hid (HC.out.below hb (by omega))
    replace HX := Lib.hid (HX.out.below hb (by omega))
    have HK : Hid (Blk w1 w.heap.size 43 #[.slice t.Af t.nf t.kf, .slice t.Ab t.nb t.kb, .int .i64 t.c.share]) := Lib.hid (by rw [← hW]; exact Blk.new _ _ _)
    have HB := Lib.hid hb
    try rw [hW]
    clear hW hb
    obtain ⟨c0, c1, c2⟩ := HK.out.three_
    go_wp2_with fail
    have CALL := valid_any w1.heap.size t Ax nx kx x 400 w1 (HC.out.more (by omega)) (HX.out.more (by omega)) (Nat.le_refl _) (by omega) hs
    rw [HV1.out] at CALL
    refine CALL.mono ?_
    rintro e w2 ⟨rfl, hb⟩
    clear CALL
    have hsz2 := hb.size
    replace HC := Lib.hid (HC.out.below hb (by omega))
    replace HX := Lib.hid (HX.out.below hb (by omega))
    replace HK := Lib.hid (HK.out.below hb HK.out.lt)
    replace HB := Lib.hid (HB.out.trans (hb.mono (by omega)))

    clear hb
    obtain ⟨c0, c1, c2⟩ := HK.out.three_
    go_wp2_with fail
    have CALL := works_any w2
    refine CALL.mono ?_
    rintro e w3 ⟨rfl, hb⟩
    clear CALL
    have hsz3 := hb.size
    replace HC := Lib.hid (HC.out.below hb (by omega))
    replace HX := Lib.hid (HX.out.below hb (by omega))
    replace HK := Lib.hid (HK.out.below hb HK.out.lt)
    replace HB := Lib.hid (HB.out.trans (hb.mono (by omega)))

    clear hb
    obtain ⟨c0, c1, c2⟩ := HK.out.three_
    go_wp2
    go_ret
    exact ⟨rfl, HB.out⟩
  · have HV1 := Lib.hid hv1
    obtain ⟨x4, xc, xs⟩ := vldF_ok hv1
    have ex := one_er xc xs
    have hnx : nx ≤ 400 := by have := HNX.out; omega
    have hxb := (ckX_ok xs).2
    have HXB := Lib.hid hxb
    have ha0 := ldL_pos x
    have ha1 : ldL x ≤ 32767 := ldL_le (by omega) (fun u hu => am_of.2 (wib_bd (hxb u hu)))
    have hxa : ∀ v ∈ x, am v ≤ ldL x := fun v hv => ldL_ge hv
    obtain ⟨a, haa⟩ : ∃ a, ldL x = a := ⟨_, rfl⟩
    have HLD := Lib.hid haa
    rw [haa] at ha0 ha1 hxa
    have rng : ∀ m, 0 ≤ m → m ≤ 32767 → rngE m 0 32767 = 0 := fun m h1 h2 => by unfold rngE; rw [if_neg (by omega)]
    have hok := ckV_ok xc
    cases ht : tm t.c
    · have BA : Hid (bndV t.c a = 0 ∧ bndEr t.c a = 5) := Lib.hid (by
        have e : bndEr t.c a = 5 := by unfold bndEr; rw [rng a ha0 ha1, xc, ht]; rfl
        exact ⟨by unfold bndV; rw [e]; rfl, e⟩)
      have HH : Hid (hdrV t.c = 0 ∧ hdrEr t.c = 5) := Lib.hid (by
        have e : hdrEr t.c = 5 := by unfold hdrEr; rw [xc, ht]; rfl
        exact ⟨by unfold hdrV; rw [e]; rfl, e⟩)
      cases hY : chain true [t.c] x with
      | none =>
        have EY := Lib.hid (one_none ex hY)
        clear hv1 xc xs ex ha0 ha1 hxa haa rng hok ht hY hxb
        as_aux_lemma =>
          go_enter Try.func10, Try.ntmps10
          go_upto_region 1 with fail
          obtain ⟨w1, hW⟩ : ∃ W, w.alloc (.cells #[.slice t.Af t.nf t.kf, .slice t.Ab t.nb t.kb, .int .i64 t.c.share] 43) = W := ⟨_, rfl⟩
          have hb : Below w.heap.size w w1 := by rw [← hW]; exact (Below.refl _ _).alloc (Nat.le_refl _) _
          have hsz1 := hb.size
          replace HC := Lib.hid (HC.out.below hb (by omega))
          replace HX := Lib.hid (HX.out.below hb (by omega))
          have HK : Hid (Blk w1 w.heap.size 43 #[.slice t.Af t.nf t.kf, .slice t.Ab t.nb t.kb, .int .i64 t.c.share]) := Lib.hid (by rw [← hW]; exact Blk.new _ _ _)
          have HB := Lib.hid hb
          try rw [hW]
          clear hW hb
          obtain ⟨c0, c1, c2⟩ := HK.out.three_
          go_wp2_with fail
          have CALL := valid_any w1.heap.size t Ax nx kx x 400 w1 (HC.out.more (by omega)) (HX.out.more (by omega)) (Nat.le_refl _) (by omega) hs
          rw [HV1.out] at CALL
          refine CALL.mono ?_
          rintro e w2 ⟨rfl, hb⟩
          clear CALL
          have hsz2 := hb.size
          replace HC := Lib.hid (HC.out.below hb (by omega))
          replace HX := Lib.hid (HX.out.below hb (by omega))
          replace HK := Lib.hid (HK.out.below hb HK.out.lt)
          replace HB := Lib.hid (HB.out.trans (hb.mono (by omega)))

          clear hb
          obtain ⟨c0, c1, c2⟩ := HK.out.three_
          go_wp2_with fail
          have CALL := loudest_any w2.heap.size Ax nx kx x w2 (HX.out.more (by omega)) (by omega) HXB.out
          rw [HLD.out] at CALL
          refine CALL.mono ?_
          rintro e w_ ⟨rfl, rfl⟩
          clear CALL
          go_wp2_with fail
          have CALL := Bound_any w2.heap.size t a w2 (HC.out.more (by omega)) (Nat.le_refl _) hs
          rw [BA.out.1, BA.out.2] at CALL
          refine CALL.mono ?_
          rintro e w3 ⟨rfl, hb⟩
          clear CALL
          have hsz3 := hb.size
          replace HC := Lib.hid (HC.out.below hb (by omega))
          replace HX := Lib.hid (HX.out.below hb (by omega))
          replace HK := Lib.hid (HK.out.below hb HK.out.lt)
          replace HB := Lib.hid (HB.out.trans (hb.mono (by omega)))

          clear hb
          obtain ⟨c0, c1, c2⟩ := HK.out.three_
          go_wp2_with fail
          have CALL := Headroom_any w3.heap.size t w3 (HC.out.more (by omega)) (Nat.le_refl _) hs
          rw [HH.out.1, HH.out.2] at CALL
          refine CALL.mono ?_
          rintro e w4 ⟨rfl, hb⟩
          clear CALL
          have hsz4 := hb.size
          replace HC := Lib.hid (HC.out.below hb (by omega))
          replace HX := Lib.hid (HX.out.below hb (by omega))
          replace HK := Lib.hid (HK.out.below hb HK.out.lt)
          replace HB := Lib.hid (HB.out.trans (hb.mono (by omega)))

          clear hb
          obtain ⟨c0, c1, c2⟩ := HK.out.three_
          go_wp2_with fail
          have CALL := Apply_any w4.heap.size t Ax nx kx x w4 (HC.out.more (by omega)) (HX.out.more (by omega)) (Nat.le_refl _) (by omega) hs
          rw [EY.out.1, EY.out.2] at CALL
          refine CALL.mono ?_
          rintro e w5 ⟨v, rfl, ho, hb⟩
          clear CALL
          have hsz5 := hb.size
          replace HC := Lib.hid (HC.out.below hb (by omega))
          replace HX := Lib.hid (HX.out.below hb (by omega))
          replace HK := Lib.hid (HK.out.below hb HK.out.lt)
          replace HB := Lib.hid (HB.out.trans (hb.mono (by omega)))
          clear ho
          clear hb
          obtain ⟨c0, c1, c2⟩ := HK.out.three_
          go_wp2_with fail
          have CALL := works_any w5
          refine CALL.mono ?_
          rintro e w6 ⟨rfl, hb⟩
          clear CALL
          have hsz6 := hb.size
          replace HC := Lib.hid (HC.out.below hb (by omega))
          replace HX := Lib.hid (HX.out.below hb (by omega))
          replace HK := Lib.hid (HK.out.below hb HK.out.lt)
          replace HB := Lib.hid (HB.out.trans (hb.mono (by omega)))

          clear hb
          obtain ⟨c0, c1, c2⟩ := HK.out.three_
          go_wp2
          go_ret
          exact ⟨rfl, HB.out⟩
      | some y =>
        have EY := Lib.hid (one_some ex hY)
        clear hv1 xc xs ex ha0 ha1 hxa haa rng hok ht hY hxb
        as_aux_lemma =>
          go_enter Try.func10, Try.ntmps10
          go_upto_region 1 with fail
          obtain ⟨w1, hW⟩ : ∃ W, w.alloc (.cells #[.slice t.Af t.nf t.kf, .slice t.Ab t.nb t.kb, .int .i64 t.c.share] 43) = W := ⟨_, rfl⟩
          have hb : Below w.heap.size w w1 := by rw [← hW]; exact (Below.refl _ _).alloc (Nat.le_refl _) _
          have hsz1 := hb.size
          replace HC := Lib.hid (HC.out.below hb (by omega))
          replace HX := Lib.hid (HX.out.below hb (by omega))
          have HK : Hid (Blk w1 w.heap.size 43 #[.slice t.Af t.nf t.kf, .slice t.Ab t.nb t.kb, .int .i64 t.c.share]) := Lib.hid (by rw [← hW]; exact Blk.new _ _ _)
          have HB := Lib.hid hb
          try rw [hW]
          clear hW hb
          obtain ⟨c0, c1, c2⟩ := HK.out.three_
          go_wp2_with fail
          have CALL := valid_any w1.heap.size t Ax nx kx x 400 w1 (HC.out.more (by omega)) (HX.out.more (by omega)) (Nat.le_refl _) (by omega) hs
          rw [HV1.out] at CALL
          refine CALL.mono ?_
          rintro e w2 ⟨rfl, hb⟩
          clear CALL
          have hsz2 := hb.size
          replace HC := Lib.hid (HC.out.below hb (by omega))
          replace HX := Lib.hid (HX.out.below hb (by omega))
          replace HK := Lib.hid (HK.out.below hb HK.out.lt)
          replace HB := Lib.hid (HB.out.trans (hb.mono (by omega)))

          clear hb
          obtain ⟨c0, c1, c2⟩ := HK.out.three_
          go_wp2_with fail
          have CALL := loudest_any w2.heap.size Ax nx kx x w2 (HX.out.more (by omega)) (by omega) HXB.out
          rw [HLD.out] at CALL
          refine CALL.mono ?_
          rintro e w_ ⟨rfl, rfl⟩
          clear CALL
          go_wp2_with fail
          have CALL := Bound_any w2.heap.size t a w2 (HC.out.more (by omega)) (Nat.le_refl _) hs
          rw [BA.out.1, BA.out.2] at CALL
          refine CALL.mono ?_
          rintro e w3 ⟨rfl, hb⟩
          clear CALL
          have hsz3 := hb.size
          replace HC := Lib.hid (HC.out.below hb (by omega))
          replace HX := Lib.hid (HX.out.below hb (by omega))
          replace HK := Lib.hid (HK.out.below hb HK.out.lt)
          replace HB := Lib.hid (HB.out.trans (hb.mono (by omega)))

          clear hb
          obtain ⟨c0, c1, c2⟩ := HK.out.three_
          go_wp2_with fail
          have CALL := Headroom_any w3.heap.size t w3 (HC.out.more (by omega)) (Nat.le_refl _) hs
          rw [HH.out.1, HH.out.2] at CALL
          refine CALL.mono ?_
          rintro e w4 ⟨rfl, hb⟩
          clear CALL
          have hsz4 := hb.size
          replace HC := Lib.hid (HC.out.below hb (by omega))
          replace HX := Lib.hid (HX.out.below hb (by omega))
          replace HK := Lib.hid (HK.out.below hb HK.out.lt)
          replace HB := Lib.hid (HB.out.trans (hb.mono (by omega)))

          clear hb
          obtain ⟨c0, c1, c2⟩ := HK.out.three_
          go_wp2_with fail
          have CALL := Apply_any w4.heap.size t Ax nx kx x w4 (HC.out.more (by omega)) (HX.out.more (by omega)) (Nat.le_refl _) (by omega) hs
          rw [EY.out.1, EY.out.2] at CALL
          refine CALL.mono ?_
          rintro e w5 ⟨v, rfl, ho, hb⟩
          clear CALL
          have hsz5 := hb.size
          replace HC := Lib.hid (HC.out.below hb (by omega))
          replace HX := Lib.hid (HX.out.below hb (by omega))
          replace HK := Lib.hid (HK.out.below hb HK.out.lt)
          replace HB := Lib.hid (HB.out.trans (hb.mono (by omega)))
          obtain ⟨AY, cY, rfl, hL⟩ := li_own ho
          have HY := Lib.hid hL
          clear ho hL
          clear hb
          obtain ⟨c0, c1, c2⟩ := HK.out.three_
          go_wp2_with fail
          have CALL := works_any w5
          refine CALL.mono ?_
          rintro e w6 ⟨rfl, hb⟩
          clear CALL
          have hsz6 := hb.size
          replace HC := Lib.hid (HC.out.below hb (by omega))
          replace HX := Lib.hid (HX.out.below hb (by omega))
          replace HY := Lib.hid (HY.out.below hb (by omega))
          replace HK := Lib.hid (HK.out.below hb HK.out.lt)
          replace HB := Lib.hid (HB.out.trans (hb.mono (by omega)))

          clear hb
          obtain ⟨c0, c1, c2⟩ := HK.out.three_
          go_wp2
          go_ret
          exact ⟨rfl, HB.out⟩
    · have hto := tm_ok hok ht
      have BB : ∀ m, 0 ≤ m → m ≤ 32767 → bndV t.c m = bndF t.c m ∧ bndEr t.c m = 0 := fun m h1 h2 => by
        have e : bndEr t.c m = 0 := by unfold bndEr; rw [rng m h1 h2, xc, ht]; rfl
        exact ⟨by unfold bndV; rw [e, if_pos rfl], e⟩
      have hhe : hdrV t.c = hdrF t.c ∧ hdrEr t.c = 0 := by
        have e : hdrEr t.c = 0 := by unfold hdrEr; rw [xc, ht]; rfl
        exact ⟨by unfold hdrV; rw [e, if_pos rfl], e⟩
      obtain ⟨h0, h3⟩ := hdr_bd hto
      have hbh := fun q => bnd_hdr hto q
      obtain ⟨hrun1, hrun2⟩ := run_bd hto (a := a) (x := x) (hs := []) (fun m hm => by cases hm) hxa
      obtain ⟨gr, hgr⟩ : ∃ g, min 32767 (a + more) = g := ⟨_, rfl⟩
      have hg1 : a ≤ gr := by omega
      have hg2 : gr ≤ 32767 := by omega
      have hbm := bnd_mono hto hg1
      have BA := BB a ha0 ha1
      have BG := BB gr (by omega) hg2
      obtain ⟨hd, hhd⟩ : ∃ h, hdrF t.c = h := ⟨_, rfl⟩
      rw [hhd] at h0 h3 hbh hhe
      have BH := BB hd h0 h3
      have BU := fun h => BB (hd + 1) (by omega) h
      have hba := hbh a
      have hbd := (hbh hd).2 (Int.le_refl _)
      have hbu : 32767 < bndF t.c (hd + 1) := by
        rcases Int.lt_or_le 32767 (bndF t.c (hd + 1)) with h | h
        · exact h
        · have := (hbh (hd + 1)).1 h; omega
      have hbp := bnd_pos hto ha0
      obtain ⟨ba, hba1⟩ : ∃ b, bndF t.c a = b := ⟨_, rfl⟩
      obtain ⟨bg, hbg1⟩ : ∃ b, bndF t.c gr = b := ⟨_, rfl⟩
      obtain ⟨bh, hbh1⟩ : ∃ b, bndF t.c hd = b := ⟨_, rfl⟩
      obtain ⟨bu, hbu1⟩ : ∃ b, bndF t.c (hd + 1) = b := ⟨_, rfl⟩
      rw [hba1] at BA hba hbm hrun1 hrun2 hbp
      rw [hbg1] at BG hbm
      rw [hbh1] at BH hbd
      rw [hbu1] at BU hbu
      have BA := Lib.hid BA
      have BG := Lib.hid BG
      have BH := Lib.hid BH
      have HH := Lib.hid hhe
      have m1 : (if a + more < 32767 then a + more else 32767) = gr := by omega
      have m2 : (if 32767 < a + more then 32767 else a + more) = gr := by omega
      have z1 : IntKind.i64.wrap (a + more) = a + more := IntWalk.i64_in _ (by omega)
      have z2 : IntKind.i64.wrap more = more := IntWalk.i64_in _ (by omega)
      have z3 : IntKind.i64.wrap (hd + 1) = hd + 1 := IntWalk.i64_in _ (by omega)
      have g1 : decide (bg < ba) = false := decide_eq_false (by omega)
      have g2 : decide (hd < 0) = false := decide_eq_false (by omega)
      have g3 : decide (32767 < hd) = false := decide_eq_false (by omega)
      have g4 : decide (32767 < bh) = false := decide_eq_false (by omega)
      have g5 : decide (bu ≤ 32767) = false := decide_eq_false (by omega)
      cases hY : chain true [t.c] x with
      | none =>
        have EY := Lib.hid (one_none ex hY)
        rw [chain_one] at hY
        have hbig : 32767 < ba := by
          rcases Int.lt_or_le 32767 ba with h | h
          · exact h
          · exact absurd hY (hrun2 h)
        have had : hd < a := by
          rcases Int.lt_or_le hd a with h | h
          · exact h
          · have := hba.2 h; omega
        by_cases hl : hd < 32767
        · have BU := Lib.hid (BU (by omega))
          clear hv1 xc xs ex ha0 ha1 hxa haa rng hok ht hY hxb hto BB hhe h0 h3 hbh hrun1 hrun2 hgr hbm hhd hba hbp hba1 hbg1 hbh1 hbu1 hbd hbu
          as_aux_lemma =>
            go_enter Try.func10, Try.ntmps10
            go_upto_region 1 with fail
            obtain ⟨w1, hW⟩ : ∃ W, w.alloc (.cells #[.slice t.Af t.nf t.kf, .slice t.Ab t.nb t.kb, .int .i64 t.c.share] 43) = W := ⟨_, rfl⟩
            have hb : Below w.heap.size w w1 := by rw [← hW]; exact (Below.refl _ _).alloc (Nat.le_refl _) _
            have hsz1 := hb.size
            replace HC := Lib.hid (HC.out.below hb (by omega))
            replace HX := Lib.hid (HX.out.below hb (by omega))
            have HK : Hid (Blk w1 w.heap.size 43 #[.slice t.Af t.nf t.kf, .slice t.Ab t.nb t.kb, .int .i64 t.c.share]) := Lib.hid (by rw [← hW]; exact Blk.new _ _ _)
            have HB := Lib.hid hb
            try rw [hW]
            clear hW hb
            obtain ⟨c0, c1, c2⟩ := HK.out.three_
            go_wp2_with fail
            have CALL := valid_any w1.heap.size t Ax nx kx x 400 w1 (HC.out.more (by omega)) (HX.out.more (by omega)) (Nat.le_refl _) (by omega) hs
            rw [HV1.out] at CALL
            refine CALL.mono ?_
            rintro e w2 ⟨rfl, hb⟩
            clear CALL
            have hsz2 := hb.size
            replace HC := Lib.hid (HC.out.below hb (by omega))
            replace HX := Lib.hid (HX.out.below hb (by omega))
            replace HK := Lib.hid (HK.out.below hb HK.out.lt)
            replace HB := Lib.hid (HB.out.trans (hb.mono (by omega)))

            clear hb
            obtain ⟨c0, c1, c2⟩ := HK.out.three_
            go_wp2_with fail
            have CALL := loudest_any w2.heap.size Ax nx kx x w2 (HX.out.more (by omega)) (by omega) HXB.out
            rw [HLD.out] at CALL
            refine CALL.mono ?_
            rintro e w_ ⟨rfl, rfl⟩
            clear CALL
            go_wp2_with fail
            have CALL := Bound_any w2.heap.size t a w2 (HC.out.more (by omega)) (Nat.le_refl _) hs
            rw [BA.out.1, BA.out.2] at CALL
            refine CALL.mono ?_
            rintro e w3 ⟨rfl, hb⟩
            clear CALL
            have hsz3 := hb.size
            replace HC := Lib.hid (HC.out.below hb (by omega))
            replace HX := Lib.hid (HX.out.below hb (by omega))
            replace HK := Lib.hid (HK.out.below hb HK.out.lt)
            replace HB := Lib.hid (HB.out.trans (hb.mono (by omega)))

            clear hb
            obtain ⟨c0, c1, c2⟩ := HK.out.three_
            go_wp2_with fail
            have CALL := Headroom_any w3.heap.size t w3 (HC.out.more (by omega)) (Nat.le_refl _) hs
            rw [HH.out.1, HH.out.2] at CALL
            refine CALL.mono ?_
            rintro e w4 ⟨rfl, hb⟩
            clear CALL
            have hsz4 := hb.size
            replace HC := Lib.hid (HC.out.below hb (by omega))
            replace HX := Lib.hid (HX.out.below hb (by omega))
            replace HK := Lib.hid (HK.out.below hb HK.out.lt)
            replace HB := Lib.hid (HB.out.trans (hb.mono (by omega)))

            clear hb
            obtain ⟨c0, c1, c2⟩ := HK.out.three_
            go_wp2_with fail
            have CALL := Apply_any w4.heap.size t Ax nx kx x w4 (HC.out.more (by omega)) (HX.out.more (by omega)) (Nat.le_refl _) (by omega) hs
            rw [EY.out.1, EY.out.2] at CALL
            refine CALL.mono ?_
            rintro e w5 ⟨v, rfl, ho, hb⟩
            clear CALL
            have hsz5 := hb.size
            replace HC := Lib.hid (HC.out.below hb (by omega))
            replace HX := Lib.hid (HX.out.below hb (by omega))
            replace HK := Lib.hid (HK.out.below hb HK.out.lt)
            replace HB := Lib.hid (HB.out.trans (hb.mono (by omega)))
            clear ho
            clear hb
            obtain ⟨c0, c1, c2⟩ := HK.out.three_
            go_wp2_with fail
            have CALL := Bound_any w5.heap.size t gr w5 (HC.out.more (by omega)) (Nat.le_refl _) hs
            rw [BG.out.1, BG.out.2] at CALL
            refine CALL.mono ?_
            rintro e w6 ⟨rfl, hb⟩
            clear CALL
            have hsz6 := hb.size
            replace HC := Lib.hid (HC.out.below hb (by omega))
            replace HX := Lib.hid (HX.out.below hb (by omega))
            replace HK := Lib.hid (HK.out.below hb HK.out.lt)
            replace HB := Lib.hid (HB.out.trans (hb.mono (by omega)))

            clear hb
            obtain ⟨c0, c1, c2⟩ := HK.out.three_
            go_wp2_with fail
            have CALL := Bound_any w6.heap.size t hd w6 (HC.out.more (by omega)) (Nat.le_refl _) hs
            rw [BH.out.1, BH.out.2] at CALL
            refine CALL.mono ?_
            rintro e w7 ⟨rfl, hb⟩
            clear CALL
            have hsz7 := hb.size
            replace HC := Lib.hid (HC.out.below hb (by omega))
            replace HX := Lib.hid (HX.out.below hb (by omega))
            replace HK := Lib.hid (HK.out.below hb HK.out.lt)
            replace HB := Lib.hid (HB.out.trans (hb.mono (by omega)))

            clear hb
            obtain ⟨c0, c1, c2⟩ := HK.out.three_
            go_wp2_with fail
            have CALL := Bound_any w7.heap.size t (hd + 1) w7 (HC.out.more (by omega)) (Nat.le_refl _) hs
            rw [BU.out.1, BU.out.2] at CALL
            refine CALL.mono ?_
            rintro e w8 ⟨rfl, hb⟩
            clear CALL
            have hsz8 := hb.size
            replace HC := Lib.hid (HC.out.below hb (by omega))
            replace HX := Lib.hid (HX.out.below hb (by omega))
            replace HK := Lib.hid (HK.out.below hb HK.out.lt)
            replace HB := Lib.hid (HB.out.trans (hb.mono (by omega)))

            clear hb
            obtain ⟨c0, c1, c2⟩ := HK.out.three_
            go_wp2_with fail
            have CALL := works_any w8
            refine CALL.mono ?_
            rintro e w9 ⟨rfl, hb⟩
            clear CALL
            have hsz9 := hb.size
            replace HC := Lib.hid (HC.out.below hb (by omega))
            replace HX := Lib.hid (HX.out.below hb (by omega))
            replace HK := Lib.hid (HK.out.below hb HK.out.lt)
            replace HB := Lib.hid (HB.out.trans (hb.mono (by omega)))

            clear hb
            obtain ⟨c0, c1, c2⟩ := HK.out.three_
            go_wp2
            go_ret
            exact ⟨rfl, HB.out⟩
        · exfalso; omega
      | some y =>
        have EY := Lib.hid (one_some ex hY)
        obtain ⟨_, hcy, hyl⟩ := chain_back xs hY
        have HYB := Lib.hid (ckX_ok hcy).2
        have hyl2 : y.length ≤ 400 := by omega
        rw [chain_one] at hY
        have hly : ldL y ≤ ba := ldL_le hbp (hrun1 y hY)
        obtain ⟨ly, hly1⟩ : ∃ l, ldL y = l := ⟨_, rfl⟩
        have HLY := Lib.hid hly1
        rw [hly1] at hly
        by_cases hl : hd < 32767
        · have BU := Lib.hid (BU (by omega))
          clear hv1 xc xs ex ha0 ha1 hxa haa rng hok ht hY hxb hto BB hhe h0 h3 hbh hrun1 hrun2 hgr hbm hhd hba hbp hba1 hbg1 hbh1 hbu1 hcy hyl hly1 hbd hbu
          as_aux_lemma =>
            go_enter Try.func10, Try.ntmps10
            go_upto_region 1 with fail
            obtain ⟨w1, hW⟩ : ∃ W, w.alloc (.cells #[.slice t.Af t.nf t.kf, .slice t.Ab t.nb t.kb, .int .i64 t.c.share] 43) = W := ⟨_, rfl⟩
            have hb : Below w.heap.size w w1 := by rw [← hW]; exact (Below.refl _ _).alloc (Nat.le_refl _) _
            have hsz1 := hb.size
            replace HC := Lib.hid (HC.out.below hb (by omega))
            replace HX := Lib.hid (HX.out.below hb (by omega))
            have HK : Hid (Blk w1 w.heap.size 43 #[.slice t.Af t.nf t.kf, .slice t.Ab t.nb t.kb, .int .i64 t.c.share]) := Lib.hid (by rw [← hW]; exact Blk.new _ _ _)
            have HB := Lib.hid hb
            try rw [hW]
            clear hW hb
            obtain ⟨c0, c1, c2⟩ := HK.out.three_
            go_wp2_with fail
            have CALL := valid_any w1.heap.size t Ax nx kx x 400 w1 (HC.out.more (by omega)) (HX.out.more (by omega)) (Nat.le_refl _) (by omega) hs
            rw [HV1.out] at CALL
            refine CALL.mono ?_
            rintro e w2 ⟨rfl, hb⟩
            clear CALL
            have hsz2 := hb.size
            replace HC := Lib.hid (HC.out.below hb (by omega))
            replace HX := Lib.hid (HX.out.below hb (by omega))
            replace HK := Lib.hid (HK.out.below hb HK.out.lt)
            replace HB := Lib.hid (HB.out.trans (hb.mono (by omega)))

            clear hb
            obtain ⟨c0, c1, c2⟩ := HK.out.three_
            go_wp2_with fail
            have CALL := loudest_any w2.heap.size Ax nx kx x w2 (HX.out.more (by omega)) (by omega) HXB.out
            rw [HLD.out] at CALL
            refine CALL.mono ?_
            rintro e w_ ⟨rfl, rfl⟩
            clear CALL
            go_wp2_with fail
            have CALL := Bound_any w2.heap.size t a w2 (HC.out.more (by omega)) (Nat.le_refl _) hs
            rw [BA.out.1, BA.out.2] at CALL
            refine CALL.mono ?_
            rintro e w3 ⟨rfl, hb⟩
            clear CALL
            have hsz3 := hb.size
            replace HC := Lib.hid (HC.out.below hb (by omega))
            replace HX := Lib.hid (HX.out.below hb (by omega))
            replace HK := Lib.hid (HK.out.below hb HK.out.lt)
            replace HB := Lib.hid (HB.out.trans (hb.mono (by omega)))

            clear hb
            obtain ⟨c0, c1, c2⟩ := HK.out.three_
            go_wp2_with fail
            have CALL := Headroom_any w3.heap.size t w3 (HC.out.more (by omega)) (Nat.le_refl _) hs
            rw [HH.out.1, HH.out.2] at CALL
            refine CALL.mono ?_
            rintro e w4 ⟨rfl, hb⟩
            clear CALL
            have hsz4 := hb.size
            replace HC := Lib.hid (HC.out.below hb (by omega))
            replace HX := Lib.hid (HX.out.below hb (by omega))
            replace HK := Lib.hid (HK.out.below hb HK.out.lt)
            replace HB := Lib.hid (HB.out.trans (hb.mono (by omega)))

            clear hb
            obtain ⟨c0, c1, c2⟩ := HK.out.three_
            go_wp2_with fail
            have CALL := Apply_any w4.heap.size t Ax nx kx x w4 (HC.out.more (by omega)) (HX.out.more (by omega)) (Nat.le_refl _) (by omega) hs
            rw [EY.out.1, EY.out.2] at CALL
            refine CALL.mono ?_
            rintro e w5 ⟨v, rfl, ho, hb⟩
            clear CALL
            have hsz5 := hb.size
            replace HC := Lib.hid (HC.out.below hb (by omega))
            replace HX := Lib.hid (HX.out.below hb (by omega))
            replace HK := Lib.hid (HK.out.below hb HK.out.lt)
            replace HB := Lib.hid (HB.out.trans (hb.mono (by omega)))
            obtain ⟨AY, cY, rfl, hL⟩ := li_own ho
            have HY := Lib.hid hL
            clear ho hL
            clear hb
            obtain ⟨c0, c1, c2⟩ := HK.out.three_
            go_wp2_with fail
            have CALL := Bound_any w5.heap.size t gr w5 (HC.out.more (by omega)) (Nat.le_refl _) hs
            rw [BG.out.1, BG.out.2] at CALL
            refine CALL.mono ?_
            rintro e w6 ⟨rfl, hb⟩
            clear CALL
            have hsz6 := hb.size
            replace HC := Lib.hid (HC.out.below hb (by omega))
            replace HX := Lib.hid (HX.out.below hb (by omega))
            replace HY := Lib.hid (HY.out.below hb (by omega))
            replace HK := Lib.hid (HK.out.below hb HK.out.lt)
            replace HB := Lib.hid (HB.out.trans (hb.mono (by omega)))

            clear hb
            obtain ⟨c0, c1, c2⟩ := HK.out.three_
            go_wp2_with fail
            have CALL := Bound_any w6.heap.size t hd w6 (HC.out.more (by omega)) (Nat.le_refl _) hs
            rw [BH.out.1, BH.out.2] at CALL
            refine CALL.mono ?_
            rintro e w7 ⟨rfl, hb⟩
            clear CALL
            have hsz7 := hb.size
            replace HC := Lib.hid (HC.out.below hb (by omega))
            replace HX := Lib.hid (HX.out.below hb (by omega))
            replace HY := Lib.hid (HY.out.below hb (by omega))
            replace HK := Lib.hid (HK.out.below hb HK.out.lt)
            replace HB := Lib.hid (HB.out.trans (hb.mono (by omega)))

            clear hb
            obtain ⟨c0, c1, c2⟩ := HK.out.three_
            go_wp2_with fail
            have CALL := Bound_any w7.heap.size t (hd + 1) w7 (HC.out.more (by omega)) (Nat.le_refl _) hs
            rw [BU.out.1, BU.out.2] at CALL
            refine CALL.mono ?_
            rintro e w8 ⟨rfl, hb⟩
            clear CALL
            have hsz8 := hb.size
            replace HC := Lib.hid (HC.out.below hb (by omega))
            replace HX := Lib.hid (HX.out.below hb (by omega))
            replace HY := Lib.hid (HY.out.below hb (by omega))
            replace HK := Lib.hid (HK.out.below hb HK.out.lt)
            replace HB := Lib.hid (HB.out.trans (hb.mono (by omega)))

            clear hb
            obtain ⟨c0, c1, c2⟩ := HK.out.three_
            go_wp2_with fail
            have CALL := loudest_any w8.heap.size AY y.length cY y w8 (HY.out.more (by omega)) (by omega) HYB.out
            rw [HLY.out] at CALL
            refine CALL.mono ?_
            rintro e w_ ⟨rfl, rfl⟩
            clear CALL
            go_wp2_with fail
            have CALL := works_any w8
            refine CALL.mono ?_
            rintro e w9 ⟨rfl, hb⟩
            clear CALL
            have hsz9 := hb.size
            replace HC := Lib.hid (HC.out.below hb (by omega))
            replace HX := Lib.hid (HX.out.below hb (by omega))
            replace HY := Lib.hid (HY.out.below hb (by omega))
            replace HK := Lib.hid (HK.out.below hb HK.out.lt)
            replace HB := Lib.hid (HB.out.trans (hb.mono (by omega)))

            clear hb
            obtain ⟨c0, c1, c2⟩ := HK.out.three_
            go_wp2
            go_ret
            exact ⟨rfl, HB.out⟩
        · clear hv1 xc xs ex ha0 ha1 hxa haa rng hok ht hY hxb hto BB hhe h0 h3 hbh hrun1 hrun2 hgr hbm hhd hba hbp hba1 hbg1 hbh1 hbu1 hcy hyl hly1 BU hbd hbu g5
          as_aux_lemma =>
            go_enter Try.func10, Try.ntmps10
            go_upto_region 1 with fail
            obtain ⟨w1, hW⟩ : ∃ W, w.alloc (.cells #[.slice t.Af t.nf t.kf, .slice t.Ab t.nb t.kb, .int .i64 t.c.share] 43) = W := ⟨_, rfl⟩
            have hb : Below w.heap.size w w1 := by rw [← hW]; exact (Below.refl _ _).alloc (Nat.le_refl _) _
            have hsz1 := hb.size
            replace HC := Lib.hid (HC.out.below hb (by omega))
            replace HX := Lib.hid (HX.out.below hb (by omega))
            have HK : Hid (Blk w1 w.heap.size 43 #[.slice t.Af t.nf t.kf, .slice t.Ab t.nb t.kb, .int .i64 t.c.share]) := Lib.hid (by rw [← hW]; exact Blk.new _ _ _)
            have HB := Lib.hid hb
            try rw [hW]
            clear hW hb
            obtain ⟨c0, c1, c2⟩ := HK.out.three_
            go_wp2_with fail
            have CALL := valid_any w1.heap.size t Ax nx kx x 400 w1 (HC.out.more (by omega)) (HX.out.more (by omega)) (Nat.le_refl _) (by omega) hs
            rw [HV1.out] at CALL
            refine CALL.mono ?_
            rintro e w2 ⟨rfl, hb⟩
            clear CALL
            have hsz2 := hb.size
            replace HC := Lib.hid (HC.out.below hb (by omega))
            replace HX := Lib.hid (HX.out.below hb (by omega))
            replace HK := Lib.hid (HK.out.below hb HK.out.lt)
            replace HB := Lib.hid (HB.out.trans (hb.mono (by omega)))

            clear hb
            obtain ⟨c0, c1, c2⟩ := HK.out.three_
            go_wp2_with fail
            have CALL := loudest_any w2.heap.size Ax nx kx x w2 (HX.out.more (by omega)) (by omega) HXB.out
            rw [HLD.out] at CALL
            refine CALL.mono ?_
            rintro e w_ ⟨rfl, rfl⟩
            clear CALL
            go_wp2_with fail
            have CALL := Bound_any w2.heap.size t a w2 (HC.out.more (by omega)) (Nat.le_refl _) hs
            rw [BA.out.1, BA.out.2] at CALL
            refine CALL.mono ?_
            rintro e w3 ⟨rfl, hb⟩
            clear CALL
            have hsz3 := hb.size
            replace HC := Lib.hid (HC.out.below hb (by omega))
            replace HX := Lib.hid (HX.out.below hb (by omega))
            replace HK := Lib.hid (HK.out.below hb HK.out.lt)
            replace HB := Lib.hid (HB.out.trans (hb.mono (by omega)))

            clear hb
            obtain ⟨c0, c1, c2⟩ := HK.out.three_
            go_wp2_with fail
            have CALL := Headroom_any w3.heap.size t w3 (HC.out.more (by omega)) (Nat.le_refl _) hs
            rw [HH.out.1, HH.out.2] at CALL
            refine CALL.mono ?_
            rintro e w4 ⟨rfl, hb⟩
            clear CALL
            have hsz4 := hb.size
            replace HC := Lib.hid (HC.out.below hb (by omega))
            replace HX := Lib.hid (HX.out.below hb (by omega))
            replace HK := Lib.hid (HK.out.below hb HK.out.lt)
            replace HB := Lib.hid (HB.out.trans (hb.mono (by omega)))

            clear hb
            obtain ⟨c0, c1, c2⟩ := HK.out.three_
            go_wp2_with fail
            have CALL := Apply_any w4.heap.size t Ax nx kx x w4 (HC.out.more (by omega)) (HX.out.more (by omega)) (Nat.le_refl _) (by omega) hs
            rw [EY.out.1, EY.out.2] at CALL
            refine CALL.mono ?_
            rintro e w5 ⟨v, rfl, ho, hb⟩
            clear CALL
            have hsz5 := hb.size
            replace HC := Lib.hid (HC.out.below hb (by omega))
            replace HX := Lib.hid (HX.out.below hb (by omega))
            replace HK := Lib.hid (HK.out.below hb HK.out.lt)
            replace HB := Lib.hid (HB.out.trans (hb.mono (by omega)))
            obtain ⟨AY, cY, rfl, hL⟩ := li_own ho
            have HY := Lib.hid hL
            clear ho hL
            clear hb
            obtain ⟨c0, c1, c2⟩ := HK.out.three_
            go_wp2_with fail
            have CALL := Bound_any w5.heap.size t gr w5 (HC.out.more (by omega)) (Nat.le_refl _) hs
            rw [BG.out.1, BG.out.2] at CALL
            refine CALL.mono ?_
            rintro e w6 ⟨rfl, hb⟩
            clear CALL
            have hsz6 := hb.size
            replace HC := Lib.hid (HC.out.below hb (by omega))
            replace HX := Lib.hid (HX.out.below hb (by omega))
            replace HY := Lib.hid (HY.out.below hb (by omega))
            replace HK := Lib.hid (HK.out.below hb HK.out.lt)
            replace HB := Lib.hid (HB.out.trans (hb.mono (by omega)))

            clear hb
            obtain ⟨c0, c1, c2⟩ := HK.out.three_
            go_wp2_with fail
            have CALL := Bound_any w6.heap.size t hd w6 (HC.out.more (by omega)) (Nat.le_refl _) hs
            rw [BH.out.1, BH.out.2] at CALL
            refine CALL.mono ?_
            rintro e w7 ⟨rfl, hb⟩
            clear CALL
            have hsz7 := hb.size
            replace HC := Lib.hid (HC.out.below hb (by omega))
            replace HX := Lib.hid (HX.out.below hb (by omega))
            replace HY := Lib.hid (HY.out.below hb (by omega))
            replace HK := Lib.hid (HK.out.below hb HK.out.lt)
            replace HB := Lib.hid (HB.out.trans (hb.mono (by omega)))

            clear hb
            obtain ⟨c0, c1, c2⟩ := HK.out.three_
            go_wp2_with fail
            have CALL := loudest_any w7.heap.size AY y.length cY y w7 (HY.out.more (by omega)) (by omega) HYB.out
            rw [HLY.out] at CALL
            refine CALL.mono ?_
            rintro e w_ ⟨rfl, rfl⟩
            clear CALL
            go_wp2_with fail
            have CALL := works_any w7
            refine CALL.mono ?_
            rintro e w8 ⟨rfl, hb⟩
            clear CALL
            have hsz8 := hb.size
            replace HC := Lib.hid (HC.out.below hb (by omega))
            replace HX := Lib.hid (HX.out.below hb (by omega))
            replace HY := Lib.hid (HY.out.below hb (by omega))
            replace HK := Lib.hid (HK.out.below hb HK.out.lt)
            replace HB := Lib.hid (HB.out.trans (hb.mono (by omega)))

            clear hb
            obtain ⟨c0, c1, c2⟩ := HK.out.three_
            go_wp2
            go_ret
            exact ⟨rfl, HB.out⟩
end Go.Proofs.Ytjaomjbhkgijbaa

