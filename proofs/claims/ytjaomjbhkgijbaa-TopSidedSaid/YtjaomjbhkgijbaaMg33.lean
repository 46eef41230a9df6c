/-
  Headrooms: Headroom, and the document's.
-/
import Derived.Test.YtjaomjbhkgijbaaMg32

namespace Go.Proofs.Ytjaomjbhkgijbaa
open Go.RowKit

set_option maxRecDepth 100000 in
set_option maxHeartbeats 4000000 in
theorem Headroom_any (B : Nat) (t : CV) (w : World) (hc : CI w B t) (hB : B ≤ w.heap.size) (hs : t.nf ≤ 9223372036854775807 ∧ t.nb ≤ 9223372036854775807) :
    Calls Try.prog 40 #[.agg #[.slice t.Af t.nf t.kf, .slice t.Ab t.nb t.kb, .int .i64 t.c.share]] w fun e w' => e = .returned (.tuple #[.int .i64 (hdrV t.c), .int .i64 (hdrEr t.c)]) ∧ Below w.heap.size w w' := by
  have HC := Lib.hid (hc.more hB)
  clear hc hB
  obtain ⟨V, hV⟩ : ∃ x, hdrV t.c = x := ⟨_, rfl⟩
  obtain ⟨E, hE⟩ : ∃ x, hdrEr t.c = x := ⟨_, rfl⟩
  rw [hV, hE]
  have hV2 := hV
  have hE2 := hE
  unfold hdrV at hV2
  rw [hE] at hV2
  unfold hdrEr at hE2
  obtain ⟨e1, he1⟩ : ∃ e, ckV t.c = e := ⟨_, rfl⟩
  rw [he1] at hE2
  have HV := Lib.hid he1
  clear hV hE
  by_cases h1 : e1 = 0
  · subst h1
    rw [if_pos rfl] at hE2
    have HOK := Lib.hid (ckV_ok HV.out)
    obtain ⟨-, hwf, hwb⟩ := weights_in HC.out HOK.out
    have HWF := Lib.hid (fun W' k hb => hwf W' k hb (Nat.le_refl _))
    have HWB := Lib.hid (fun W' k hb => hwb W' k hb (Nat.le_refl _))
    clear hwf hwb
    cases ht : tm t.c
    · have HT := Lib.hid ht
      rw [ht] at hE2
      rw [if_neg (by simp)] at hE2
      subst hE2
      rw [if_neg (by omega)] at hV2
      subst hV2
      clear ht he1
      go_enter Try.func40, Try.ntmps40
      go_upto_region 1 with fail
      obtain ⟨w1, hW⟩ : ∃ W, w.alloc (.cells #[.slice t.Af t.nf t.kf, .slice t.Ab t.nb t.kb, .int .i64 t.c.share] 43) = W := ⟨_, rfl⟩
      have hb : Below w.heap.size w w1 := by rw [← hW]; exact (Below.refl _ _).alloc (Nat.le_refl _) _
      have hsz1 := hb.size
      replace HC := Lib.hid (HC.out.below hb (by omega))
      have HK : Hid (Blk w1 w.heap.size 43 #[.slice t.Af t.nf t.kf, .slice t.Ab t.nb t.kb, .int .i64 t.c.share]) := Lib.hid (by rw [← hW]; exact Blk.new _ _ _)
      have HB := Lib.hid hb
      try rw [hW]
      clear hW hb
      obtain ⟨c0, c1, c2⟩ := HK.out.three_
      go_wp2_with fail
      have CALL := CheckCurve_any w1.heap.size t.Af t.Ab t.nf t.kf t.nb t.kb t.c w1 (HC.out.more (by omega)).f (HC.out.more (by omega)).b (Nat.le_refl _) hs.1 hs.2
      rw [HV.out] at CALL
      refine CALL.mono ?_
      rintro e w2 ⟨rfl, hb⟩
      clear CALL
      have hsz2 := hb.size
      replace HC := Lib.hid (HC.out.below hb (by omega))
      replace HK := Lib.hid (HK.out.below hb HK.out.lt)
      replace HB := Lib.hid (HB.out.trans (hb.mono (by omega)))

      clear hb
      obtain ⟨c0, c1, c2⟩ := HK.out.three_
      go_wp2_with fail
      have CALL := tame_any w2.heap.size t w2 (HC.out.more (by omega)) (Nat.le_refl _) HOK.out
      rw [HT.out] at CALL
      refine CALL.mono ?_
      rintro e w3 ⟨rfl, hb⟩
      clear CALL
      have hsz3 := hb.size
      replace HC := Lib.hid (HC.out.below hb (by omega))
      replace HK := Lib.hid (HK.out.below hb HK.out.lt)
      replace HB := Lib.hid (HB.out.trans (hb.mono (by omega)))

      clear hb
      obtain ⟨c0, c1, c2⟩ := HK.out.three_
      go_wp2
      go_ret2
      exact ⟨rfl, HB.out⟩
    · have HT := Lib.hid ht
      rw [ht] at hE2
      rw [if_pos rfl] at hE2
      subst hE2
      rw [if_pos rfl] at hV2
      obtain ⟨s1, s2, f1, f2, b1, b2⟩ := tm_ok HOK.out ht
      obtain ⟨Sf, hS⟩ : ∃ x, wgt t.c.feed = x := ⟨_, rfl⟩
      obtain ⟨Sb, hSb⟩ : ∃ x, wgt t.c.back = x := ⟨_, rfl⟩
      unfold hdrF at hV2
      rw [hS] at HWF f1 f2 hV2
      rw [hSb] at HWB b1 b2 hV2
      have HFIN : Hid (V = (32768 * (t.c.share - Sb) - t.c.share) / (t.c.share + Sf)) := Lib.hid hV2.symm
      have x1 : IntKind.i64.wrap (t.c.share + Sf) = t.c.share + Sf := IntWalk.i64_in _ (by omega)
      have x3 : IntKind.i64.wrap (32768 * (t.c.share - Sb)) = 32768 * (t.c.share - Sb) := IntWalk.i64_in _ (by omega)
      have x4 : IntKind.i64.wrap (32768 * (t.c.share - Sb) - t.c.share) = 32768 * (t.c.share - Sb) - t.c.share := IntWalk.i64_in _ (by omega)
      have x5 : IntKind.i64.wrap (t.c.share - Sb) = t.c.share - Sb := IntWalk.i64_in _ (by omega)
      have n1 : 0 ≤ 32768 * (t.c.share - Sb) - t.c.share := by omega
      have n2 : 0 < t.c.share + Sf := by omega
      have n3 : ¬ t.c.share + Sf = 0 := by omega
      have q0 : (32768 * (t.c.share - Sb) - t.c.share).tdiv (t.c.share + Sf) = (32768 * (t.c.share - Sb) - t.c.share) / (t.c.share + Sf) := Int.tdiv_eq_ediv_of_nonneg n1
      have q1 : 0 ≤ (32768 * (t.c.share - Sb) - t.c.share) / (t.c.share + Sf) := Int.ediv_nonneg n1 (by omega)
      have q2 : (32768 * (t.c.share - Sb) - t.c.share) / (t.c.share + Sf) ≤ 32768 * (t.c.share - Sb) - t.c.share := Int.ediv_le_self _ n1
      have q3 : IntKind.i64.wrap ((32768 * (t.c.share - Sb) - t.c.share) / (t.c.share + Sf)) = (32768 * (t.c.share - Sb) - t.c.share) / (t.c.share + Sf) := IntWalk.i64_in _ (by omega)
      clear ht he1 hS hSb hV2
      go_enter Try.func40, Try.ntmps40
      go_upto_region 1 with fail
      obtain ⟨w1, hW⟩ : ∃ W, w.alloc (.cells #[.slice t.Af t.nf t.kf, .slice t.Ab t.nb t.kb, .int .i64 t.c.share] 43) = W := ⟨_, rfl⟩
      have hb : Below w.heap.size w w1 := by rw [← hW]; exact (Below.refl _ _).alloc (Nat.le_refl _) _
      have hsz1 := hb.size
      replace HC := Lib.hid (HC.out.below hb (by omega))
      have HK : Hid (Blk w1 w.heap.size 43 #[.slice t.Af t.nf t.kf, .slice t.Ab t.nb t.kb, .int .i64 t.c.share]) := Lib.hid (by rw [← hW]; exact Blk.new _ _ _)
      have HB := Lib.hid hb
      try rw [hW]
      clear hW hb
      obtain ⟨c0, c1, c2⟩ := HK.out.three_
      go_wp2_with fail
      have CALL := CheckCurve_any w1.heap.size t.Af t.Ab t.nf t.kf t.nb t.kb t.c w1 (HC.out.more (by omega)).f (HC.out.more (by omega)).b (Nat.le_refl _) hs.1 hs.2
      rw [HV.out] at CALL
      refine CALL.mono ?_
      rintro e w2 ⟨rfl, hb⟩
      clear CALL
      have hsz2 := hb.size
      replace HC := Lib.hid (HC.out.below hb (by omega))
      replace HK := Lib.hid (HK.out.below hb HK.out.lt)
      replace HB := Lib.hid (HB.out.trans (hb.mono (by omega)))

      clear hb
      obtain ⟨c0, c1, c2⟩ := HK.out.three_
      go_wp2_with fail
      have CALL := tame_any w2.heap.size t w2 (HC.out.more (by omega)) (Nat.le_refl _) HOK.out
      rw [HT.out] at CALL
      refine CALL.mono ?_
      rintro e w3 ⟨rfl, hb⟩
      clear CALL
      have hsz3 := hb.size
      replace HC := Lib.hid (HC.out.below hb (by omega))
      replace HK := Lib.hid (HK.out.below hb HK.out.lt)
      replace HB := Lib.hid (HB.out.trans (hb.mono (by omega)))

      clear hb
      obtain ⟨c0, c1, c2⟩ := HK.out.three_
      have TB := Lib.hid (fun q => HWB.out (w3.drewN q) t.kb (below_drewN_ HB.out _))
      go_wp2_with fail
      go_quiet ((go_at_call 105; with_reducible exact Calls.quiet_of_same (TB.out _)))
      clear TB
      obtain ⟨w4, hW⟩ : ∃ W, w3.drewN nq = W := ⟨_, rfl⟩
      have hb : Below w3.heap.size w3 w4 := by rw [← hW]; exact below_drewN_ (Below.refl _ _) _
      have hsz4 := hb.size
      replace HC := Lib.hid (HC.out.below hb (by omega))
      replace HK := Lib.hid (HK.out.below hb HK.out.lt)
      replace HB := Lib.hid (HB.out.trans (hb.mono (by omega)))
      rw [hW]
      clear hW hb
      obtain ⟨c0, c1, c2⟩ := HK.out.three_
      have TB := Lib.hid (fun q => HWF.out (w4.drewN q) t.kf (below_drewN_ HB.out _))
      go_wp2_with fail
      go_quiet ((go_at_call 105; with_reducible exact Calls.quiet_of_same (TB.out _)))
      go_wp2
      go_ret2
      exact ⟨by rw [HFIN.out]; rfl, below_drewN_ HB.out _⟩
  · rw [if_neg h1] at hE2
    subst hE2
    rw [if_neg h1] at hV2
    subst hV2
    have q1 : (e1 != 0) = true := by rw [bne_iff_ne]; exact h1
    have q2 : (e1 == 0) = false := beq_eq_false_iff_ne.2 h1
    clear he1
    go_enter Try.func40, Try.ntmps40
    go_upto_region 1 with fail
    obtain ⟨w1, hW⟩ : ∃ W, w.alloc (.cells #[.slice t.Af t.nf t.kf, .slice t.Ab t.nb t.kb, .int .i64 t.c.share] 43) = W := ⟨_, rfl⟩
    have hb : Below w.heap.size w w1 := by rw [← hW]; exact (Below.refl _ _).alloc (Nat.le_refl _) _
    have hsz1 := hb.size
    replace HC := Lib.hid (HC.out.below hb (by omega))
    have HK : Hid (Blk w1 w.heap.size 43 #[.slice t.Af t.nf t.kf, .slice t.Ab t.nb t.kb, .int .i64 t.c.share]) := Lib.hid (by rw [← hW]; exact Blk.new _ _ _)
    have HB := Lib.hid hb
    try rw [hW]
    clear hW hb
    obtain ⟨c0, c1, c2⟩ := HK.out.three_
    go_wp2_with fail
    have CALL := CheckCurve_any w1.heap.size t.Af t.Ab t.nf t.kf t.nb t.kb t.c w1 (HC.out.more (by omega)).f (HC.out.more (by omega)).b (Nat.le_refl _) hs.1 hs.2
    rw [HV.out] at CALL
    refine CALL.mono ?_
    rintro e w2 ⟨rfl, hb⟩
    clear CALL
    have hsz2 := hb.size
    replace HC := Lib.hid (HC.out.below hb (by omega))
    replace HK := Lib.hid (HK.out.below hb HK.out.lt)
    replace HB := Lib.hid (HB.out.trans (hb.mono (by omega)))

    clear hb
    obtain ⟨c0, c1, c2⟩ := HK.out.three_
    go_wp2
    go_ret2
    exact ⟨rfl, HB.out⟩

theorem hdr_bnd (c : Cur) : bndEr c 0 = hdrEr c := by
  unfold bndEr hdrEr
  have e : rngE 0 0 32767 = 0 := by unfold rngE; rw [if_neg (by omega)]
  rw [e]
  by_cases h : ckV c = 0
  · rw [h, if_pos rfl]; rfl
  · have ho : orL [ckV c, 0] = ckV c := by unfold orL; rw [if_neg h]
    rw [ho, if_neg h]

set_option maxRecDepth 100000 in
set_option maxHeartbeats 4000000 in
theorem refHeadroom_any (B : Nat) (t : CV) (w : World) (hc : CI w B t) (hB : B ≤ w.heap.size) (hs : t.nf ≤ 9223372036854775807 ∧ t.nb ≤ 9223372036854775807) :
    Calls Try.prog 41 #[.agg #[.slice t.Af t.nf t.kf, .slice t.Ab t.nb t.kb, .int .i64 t.c.share]] w fun e w' => e = .returned (.tuple #[.int .i64 (hdrV t.c), .int .i64 (hdrEr t.c)]) ∧ Below w.heap.size w w' := by
  have HC := Lib.hid (hc.more hB)
  clear hc hB
  obtain ⟨V, hV⟩ : ∃ x, hdrV t.c = x := ⟨_, rfl⟩
  obtain ⟨E, hE⟩ : ∃ x, hdrEr t.c = x := ⟨_, rfl⟩
  rw [hV, hE]
  have hV2 := hV
  unfold hdrV at hV2
  rw [hE] at hV2
  have HE := Lib.hid hE
  by_cases h1 : E = 0
  · subst h1
    rw [if_pos rfl] at hV2
    have hck : ckV t.c = 0 ∧ tm t.c = true := by
      unfold hdrEr at hE
      split at hE
      · rename_i h; refine ⟨h, ?_⟩
        split at hE
        · assumption
        · cases hE
      · rename_i h; exact absurd hE h
    have hto := tm_ok (ckV_ok hck.1) hck.2
    obtain ⟨h0, h3⟩ := hdr_bd hto
    have BH := Lib.hid (fun a => bnd_hdr hto a)
    have BV : Hid (∀ a, 0 ≤ a → a ≤ 32767 → bndV t.c a = bndF t.c a ∧ bndEr t.c a = 0) := Lib.hid (fun a h1 h2 => by
      have e : bndEr t.c a = 0 := by
        unfold bndEr
        have e2 : rngE a 0 32767 = 0 := by unfold rngE; rw [if_neg (by omega)]
        rw [e2, hck.1, hck.2]; rfl
      exact ⟨by unfold bndV; rw [e, if_pos rfl], e⟩)
    obtain ⟨H, hH⟩ : ∃ x, hdrF t.c = x := ⟨_, rfl⟩
    rw [hH] at h0 h3 BH hV2
    have HFIN : Hid (V = H) := Lib.hid hV2.symm
    clear hV hE hV2 hck hto hH
    go_enter Try.func41, Try.ntmps41
    go_upto_region 1 with fail
    obtain ⟨w1, hW⟩ : ∃ W, w.alloc (.cells #[.slice t.Af t.nf t.kf, .slice t.Ab t.nb t.kb, .int .i64 t.c.share] 43) = W := ⟨_, rfl⟩
    have hb : Below w.heap.size w w1 := by rw [← hW]; exact (Below.refl _ _).alloc (Nat.le_refl _) _
    have hsz1 := hb.size
    replace HC := Lib.hid (HC.out.below hb (by omega))
    have HK : Hid (Blk w1 w.heap.size 43 #[.slice t.Af t.nf t.kf, .slice t.Ab t.nb t.kb, .int .i64 t.c.share]) := Lib.hid (by rw [← hW]; exact Blk.new _ _ _)
    have HB := Lib.hid hb
    try rw [hW]
    clear hW hb
    obtain ⟨c0, c1, c2⟩ := HK.out.three_
    go_wp2_with fail
    have CALL := refBound_any w1.heap.size t 0 w1 (HC.out.more (by omega)) (Nat.le_refl _) hs
    rw [hdr_bnd, HE.out] at CALL
    refine CALL.mono ?_
    rintro e w2 ⟨rfl, hb⟩
    clear CALL
    have hsz2 := hb.size
    replace HC := Lib.hid (HC.out.below hb (by omega))
    replace HK := Lib.hid (HK.out.below hb HK.out.lt)
    replace HB := Lib.hid (HB.out.trans (hb.mono (by omega)))

    clear hb
    obtain ⟨c0, c1, c2⟩ := HK.out.three_
    go_wp2
    go_loopw [6, 7] (fun a z wr => ∃ lo hi : Int, 0 ≤ lo ∧ lo ≤ H ∧ H ≤ hi ∧ hi ≤ 32767 ∧ a = .int .i64 lo ∧ z = .int .i64 hi ∧ Hid (Below w2.heap.size w2 wr)) (fun a z _ => (intOf z - intOf a).toNat)
    case atStart => exact ⟨0, 32767, by omega, h0, h3, by omega, rfl, rfl, Lib.hid (Below.refl _ _)⟩
    case round =>
      obtain ⟨lo, hi, l0, l1, l2, l3, rfl, rfl, HBR⟩ := hrel
      have hszr := HBR.out.size
      obtain ⟨c0, c1, c2⟩ := (HK.out.below HBR.out HK.out.lt).three_
      by_cases hlt : lo < hi
      · have x1 : IntKind.i64.wrap (lo + hi) = lo + hi := IntWalk.i64_in _ (by omega)
        have x2 : IntKind.i64.wrap (lo + hi + 1) = lo + hi + 1 := IntWalk.i64_in _ (by omega)
        have x3 : (lo + hi + 1).tdiv 2 = (lo + hi + 1) / 2 := Int.tdiv_eq_ediv_of_nonneg (by omega)
        obtain ⟨a, ha⟩ : ∃ a, (lo + hi + 1) / 2 = a := ⟨_, rfl⟩
        have a1 : lo < a := by omega
        have a2 : a ≤ hi := by omega
        have x4 : IntKind.i64.wrap a = a := IntWalk.i64_in _ (by omega)
        have x5 : IntKind.i64.wrap (a - 1) = a - 1 := IntWalk.i64_in _ (by omega)
        have CALL := refBound_any wr.heap.size t a wr ((HC.out.below HBR.out (by omega)).more (by omega)) (Nat.le_refl _) hs
        rw [(BV.out a (by omega) (by omega)).1, (BV.out a (by omega) (by omega)).2] at CALL
        have CALL := Lib.hid CALL
        have HA : Hid (bndF t.c a ≤ 32767 ↔ a ≤ H) := Lib.hid (BH.out a)
        obtain ⟨q, hq⟩ : ∃ q, bndF t.c a = q := ⟨_, rfl⟩
        rw [hq] at CALL HA
        clear hq
        by_cases hq2 : q ≤ 32767
        · have hah := HA.out.1 hq2
          go_wp2_with ((with_reducible refine CALL.out.mono ?_); rintro e w9 ⟨rfl, hb9⟩)
          go_roundw
          case rel => exact ⟨a, hi, by omega, hah, l2, l3, rfl, rfl, Lib.hid (HBR.out.trans (hb9.mono (by omega)))⟩
          case measure => simp [intOf]; omega
        · have hah : H < a := by
            rcases Int.lt_or_le H a with h | h
            · exact h
            · exact absurd (HA.out.2 h) hq2
          go_wp2_with ((with_reducible refine CALL.out.mono ?_); rintro e w9 ⟨rfl, hb9⟩)
          go_roundw
          case rel => exact ⟨lo, a - 1, l0, l1, by omega, by omega, rfl, rfl, Lib.hid (HBR.out.trans (hb9.mono (by omega)))⟩
          case measure => simp [intOf]; omega
      · have hlh : lo = H := by omega
        subst hlh
        go_wp2
        go_ret2
        exact ⟨by rw [HFIN.out]; rfl, HB.out.trans (HBR.out.mono (by omega))⟩
  · rw [if_neg h1] at hV2
    subst hV2
    have q1 : (E != 0) = true := by rw [bne_iff_ne]; exact h1
    have q2 : (E == 0) = false := beq_eq_false_iff_ne.2 h1
    clear hV hE
    go_enter Try.func41, Try.ntmps41
    go_upto_region 1 with fail
    obtain ⟨w1, hW⟩ : ∃ W, w.alloc (.cells #[.slice t.Af t.nf t.kf, .slice t.Ab t.nb t.kb, .int .i64 t.c.share] 43) = W := ⟨_, rfl⟩
    have hb : Below w.heap.size w w1 := by rw [← hW]; exact (Below.refl _ _).alloc (Nat.le_refl _) _
    have hsz1 := hb.size
    replace HC := Lib.hid (HC.out.below hb (by omega))
    have HK : Hid (Blk w1 w.heap.size 43 #[.slice t.Af t.nf t.kf, .slice t.Ab t.nb t.kb, .int .i64 t.c.share]) := Lib.hid (by rw [← hW]; exact Blk.new _ _ _)
    have HB := Lib.hid hb
    try rw [hW]
    clear hW hb
    obtain ⟨c0, c1, c2⟩ := HK.out.three_
    go_wp2_with fail
    have CALL := refBound_any w1.heap.size t 0 w1 (HC.out.more (by omega)) (Nat.le_refl _) hs
    rw [hdr_bnd, HE.out] at CALL
    refine CALL.mono ?_
    rintro e w2 ⟨rfl, hb⟩
    clear CALL
    have hsz2 := hb.size
    replace HC := Lib.hid (HC.out.below hb (by omega))
    replace HK := Lib.hid (HK.out.below hb HK.out.lt)
    replace HB := Lib.hid (HB.out.trans (hb.mono (by omega)))

    clear hb
    obtain ⟨c0, c1, c2⟩ := HK.out.three_
    go_wp2
    go_ret2
    exact ⟨rfl, HB.out⟩
end Go.Proofs.Ytjaomjbhkgijbaa

