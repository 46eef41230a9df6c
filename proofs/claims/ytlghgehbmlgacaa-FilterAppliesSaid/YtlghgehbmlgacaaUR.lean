/-
  The walk of FilterApplies.
-/
import Derived.Test.YtlghgehbmlgacaaUH
import Derived.Test.YtlghgehbmlgacaaUQ
namespace Go.Proofs.Ytlghgehbmlgacaa
open Go.RowKit

set_option maxRecDepth 100000 in
set_option maxHeartbeats 4000000 in
theorem applies_walk (B : Nat) (t : CV) (Ax : Option Addr) (nx kx : Nat) (xs : List Int) (w : World) (hc : CI w B t) (hX : LI w B Ax nx xs) (hB : B ≤ w.heap.size) (hlx : nx ≤ 9223372036854775807) (hs : t.nf ≤ 9223372036854775807 ∧ t.nb ≤ 9223372036854775807) :
    Calls Try.prog 4 #[.agg #[.slice t.Af t.nf t.kf, .slice t.Ab t.nb t.kb, .int .i64 t.c.share], .slice Ax nx kx] w fun e w' => e = .returned (.bool true) ∧ Below w.heap.size w w' := by
  have HC := Lib.hid (hc.more hB)
  have HX := Lib.hid (hX.more hB)
  clear hc hX hB
  have hcs : CSm [t] := fun u hu => by rw [List.mem_singleton.1 hu]; exact hs
  obtain ⟨R1, hR1⟩ : ∃ R, oneRes true t.c xs = R := ⟨_, rfl⟩
  obtain ⟨E1, hE1⟩ : ∃ R, oneErr true t.c xs = R := ⟨_, rfl⟩
  obtain ⟨R2, hR2⟩ : ∃ R, oneRes false t.c xs = R := ⟨_, rfl⟩
  obtain ⟨E2, hE2⟩ : ∃ R, oneErr false t.c xs = R := ⟨_, rfl⟩
  have HR1 := Lib.hid hR1
  have HE1 := Lib.hid hE1
  have HR2 := Lib.hid hR2
  have HE2 := Lib.hid hE2
  clear hR1 hE1 hR2 hE2
  cases hv1 : chnB ([t].map CV.c)
  · have HV1 := Lib.hid hv1
    clear hv1
    cases hv2 : lngB nx 400
    · have HV2 := Lib.hid hv2
      clear hv2
      as_aux_lemma =>
        go_enter Try.func4, Try.ntmps4
        go_upto_region 1 with fail
        obtain ⟨w1, hW⟩ : ∃ W, w.alloc (.cells #[.slice t.Af t.nf t.kf, .slice t.Ab t.nb t.kb, .int .i64 t.c.share] 24) = W := ⟨_, rfl⟩
        have hb : Below w.heap.size w w1 := by rw [← hW]; exact (Below.refl _ _).alloc (Nat.le_refl _) _
        have hsz1 := hb.size
        replace HC := Lib.hid (HC.out.below hb (by omega))
        replace HX := Lib.hid (HX.out.below hb (by omega))
        have HK : Hid (Blk w1 w.heap.size 24 #[.slice t.Af t.nf t.kf, .slice t.Ab t.nb t.kb, .int .i64 t.c.share]) := Lib.hid (by rw [← hW]; exact Blk.new _ _ _)
        have HB := Lib.hid hb
        try rw [hW]
        clear hW hb
        obtain ⟨c0, c1, c2⟩ := HK.out.three_
        go_wp2_with fail
        obtain ⟨w2, hW⟩ : ∃ W, w1.alloc (.cells #[.slice t.Af t.nf t.kf, .slice t.Ab t.nb t.kb, .int .i64 t.c.share] 24) = W := ⟨_, rfl⟩
        have hb : Below w1.heap.size w1 w2 := by rw [← hW]; exact (Below.refl _ _).alloc (Nat.le_refl _) _
        have hsz2 := hb.size
        replace HC := Lib.hid (HC.out.below hb (by omega))
        replace HX := Lib.hid (HX.out.below hb (by omega))
        replace HK := Lib.hid (HK.out.below hb HK.out.lt)
        replace HB := Lib.hid (HB.out.trans (hb.mono (by omega)))
        have HD : Hid (Blk w2 w1.heap.size 24 #[.slice t.Af t.nf t.kf, .slice t.Ab t.nb t.kb, .int .i64 t.c.share]) := Lib.hid (by rw [← hW]; exact Blk.new _ _ _)
        try rw [hW]
        clear hW hb
        obtain ⟨c0, c1, c2⟩ := HK.out.three_
        have CALL := chains_any w2.heap.size (some ⟨w1.heap.size, 0, none⟩) 1 1 [t] w2 (rc_one HD.out HD.out.lt (HC.out.more (by omega))) (Nat.le_refl _) (by omega) hcs
        rw [HV1.out] at CALL
        refine CALL.mono ?_
        rintro e w_ ⟨rfl, rfl⟩
        clear CALL HD
        go_wp2_with fail
        have CALL := long_any nx 400 w2
        rw [HV2.out] at CALL
        refine CALL.mono ?_
        rintro e w_ ⟨rfl, rfl⟩
        clear CALL
        go_wp2_with fail
        have CALL := Apply_any w2.heap.size t Ax nx kx xs w2 (HC.out.more (by omega)) (HX.out.more (by omega)) (Nat.le_refl _) (by omega) hs
        rw [HR1.out, HE1.out] at CALL
        refine CALL.mono ?_
        rintro e w3 ⟨v, rfl, ho, hb⟩
        clear CALL
        have hsz3 := hb.size
        replace HC := Lib.hid (HC.out.below hb (by omega))
        replace HX := Lib.hid (HX.out.below hb (by omega))
        replace HK := Lib.hid (HK.out.below hb HK.out.lt)
        replace HB := Lib.hid (HB.out.trans (hb.mono (by omega)))
        have hlP := own_le ho
        obtain ⟨AP, cP, rfl, hL⟩ := li_own ho
        have HP := Lib.hid hL
        clear ho hL
        clear hb
        obtain ⟨c0, c1, c2⟩ := HK.out.three_
        go_wp2_with fail
        have CALL := refApply_any w3.heap.size t Ax nx kx xs w3 (HC.out.more (by omega)) (HX.out.more (by omega)) (Nat.le_refl _) (by omega) hs
        rw [HR1.out, HE1.out] at CALL
        refine CALL.mono ?_
        rintro e w4 ⟨v, rfl, ho, hb⟩
        clear CALL
        have hsz4 := hb.size
        replace HC := Lib.hid (HC.out.below hb (by omega))
        replace HX := Lib.hid (HX.out.below hb (by omega))
        replace HP := Lib.hid (HP.out.below hb (by omega))
        replace HK := Lib.hid (HK.out.below hb HK.out.lt)
        replace HB := Lib.hid (HB.out.trans (hb.mono (by omega)))
        have hlQ := own_le ho
        obtain ⟨AQ, cQ, rfl, hL⟩ := li_own ho
        have HQ := Lib.hid hL
        clear ho hL
        clear hb
        obtain ⟨c0, c1, c2⟩ := HK.out.three_
        go_wp2_with fail
        have CALL := Undo_any w4.heap.size t Ax nx kx xs w4 (HC.out.more (by omega)) (HX.out.more (by omega)) (Nat.le_refl _) (by omega) hs
        rw [HR2.out, HE2.out] at CALL
        refine CALL.mono ?_
        rintro e w5 ⟨v, rfl, ho, hb⟩
        clear CALL
        have hsz5 := hb.size
        replace HC := Lib.hid (HC.out.below hb (by omega))
        replace HX := Lib.hid (HX.out.below hb (by omega))
        replace HP := Lib.hid (HP.out.below hb (by omega))
        replace HQ := Lib.hid (HQ.out.below hb (by omega))
        replace HK := Lib.hid (HK.out.below hb HK.out.lt)
        replace HB := Lib.hid (HB.out.trans (hb.mono (by omega)))
        have hlU := own_le ho
        obtain ⟨AU, cU, rfl, hL⟩ := li_own ho
        have HU := Lib.hid hL
        clear ho hL
        clear hb
        obtain ⟨c0, c1, c2⟩ := HK.out.three_
        go_wp2_with fail
        have CALL := refUndo_any w5.heap.size t Ax nx kx xs w5 (HC.out.more (by omega)) (HX.out.more (by omega)) (Nat.le_refl _) (by omega) hs
        rw [HR2.out, HE2.out] at CALL
        refine CALL.mono ?_
        rintro e w6 ⟨v, rfl, ho, hb⟩
        clear CALL
        have hsz6 := hb.size
        replace HC := Lib.hid (HC.out.below hb (by omega))
        replace HX := Lib.hid (HX.out.below hb (by omega))
        replace HP := Lib.hid (HP.out.below hb (by omega))
        replace HQ := Lib.hid (HQ.out.below hb (by omega))
        replace HU := Lib.hid (HU.out.below hb (by omega))
        replace HK := Lib.hid (HK.out.below hb HK.out.lt)
        replace HB := Lib.hid (HB.out.trans (hb.mono (by omega)))
        have hlV := own_le ho
        obtain ⟨AV, cV, rfl, hL⟩ := li_own ho
        have HV := Lib.hid hL
        clear ho hL
        clear hb
        obtain ⟨c0, c1, c2⟩ := HK.out.three_
        go_wp2_with fail
        have CALL := refSame_any w6.heap.size AP AQ R1.length cP R1.length cQ R1 R1 w6 (HP.out.more (by omega)) (HQ.out.more (by omega)) (Nat.le_refl _) (by omega) (by omega)
        rw [sameI_self] at CALL
        refine CALL.mono ?_
        rintro e w7 ⟨rfl, hb⟩
        clear CALL
        have hsz7 := hb.size
        replace HC := Lib.hid (HC.out.below hb (by omega))
        replace HX := Lib.hid (HX.out.below hb (by omega))
        replace HP := Lib.hid (HP.out.below hb (by omega))
        replace HQ := Lib.hid (HQ.out.below hb (by omega))
        replace HU := Lib.hid (HU.out.below hb (by omega))
        replace HV := Lib.hid (HV.out.below hb (by omega))
        replace HK := Lib.hid (HK.out.below hb HK.out.lt)
        replace HB := Lib.hid (HB.out.trans (hb.mono (by omega)))

        clear hb
        obtain ⟨c0, c1, c2⟩ := HK.out.three_
        go_wp2_with fail
        have CALL := refSame_any w7.heap.size AU AV R2.length cU R2.length cV R2 R2 w7 (HU.out.more (by omega)) (HV.out.more (by omega)) (Nat.le_refl _) (by omega) (by omega)
        rw [sameI_self] at CALL
        refine CALL.mono ?_
        rintro e w8 ⟨rfl, hb⟩
        clear CALL
        have hsz8 := hb.size
        replace HC := Lib.hid (HC.out.below hb (by omega))
        replace HX := Lib.hid (HX.out.below hb (by omega))
        replace HP := Lib.hid (HP.out.below hb (by omega))
        replace HQ := Lib.hid (HQ.out.below hb (by omega))
        replace HU := Lib.hid (HU.out.below hb (by omega))
        replace HV := Lib.hid (HV.out.below hb (by omega))
        replace HK := Lib.hid (HK.out.below hb HK.out.lt)
        replace HB := Lib.hid (HB.out.trans (hb.mono (by omega)))

        clear hb
        obtain ⟨c0, c1, c2⟩ := HK.out.three_
        go_wp2_with fail
        have CALL := works_any w8
        refine CALL.mono ?_
        rintro e w9 ⟨rfl, hb⟩
        clear CALL
        have hsz9 := hb.size
        replace HC := Lib.hid (HC.out.below hb (by omega))
        replace HX := Lib.hid (HX.out.below hb (by omega))
        replace HP := Lib.hid (HP.out.below hb (by omega))
        replace HQ := Lib.hid (HQ.out.below hb (by omega))
        replace HU := Lib.hid (HU.out.below hb (by omega))
        replace HV := Lib.hid (HV.out.below hb (by omega))
        replace HK := Lib.hid (HK.out.below hb HK.out.lt)
        replace HB := Lib.hid (HB.out.trans (hb.mono (by omega)))

        clear hb
        obtain ⟨c0, c1, c2⟩ := HK.out.three_
        go_wp2
        go_ret
        exact ⟨rfl, HB.out⟩
    · have HV2 := Lib.hid hv2
      clear hv2
      as_aux_lemma =>
        go_enter Try.func4, Try.ntmps4
        go_upto_region 1 with fail
        obtain ⟨w1, hW⟩ : ∃ W, w.alloc (.cells #[.slice t.Af t.nf t.kf, .slice t.Ab t.nb t.kb, .int .i64 t.c.share] 24) = W := ⟨_, rfl⟩
        have hb : Below w.heap.size w w1 := by rw [← hW]; exact (Below.refl _ _).alloc (Nat.le_refl _) _
        have hsz1 := hb.size
        replace HC := Lib.hid (HC.out.below hb (by omega))
        replace HX := Lib.hid (HX.out.below hb (by omega))
        have HK : Hid (Blk w1 w.heap.size 24 #[.slice t.Af t.nf t.kf, .slice t.Ab t.nb t.kb, .int .i64 t.c.share]) := Lib.hid (by rw [← hW]; exact Blk.new _ _ _)
        have HB := Lib.hid hb
        try rw [hW]
        clear hW hb
        obtain ⟨c0, c1, c2⟩ := HK.out.three_
        go_wp2_with fail
        obtain ⟨w2, hW⟩ : ∃ W, w1.alloc (.cells #[.slice t.Af t.nf t.kf, .slice t.Ab t.nb t.kb, .int .i64 t.c.share] 24) = W := ⟨_, rfl⟩
        have hb : Below w1.heap.size w1 w2 := by rw [← hW]; exact (Below.refl _ _).alloc (Nat.le_refl _) _
        have hsz2 := hb.size
        replace HC := Lib.hid (HC.out.below hb (by omega))
        replace HX := Lib.hid (HX.out.below hb (by omega))
        replace HK := Lib.hid (HK.out.below hb HK.out.lt)
        replace HB := Lib.hid (HB.out.trans (hb.mono (by omega)))
        have HD : Hid (Blk w2 w1.heap.size 24 #[.slice t.Af t.nf t.kf, .slice t.Ab t.nb t.kb, .int .i64 t.c.share]) := Lib.hid (by rw [← hW]; exact Blk.new _ _ _)
        try rw [hW]
        clear hW hb
        obtain ⟨c0, c1, c2⟩ := HK.out.three_
        have CALL := chains_any w2.heap.size (some ⟨w1.heap.size, 0, none⟩) 1 1 [t] w2 (rc_one HD.out HD.out.lt (HC.out.more (by omega))) (Nat.le_refl _) (by omega) hcs
        rw [HV1.out] at CALL
        refine CALL.mono ?_
        rintro e w_ ⟨rfl, rfl⟩
        clear CALL HD
        go_wp2_with fail
        have CALL := long_any nx 400 w2
        rw [HV2.out] at CALL
        refine CALL.mono ?_
        rintro e w_ ⟨rfl, rfl⟩
        clear CALL
        go_wp2_with fail
        have CALL := works_any w2
        refine CALL.mono ?_
        rintro e w3 ⟨rfl, hb⟩
        clear CALL
        have hsz3 := hb.size
        replace HC := Lib.hid (HC.out.below hb (by omega))
        replace HX := Lib.hid (HX.out.below hb (by omega))
        replace HK := Lib.hid (HK.out.below hb HK.out.lt)
        replace HB := Lib.hid (HB.out.trans (hb.mono (by omega)))

        clear hb
        obtain ⟨c0, c1, c2⟩ := HK.out.three_
        go_wp2
        go_ret
        exact ⟨rfl, HB.out⟩
  · have HV1 := Lib.hid hv1
    clear hv1
    as_aux_lemma =>
      go_enter Try.func4, Try.ntmps4
      go_upto_region 1 with fail
      obtain ⟨w1, hW⟩ : ∃ W, w.alloc (.cells #[.slice t.Af t.nf t.kf, .slice t.Ab t.nb t.kb, .int .i64 t.c.share] 24) = W := ⟨_, rfl⟩
      have hb : Below w.heap.size w w1 := by rw [← hW]; exact (Below.refl _ _).alloc (Nat.le_refl _) _
      have hsz1 := hb.size
      replace HC := Lib.hid (HC.out.below hb (by omega))
      replace HX := Lib.hid (HX.out.below hb (by omega))
      have HK : Hid (Blk w1 w.heap.size 24 #[.slice t.Af t.nf t.kf, .slice t.Ab t.nb t.kb, .int .i64 t.c.share]) := Lib.hid (by rw [← hW]; exact Blk.new _ _ _)
      have HB := Lib.hid hb
      try rw [hW]
      clear hW hb
      obtain ⟨c0, c1, c2⟩ := HK.out.three_
      go_wp2_with fail
      obtain ⟨w2, hW⟩ : ∃ W, w1.alloc (.cells #[.slice t.Af t.nf t.kf, .slice t.Ab t.nb t.kb, .int .i64 t.c.share] 24) = W := ⟨_, rfl⟩
      have hb : Below w1.heap.size w1 w2 := by rw [← hW]; exact (Below.refl _ _).alloc (Nat.le_refl _) _
      have hsz2 := hb.size
      replace HC := Lib.hid (HC.out.below hb (by omega))
      replace HX := Lib.hid (HX.out.below hb (by omega))
      replace HK := Lib.hid (HK.out.below hb HK.out.lt)
      replace HB := Lib.hid (HB.out.trans (hb.mono (by omega)))
      have HD : Hid (Blk w2 w1.heap.size 24 #[.slice t.Af t.nf t.kf, .slice t.Ab t.nb t.kb, .int .i64 t.c.share]) := Lib.hid (by rw [← hW]; exact Blk.new _ _ _)
      try rw [hW]
      clear hW hb
      obtain ⟨c0, c1, c2⟩ := HK.out.three_
      have CALL := chains_any w2.heap.size (some ⟨w1.heap.size, 0, none⟩) 1 1 [t] w2 (rc_one HD.out HD.out.lt (HC.out.more (by omega))) (Nat.le_refl _) (by omega) hcs
      rw [HV1.out] at CALL
      refine CALL.mono ?_
      rintro e w_ ⟨rfl, rfl⟩
      clear CALL HD
      go_wp2_with fail
      have CALL := works_any w2
      refine CALL.mono ?_
      rintro e w3 ⟨rfl, hb⟩
      clear CALL
      have hsz3 := hb.size
      replace HC := Lib.hid (HC.out.below hb (by omega))
      replace HX := Lib.hid (HX.out.below hb (by omega))
      replace HK := Lib.hid (HK.out.below hb HK.out.lt)
      replace HB := Lib.hid (HB.out.trans (hb.mono (by omega)))

      clear hb
      obtain ⟨c0, c1, c2⟩ := HK.out.three_
      go_wp2
      go_ret
      exact ⟨rfl, HB.out⟩
end Go.Proofs.Ytlghgehbmlgacaa
