/-
  The walk of FilterUndone: what a curve made is undone to the last bit.
-/
import Derived.Test.YtlghgehbmlgacaaUH
import Derived.Test.YtlghgehbmlgacaaUI
namespace Go.Proofs.Ytlghgehbmlgacaa
open Go.RowKit

set_option maxRecDepth 100000 in
set_option maxHeartbeats 8000000 in
theorem undone_walk (B : Nat) (t : CV) (Ax Ao : Option Addr) (nx kx no ko : Nat) (x other : List Int) (w : World) (hc : CI w B t) (hX : LI w B Ax nx x) (hO : LI w B Ao no other) (hB : B ≤ w.heap.size) (hlx : nx ≤ 9223372036854775807) (hlo : no ≤ 9223372036854775807)
    (hs : t.nf ≤ 9223372036854775807 ∧ t.nb ≤ 9223372036854775807) :
    Calls Try.prog 9 #[.agg #[.slice t.Af t.nf t.kf, .slice t.Ab t.nb t.kb, .int .i64 t.c.share], .slice Ax nx kx, .slice Ao no ko] w fun e w' => e = .returned (.bool true) ∧ Below w.heap.size w w' := by
  have HC := Lib.hid (hc.more hB)
  have HX := Lib.hid (hX.more hB)
  have HO := Lib.hid (hO.more hB)
  have HNX := Lib.hid hX.1
  have HNO := Lib.hid hO.1
  clear hc hX hO hB
  cases hv1 : vldF t.c x 400
  · have HV1 := Lib.hid hv1
    clear hv1
    go_enter Try.func9, Try.ntmps9
    go_upto_region 1 with fail
    obtain ⟨w1, hW⟩ : ∃ W, w.alloc (.cells #[.slice t.Af t.nf t.kf, .slice t.Ab t.nb t.kb, .int .i64 t.c.share] 24) = W := ⟨_, rfl⟩
    have hb : Below w.heap.size w w1 := by rw [← hW]; exact (Below.refl _ _).alloc (Nat.le_refl _) _
    have hsz1 := hb.size
    replace HC := Lib.hid (HC.out.below hb (by omega))
    replace HX := Lib.hid (HX.out.below hb (by omega))
    replace HO := Lib.hid (HO.out.below hb (by omega))
    have HK : Hid (Blk w1 w.heap.size 24 #[.slice t.Af t.nf t.kf, .slice t.Ab t.nb t.kb, .int .i64 t.c.share]) := Lib.hid (by rw [← hW]; exact Blk.new _ _ _)
    have HB := Lib.hid hb
    try rw [hW]
    clear hW hb
    obtain ⟨c0, c1, c2⟩ := HK.out.three_
    go_wp2_with fail
    have CALL := valid_any w1.heap.size t Ax nx kx x 400 w1 (HC.out.more (by omega)) (HX.out.more (by omega)) (Nat.le_refl _) (by omega) hs
    rw [HV1.out] at CALL
    refine CALL.mono ?_
    rintro e w2 ⟨rfl, hb⟩
    clear CALL
    have hsz2 := hb.size
    replace HC := Lib.hid (HC.out.below hb (by omega))
    replace HX := Lib.hid (HX.out.below hb (by omega))
    replace HO := Lib.hid (HO.out.below hb (by omega))
    replace HK := Lib.hid (HK.out.below hb HK.out.lt)
    replace HB := Lib.hid (HB.out.trans (hb.mono (by omega)))

    clear hb
    obtain ⟨c0, c1, c2⟩ := HK.out.three_
    go_wp2_with fail
    have CALL := works_any w2
    refine CALL.mono ?_
    rintro e w3 ⟨rfl, hb⟩
    clear CALL
    have hsz3 := hb.size
    replace HC := Lib.hid (HC.out.below hb (by omega))
    replace HX := Lib.hid (HX.out.below hb (by omega))
    replace HO := Lib.hid (HO.out.below hb (by omega))
    replace HK := Lib.hid (HK.out.below hb HK.out.lt)
    replace HB := Lib.hid (HB.out.trans (hb.mono (by omega)))

    clear hb
    obtain ⟨c0, c1, c2⟩ := HK.out.three_
    go_wp2
    go_ret
    exact ⟨rfl, HB.out⟩
  · cases hv2 : vldF t.c other 400
    · have HV1 := Lib.hid hv1
      have HV2 := Lib.hid hv2
      clear hv1 hv2
      go_enter Try.func9, Try.ntmps9
      go_upto_region 1 with fail
      obtain ⟨w1, hW⟩ : ∃ W, w.alloc (.cells #[.slice t.Af t.nf t.kf, .slice t.Ab t.nb t.kb, .int .i64 t.c.share] 24) = W := ⟨_, rfl⟩
      have hb : Below w.heap.size w w1 := by rw [← hW]; exact (Below.refl _ _).alloc (Nat.le_refl _) _
      have hsz1 := hb.size
      replace HC := Lib.hid (HC.out.below hb (by omega))
      replace HX := Lib.hid (HX.out.below hb (by omega))
      replace HO := Lib.hid (HO.out.below hb (by omega))
      have HK : Hid (Blk w1 w.heap.size 24 #[.slice t.Af t.nf t.kf, .slice t.Ab t.nb t.kb, .int .i64 t.c.share]) := Lib.hid (by rw [← hW]; exact Blk.new _ _ _)
      have HB := Lib.hid hb
      try rw [hW]
      clear hW hb
      obtain ⟨c0, c1, c2⟩ := HK.out.three_
      go_wp2_with fail
      have CALL := valid_any w1.heap.size t Ax nx kx x 400 w1 (HC.out.more (by omega)) (HX.out.more (by omega)) (Nat.le_refl _) (by omega) hs
      rw [HV1.out] at CALL
      refine CALL.mono ?_
      rintro e w2 ⟨rfl, hb⟩
      clear CALL
      have hsz2 := hb.size
      replace HC := Lib.hid (HC.out.below hb (by omega))
      replace HX := Lib.hid (HX.out.below hb (by omega))
      replace HO := Lib.hid (HO.out.below hb (by omega))
      replace HK := Lib.hid (HK.out.below hb HK.out.lt)
      replace HB := Lib.hid (HB.out.trans (hb.mono (by omega)))

      clear hb
      obtain ⟨c0, c1, c2⟩ := HK.out.three_
      go_wp2_with fail
      have CALL := valid_any w2.heap.size t Ao no ko other 400 w2 (HC.out.more (by omega)) (HO.out.more (by omega)) (Nat.le_refl _) (by omega) hs
      rw [HV2.out] at CALL
      refine CALL.mono ?_
      rintro e w3 ⟨rfl, hb⟩
      clear CALL
      have hsz3 := hb.size
      replace HC := Lib.hid (HC.out.below hb (by omega))
      replace HX := Lib.hid (HX.out.below hb (by omega))
      replace HO := Lib.hid (HO.out.below hb (by omega))
      replace HK := Lib.hid (HK.out.below hb HK.out.lt)
      replace HB := Lib.hid (HB.out.trans (hb.mono (by omega)))

      clear hb
      obtain ⟨c0, c1, c2⟩ := HK.out.three_
      go_wp2_with fail
      have CALL := works_any w3
      refine CALL.mono ?_
      rintro e w4 ⟨rfl, hb⟩
      clear CALL
      have hsz4 := hb.size
      replace HC := Lib.hid (HC.out.below hb (by omega))
      replace HX := Lib.hid (HX.out.below hb (by omega))
      replace HO := Lib.hid (HO.out.below hb (by omega))
      replace HK := Lib.hid (HK.out.below hb HK.out.lt)
      replace HB := Lib.hid (HB.out.trans (hb.mono (by omega)))

      clear hb
      obtain ⟨c0, c1, c2⟩ := HK.out.three_
      go_wp2
      go_ret
      exact ⟨rfl, HB.out⟩
    · have HV1 := Lib.hid hv1
      have HV2 := Lib.hid hv2
      obtain ⟨x4, xc, xs⟩ := vldF_ok hv1
      obtain ⟨o4, _, os⟩ := vldF_ok hv2
      have ex := one_er xc xs
      have eo := one_er xc os
      have hnx : nx ≤ 400 := by have := HNX.out; omega
      have hno : no ≤ 400 := by have := HNO.out; omega
      have SX := Lib.hid (sameI_self x)
      clear hv1 hv2 o4
      cases hY : chain true [t.c] x with
      | none =>
        have EY := Lib.hid (one_none ex hY)
        cases hU : chain false [t.c] x with
        | none =>
          have EU := Lib.hid (one_none ex hU)
          clear hY hU xs os ex eo xc
          as_aux_lemma =>
            go_enter Try.func9, Try.ntmps9
            go_upto_region 1 with fail
            obtain ⟨w1, hW⟩ : ∃ W, w.alloc (.cells #[.slice t.Af t.nf t.kf, .slice t.Ab t.nb t.kb, .int .i64 t.c.share] 24) = W := ⟨_, rfl⟩
            have hb : Below w.heap.size w w1 := by rw [← hW]; exact (Below.refl _ _).alloc (Nat.le_refl _) _
            have hsz1 := hb.size
            replace HC := Lib.hid (HC.out.below hb (by omega))
            replace HX := Lib.hid (HX.out.below hb (by omega))
            replace HO := Lib.hid (HO.out.below hb (by omega))
            have HK : Hid (Blk w1 w.heap.size 24 #[.slice t.Af t.nf t.kf, .slice t.Ab t.nb t.kb, .int .i64 t.c.share]) := Lib.hid (by rw [← hW]; exact Blk.new _ _ _)
            have HB := Lib.hid hb
            try rw [hW]
            clear hW hb
            obtain ⟨c0, c1, c2⟩ := HK.out.three_
            go_wp2_with fail
            have CALL := valid_any w1.heap.size t Ax nx kx x 400 w1 (HC.out.more (by omega)) (HX.out.more (by omega)) (Nat.le_refl _) (by omega) hs
            rw [HV1.out] at CALL
            refine CALL.mono ?_
            rintro e w2 ⟨rfl, hb⟩
            clear CALL
            have hsz2 := hb.size
            replace HC := Lib.hid (HC.out.below hb (by omega))
            replace HX := Lib.hid (HX.out.below hb (by omega))
            replace HO := Lib.hid (HO.out.below hb (by omega))
            replace HK := Lib.hid (HK.out.below hb HK.out.lt)
            replace HB := Lib.hid (HB.out.trans (hb.mono (by omega)))

            clear hb
            obtain ⟨c0, c1, c2⟩ := HK.out.three_
            go_wp2_with fail
            have CALL := valid_any w2.heap.size t Ao no ko other 400 w2 (HC.out.more (by omega)) (HO.out.more (by omega)) (Nat.le_refl _) (by omega) hs
            rw [HV2.out] at CALL
            refine CALL.mono ?_
            rintro e w3 ⟨rfl, hb⟩
            clear CALL
            have hsz3 := hb.size
            replace HC := Lib.hid (HC.out.below hb (by omega))
            replace HX := Lib.hid (HX.out.below hb (by omega))
            replace HO := Lib.hid (HO.out.below hb (by omega))
            replace HK := Lib.hid (HK.out.below hb HK.out.lt)
            replace HB := Lib.hid (HB.out.trans (hb.mono (by omega)))

            clear hb
            obtain ⟨c0, c1, c2⟩ := HK.out.three_
            go_wp2_with fail
            have CALL := Apply_any w3.heap.size t Ax nx kx x w3 (HC.out.more (by omega)) (HX.out.more (by omega)) (Nat.le_refl _) (by omega) hs
            rw [EY.out.1, EY.out.2] at CALL
            refine CALL.mono ?_
            rintro e w4 ⟨v, rfl, ho, hb⟩
            clear CALL
            have hsz4 := hb.size
            replace HC := Lib.hid (HC.out.below hb (by omega))
            replace HX := Lib.hid (HX.out.below hb (by omega))
            replace HO := Lib.hid (HO.out.below hb (by omega))
            replace HK := Lib.hid (HK.out.below hb HK.out.lt)
            replace HB := Lib.hid (HB.out.trans (hb.mono (by omega)))
            clear ho
            clear hb
            obtain ⟨c0, c1, c2⟩ := HK.out.three_
            go_wp2_with fail
            have CALL := Undo_any w4.heap.size t Ax nx kx x w4 (HC.out.more (by omega)) (HX.out.more (by omega)) (Nat.le_refl _) (by omega) hs
            rw [EU.out.1, EU.out.2] at CALL
            refine CALL.mono ?_
            rintro e w5 ⟨v, rfl, ho, hb⟩
            clear CALL
            have hsz5 := hb.size
            replace HC := Lib.hid (HC.out.below hb (by omega))
            replace HX := Lib.hid (HX.out.below hb (by omega))
            replace HO := Lib.hid (HO.out.below hb (by omega))
            replace HK := Lib.hid (HK.out.below hb HK.out.lt)
            replace HB := Lib.hid (HB.out.trans (hb.mono (by omega)))
            clear ho
            clear hb
            obtain ⟨c0, c1, c2⟩ := HK.out.three_
            go_wp2_with fail
            have CALL := works_any w5
            refine CALL.mono ?_
            rintro e w6 ⟨rfl, hb⟩
            clear CALL
            have hsz6 := hb.size
            replace HC := Lib.hid (HC.out.below hb (by omega))
            replace HX := Lib.hid (HX.out.below hb (by omega))
            replace HO := Lib.hid (HO.out.below hb (by omega))
            replace HK := Lib.hid (HK.out.below hb HK.out.lt)
            replace HB := Lib.hid (HB.out.trans (hb.mono (by omega)))

            clear hb
            obtain ⟨c0, c1, c2⟩ := HK.out.three_
            go_wp2
            go_ret
            exact ⟨rfl, HB.out⟩
        | some u =>
          have EU := Lib.hid (one_some ex hU)
          obtain ⟨b1, b2, b3⟩ := chain_back xs hU
          have EV := Lib.hid (one_some (d := true) (one_er xc b2) b1)
          have hul : u.length ≤ 400 := by omega
          clear hY hU xs os ex eo xc b1 b2 b3
          as_aux_lemma =>
            go_enter Try.func9, Try.ntmps9
            go_upto_region 1 with fail
            obtain ⟨w1, hW⟩ : ∃ W, w.alloc (.cells #[.slice t.Af t.nf t.kf, .slice t.Ab t.nb t.kb, .int .i64 t.c.share] 24) = W := ⟨_, rfl⟩
            have hb : Below w.heap.size w w1 := by rw [← hW]; exact (Below.refl _ _).alloc (Nat.le_refl _) _
            have hsz1 := hb.size
            replace HC := Lib.hid (HC.out.below hb (by omega))
            replace HX := Lib.hid (HX.out.below hb (by omega))
            replace HO := Lib.hid (HO.out.below hb (by omega))
            have HK : Hid (Blk w1 w.heap.size 24 #[.slice t.Af t.nf t.kf, .slice t.Ab t.nb t.kb, .int .i64 t.c.share]) := Lib.hid (by rw [← hW]; exact Blk.new _ _ _)
            have HB := Lib.hid hb
            try rw [hW]
            clear hW hb
            obtain ⟨c0, c1, c2⟩ := HK.out.three_
            go_wp2_with fail
            have CALL := valid_any w1.heap.size t Ax nx kx x 400 w1 (HC.out.more (by omega)) (HX.out.more (by omega)) (Nat.le_refl _) (by omega) hs
            rw [HV1.out] at CALL
            refine CALL.mono ?_
            rintro e w2 ⟨rfl, hb⟩
            clear CALL
            have hsz2 := hb.size
            replace HC := Lib.hid (HC.out.below hb (by omega))
            replace HX := Lib.hid (HX.out.below hb (by omega))
            replace HO := Lib.hid (HO.out.below hb (by omega))
            replace HK := Lib.hid (HK.out.below hb HK.out.lt)
            replace HB := Lib.hid (HB.out.trans (hb.mono (by omega)))

            clear hb
            obtain ⟨c0, c1, c2⟩ := HK.out.three_
            go_wp2_with fail
            have CALL := valid_any w2.heap.size t Ao no ko other 400 w2 (HC.out.more (by omega)) (HO.out.more (by omega)) (Nat.le_refl _) (by omega) hs
            rw [HV2.out] at CALL
            refine CALL.mono ?_
            rintro e w3 ⟨rfl, hb⟩
            clear CALL
            have hsz3 := hb.size
            replace HC := Lib.hid (HC.out.below hb (by omega))
            replace HX := Lib.hid (HX.out.below hb (by omega))
            replace HO := Lib.hid (HO.out.below hb (by omega))
            replace HK := Lib.hid (HK.out.below hb HK.out.lt)
            replace HB := Lib.hid (HB.out.trans (hb.mono (by omega)))

            clear hb
            obtain ⟨c0, c1, c2⟩ := HK.out.three_
            go_wp2_with fail
            have CALL := Apply_any w3.heap.size t Ax nx kx x w3 (HC.out.more (by omega)) (HX.out.more (by omega)) (Nat.le_refl _) (by omega) hs
            rw [EY.out.1, EY.out.2] at CALL
            refine CALL.mono ?_
            rintro e w4 ⟨v, rfl, ho, hb⟩
            clear CALL
            have hsz4 := hb.size
            replace HC := Lib.hid (HC.out.below hb (by omega))
            replace HX := Lib.hid (HX.out.below hb (by omega))
            replace HO := Lib.hid (HO.out.below hb (by omega))
            replace HK := Lib.hid (HK.out.below hb HK.out.lt)
            replace HB := Lib.hid (HB.out.trans (hb.mono (by omega)))
            clear ho
            clear hb
            obtain ⟨c0, c1, c2⟩ := HK.out.three_
            go_wp2_with fail
            have CALL := Undo_any w4.heap.size t Ax nx kx x w4 (HC.out.more (by omega)) (HX.out.more (by omega)) (Nat.le_refl _) (by omega) hs
            rw [EU.out.1, EU.out.2] at CALL
            refine CALL.mono ?_
            rintro e w5 ⟨v, rfl, ho, hb⟩
            clear CALL
            have hsz5 := hb.size
            replace HC := Lib.hid (HC.out.below hb (by omega))
            replace HX := Lib.hid (HX.out.below hb (by omega))
            replace HO := Lib.hid (HO.out.below hb (by omega))
            replace HK := Lib.hid (HK.out.below hb HK.out.lt)
            replace HB := Lib.hid (HB.out.trans (hb.mono (by omega)))
            obtain ⟨AU, cU, rfl, hL⟩ := li_own ho
            have HU := Lib.hid hL
            clear ho hL
            clear hb
            obtain ⟨c0, c1, c2⟩ := HK.out.three_
            go_wp2_with fail
            have CALL := Apply_any w5.heap.size t AU u.length cU u w5 (HC.out.more (by omega)) (HU.out.more (by omega)) (Nat.le_refl _) (by omega) hs
            rw [EV.out.1, EV.out.2] at CALL
            refine CALL.mono ?_
            rintro e w6 ⟨v, rfl, ho, hb⟩
            clear CALL
            have hsz6 := hb.size
            replace HC := Lib.hid (HC.out.below hb (by omega))
            replace HX := Lib.hid (HX.out.below hb (by omega))
            replace HO := Lib.hid (HO.out.below hb (by omega))
            replace HU := Lib.hid (HU.out.below hb (by omega))
            replace HK := Lib.hid (HK.out.below hb HK.out.lt)
            replace HB := Lib.hid (HB.out.trans (hb.mono (by omega)))
            obtain ⟨AV, cV, rfl, hL⟩ := li_own ho
            have HV := Lib.hid hL
            clear ho hL
            clear hb
            obtain ⟨c0, c1, c2⟩ := HK.out.three_
            go_wp2_with fail
            have CALL := refSame_any w6.heap.size AV Ax x.length cV nx kx x x w6 (HV.out.more (by omega)) (HX.out.more (by omega)) (Nat.le_refl _) (by omega) (by omega)
            rw [SX.out] at CALL
            refine CALL.mono ?_
            rintro e w7 ⟨rfl, hb⟩
            clear CALL
            have hsz7 := hb.size
            replace HC := Lib.hid (HC.out.below hb (by omega))
            replace HX := Lib.hid (HX.out.below hb (by omega))
            replace HO := Lib.hid (HO.out.below hb (by omega))
            replace HU := Lib.hid (HU.out.below hb (by omega))
            replace HV := Lib.hid (HV.out.below hb (by omega))
            replace HK := Lib.hid (HK.out.below hb HK.out.lt)
            replace HB := Lib.hid (HB.out.trans (hb.mono (by omega)))

            clear hb
            obtain ⟨c0, c1, c2⟩ := HK.out.three_
            go_wp2_with fail
            have CALL := works_any w7
            refine CALL.mono ?_
            rintro e w8 ⟨rfl, hb⟩
            clear CALL
            have hsz8 := hb.size
            replace HC := Lib.hid (HC.out.below hb (by omega))
            replace HX := Lib.hid (HX.out.below hb (by omega))
            replace HO := Lib.hid (HO.out.below hb (by omega))
            replace HU := Lib.hid (HU.out.below hb (by omega))
            replace HV := Lib.hid (HV.out.below hb (by omega))
            replace HK := Lib.hid (HK.out.below hb HK.out.lt)
            replace HB := Lib.hid (HB.out.trans (hb.mono (by omega)))

            clear hb
            obtain ⟨c0, c1, c2⟩ := HK.out.three_
            go_wp2
            go_ret
            exact ⟨rfl, HB.out⟩
      | some y =>
        have EY := Lib.hid (one_some ex hY)
        obtain ⟨a1, a2, a3⟩ := chain_back xs hY
        have EB := Lib.hid (one_some (d := false) (one_er xc a2) a1)
        have hyl : y.length ≤ 400 := by omega
        cases hZ : chain true [t.c] other with
        | none =>
          have EZ := Lib.hid (one_none eo hZ)
          cases hU : chain false [t.c] x with
          | none =>
            have EU := Lib.hid (one_none ex hU)
            clear hY hU hZ xs os ex eo xc a1 a2 a3
            as_aux_lemma =>
              go_enter Try.func9, Try.ntmps9
              go_upto_region 1 with fail
              obtain ⟨w1, hW⟩ : ∃ W, w.alloc (.cells #[.slice t.Af t.nf t.kf, .slice t.Ab t.nb t.kb, .int .i64 t.c.share] 24) = W := ⟨_, rfl⟩
              have hb : Below w.heap.size w w1 := by rw [← hW]; exact (Below.refl _ _).alloc (Nat.le_refl _) _
              have hsz1 := hb.size
              replace HC := Lib.hid (HC.out.below hb (by omega))
              replace HX := Lib.hid (HX.out.below hb (by omega))
              replace HO := Lib.hid (HO.out.below hb (by omega))
              have HK : Hid (Blk w1 w.heap.size 24 #[.slice t.Af t.nf t.kf, .slice t.Ab t.nb t.kb, .int .i64 t.c.share]) := Lib.hid (by rw [← hW]; exact Blk.new _ _ _)
              have HB := Lib.hid hb
              try rw [hW]
              clear hW hb
              obtain ⟨c0, c1, c2⟩ := HK.out.three_
              go_wp2_with fail
              have CALL := valid_any w1.heap.size t Ax nx kx x 400 w1 (HC.out.more (by omega)) (HX.out.more (by omega)) (Nat.le_refl _) (by omega) hs
              rw [HV1.out] at CALL
              refine CALL.mono ?_
              rintro e w2 ⟨rfl, hb⟩
              clear CALL
              have hsz2 := hb.size
              replace HC := Lib.hid (HC.out.below hb (by omega))
              replace HX := Lib.hid (HX.out.below hb (by omega))
              replace HO := Lib.hid (HO.out.below hb (by omega))
              replace HK := Lib.hid (HK.out.below hb HK.out.lt)
              replace HB := Lib.hid (HB.out.trans (hb.mono (by omega)))

              clear hb
              obtain ⟨c0, c1, c2⟩ := HK.out.three_
              go_wp2_with fail
              have CALL := valid_any w2.heap.size t Ao no ko other 400 w2 (HC.out.more (by omega)) (HO.out.more (by omega)) (Nat.le_refl _) (by omega) hs
              rw [HV2.out] at CALL
              refine CALL.mono ?_
              rintro e w3 ⟨rfl, hb⟩
              clear CALL
              have hsz3 := hb.size
              replace HC := Lib.hid (HC.out.below hb (by omega))
              replace HX := Lib.hid (HX.out.below hb (by omega))
              replace HO := Lib.hid (HO.out.below hb (by omega))
              replace HK := Lib.hid (HK.out.below hb HK.out.lt)
              replace HB := Lib.hid (HB.out.trans (hb.mono (by omega)))

              clear hb
              obtain ⟨c0, c1, c2⟩ := HK.out.three_
              go_wp2_with fail
              have CALL := Apply_any w3.heap.size t Ax nx kx x w3 (HC.out.more (by omega)) (HX.out.more (by omega)) (Nat.le_refl _) (by omega) hs
              rw [EY.out.1, EY.out.2] at CALL
              refine CALL.mono ?_
              rintro e w4 ⟨v, rfl, ho, hb⟩
              clear CALL
              have hsz4 := hb.size
              replace HC := Lib.hid (HC.out.below hb (by omega))
              replace HX := Lib.hid (HX.out.below hb (by omega))
              replace HO := Lib.hid (HO.out.below hb (by omega))
              replace HK := Lib.hid (HK.out.below hb HK.out.lt)
              replace HB := Lib.hid (HB.out.trans (hb.mono (by omega)))
              obtain ⟨AY, cY, rfl, hL⟩ := li_own ho
              have HY := Lib.hid hL
              clear ho hL
              clear hb
              obtain ⟨c0, c1, c2⟩ := HK.out.three_
              go_wp2_with fail
              have CALL := Undo_any w4.heap.size t AY y.length cY y w4 (HC.out.more (by omega)) (HY.out.more (by omega)) (Nat.le_refl _) (by omega) hs
              rw [EB.out.1, EB.out.2] at CALL
              refine CALL.mono ?_
              rintro e w5 ⟨v, rfl, ho, hb⟩
              clear CALL
              have hsz5 := hb.size
              replace HC := Lib.hid (HC.out.below hb (by omega))
              replace HX := Lib.hid (HX.out.below hb (by omega))
              replace HO := Lib.hid (HO.out.below hb (by omega))
              replace HY := Lib.hid (HY.out.below hb (by omega))
              replace HK := Lib.hid (HK.out.below hb HK.out.lt)
              replace HB := Lib.hid (HB.out.trans (hb.mono (by omega)))
              obtain ⟨AB, cB, rfl, hL⟩ := li_own ho
              have HB1 := Lib.hid hL
              clear ho hL
              clear hb
              obtain ⟨c0, c1, c2⟩ := HK.out.three_
              go_wp2_with fail
              have CALL := refSame_any w5.heap.size AB Ax x.length cB nx kx x x w5 (HB1.out.more (by omega)) (HX.out.more (by omega)) (Nat.le_refl _) (by omega) (by omega)
              rw [SX.out] at CALL
              refine CALL.mono ?_
              rintro e w6 ⟨rfl, hb⟩
              clear CALL
              have hsz6 := hb.size
              replace HC := Lib.hid (HC.out.below hb (by omega))
              replace HX := Lib.hid (HX.out.below hb (by omega))
              replace HO := Lib.hid (HO.out.below hb (by omega))
              replace HY := Lib.hid (HY.out.below hb (by omega))
              replace HB1 := Lib.hid (HB1.out.below hb (by omega))
              replace HK := Lib.hid (HK.out.below hb HK.out.lt)
              replace HB := Lib.hid (HB.out.trans (hb.mono (by omega)))

              clear hb
              obtain ⟨c0, c1, c2⟩ := HK.out.three_
              go_wp2_with fail
              have CALL := Apply_any w6.heap.size t Ao no ko other w6 (HC.out.more (by omega)) (HO.out.more (by omega)) (Nat.le_refl _) (by omega) hs
              rw [EZ.out.1, EZ.out.2] at CALL
              refine CALL.mono ?_
              rintro e w7 ⟨v, rfl, ho, hb⟩
              clear CALL
              have hsz7 := hb.size
              replace HC := Lib.hid (HC.out.below hb (by omega))
              replace HX := Lib.hid (HX.out.below hb (by omega))
              replace HO := Lib.hid (HO.out.below hb (by omega))
              replace HY := Lib.hid (HY.out.below hb (by omega))
              replace HB1 := Lib.hid (HB1.out.below hb (by omega))
              replace HK := Lib.hid (HK.out.below hb HK.out.lt)
              replace HB := Lib.hid (HB.out.trans (hb.mono (by omega)))
              clear ho
              clear hb
              obtain ⟨c0, c1, c2⟩ := HK.out.three_
              go_wp2_with fail
              have CALL := Undo_any w7.heap.size t Ax nx kx x w7 (HC.out.more (by omega)) (HX.out.more (by omega)) (Nat.le_refl _) (by omega) hs
              rw [EU.out.1, EU.out.2] at CALL
              refine CALL.mono ?_
              rintro e w8 ⟨v, rfl, ho, hb⟩
              clear CALL
              have hsz8 := hb.size
              replace HC := Lib.hid (HC.out.below hb (by omega))
              replace HX := Lib.hid (HX.out.below hb (by omega))
              replace HO := Lib.hid (HO.out.below hb (by omega))
              replace HY := Lib.hid (HY.out.below hb (by omega))
              replace HB1 := Lib.hid (HB1.out.below hb (by omega))
              replace HK := Lib.hid (HK.out.below hb HK.out.lt)
              replace HB := Lib.hid (HB.out.trans (hb.mono (by omega)))
              clear ho
              clear hb
              obtain ⟨c0, c1, c2⟩ := HK.out.three_
              go_wp2_with fail
              have CALL := works_any w8
              refine CALL.mono ?_
              rintro e w9 ⟨rfl, hb⟩
              clear CALL
              have hsz9 := hb.size
              replace HC := Lib.hid (HC.out.below hb (by omega))
              replace HX := Lib.hid (HX.out.below hb (by omega))
              replace HO := Lib.hid (HO.out.below hb (by omega))
              replace HY := Lib.hid (HY.out.below hb (by omega))
              replace HB1 := Lib.hid (HB1.out.below hb (by omega))
              replace HK := Lib.hid (HK.out.below hb HK.out.lt)
              replace HB := Lib.hid (HB.out.trans (hb.mono (by omega)))

              clear hb
              obtain ⟨c0, c1, c2⟩ := HK.out.three_
              go_wp2
              go_ret
              exact ⟨rfl, HB.out⟩
          | some u =>
            have EU := Lib.hid (one_some ex hU)
            obtain ⟨b1, b2, b3⟩ := chain_back xs hU
            have EV := Lib.hid (one_some (d := true) (one_er xc b2) b1)
            have hul : u.length ≤ 400 := by omega
            clear hY hU hZ xs os ex eo xc a1 a2 a3 b1 b2 b3
            as_aux_lemma =>
              go_enter Try.func9, Try.ntmps9
              go_upto_region 1 with fail
              obtain ⟨w1, hW⟩ : ∃ W, w.alloc (.cells #[.slice t.Af t.nf t.kf, .slice t.Ab t.nb t.kb, .int .i64 t.c.share] 24) = W := ⟨_, rfl⟩
              have hb : Below w.heap.size w w1 := by rw [← hW]; exact (Below.refl _ _).alloc (Nat.le_refl _) _
              have hsz1 := hb.size
              replace HC := Lib.hid (HC.out.below hb (by omega))
              replace HX := Lib.hid (HX.out.below hb (by omega))
              replace HO := Lib.hid (HO.out.below hb (by omega))
              have HK : Hid (Blk w1 w.heap.size 24 #[.slice t.Af t.nf t.kf, .slice t.Ab t.nb t.kb, .int .i64 t.c.share]) := Lib.hid (by rw [← hW]; exact Blk.new _ _ _)
              have HB := Lib.hid hb
              try rw [hW]
              clear hW hb
              obtain ⟨c0, c1, c2⟩ := HK.out.three_
              go_wp2_with fail
              have CALL := valid_any w1.heap.size t Ax nx kx x 400 w1 (HC.out.more (by omega)) (HX.out.more (by omega)) (Nat.le_refl _) (by omega) hs
              rw [HV1.out] at CALL
              refine CALL.mono ?_
              rintro e w2 ⟨rfl, hb⟩
              clear CALL
              have hsz2 := hb.size
              replace HC := Lib.hid (HC.out.below hb (by omega))
              replace HX := Lib.hid (HX.out.below hb (by omega))
              replace HO := Lib.hid (HO.out.below hb (by omega))
              replace HK := Lib.hid (HK.out.below hb HK.out.lt)
              replace HB := Lib.hid (HB.out.trans (hb.mono (by omega)))

              clear hb
              obtain ⟨c0, c1, c2⟩ := HK.out.three_
              go_wp2_with fail
              have CALL := valid_any w2.heap.size t Ao no ko other 400 w2 (HC.out.more (by omega)) (HO.out.more (by omega)) (Nat.le_refl _) (by omega) hs
              rw [HV2.out] at CALL
              refine CALL.mono ?_
              rintro e w3 ⟨rfl, hb⟩
              clear CALL
              have hsz3 := hb.size
              replace HC := Lib.hid (HC.out.below hb (by omega))
              replace HX := Lib.hid (HX.out.below hb (by omega))
              replace HO := Lib.hid (HO.out.below hb (by omega))
              replace HK := Lib.hid (HK.out.below hb HK.out.lt)
              replace HB := Lib.hid (HB.out.trans (hb.mono (by omega)))

              clear hb
              obtain ⟨c0, c1, c2⟩ := HK.out.three_
              go_wp2_with fail
              have CALL := Apply_any w3.heap.size t Ax nx kx x w3 (HC.out.more (by omega)) (HX.out.more (by omega)) (Nat.le_refl _) (by omega) hs
              rw [EY.out.1, EY.out.2] at CALL
              refine CALL.mono ?_
              rintro e w4 ⟨v, rfl, ho, hb⟩
              clear CALL
              have hsz4 := hb.size
              replace HC := Lib.hid (HC.out.below hb (by omega))
              replace HX := Lib.hid (HX.out.below hb (by omega))
              replace HO := Lib.hid (HO.out.below hb (by omega))
              replace HK := Lib.hid (HK.out.below hb HK.out.lt)
              replace HB := Lib.hid (HB.out.trans (hb.mono (by omega)))
              obtain ⟨AY, cY, rfl, hL⟩ := li_own ho
              have HY := Lib.hid hL
              clear ho hL
              clear hb
              obtain ⟨c0, c1, c2⟩ := HK.out.three_
              go_wp2_with fail
              have CALL := Undo_any w4.heap.size t AY y.length cY y w4 (HC.out.more (by omega)) (HY.out.more (by omega)) (Nat.le_refl _) (by omega) hs
              rw [EB.out.1, EB.out.2] at CALL
              refine CALL.mono ?_
              rintro e w5 ⟨v, rfl, ho, hb⟩
              clear CALL
              have hsz5 := hb.size
              replace HC := Lib.hid (HC.out.below hb (by omega))
              replace HX := Lib.hid (HX.out.below hb (by omega))
              replace HO := Lib.hid (HO.out.below hb (by omega))
              replace HY := Lib.hid (HY.out.below hb (by omega))
              replace HK := Lib.hid (HK.out.below hb HK.out.lt)
              replace HB := Lib.hid (HB.out.trans (hb.mono (by omega)))
              obtain ⟨AB, cB, rfl, hL⟩ := li_own ho
              have HB1 := Lib.hid hL
              clear ho hL
              clear hb
              obtain ⟨c0, c1, c2⟩ := HK.out.three_
              go_wp2_with fail
              have CALL := refSame_any w5.heap.size AB Ax x.length cB nx kx x x w5 (HB1.out.more (by omega)) (HX.out.more (by omega)) (Nat.le_refl _) (by omega) (by omega)
              rw [SX.out] at CALL
              refine CALL.mono ?_
              rintro e w6 ⟨rfl, hb⟩
              clear CALL
              have hsz6 := hb.size
              replace HC := Lib.hid (HC.out.below hb (by omega))
              replace HX := Lib.hid (HX.out.below hb (by omega))
              replace HO := Lib.hid (HO.out.below hb (by omega))
              replace HY := Lib.hid (HY.out.below hb (by omega))
              replace HB1 := Lib.hid (HB1.out.below hb (by omega))
              replace HK := Lib.hid (HK.out.below hb HK.out.lt)
              replace HB := Lib.hid (HB.out.trans (hb.mono (by omega)))

              clear hb
              obtain ⟨c0, c1, c2⟩ := HK.out.three_
              go_wp2_with fail
              have CALL := Apply_any w6.heap.size t Ao no ko other w6 (HC.out.more (by omega)) (HO.out.more (by omega)) (Nat.le_refl _) (by omega) hs
              rw [EZ.out.1, EZ.out.2] at CALL
              refine CALL.mono ?_
              rintro e w7 ⟨v, rfl, ho, hb⟩
              clear CALL
              have hsz7 := hb.size
              replace HC := Lib.hid (HC.out.below hb (by omega))
              replace HX := Lib.hid (HX.out.below hb (by omega))
              replace HO := Lib.hid (HO.out.below hb (by omega))
              replace HY := Lib.hid (HY.out.below hb (by omega))
              replace HB1 := Lib.hid (HB1.out.below hb (by omega))
              replace HK := Lib.hid (HK.out.below hb HK.out.lt)
              replace HB := Lib.hid (HB.out.trans (hb.mono (by omega)))
              clear ho
              clear hb
              obtain ⟨c0, c1, c2⟩ := HK.out.three_
              go_wp2_with fail
              have CALL := Undo_any w7.heap.size t Ax nx kx x w7 (HC.out.more (by omega)) (HX.out.more (by omega)) (Nat.le_refl _) (by omega) hs
              rw [EU.out.1, EU.out.2] at CALL
              refine CALL.mono ?_
              rintro e w8 ⟨v, rfl, ho, hb⟩
              clear CALL
              have hsz8 := hb.size
              replace HC := Lib.hid (HC.out.below hb (by omega))
              replace HX := Lib.hid (HX.out.below hb (by omega))
              replace HO := Lib.hid (HO.out.below hb (by omega))
              replace HY := Lib.hid (HY.out.below hb (by omega))
              replace HB1 := Lib.hid (HB1.out.below hb (by omega))
              replace HK := Lib.hid (HK.out.below hb HK.out.lt)
              replace HB := Lib.hid (HB.out.trans (hb.mono (by omega)))
              obtain ⟨AU, cU, rfl, hL⟩ := li_own ho
              have HU := Lib.hid hL
              clear ho hL
              clear hb
              obtain ⟨c0, c1, c2⟩ := HK.out.three_
              go_wp2_with fail
              have CALL := Apply_any w8.heap.size t AU u.length cU u w8 (HC.out.more (by omega)) (HU.out.more (by omega)) (Nat.le_refl _) (by omega) hs
              rw [EV.out.1, EV.out.2] at CALL
              refine CALL.mono ?_
              rintro e w9 ⟨v, rfl, ho, hb⟩
              clear CALL
              have hsz9 := hb.size
              replace HC := Lib.hid (HC.out.below hb (by omega))
              replace HX := Lib.hid (HX.out.below hb (by omega))
              replace HO := Lib.hid (HO.out.below hb (by omega))
              replace HY := Lib.hid (HY.out.below hb (by omega))
              replace HB1 := Lib.hid (HB1.out.below hb (by omega))
              replace HU := Lib.hid (HU.out.below hb (by omega))
              replace HK := Lib.hid (HK.out.below hb HK.out.lt)
              replace HB := Lib.hid (HB.out.trans (hb.mono (by omega)))
              obtain ⟨AV, cV, rfl, hL⟩ := li_own ho
              have HV := Lib.hid hL
              clear ho hL
              clear hb
              obtain ⟨c0, c1, c2⟩ := HK.out.three_
              go_wp2_with fail
              have CALL := refSame_any w9.heap.size AV Ax x.length cV nx kx x x w9 (HV.out.more (by omega)) (HX.out.more (by omega)) (Nat.le_refl _) (by omega) (by omega)
              rw [SX.out] at CALL
              refine CALL.mono ?_
              rintro e w10 ⟨rfl, hb⟩
              clear CALL
              have hsz10 := hb.size
              replace HC := Lib.hid (HC.out.below hb (by omega))
              replace HX := Lib.hid (HX.out.below hb (by omega))
              replace HO := Lib.hid (HO.out.below hb (by omega))
              replace HY := Lib.hid (HY.out.below hb (by omega))
              replace HB1 := Lib.hid (HB1.out.below hb (by omega))
              replace HU := Lib.hid (HU.out.below hb (by omega))
              replace HV := Lib.hid (HV.out.below hb (by omega))
              replace HK := Lib.hid (HK.out.below hb HK.out.lt)
              replace HB := Lib.hid (HB.out.trans (hb.mono (by omega)))

              clear hb
              obtain ⟨c0, c1, c2⟩ := HK.out.three_
              go_wp2_with fail
              have CALL := works_any w10
              refine CALL.mono ?_
              rintro e w11 ⟨rfl, hb⟩
              clear CALL
              have hsz11 := hb.size
              replace HC := Lib.hid (HC.out.below hb (by omega))
              replace HX := Lib.hid (HX.out.below hb (by omega))
              replace HO := Lib.hid (HO.out.below hb (by omega))
              replace HY := Lib.hid (HY.out.below hb (by omega))
              replace HB1 := Lib.hid (HB1.out.below hb (by omega))
              replace HU := Lib.hid (HU.out.below hb (by omega))
              replace HV := Lib.hid (HV.out.below hb (by omega))
              replace HK := Lib.hid (HK.out.below hb HK.out.lt)
              replace HB := Lib.hid (HB.out.trans (hb.mono (by omega)))

              clear hb
              obtain ⟨c0, c1, c2⟩ := HK.out.three_
              go_wp2
              go_ret
              exact ⟨rfl, HB.out⟩
        | some z =>
          have EZ := Lib.hid (one_some eo hZ)
          obtain ⟨d1, d2, d3⟩ := chain_back os hZ
          have hzl : z.length ≤ 4096 := (ckX_ok d2).1
          have hse : sameI z y = sameI other x := by
            unfold sameI
            rw [decide_eq_decide]
            constructor
            · rintro rfl
              have := d1.symm.trans a1
              injection this
            · rintro rfl
              have := hZ.symm.trans hY
              injection this
          obtain ⟨b, hb0⟩ : ∃ b, sameI other x = b := ⟨_, rfl⟩
          have SZ := Lib.hid (hse.trans hb0)
          have SO := Lib.hid hb0
          clear hse hb0
          cases hU : chain false [t.c] x with
          | none =>
            have EU := Lib.hid (one_none ex hU)
            clear hY hU hZ xs os ex eo xc a1 a2 a3 d1 d2 d3
            cases b
            all_goals
              as_aux_lemma =>
                go_enter Try.func9, Try.ntmps9
                go_upto_region 1 with fail
                obtain ⟨w1, hW⟩ : ∃ W, w.alloc (.cells #[.slice t.Af t.nf t.kf, .slice t.Ab t.nb t.kb, .int .i64 t.c.share] 24) = W := ⟨_, rfl⟩
                have hb : Below w.heap.size w w1 := by rw [← hW]; exact (Below.refl _ _).alloc (Nat.le_refl _) _
                have hsz1 := hb.size
                replace HC := Lib.hid (HC.out.below hb (by omega))
                replace HX := Lib.hid (HX.out.below hb (by omega))
                replace HO := Lib.hid (HO.out.below hb (by omega))
                have HK : Hid (Blk w1 w.heap.size 24 #[.slice t.Af t.nf t.kf, .slice t.Ab t.nb t.kb, .int .i64 t.c.share]) := Lib.hid (by rw [← hW]; exact Blk.new _ _ _)
                have HB := Lib.hid hb
                try rw [hW]
                clear hW hb
                obtain ⟨c0, c1, c2⟩ := HK.out.three_
                go_wp2_with fail
                have CALL := valid_any w1.heap.size t Ax nx kx x 400 w1 (HC.out.more (by omega)) (HX.out.more (by omega)) (Nat.le_refl _) (by omega) hs
                rw [HV1.out] at CALL
                refine CALL.mono ?_
                rintro e w2 ⟨rfl, hb⟩
                clear CALL
                have hsz2 := hb.size
                replace HC := Lib.hid (HC.out.below hb (by omega))
                replace HX := Lib.hid (HX.out.below hb (by omega))
                replace HO := Lib.hid (HO.out.below hb (by omega))
                replace HK := Lib.hid (HK.out.below hb HK.out.lt)
                replace HB := Lib.hid (HB.out.trans (hb.mono (by omega)))

                clear hb
                obtain ⟨c0, c1, c2⟩ := HK.out.three_
                go_wp2_with fail
                have CALL := valid_any w2.heap.size t Ao no ko other 400 w2 (HC.out.more (by omega)) (HO.out.more (by omega)) (Nat.le_refl _) (by omega) hs
                rw [HV2.out] at CALL
                refine CALL.mono ?_
                rintro e w3 ⟨rfl, hb⟩
                clear CALL
                have hsz3 := hb.size
                replace HC := Lib.hid (HC.out.below hb (by omega))
                replace HX := Lib.hid (HX.out.below hb (by omega))
                replace HO := Lib.hid (HO.out.below hb (by omega))
                replace HK := Lib.hid (HK.out.below hb HK.out.lt)
                replace HB := Lib.hid (HB.out.trans (hb.mono (by omega)))

                clear hb
                obtain ⟨c0, c1, c2⟩ := HK.out.three_
                go_wp2_with fail
                have CALL := Apply_any w3.heap.size t Ax nx kx x w3 (HC.out.more (by omega)) (HX.out.more (by omega)) (Nat.le_refl _) (by omega) hs
                rw [EY.out.1, EY.out.2] at CALL
                refine CALL.mono ?_
                rintro e w4 ⟨v, rfl, ho, hb⟩
                clear CALL
                have hsz4 := hb.size
                replace HC := Lib.hid (HC.out.below hb (by omega))
                replace HX := Lib.hid (HX.out.below hb (by omega))
                replace HO := Lib.hid (HO.out.below hb (by omega))
                replace HK := Lib.hid (HK.out.below hb HK.out.lt)
                replace HB := Lib.hid (HB.out.trans (hb.mono (by omega)))
                obtain ⟨AY, cY, rfl, hL⟩ := li_own ho
                have HY := Lib.hid hL
                clear ho hL
                clear hb
                obtain ⟨c0, c1, c2⟩ := HK.out.three_
                go_wp2_with fail
                have CALL := Undo_any w4.heap.size t AY y.length cY y w4 (HC.out.more (by omega)) (HY.out.more (by omega)) (Nat.le_refl _) (by omega) hs
                rw [EB.out.1, EB.out.2] at CALL
                refine CALL.mono ?_
                rintro e w5 ⟨v, rfl, ho, hb⟩
                clear CALL
                have hsz5 := hb.size
                replace HC := Lib.hid (HC.out.below hb (by omega))
                replace HX := Lib.hid (HX.out.below hb (by omega))
                replace HO := Lib.hid (HO.out.below hb (by omega))
                replace HY := Lib.hid (HY.out.below hb (by omega))
                replace HK := Lib.hid (HK.out.below hb HK.out.lt)
                replace HB := Lib.hid (HB.out.trans (hb.mono (by omega)))
                obtain ⟨AB, cB, rfl, hL⟩ := li_own ho
                have HB1 := Lib.hid hL
                clear ho hL
                clear hb
                obtain ⟨c0, c1, c2⟩ := HK.out.three_
                go_wp2_with fail
                have CALL := refSame_any w5.heap.size AB Ax x.length cB nx kx x x w5 (HB1.out.more (by omega)) (HX.out.more (by omega)) (Nat.le_refl _) (by omega) (by omega)
                rw [SX.out] at CALL
                refine CALL.mono ?_
                rintro e w6 ⟨rfl, hb⟩
                clear CALL
                have hsz6 := hb.size
                replace HC := Lib.hid (HC.out.below hb (by omega))
                replace HX := Lib.hid (HX.out.below hb (by omega))
                replace HO := Lib.hid (HO.out.below hb (by omega))
                replace HY := Lib.hid (HY.out.below hb (by omega))
                replace HB1 := Lib.hid (HB1.out.below hb (by omega))
                replace HK := Lib.hid (HK.out.below hb HK.out.lt)
                replace HB := Lib.hid (HB.out.trans (hb.mono (by omega)))

                clear hb
                obtain ⟨c0, c1, c2⟩ := HK.out.three_
                go_wp2_with fail
                have CALL := Apply_any w6.heap.size t Ao no ko other w6 (HC.out.more (by omega)) (HO.out.more (by omega)) (Nat.le_refl _) (by omega) hs
                rw [EZ.out.1, EZ.out.2] at CALL
                refine CALL.mono ?_
                rintro e w7 ⟨v, rfl, ho, hb⟩
                clear CALL
                have hsz7 := hb.size
                replace HC := Lib.hid (HC.out.below hb (by omega))
                replace HX := Lib.hid (HX.out.below hb (by omega))
                replace HO := Lib.hid (HO.out.below hb (by omega))
                replace HY := Lib.hid (HY.out.below hb (by omega))
                replace HB1 := Lib.hid (HB1.out.below hb (by omega))
                replace HK := Lib.hid (HK.out.below hb HK.out.lt)
                replace HB := Lib.hid (HB.out.trans (hb.mono (by omega)))
                obtain ⟨AZ, cZ, rfl, hL⟩ := li_own ho
                have HZ := Lib.hid hL
                clear ho hL
                clear hb
                obtain ⟨c0, c1, c2⟩ := HK.out.three_
                go_wp2_with fail
                have CALL := refSame_any w7.heap.size AZ AY z.length cZ y.length cY z y w7 (HZ.out.more (by omega)) (HY.out.more (by omega)) (Nat.le_refl _) (by omega) (by omega)
                rw [SZ.out] at CALL
                refine CALL.mono ?_
                rintro e w8 ⟨rfl, hb⟩
                clear CALL
                have hsz8 := hb.size
                replace HC := Lib.hid (HC.out.below hb (by omega))
                replace HX := Lib.hid (HX.out.below hb (by omega))
                replace HO := Lib.hid (HO.out.below hb (by omega))
                replace HY := Lib.hid (HY.out.below hb (by omega))
                replace HB1 := Lib.hid (HB1.out.below hb (by omega))
                replace HZ := Lib.hid (HZ.out.below hb (by omega))
                replace HK := Lib.hid (HK.out.below hb HK.out.lt)
                replace HB := Lib.hid (HB.out.trans (hb.mono (by omega)))

                clear hb
                obtain ⟨c0, c1, c2⟩ := HK.out.three_
                go_wp2_with fail
                have CALL := refSame_any w8.heap.size Ao Ax no ko nx kx other x w8 (HO.out.more (by omega)) (HX.out.more (by omega)) (Nat.le_refl _) (by omega) (by omega)
                rw [SO.out] at CALL
                refine CALL.mono ?_
                rintro e w9 ⟨rfl, hb⟩
                clear CALL
                have hsz9 := hb.size
                replace HC := Lib.hid (HC.out.below hb (by omega))
                replace HX := Lib.hid (HX.out.below hb (by omega))
                replace HO := Lib.hid (HO.out.below hb (by omega))
                replace HY := Lib.hid (HY.out.below hb (by omega))
                replace HB1 := Lib.hid (HB1.out.below hb (by omega))
                replace HZ := Lib.hid (HZ.out.below hb (by omega))
                replace HK := Lib.hid (HK.out.below hb HK.out.lt)
                replace HB := Lib.hid (HB.out.trans (hb.mono (by omega)))

                clear hb
                obtain ⟨c0, c1, c2⟩ := HK.out.three_
                go_wp2_with fail
                have CALL := Undo_any w9.heap.size t Ax nx kx x w9 (HC.out.more (by omega)) (HX.out.more (by omega)) (Nat.le_refl _) (by omega) hs
                rw [EU.out.1, EU.out.2] at CALL
                refine CALL.mono ?_
                rintro e w10 ⟨v, rfl, ho, hb⟩
                clear CALL
                have hsz10 := hb.size
                replace HC := Lib.hid (HC.out.below hb (by omega))
                replace HX := Lib.hid (HX.out.below hb (by omega))
                replace HO := Lib.hid (HO.out.below hb (by omega))
                replace HY := Lib.hid (HY.out.below hb (by omega))
                replace HB1 := Lib.hid (HB1.out.below hb (by omega))
                replace HZ := Lib.hid (HZ.out.below hb (by omega))
                replace HK := Lib.hid (HK.out.below hb HK.out.lt)
                replace HB := Lib.hid (HB.out.trans (hb.mono (by omega)))
                clear ho
                clear hb
                obtain ⟨c0, c1, c2⟩ := HK.out.three_
                go_wp2_with fail
                have CALL := works_any w10
                refine CALL.mono ?_
                rintro e w11 ⟨rfl, hb⟩
                clear CALL
                have hsz11 := hb.size
                replace HC := Lib.hid (HC.out.below hb (by omega))
                replace HX := Lib.hid (HX.out.below hb (by omega))
                replace HO := Lib.hid (HO.out.below hb (by omega))
                replace HY := Lib.hid (HY.out.below hb (by omega))
                replace HB1 := Lib.hid (HB1.out.below hb (by omega))
                replace HZ := Lib.hid (HZ.out.below hb (by omega))
                replace HK := Lib.hid (HK.out.below hb HK.out.lt)
                replace HB := Lib.hid (HB.out.trans (hb.mono (by omega)))

                clear hb
                obtain ⟨c0, c1, c2⟩ := HK.out.three_
                go_wp2
                go_ret
                exact ⟨rfl, HB.out⟩
          | some u =>
            have EU := Lib.hid (one_some ex hU)
            obtain ⟨b1, b2, b3⟩ := chain_back xs hU
            have EV := Lib.hid (one_some (d := true) (one_er xc b2) b1)
            have hul : u.length ≤ 400 := by omega
            clear hY hU hZ xs os ex eo xc a1 a2 a3 b1 b2 b3 d1 d2 d3
            cases b
            all_goals
              as_aux_lemma =>
                go_enter Try.func9, Try.ntmps9
                go_upto_region 1 with fail
                obtain ⟨w1, hW⟩ : ∃ W, w.alloc (.cells #[.slice t.Af t.nf t.kf, .slice t.Ab t.nb t.kb, .int .i64 t.c.share] 24) = W := ⟨_, rfl⟩
                have hb : Below w.heap.size w w1 := by rw [← hW]; exact (Below.refl _ _).alloc (Nat.le_refl _) _
                have hsz1 := hb.size
                replace HC := Lib.hid (HC.out.below hb (by omega))
                replace HX := Lib.hid (HX.out.below hb (by omega))
                replace HO := Lib.hid (HO.out.below hb (by omega))
                have HK : Hid (Blk w1 w.heap.size 24 #[.slice t.Af t.nf t.kf, .slice t.Ab t.nb t.kb, .int .i64 t.c.share]) := Lib.hid (by rw [← hW]; exact Blk.new _ _ _)
                have HB := Lib.hid hb
                try rw [hW]
                clear hW hb
                obtain ⟨c0, c1, c2⟩ := HK.out.three_
                go_wp2_with fail
                have CALL := valid_any w1.heap.size t Ax nx kx x 400 w1 (HC.out.more (by omega)) (HX.out.more (by omega)) (Nat.le_refl _) (by omega) hs
                rw [HV1.out] at CALL
                refine CALL.mono ?_
                rintro e w2 ⟨rfl, hb⟩
                clear CALL
                have hsz2 := hb.size
                replace HC := Lib.hid (HC.out.below hb (by omega))
                replace HX := Lib.hid (HX.out.below hb (by omega))
                replace HO := Lib.hid (HO.out.below hb (by omega))
                replace HK := Lib.hid (HK.out.below hb HK.out.lt)
                replace HB := Lib.hid (HB.out.trans (hb.mono (by omega)))

                clear hb
                obtain ⟨c0, c1, c2⟩ := HK.out.three_
                go_wp2_with fail
                have CALL := valid_any w2.heap.size t Ao no ko other 400 w2 (HC.out.more (by omega)) (HO.out.more (by omega)) (Nat.le_refl _) (by omega) hs
                rw [HV2.out] at CALL
                refine CALL.mono ?_
                rintro e w3 ⟨rfl, hb⟩
                clear CALL
                have hsz3 := hb.size
                replace HC := Lib.hid (HC.out.below hb (by omega))
                replace HX := Lib.hid (HX.out.below hb (by omega))
                replace HO := Lib.hid (HO.out.below hb (by omega))
                replace HK := Lib.hid (HK.out.below hb HK.out.lt)
                replace HB := Lib.hid (HB.out.trans (hb.mono (by omega)))

                clear hb
                obtain ⟨c0, c1, c2⟩ := HK.out.three_
                go_wp2_with fail
                have CALL := Apply_any w3.heap.size t Ax nx kx x w3 (HC.out.more (by omega)) (HX.out.more (by omega)) (Nat.le_refl _) (by omega) hs
                rw [EY.out.1, EY.out.2] at CALL
                refine CALL.mono ?_
                rintro e w4 ⟨v, rfl, ho, hb⟩
                clear CALL
                have hsz4 := hb.size
                replace HC := Lib.hid (HC.out.below hb (by omega))
                replace HX := Lib.hid (HX.out.below hb (by omega))
                replace HO := Lib.hid (HO.out.below hb (by omega))
                replace HK := Lib.hid (HK.out.below hb HK.out.lt)
                replace HB := Lib.hid (HB.out.trans (hb.mono (by omega)))
                obtain ⟨AY, cY, rfl, hL⟩ := li_own ho
                have HY := Lib.hid hL
                clear ho hL
                clear hb
                obtain ⟨c0, c1, c2⟩ := HK.out.three_
                go_wp2_with fail
                have CALL := Undo_any w4.heap.size t AY y.length cY y w4 (HC.out.more (by omega)) (HY.out.more (by omega)) (Nat.le_refl _) (by omega) hs
                rw [EB.out.1, EB.out.2] at CALL
                refine CALL.mono ?_
                rintro e w5 ⟨v, rfl, ho, hb⟩
                clear CALL
                have hsz5 := hb.size
                replace HC := Lib.hid (HC.out.below hb (by omega))
                replace HX := Lib.hid (HX.out.below hb (by omega))
                replace HO := Lib.hid (HO.out.below hb (by omega))
                replace HY := Lib.hid (HY.out.below hb (by omega))
                replace HK := Lib.hid (HK.out.below hb HK.out.lt)
                replace HB := Lib.hid (HB.out.trans (hb.mono (by omega)))
                obtain ⟨AB, cB, rfl, hL⟩ := li_own ho
                have HB1 := Lib.hid hL
                clear ho hL
                clear hb
                obtain ⟨c0, c1, c2⟩ := HK.out.three_
                go_wp2_with fail
                have CALL := refSame_any w5.heap.size AB Ax x.length cB nx kx x x w5 (HB1.out.more (by omega)) (HX.out.more (by omega)) (Nat.le_refl _) (by omega) (by omega)
                rw [SX.out] at CALL
                refine CALL.mono ?_
                rintro e w6 ⟨rfl, hb⟩
                clear CALL
                have hsz6 := hb.size
                replace HC := Lib.hid (HC.out.below hb (by omega))
                replace HX := Lib.hid (HX.out.below hb (by omega))
                replace HO := Lib.hid (HO.out.below hb (by omega))
                replace HY := Lib.hid (HY.out.below hb (by omega))
                replace HB1 := Lib.hid (HB1.out.below hb (by omega))
                replace HK := Lib.hid (HK.out.below hb HK.out.lt)
                replace HB := Lib.hid (HB.out.trans (hb.mono (by omega)))

                clear hb
                obtain ⟨c0, c1, c2⟩ := HK.out.three_
                go_wp2_with fail
                have CALL := Apply_any w6.heap.size t Ao no ko other w6 (HC.out.more (by omega)) (HO.out.more (by omega)) (Nat.le_refl _) (by omega) hs
                rw [EZ.out.1, EZ.out.2] at CALL
                refine CALL.mono ?_
                rintro e w7 ⟨v, rfl, ho, hb⟩
                clear CALL
                have hsz7 := hb.size
                replace HC := Lib.hid (HC.out.below hb (by omega))
                replace HX := Lib.hid (HX.out.below hb (by omega))
                replace HO := Lib.hid (HO.out.below hb (by omega))
                replace HY := Lib.hid (HY.out.below hb (by omega))
                replace HB1 := Lib.hid (HB1.out.below hb (by omega))
                replace HK := Lib.hid (HK.out.below hb HK.out.lt)
                replace HB := Lib.hid (HB.out.trans (hb.mono (by omega)))
                obtain ⟨AZ, cZ, rfl, hL⟩ := li_own ho
                have HZ := Lib.hid hL
                clear ho hL
                clear hb
                obtain ⟨c0, c1, c2⟩ := HK.out.three_
                go_wp2_with fail
                have CALL := refSame_any w7.heap.size AZ AY z.length cZ y.length cY z y w7 (HZ.out.more (by omega)) (HY.out.more (by omega)) (Nat.le_refl _) (by omega) (by omega)
                rw [SZ.out] at CALL
                refine CALL.mono ?_
                rintro e w8 ⟨rfl, hb⟩
                clear CALL
                have hsz8 := hb.size
                replace HC := Lib.hid (HC.out.below hb (by omega))
                replace HX := Lib.hid (HX.out.below hb (by omega))
                replace HO := Lib.hid (HO.out.below hb (by omega))
                replace HY := Lib.hid (HY.out.below hb (by omega))
                replace HB1 := Lib.hid (HB1.out.below hb (by omega))
                replace HZ := Lib.hid (HZ.out.below hb (by omega))
                replace HK := Lib.hid (HK.out.below hb HK.out.lt)
                replace HB := Lib.hid (HB.out.trans (hb.mono (by omega)))

                clear hb
                obtain ⟨c0, c1, c2⟩ := HK.out.three_
                go_wp2_with fail
                have CALL := refSame_any w8.heap.size Ao Ax no ko nx kx other x w8 (HO.out.more (by omega)) (HX.out.more (by omega)) (Nat.le_refl _) (by omega) (by omega)
                rw [SO.out] at CALL
                refine CALL.mono ?_
                rintro e w9 ⟨rfl, hb⟩
                clear CALL
                have hsz9 := hb.size
                replace HC := Lib.hid (HC.out.below hb (by omega))
                replace HX := Lib.hid (HX.out.below hb (by omega))
                replace HO := Lib.hid (HO.out.below hb (by omega))
                replace HY := Lib.hid (HY.out.below hb (by omega))
                replace HB1 := Lib.hid (HB1.out.below hb (by omega))
                replace HZ := Lib.hid (HZ.out.below hb (by omega))
                replace HK := Lib.hid (HK.out.below hb HK.out.lt)
                replace HB := Lib.hid (HB.out.trans (hb.mono (by omega)))

                clear hb
                obtain ⟨c0, c1, c2⟩ := HK.out.three_
                go_wp2_with fail
                have CALL := Undo_any w9.heap.size t Ax nx kx x w9 (HC.out.more (by omega)) (HX.out.more (by omega)) (Nat.le_refl _) (by omega) hs
                rw [EU.out.1, EU.out.2] at CALL
                refine CALL.mono ?_
                rintro e w10 ⟨v, rfl, ho, hb⟩
                clear CALL
                have hsz10 := hb.size
                replace HC := Lib.hid (HC.out.below hb (by omega))
                replace HX := Lib.hid (HX.out.below hb (by omega))
                replace HO := Lib.hid (HO.out.below hb (by omega))
                replace HY := Lib.hid (HY.out.below hb (by omega))
                replace HB1 := Lib.hid (HB1.out.below hb (by omega))
                replace HZ := Lib.hid (HZ.out.below hb (by omega))
                replace HK := Lib.hid (HK.out.below hb HK.out.lt)
                replace HB := Lib.hid (HB.out.trans (hb.mono (by omega)))
                obtain ⟨AU, cU, rfl, hL⟩ := li_own ho
                have HU := Lib.hid hL
                clear ho hL
                clear hb
                obtain ⟨c0, c1, c2⟩ := HK.out.three_
                go_wp2_with fail
                have CALL := Apply_any w10.heap.size t AU u.length cU u w10 (HC.out.more (by omega)) (HU.out.more (by omega)) (Nat.le_refl _) (by omega) hs
                rw [EV.out.1, EV.out.2] at CALL
                refine CALL.mono ?_
                rintro e w11 ⟨v, rfl, ho, hb⟩
                clear CALL
                have hsz11 := hb.size
                replace HC := Lib.hid (HC.out.below hb (by omega))
                replace HX := Lib.hid (HX.out.below hb (by omega))
                replace HO := Lib.hid (HO.out.below hb (by omega))
                replace HY := Lib.hid (HY.out.below hb (by omega))
                replace HB1 := Lib.hid (HB1.out.below hb (by omega))
                replace HZ := Lib.hid (HZ.out.below hb (by omega))
                replace HU := Lib.hid (HU.out.below hb (by omega))
                replace HK := Lib.hid (HK.out.below hb HK.out.lt)
                replace HB := Lib.hid (HB.out.trans (hb.mono (by omega)))
                obtain ⟨AV, cV, rfl, hL⟩ := li_own ho
                have HV := Lib.hid hL
                clear ho hL
                clear hb
                obtain ⟨c0, c1, c2⟩ := HK.out.three_
                go_wp2_with fail
                have CALL := refSame_any w11.heap.size AV Ax x.length cV nx kx x x w11 (HV.out.more (by omega)) (HX.out.more (by omega)) (Nat.le_refl _) (by omega) (by omega)
                rw [SX.out] at CALL
                refine CALL.mono ?_
                rintro e w12 ⟨rfl, hb⟩
                clear CALL
                have hsz12 := hb.size
                replace HC := Lib.hid (HC.out.below hb (by omega))
                replace HX := Lib.hid (HX.out.below hb (by omega))
                replace HO := Lib.hid (HO.out.below hb (by omega))
                replace HY := Lib.hid (HY.out.below hb (by omega))
                replace HB1 := Lib.hid (HB1.out.below hb (by omega))
                replace HZ := Lib.hid (HZ.out.below hb (by omega))
                replace HU := Lib.hid (HU.out.below hb (by omega))
                replace HV := Lib.hid (HV.out.below hb (by omega))
                replace HK := Lib.hid (HK.out.below hb HK.out.lt)
                replace HB := Lib.hid (HB.out.trans (hb.mono (by omega)))

                clear hb
                obtain ⟨c0, c1, c2⟩ := HK.out.three_
                go_wp2_with fail
                have CALL := works_any w12
                refine CALL.mono ?_
                rintro e w13 ⟨rfl, hb⟩
                clear CALL
                have hsz13 := hb.size
                replace HC := Lib.hid (HC.out.below hb (by omega))
                replace HX := Lib.hid (HX.out.below hb (by omega))
                replace HO := Lib.hid (HO.out.below hb (by omega))
                replace HY := Lib.hid (HY.out.below hb (by omega))
                replace HB1 := Lib.hid (HB1.out.below hb (by omega))
                replace HZ := Lib.hid (HZ.out.below hb (by omega))
                replace HU := Lib.hid (HU.out.below hb (by omega))
                replace HV := Lib.hid (HV.out.below hb (by omega))
                replace HK := Lib.hid (HK.out.below hb HK.out.lt)
                replace HB := Lib.hid (HB.out.trans (hb.mono (by omega)))

                clear hb
                obtain ⟨c0, c1, c2⟩ := HK.out.three_
                go_wp2
                go_ret
                exact ⟨rfl, HB.out⟩
end Go.Proofs.Ytlghgehbmlgacaa
