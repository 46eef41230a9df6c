/-
  The walk of FilterCausal: the first outputs are the outputs of the first inputs; zeros before a signal are zeros before its output.
-/
import Derived.Test.YtlghgehbmlgacaaUU
import Derived.Test.YtlghgehbmlgacaaUG
import Derived.Test.YtlghgehbmlgacaaUK
import Derived.Test.YtlghgehbmlgacaaW2
import Derived.Deep.DeepCutAuto
import Derived.Deep.RegionLaw
import Derived.Sort.AtCall
namespace Go.Proofs.Ytlghgehbmlgacaa
open Go.RowKit

theorem tmod_natU (f : Int) (n : Nat) (h : 0 ≤ f) : ∃ a : Nat, f.tmod ((n : Int) + 1) = (a : Int) ∧ a ≤ n := by
  refine ⟨(f.tmod ((n : Int) + 1)).toNat, ?_, ?_⟩
  · have := Int.tmod_nonneg ((n : Int) + 1) h; omega
  · have h1 := Int.tmod_lt_of_pos f (show 0 < (n : Int) + 1 by omega); have := Int.tmod_nonneg ((n : Int) + 1) h; omega

/-- Zeros that were made. -/
structure Zd (w W : World) (z : Nat) : Prop where
  own : W.ownsRow w.heap.size 2 1 (.slice (some ⟨w.heap.size, 0, none⟩) z z) z (nums (List.replicate z 0))
  bel : Below w.heap.size w W
theorem zd_a (w : World) (z : Nat) (hz : z ≤ 255) : Zd w (w.alloc (.cells (madeCells #[.int .i64 0] z) 2)) z := by
  have h := World.ownsRow_lit (base := w.heap.size) (e := 2) (size := 1) w (madeCells #[.int .i64 0] z) z (Nat.le_refl _) (by unfold maxLen; omega) (by rw [size_madeCells, Nat.mul_one])
  rw [nums_zeros] at h
  exact ⟨h, (Below.refl _ _).alloc (Nat.le_refl _) _⟩
theorem zd_ad (w : World) (z : Nat) (hz : z ≤ 255) : Zd w (w.alloc (.cells (madeCells #[.int .i64 0] z) 2)).drew z := by
  have h := zd_a w z hz
  exact ⟨h.own.drew, h.bel.drew⟩
theorem zd_da (w : World) (z : Nat) (hz : z ≤ 255) : Zd w (w.drew.alloc (.cells (madeCells #[.int .i64 0] z) 2)) z := by
  have h := World.ownsRow_lit (base := w.heap.size) (e := 2) (size := 1) w.drew (madeCells #[.int .i64 0] z) z (Nat.le_refl _) (by unfold maxLen; omega) (by rw [size_madeCells, Nat.mul_one])
  rw [nums_zeros] at h
  exact ⟨h, (Below.refl _ _).drew.alloc (Nat.le_refl _) _⟩
theorem Zd.grow {w W wA : World} {z : Nat} (h : Zd w W z) (hg : W.grownBy wA (some w.heap.size)) : Below w.heap.size w wA :=
  h.bel.trans (grown_below hg h.bel.size (fun k hk => by injection hk with hk; omega))

set_option maxRecDepth 100000 in
set_option maxHeartbeats 8000000 in
theorem causal_walk (B : Nat) (t : CV) (Ax : Option Addr) (nx kx : Nat) (x : List Int) (n zz : Int) (w : World) (hc : CI w B t) (hX : LI w B Ax nx x) (hB : B ≤ w.heap.size) (hlx : nx ≤ 9223372036854775807) (hkx : nx ≤ kx) (hs : t.nf ≤ 9223372036854775807 ∧ t.nb ≤ 9223372036854775807) (r1 : 0 ≤ n) (r2 : n ≤ 65535) (r3 : 0 ≤ zz) (r4 : zz ≤ 255) :
    Calls Try.prog 12 #[.agg #[.slice t.Af t.nf t.kf, .slice t.Ab t.nb t.kb, .int .i64 t.c.share], .slice Ax nx kx, .int .u16 n, .int .u8 zz] w fun e w' => e = .returned (.bool true) ∧ Below w.heap.size w w' := by
  have HC := Lib.hid (hc.more hB)
  have HX := Lib.hid (hX.more hB)
  have HNX := Lib.hid hX.1
  obtain ⟨z, rfl⟩ := Int.eq_ofNat_of_zero_le r3
  clear hc hX hB r3
  cases hv1 : vldF t.c x 200
  · have HV1 := Lib.hid hv1
    clear hv1
    go_enter Try.func12, Try.ntmps12
    go_upto_region 1 with fail
    obtain ⟨w1, hW⟩ : ∃ W, w.alloc (.cells #[.slice t.Af t.nf t.kf, .slice t.Ab t.nb t.kb, .int .i64 t.c.share] 24) = W := ⟨_, rfl⟩
    have hb : Below w.heap.size w w1 := by rw [← hW]; exact (Below.refl _ _).alloc (Nat.le_refl _) _
    have hsz1 := hb.size
    replace HC := Lib.hid (HC.out.below hb (by omega))
    replace HX := Lib.hid (HX.out.below hb (by omega))
    have HK : Hid (Blk w1 w.heap.size 24 #[.slice t.Af t.nf t.kf, .slice t.Ab t.nb t.kb, .int .i64 t.c.share]) := Lib.hid (by rw [← hW]; exact Blk.new _ _ _)
    have HB := Lib.hid hb
    try rw [hW]
    clear hW hb
    obtain ⟨c0, c1, c2⟩ := HK.out.three_
    go_wp2_with fail
    have CALL := valid_any w1.heap.size t Ax nx kx x 200 w1 (HC.out.more (by omega)) (HX.out.more (by omega)) (Nat.le_refl _) (by omega) hs
    rw [HV1.out] at CALL
    refine CALL.mono ?_
    rintro e w2 ⟨rfl, hb⟩
    clear CALL
    have hsz2 := hb.size
    replace HC := Lib.hid (HC.out.below hb (by omega))
    replace HX := Lib.hid (HX.out.below hb (by omega))
    replace HK := Lib.hid (HK.out.below hb HK.out.lt)
    replace HB := Lib.hid (HB.out.trans (hb.mono (by omega)))

    clear hb
    obtain ⟨c0, c1, c2⟩ := HK.out.three_
    go_wp2_with fail
    have CALL := works_any w2
    refine CALL.mono ?_
    rintro e w3 ⟨rfl, hb⟩
    clear CALL
    have hsz3 := hb.size
    replace HC := Lib.hid (HC.out.below hb (by omega))
    replace HX := Lib.hid (HX.out.below hb (by omega))
    replace HK := Lib.hid (HK.out.below hb HK.out.lt)
    replace HB := Lib.hid (HB.out.trans (hb.mono (by omega)))

    clear hb
    obtain ⟨c0, c1, c2⟩ := HK.out.three_
    go_wp2
    go_ret
    exact ⟨rfl, HB.out⟩
  · have HV1 := Lib.hid hv1
    obtain ⟨x4, xc, xs⟩ := vldF_ok hv1
    have ex := one_er xc xs
    have hnx : nx ≤ 200 := by have := HNX.out; omega
    obtain ⟨k, hk, hkn⟩ := tmod_natU n nx r1
    obtain ⟨nl, hnl⟩ : ∃ m, z + nx = m := ⟨_, rfl⟩
    have HNL := Lib.hid hnl
    have hz255 : z ≤ 255 := by omega
    have hlxk := ckX_take k xs
    have ep := one_er xc hlxk
    have el := one_er xc (ckX_lead z xs (by have := HNX.out; omega))
    obtain ⟨lx, hlx2⟩ : ∃ l, List.replicate z 0 ++ x = l := ⟨_, rfl⟩
    have hcl := chain_lead t.c x z
    rw [hlx2] at el hcl
    have HLX := Lib.hid hlx2.symm
    clear hlx2 r4 hlxk
    obtain ⟨i0, hi0, hz0, hz1, hz2⟩ := info_parts info_i64
    have hmk := fun W => run_make_rowN (P := Try.prog) 22 2 i0 _ Try.underlying22 hi0 hz0 .u8 .u8 z z (Nat.le_refl _) (by rw [hz2]; omega) (by omega) W
    have HI0 := Lib.hid hi0
    have HZ0 := Lib.hid hz0
    have HZ1 := Lib.hid hz1
    have HZ2 := Lib.hid hz2
    rw [hz1] at hmk
    simp only [Nat.mul_one] at hmk
    clear hi0 hz0 hz1 hz2
    have e1 : IntKind.i64.wrap n = n := IntWalk.i64_in _ (by omega)
    have e2 : IntKind.i64.wrap ((nx : Int) + 1) = (nx : Int) + 1 := IntWalk.i64_in _ (by omega)
    have e3 : ((nx : Int) + 1 == 0) = false := beq_eq_false_iff_ne.2 (by omega)
    have e4 : ¬ ((nx : Int) + 1 = 0) := by omega
    have e5 : IntKind.i64.wrap (k : Int) = (k : Int) := IntWalk.i64_in _ (by omega)
    have e6 : IntKind.i64.wrap (z : Int) = (z : Int) := IntWalk.i64_in _ (by omega)
    have e7 : IntKind.i64.wrap ((nx : Int) + (z : Int)) = (nl : Int) := by rw [show (nx : Int) + (z : Int) = (nl : Int) by omega]; exact IntWalk.i64_in _ (by omega)
    have sl0 := fun W => nums_to Ax k nx kx (by omega) W
    have HT := Lib.hid (HX.out.take k hkn)
    cases hY : chain true [t.c] x with
    | none =>
      have EY := Lib.hid (one_none ex hY)
      rw [hY] at hcl
      have EL := Lib.hid (one_none el hcl)
      cases hP : chain true [t.c] (x.take k) with
      | none =>
        have EP : Hid (oneRes true t.c (x.take k) = [] ∧ oneErr true t.c (x.take k) = 4) := Lib.hid (one_none ep hP)
        clear hY hP hcl ex ep el xs xc hv1
        as_aux_lemma =>
          go_enter Try.func12, Try.ntmps12
          go_upto_region 1 with fail
          obtain ⟨w1, hW⟩ : ∃ W, w.alloc (.cells #[.slice t.Af t.nf t.kf, .slice t.Ab t.nb t.kb, .int .i64 t.c.share] 24) = W := ⟨_, rfl⟩
          have hb : Below w.heap.size w w1 := by rw [← hW]; exact (Below.refl _ _).alloc (Nat.le_refl _) _
          have hsz1 := hb.size
          replace HC := Lib.hid (HC.out.below hb (by omega))
          replace HX := Lib.hid (HX.out.below hb (by omega))
          replace HT := Lib.hid (HT.out.below hb (by omega))
          have HK : Hid (Blk w1 w.heap.size 24 #[.slice t.Af t.nf t.kf, .slice t.Ab t.nb t.kb, .int .i64 t.c.share]) := Lib.hid (by rw [← hW]; exact Blk.new _ _ _)
          have HB := Lib.hid hb
          try rw [hW]
          clear hW hb
          obtain ⟨c0, c1, c2⟩ := HK.out.three_
          go_wp2_with fail
          have CALL := valid_any w1.heap.size t Ax nx kx x 200 w1 (HC.out.more (by omega)) (HX.out.more (by omega)) (Nat.le_refl _) (by omega) hs
          rw [HV1.out] at CALL
          refine CALL.mono ?_
          rintro e w2 ⟨rfl, hb⟩
          clear CALL
          have hsz2 := hb.size
          replace HC := Lib.hid (HC.out.below hb (by omega))
          replace HX := Lib.hid (HX.out.below hb (by omega))
          replace HT := Lib.hid (HT.out.below hb (by omega))
          replace HK := Lib.hid (HK.out.below hb HK.out.lt)
          replace HB := Lib.hid (HB.out.trans (hb.mono (by omega)))

          clear hb
          obtain ⟨c0, c1, c2⟩ := HK.out.three_
          go_wp2_with fail
          have CALL := Apply_any w2.heap.size t Ax nx kx x w2 (HC.out.more (by omega)) (HX.out.more (by omega)) (Nat.le_refl _) (by omega) hs
          rw [EY.out.1, EY.out.2] at CALL
          refine CALL.mono ?_
          rintro e w3 ⟨v, rfl, ho, hb⟩
          clear CALL
          have hsz3 := hb.size
          replace HC := Lib.hid (HC.out.below hb (by omega))
          replace HX := Lib.hid (HX.out.below hb (by omega))
          replace HT := Lib.hid (HT.out.below hb (by omega))
          replace HK := Lib.hid (HK.out.below hb HK.out.lt)
          replace HB := Lib.hid (HB.out.trans (hb.mono (by omega)))
          obtain ⟨AY, cY, rfl, hL, hleY⟩ := own_readsU ho
          clear ho hL hleY
          clear hb
          obtain ⟨c0, c1, c2⟩ := HK.out.three_
          go_upto_region 5 with fail
          go_cut [12, 13] (fun s12 s13 wx => s13 = .int .i64 4 ∧ Hid (Below w3.heap.size w3 wx))
          case first =>
            have HBD : Hid (Below w3.heap.size w3 w3.drew) := Lib.hid (Below.refl _ _).drew
            have HTD := Lib.hid ((HT.out.more (B' := w3.heap.size) (by omega)).below HBD.out (Nat.le_refl _))
            have HKD := Lib.hid (HK.out.below HBD.out HK.out.lt)
            have HCD := Lib.hid ((HC.out.more (B' := w3.heap.size) (by omega)).below HBD.out (Nat.le_refl _))
            obtain ⟨d0, d1, d2⟩ := HKD.out.three_
            have CALL := Apply_any w3.heap.size t Ax k kx (x.take k) w3.drew HCD.out HTD.out (Nat.le_refl _) (by omega) hs
            rw [EP.out.1, EP.out.2] at CALL
            have CALL := Lib.hid CALL
            go_region_with (go_at_call 23; refine CALL.out.mono ?_; rintro e wC ⟨v, rfl, ho, hb⟩; have HBC := Lib.hid (HBD.out.trans hb); clear ho hb)
            all_goals
              go_wp2_with fail
              go_meet
              exact ⟨rfl, HBC⟩
          case rest =>
            obtain ⟨rfl, hb⟩ := hcut
            obtain ⟨w4, hw_⟩ : ∃ W, W = wc := ⟨_, rfl⟩
            subst hw_
            have hb := hb.out
            have hsz4 := hb.size
            clear sl0
            clear HT
            replace HC := Lib.hid (HC.out.below hb (by omega))
            replace HX := Lib.hid (HX.out.below hb (by omega))
            replace HK := Lib.hid (HK.out.below hb HK.out.lt)
            replace HB := Lib.hid (HB.out.trans (hb.mono (by omega)))
            clear hb
            obtain ⟨c0, c1, c2⟩ := HK.out.three_
            go_upto_region 6 with fail
            go_cut [14, 15] (fun s14 s15 wx => s15 = .int .i64 4 ∧ Hid (Below w4.heap.size w4 wx))
            case first =>
              have HON := Lib.hid (show ∀ u ∈ nums x, u.oneCell' = true from fun u hu => by obtain ⟨q, _, rfl⟩ := List.mem_map.1 hu; rfl)
              have HX6 := Lib.hid (HX.out.more (B' := w4.heap.size) (by omega))
              have HC6 := Lib.hid (HC.out.more (B' := w4.heap.size) (by omega))
              have Za := Lib.hid (zd_a w4 z (by omega))
              have Zb := Lib.hid (zd_da w4 z (by omega))
              have Zc := Lib.hid (zd_ad w4 z (by omega))
              obtain ⟨a0, a1, a2⟩ := (HK.out.below Za.out.bel HK.out.lt).three_
              obtain ⟨b0, b1, b2⟩ := (HK.out.below Zb.out.bel HK.out.lt).three_
              obtain ⟨c0, c1, c2⟩ := (HK.out.below Zc.out.bel HK.out.lt).three_
              obtain ⟨d0, d1, d2⟩ := (HK.out.below (Below.refl _ _).drew HK.out.lt).three_
              obtain ⟨e0, e1, e2⟩ := HK.out.three_
              go_region_law (first | (refine step_append_any _ rfl (.tmp 45) (.tmp 46) 22 rfl w4.heap.size 2 i0 _ 1 8 Try.underlying22 HI0.out HZ0.out HZ1.out HZ2.out rfl (by omega) _ z (nums (List.replicate z 0)) rfl (by first | exact Za.out.own | exact Zb.out.own | exact Zc.out.own) w4.heap.size Ax nx kx (nums x) rfl (by first | exact (HX6.out.below Za.out.bel (Nat.le_refl _)).2 | exact (HX6.out.below Zb.out.bel (Nat.le_refl _)).2 | exact (HX6.out.below Zc.out.bel (Nat.le_refl _)).2) HON.out (by unfold maxLen; omega) (by omega) (by first | exact Za.out.bel.size | exact Zb.out.bel.size | exact Zc.out.bel.size) ?_; intro v' wA hown hgrow hblk; have hbA : Below w4.heap.size w4 wA := (by first | exact Za.out.grow hgrow | exact Zb.out.grow hgrow | exact Zc.out.grow hgrow); have hownA : wA.ownsRow w4.heap.size 2 1 v' (z + nx) (nums lx) := (by rw [HLX.out]; simpa [nums] using hown); rw [HNL.out] at hownA; obtain ⟨AX, cX, rfl, hLX, -⟩ := own_readsU hownA; have HLXA := Lib.hid hLX; have HBA := Lib.hid hbA; have HKA := Lib.hid (HK.out.below hbA HK.out.lt); have HCA := Lib.hid (HC6.out.below hbA (Nat.le_refl _)); clear hown hgrow hblk hownA hLX hbA; obtain ⟨c0, c1, c2⟩ := HKA.out.three_) | (go_simp; go_at_call 23; have CALL := Apply_any wA.heap.size t AX nl cX lx wA (HCA.out.more HBA.out.size) HLXA.out (Nat.le_refl _) (by omega) hs; rw [EL.out.1, EL.out.2] at CALL; refine CALL.mono ?_; rintro e wC ⟨v, rfl, ho, hb⟩; clear CALL; obtain ⟨AL, cL, rfl, hL, hleL⟩ := own_readsU ho; have HL := Lib.hid hL; have HBC := Lib.hid (HBA.out.trans (hb.mono HBA.out.size)); clear ho hL hb))
              all_goals
                go_wp2_with fail
                go_meet
                exact ⟨rfl, HBC⟩
            case rest =>
              obtain ⟨rfl, HBL⟩ := hcut
              obtain ⟨w5, hw_⟩ : ∃ W, W = wc := ⟨_, rfl⟩
              subst hw_
              have hsz5 := HBL.out.size
              replace HB := Lib.hid (HB.out.trans (HBL.out.mono (by omega)))
              clear HBL
              go_wp2_with fail
              have CALL := works_any w5
              refine CALL.mono ?_
              rintro e w6 ⟨rfl, hb⟩
              clear CALL
              have hsz6 := hb.size
              replace HB := Lib.hid (HB.out.trans (hb.mono (by omega)))

              clear hb
              go_wp2
              go_ret
              exact ⟨rfl, HB.out⟩
      | some p =>
        have EP := Lib.hid (one_some ep hP)
        clear hY hP hcl ex ep el xs xc hv1
        as_aux_lemma =>
          go_enter Try.func12, Try.ntmps12
          go_upto_region 1 with fail
          obtain ⟨w1, hW⟩ : ∃ W, w.alloc (.cells #[.slice t.Af t.nf t.kf, .slice t.Ab t.nb t.kb, .int .i64 t.c.share] 24) = W := ⟨_, rfl⟩
          have hb : Below w.heap.size w w1 := by rw [← hW]; exact (Below.refl _ _).alloc (Nat.le_refl _) _
          have hsz1 := hb.size
          replace HC := Lib.hid (HC.out.below hb (by omega))
          replace HX := Lib.hid (HX.out.below hb (by omega))
          replace HT := Lib.hid (HT.out.below hb (by omega))
          have HK : Hid (Blk w1 w.heap.size 24 #[.slice t.Af t.nf t.kf, .slice t.Ab t.nb t.kb, .int .i64 t.c.share]) := Lib.hid (by rw [← hW]; exact Blk.new _ _ _)
          have HB := Lib.hid hb
          try rw [hW]
          clear hW hb
          obtain ⟨c0, c1, c2⟩ := HK.out.three_
          go_wp2_with fail
          have CALL := valid_any w1.heap.size t Ax nx kx x 200 w1 (HC.out.more (by omega)) (HX.out.more (by omega)) (Nat.le_refl _) (by omega) hs
          rw [HV1.out] at CALL
          refine CALL.mono ?_
          rintro e w2 ⟨rfl, hb⟩
          clear CALL
          have hsz2 := hb.size
          replace HC := Lib.hid (HC.out.below hb (by omega))
          replace HX := Lib.hid (HX.out.below hb (by omega))
          replace HT := Lib.hid (HT.out.below hb (by omega))
          replace HK := Lib.hid (HK.out.below hb HK.out.lt)
          replace HB := Lib.hid (HB.out.trans (hb.mono (by omega)))

          clear hb
          obtain ⟨c0, c1, c2⟩ := HK.out.three_
          go_wp2_with fail
          have CALL := Apply_any w2.heap.size t Ax nx kx x w2 (HC.out.more (by omega)) (HX.out.more (by omega)) (Nat.le_refl _) (by omega) hs
          rw [EY.out.1, EY.out.2] at CALL
          refine CALL.mono ?_
          rintro e w3 ⟨v, rfl, ho, hb⟩
          clear CALL
          have hsz3 := hb.size
          replace HC := Lib.hid (HC.out.below hb (by omega))
          replace HX := Lib.hid (HX.out.below hb (by omega))
          replace HT := Lib.hid (HT.out.below hb (by omega))
          replace HK := Lib.hid (HK.out.below hb HK.out.lt)
          replace HB := Lib.hid (HB.out.trans (hb.mono (by omega)))
          obtain ⟨AY, cY, rfl, hL, hleY⟩ := own_readsU ho
          clear ho hL hleY
          clear hb
          obtain ⟨c0, c1, c2⟩ := HK.out.three_
          go_upto_region 5 with fail
          go_cut [12, 13] (fun s12 s13 wx => s13 = .int .i64 0 ∧ Hid (Below w3.heap.size w3 wx))
          case first =>
            have HBD : Hid (Below w3.heap.size w3 w3.drew) := Lib.hid (Below.refl _ _).drew
            have HTD := Lib.hid ((HT.out.more (B' := w3.heap.size) (by omega)).below HBD.out (Nat.le_refl _))
            have HKD := Lib.hid (HK.out.below HBD.out HK.out.lt)
            have HCD := Lib.hid ((HC.out.more (B' := w3.heap.size) (by omega)).below HBD.out (Nat.le_refl _))
            obtain ⟨d0, d1, d2⟩ := HKD.out.three_
            have CALL := Apply_any w3.heap.size t Ax k kx (x.take k) w3.drew HCD.out HTD.out (Nat.le_refl _) (by omega) hs
            rw [EP.out.1, EP.out.2] at CALL
            have CALL := Lib.hid CALL
            go_region_with (go_at_call 23; refine CALL.out.mono ?_; rintro e wC ⟨v, rfl, ho, hb⟩; have HBC := Lib.hid (HBD.out.trans hb); clear ho hb)
            all_goals
              go_wp2_with fail
              go_meet
              exact ⟨rfl, HBC⟩
          case rest =>
            obtain ⟨rfl, hb⟩ := hcut
            obtain ⟨w4, hw_⟩ : ∃ W, W = wc := ⟨_, rfl⟩
            subst hw_
            have hb := hb.out
            have hsz4 := hb.size
            clear sl0
            clear HT
            replace HC := Lib.hid (HC.out.below hb (by omega))
            replace HX := Lib.hid (HX.out.below hb (by omega))
            replace HK := Lib.hid (HK.out.below hb HK.out.lt)
            replace HB := Lib.hid (HB.out.trans (hb.mono (by omega)))
            clear hb
            obtain ⟨c0, c1, c2⟩ := HK.out.three_
            go_upto_region 6 with fail
            go_cut [14, 15] (fun s14 s15 wx => s15 = .int .i64 4 ∧ Hid (Below w4.heap.size w4 wx))
            case first =>
              have HON := Lib.hid (show ∀ u ∈ nums x, u.oneCell' = true from fun u hu => by obtain ⟨q, _, rfl⟩ := List.mem_map.1 hu; rfl)
              have HX6 := Lib.hid (HX.out.more (B' := w4.heap.size) (by omega))
              have HC6 := Lib.hid (HC.out.more (B' := w4.heap.size) (by omega))
              have Za := Lib.hid (zd_a w4 z (by omega))
              have Zb := Lib.hid (zd_da w4 z (by omega))
              have Zc := Lib.hid (zd_ad w4 z (by omega))
              obtain ⟨a0, a1, a2⟩ := (HK.out.below Za.out.bel HK.out.lt).three_
              obtain ⟨b0, b1, b2⟩ := (HK.out.below Zb.out.bel HK.out.lt).three_
              obtain ⟨c0, c1, c2⟩ := (HK.out.below Zc.out.bel HK.out.lt).three_
              obtain ⟨d0, d1, d2⟩ := (HK.out.below (Below.refl _ _).drew HK.out.lt).three_
              obtain ⟨e0, e1, e2⟩ := HK.out.three_
              go_region_law (first | (refine step_append_any _ rfl (.tmp 45) (.tmp 46) 22 rfl w4.heap.size 2 i0 _ 1 8 Try.underlying22 HI0.out HZ0.out HZ1.out HZ2.out rfl (by omega) _ z (nums (List.replicate z 0)) rfl (by first | exact Za.out.own | exact Zb.out.own | exact Zc.out.own) w4.heap.size Ax nx kx (nums x) rfl (by first | exact (HX6.out.below Za.out.bel (Nat.le_refl _)).2 | exact (HX6.out.below Zb.out.bel (Nat.le_refl _)).2 | exact (HX6.out.below Zc.out.bel (Nat.le_refl _)).2) HON.out (by unfold maxLen; omega) (by omega) (by first | exact Za.out.bel.size | exact Zb.out.bel.size | exact Zc.out.bel.size) ?_; intro v' wA hown hgrow hblk; have hbA : Below w4.heap.size w4 wA := (by first | exact Za.out.grow hgrow | exact Zb.out.grow hgrow | exact Zc.out.grow hgrow); have hownA : wA.ownsRow w4.heap.size 2 1 v' (z + nx) (nums lx) := (by rw [HLX.out]; simpa [nums] using hown); rw [HNL.out] at hownA; obtain ⟨AX, cX, rfl, hLX, -⟩ := own_readsU hownA; have HLXA := Lib.hid hLX; have HBA := Lib.hid hbA; have HKA := Lib.hid (HK.out.below hbA HK.out.lt); have HCA := Lib.hid (HC6.out.below hbA (Nat.le_refl _)); clear hown hgrow hblk hownA hLX hbA; obtain ⟨c0, c1, c2⟩ := HKA.out.three_) | (go_simp; go_at_call 23; have CALL := Apply_any wA.heap.size t AX nl cX lx wA (HCA.out.more HBA.out.size) HLXA.out (Nat.le_refl _) (by omega) hs; rw [EL.out.1, EL.out.2] at CALL; refine CALL.mono ?_; rintro e wC ⟨v, rfl, ho, hb⟩; clear CALL; obtain ⟨AL, cL, rfl, hL, hleL⟩ := own_readsU ho; have HL := Lib.hid hL; have HBC := Lib.hid (HBA.out.trans (hb.mono HBA.out.size)); clear ho hL hb))
              all_goals
                go_wp2_with fail
                go_meet
                exact ⟨rfl, HBC⟩
            case rest =>
              obtain ⟨rfl, HBL⟩ := hcut
              obtain ⟨w5, hw_⟩ : ∃ W, W = wc := ⟨_, rfl⟩
              subst hw_
              have hsz5 := HBL.out.size
              replace HB := Lib.hid (HB.out.trans (HBL.out.mono (by omega)))
              clear HBL
              go_wp2_with fail
              have CALL := works_any w5
              refine CALL.mono ?_
              rintro e w6 ⟨rfl, hb⟩
              clear CALL
              have hsz6 := hb.size
              replace HB := Lib.hid (HB.out.trans (hb.mono (by omega)))

              clear hb
              go_wp2
              go_ret
              exact ⟨rfl, HB.out⟩
    | some y =>
      have EY := Lib.hid (one_some ex hY)
      obtain ⟨_, _, hyl⟩ := chain_back xs hY
      rw [hY] at hcl
      obtain ⟨ly, hly⟩ : ∃ l, List.replicate z 0 ++ y = l := ⟨_, rfl⟩
      have EL : Hid (oneRes true t.c lx = ly ∧ oneErr true t.c lx = 0) := Lib.hid (by rw [← hly]; exact one_some el hcl)
      have EP := Lib.hid (one_some ep (chain_take k hY))
      obtain ⟨ny, hny⟩ : ∃ m, y.length = m := ⟨_, rfl⟩
      have hnyx : nx = ny := by have := HNX.out; omega
      subst hnyx
      have HNL2 : Hid (ly.length = nl) := Lib.hid (by rw [← hly]; simp; omega)
      have HLY : Hid (∀ j (_ : j < z) (h2 : j < ly.length), ly[j] = 0) := Lib.hid (fun j h h2 => by
        subst hly
        rw [List.getElem_append_left (by simpa using h), List.getElem_replicate])
      have hdl : ly.drop z = y := by rw [← hly]; simp
      have hny2 : (y.take k).length = k := by rw [List.length_take]; omega
      have SX1 := Lib.hid (sameI_self (y.take k))
      have SX2 := Lib.hid (sameI_self y)
      clear hY hcl ex ep el xs xc hv1 hly hyl
      as_aux_lemma =>
        go_enter Try.func12, Try.ntmps12
        go_upto_region 1 with fail
        obtain ⟨w1, hW⟩ : ∃ W, w.alloc (.cells #[.slice t.Af t.nf t.kf, .slice t.Ab t.nb t.kb, .int .i64 t.c.share] 24) = W := ⟨_, rfl⟩
        have hb : Below w.heap.size w w1 := by rw [← hW]; exact (Below.refl _ _).alloc (Nat.le_refl _) _
        have hsz1 := hb.size
        replace HC := Lib.hid (HC.out.below hb (by omega))
        replace HX := Lib.hid (HX.out.below hb (by omega))
        replace HT := Lib.hid (HT.out.below hb (by omega))
        have HK : Hid (Blk w1 w.heap.size 24 #[.slice t.Af t.nf t.kf, .slice t.Ab t.nb t.kb, .int .i64 t.c.share]) := Lib.hid (by rw [← hW]; exact Blk.new _ _ _)
        have HB := Lib.hid hb
        try rw [hW]
        clear hW hb
        obtain ⟨c0, c1, c2⟩ := HK.out.three_
        go_wp2_with fail
        have CALL := valid_any w1.heap.size t Ax nx kx x 200 w1 (HC.out.more (by omega)) (HX.out.more (by omega)) (Nat.le_refl _) (by omega) hs
        rw [HV1.out] at CALL
        refine CALL.mono ?_
        rintro e w2 ⟨rfl, hb⟩
        clear CALL
        have hsz2 := hb.size
        replace HC := Lib.hid (HC.out.below hb (by omega))
        replace HX := Lib.hid (HX.out.below hb (by omega))
        replace HT := Lib.hid (HT.out.below hb (by omega))
        replace HK := Lib.hid (HK.out.below hb HK.out.lt)
        replace HB := Lib.hid (HB.out.trans (hb.mono (by omega)))

        clear hb
        obtain ⟨c0, c1, c2⟩ := HK.out.three_
        go_wp2_with fail
        have CALL := Apply_any w2.heap.size t Ax nx kx x w2 (HC.out.more (by omega)) (HX.out.more (by omega)) (Nat.le_refl _) (by omega) hs
        rw [EY.out.1, EY.out.2] at CALL
        refine CALL.mono ?_
        rintro e w3 ⟨v, rfl, ho, hb⟩
        clear CALL
        have hsz3 := hb.size
        replace HC := Lib.hid (HC.out.below hb (by omega))
        replace HX := Lib.hid (HX.out.below hb (by omega))
        replace HT := Lib.hid (HT.out.below hb (by omega))
        replace HK := Lib.hid (HK.out.below hb HK.out.lt)
        replace HB := Lib.hid (HB.out.trans (hb.mono (by omega)))
        rw [hny] at ho
        obtain ⟨AY, cY, rfl, hL, hleY⟩ := own_readsU ho
        have HY := Lib.hid hL
        clear ho hL
        clear hb
        obtain ⟨c0, c1, c2⟩ := HK.out.three_
        go_upto_region 5 with fail
        go_cut [12, 13] (fun s12 s13 wx => ∃ (AP : Option Addr) (cP : Nat), s12 = .slice AP k cP ∧ s13 = .int .i64 0 ∧ Hid (LI wx wx.heap.size AP k (y.take k)) ∧ Hid (Below w3.heap.size w3 wx))
        case first =>
          have HBD : Hid (Below w3.heap.size w3 w3.drew) := Lib.hid (Below.refl _ _).drew
          have HTD := Lib.hid ((HT.out.more (B' := w3.heap.size) (by omega)).below HBD.out (Nat.le_refl _))
          have HKD := Lib.hid (HK.out.below HBD.out HK.out.lt)
          have HCD := Lib.hid ((HC.out.more (B' := w3.heap.size) (by omega)).below HBD.out (Nat.le_refl _))
          obtain ⟨d0, d1, d2⟩ := HKD.out.three_
          have CALL := Apply_any w3.heap.size t Ax k kx (x.take k) w3.drew HCD.out HTD.out (Nat.le_refl _) (by omega) hs
          rw [EP.out.1, EP.out.2] at CALL
          have CALL := Lib.hid CALL
          go_region_with (go_at_call 23; refine CALL.out.mono ?_; rintro e wC ⟨v, rfl, ho, hb⟩; have HBC := Lib.hid (HBD.out.trans hb); rw [hny2] at ho; obtain ⟨AP, cP, rfl, hL, -⟩ := own_readsU ho; have HP := Lib.hid hL; clear ho hL hb)
          all_goals
            go_wp2_with fail
            go_meet
            exact ⟨AP, cP, rfl, rfl, HP, HBC⟩
        case rest =>
          obtain ⟨AP, cP, rfl, rfl, HP, hb⟩ := hcut
          obtain ⟨w4, hw_⟩ : ∃ W, W = wc := ⟨_, rfl⟩
          subst hw_
          have hb := hb.out
          have hsz4 := hb.size
          clear sl0
          clear HT
          replace HC := Lib.hid (HC.out.below hb (by omega))
          replace HX := Lib.hid (HX.out.below hb (by omega))
          replace HY := Lib.hid (HY.out.below hb (by omega))
          replace HK := Lib.hid (HK.out.below hb HK.out.lt)
          replace HB := Lib.hid (HB.out.trans (hb.mono (by omega)))
          clear hb
          obtain ⟨c0, c1, c2⟩ := HK.out.three_
          go_upto_region 6 with fail
          go_cut [14, 15] (fun s14 s15 wx => ∃ (AL : Option Addr) (cL : Nat), s14 = .slice AL nl cL ∧ s15 = .int .i64 0 ∧ nl ≤ cL ∧ Hid (LI wx wx.heap.size AL nl ly) ∧ Hid (Below w4.heap.size w4 wx))
          case first =>
            have HON := Lib.hid (show ∀ u ∈ nums x, u.oneCell' = true from fun u hu => by obtain ⟨q, _, rfl⟩ := List.mem_map.1 hu; rfl)
            have HX6 := Lib.hid (HX.out.more (B' := w4.heap.size) (by omega))
            have HC6 := Lib.hid (HC.out.more (B' := w4.heap.size) (by omega))
            have Za := Lib.hid (zd_a w4 z (by omega))
            have Zb := Lib.hid (zd_da w4 z (by omega))
            have Zc := Lib.hid (zd_ad w4 z (by omega))
            obtain ⟨a0, a1, a2⟩ := (HK.out.below Za.out.bel HK.out.lt).three_
            obtain ⟨b0, b1, b2⟩ := (HK.out.below Zb.out.bel HK.out.lt).three_
            obtain ⟨c0, c1, c2⟩ := (HK.out.below Zc.out.bel HK.out.lt).three_
            obtain ⟨d0, d1, d2⟩ := (HK.out.below (Below.refl _ _).drew HK.out.lt).three_
            obtain ⟨e0, e1, e2⟩ := HK.out.three_
            go_region_law (first | (refine step_append_any _ rfl (.tmp 45) (.tmp 46) 22 rfl w4.heap.size 2 i0 _ 1 8 Try.underlying22 HI0.out HZ0.out HZ1.out HZ2.out rfl (by omega) _ z (nums (List.replicate z 0)) rfl (by first | exact Za.out.own | exact Zb.out.own | exact Zc.out.own) w4.heap.size Ax nx kx (nums x) rfl (by first | exact (HX6.out.below Za.out.bel (Nat.le_refl _)).2 | exact (HX6.out.below Zb.out.bel (Nat.le_refl _)).2 | exact (HX6.out.below Zc.out.bel (Nat.le_refl _)).2) HON.out (by unfold maxLen; omega) (by omega) (by first | exact Za.out.bel.size | exact Zb.out.bel.size | exact Zc.out.bel.size) ?_; intro v' wA hown hgrow hblk; have hbA : Below w4.heap.size w4 wA := (by first | exact Za.out.grow hgrow | exact Zb.out.grow hgrow | exact Zc.out.grow hgrow); have hownA : wA.ownsRow w4.heap.size 2 1 v' (z + nx) (nums lx) := (by rw [HLX.out]; simpa [nums] using hown); rw [HNL.out] at hownA; obtain ⟨AX, cX, rfl, hLX, -⟩ := own_readsU hownA; have HLXA := Lib.hid hLX; have HBA := Lib.hid hbA; have HKA := Lib.hid (HK.out.below hbA HK.out.lt); have HCA := Lib.hid (HC6.out.below hbA (Nat.le_refl _)); clear hown hgrow hblk hownA hLX hbA; obtain ⟨c0, c1, c2⟩ := HKA.out.three_) | (go_simp; go_at_call 23; have CALL := Apply_any wA.heap.size t AX nl cX lx wA (HCA.out.more HBA.out.size) HLXA.out (Nat.le_refl _) (by omega) hs; rw [EL.out.1, EL.out.2] at CALL; refine CALL.mono ?_; rintro e wC ⟨v, rfl, ho, hb⟩; clear CALL; obtain ⟨AL, cL, rfl, hL, hleL⟩ := own_readsU ho; have HL := Lib.hid hL; have HBC := Lib.hid (HBA.out.trans (hb.mono HBA.out.size)); clear ho hL hb))
            all_goals
              go_wp2_with fail
              go_meet
              exact ⟨AL, cL, by rw [← HNL2.out], rfl, by rw [← HNL2.out]; exact hleL, by rw [← HNL2.out]; exact HL, HBC⟩
          case rest =>
            obtain ⟨AL, cL, rfl, rfl, hleL, HL, HBL⟩ := hcut
            obtain ⟨w5, hw_⟩ : ∃ W, W = wc := ⟨_, rfl⟩
            subst hw_
            have hsz5 := HBL.out.size
            replace HY := Lib.hid ((HY.out.more (B' := w4.heap.size) (by omega)).below HBL.out (Nat.le_refl _))
            replace HP := Lib.hid ((HP.out.more (B' := w4.heap.size) (by omega)).below HBL.out (Nat.le_refl _))
            replace HB := Lib.hid (HB.out.trans (HBL.out.mono (by omega)))
            clear HBL
            have sl1 := fun W => nums_to AY k nx cY (by omega) W
            have sl2 := fun W => nums_from AL .u8 z nl cL (by omega) W
            go_wp2_with fail
            go_loop [16] (fun i => ∃ j : Nat, j ≤ z ∧ i = .int .i64 j) (fun i => z - (intOf i).toNat)
            case atStart => exact ⟨0, Nat.zero_le _, rfl⟩
            case round =>
              obtain ⟨j, hj, rfl⟩ := hrel
              by_cases hlt : j < z
              · obtain ⟨ad, hA, _, p1⟩ := HL.out.at_ (k := j) (by rw [← HL.out.1]; omega)
                obtain rfl := hA
                rw [HLY.out j hlt _] at p1
                have hjl : j < nl := by omega
                go_wp2
                go_round
                case rel => exact ⟨j + 1, by omega, by go_num⟩
                case measure => simp [intOf]; omega
              · have hjz : j = z := by omega
                clear hj
                have HYK := Lib.hid (HY.out.take k (by omega))
                have HLD := Lib.hid (HL.out.drop z (by omega) hleL)
                rw [hdl] at HLD
                go_wp2_with fail
                have CALL := refSame_any w5.heap.size AP AY k cP k cY (y.take k) (y.take k) w5 (HP.out.more (by omega)) (HYK.out.more (by omega)) (Nat.le_refl _) (by omega) (by omega)
                rw [SX1.out] at CALL
                refine CALL.mono ?_
                rintro e w6 ⟨rfl, hb⟩
                clear CALL
                have hsz6 := hb.size
                replace HY := Lib.hid (HY.out.below hb (by omega))
                replace HP := Lib.hid (HP.out.below hb (by omega))
                replace HL := Lib.hid (HL.out.below hb (by omega))
                replace HYK := Lib.hid (HYK.out.below hb (by omega))
                replace HLD := Lib.hid (HLD.out.below hb (by omega))
                replace HB := Lib.hid (HB.out.trans (hb.mono (by omega)))

                clear hb
                go_wp2_with fail
                have CALL := refSame_any w6.heap.size (restA AL cL z) AY (nl - z) (cL - z) nx cY y y w6 (HLD.out.more (by omega)) (HY.out.more (by omega)) (Nat.le_refl _) (by omega) (by omega)
                rw [SX2.out] at CALL
                refine CALL.mono ?_
                rintro e w7 ⟨rfl, hb⟩
                clear CALL
                have hsz7 := hb.size
                replace HY := Lib.hid (HY.out.below hb (by omega))
                replace HP := Lib.hid (HP.out.below hb (by omega))
                replace HL := Lib.hid (HL.out.below hb (by omega))
                replace HYK := Lib.hid (HYK.out.below hb (by omega))
                replace HLD := Lib.hid (HLD.out.below hb (by omega))
                replace HB := Lib.hid (HB.out.trans (hb.mono (by omega)))

                clear hb
                go_wp2_with fail
                have CALL := works_any w7
                refine CALL.mono ?_
                rintro e w8 ⟨rfl, hb⟩
                clear CALL
                have hsz8 := hb.size
                replace HY := Lib.hid (HY.out.below hb (by omega))
                replace HP := Lib.hid (HP.out.below hb (by omega))
                replace HL := Lib.hid (HL.out.below hb (by omega))
                replace HYK := Lib.hid (HYK.out.below hb (by omega))
                replace HLD := Lib.hid (HLD.out.below hb (by omega))
                replace HB := Lib.hid (HB.out.trans (hb.mono (by omega)))

                clear hb
                go_wp2
                go_ret
                exact ⟨rfl, HB.out⟩
end Go.Proofs.Ytlghgehbmlgacaa
