/-
  The walk of FilterMono: mono stays as it is, what is narrowed is widened again, what is split is joined again.
-/
import Derived.Test.YtlghgehbmlgacaaQR
import Derived.Test.YtlghgehbmlgacaaUI
import Derived.Deep.RegionHeld3
namespace Go.Proofs.Ytlghgehbmlgacaa
open Go.RowKit

set_option maxRecDepth 100000 in
set_option maxHeartbeats 8000000 in
theorem mono_walk (B : Nat) (t : CV) (Ap : Option Addr) (np kp : Nat) (p : List Smp) (w : World) (hc : CI w B t) (hp : RS w B Ap np p) (hB : B ≤ w.heap.size) (l1 : np ≤ 9223372036854775807) (hs : t.nf ≤ 9223372036854775807 ∧ t.nb ≤ 9223372036854775807) :
    Calls Try.prog 13 #[.agg #[.slice t.Af t.nf t.kf, .slice t.Ab t.nb t.kb, .int .i64 t.c.share], .slice Ap np kp] w fun e w' => e = .returned (.bool true) ∧ Below w.heap.size w w' := by
  have HC := Lib.hid (hc.more hB)
  have HP := Lib.hid (hp.more hB)
  have HNP := Lib.hid hp.1
  clear hp hc hB
  by_cases h200 : 200 < np
  · skip
    go_enter Try.func13, Try.ntmps13
    go_upto_region 1 with fail
    obtain ⟨w1, hW⟩ : ∃ W, w.alloc (.cells #[.slice t.Af t.nf t.kf, .slice t.Ab t.nb t.kb, .int .i64 t.c.share] 24) = W := ⟨_, rfl⟩
    have hb : Below w.heap.size w w1 := by rw [← hW]; exact (Below.refl _ _).alloc (Nat.le_refl _) _
    have hsz1 := hb.size
    replace HC := Lib.hid (HC.out.below hb (by omega))
    replace HP := Lib.hid (HP.out.below hb (by omega))
    have HK : Hid (Blk w1 w.heap.size 24 #[.slice t.Af t.nf t.kf, .slice t.Ab t.nb t.kb, .int .i64 t.c.share]) := Lib.hid (by rw [← hW]; exact Blk.new _ _ _)
    have HB := Lib.hid hb
    try rw [hW]
    clear hW hb
    obtain ⟨c0, c1, c2⟩ := HK.out.three_
    go_wp2_with fail
    have CALL := works_any w1
    refine CALL.mono ?_
    rintro e w2 ⟨rfl, hb⟩
    clear CALL
    have hsz2 := hb.size
    replace HC := Lib.hid (HC.out.below hb (by omega))
    replace HP := Lib.hid (HP.out.below hb (by omega))
    replace HK := Lib.hid (HK.out.below hb HK.out.lt)
    replace HB := Lib.hid (HB.out.trans (hb.mono (by omega)))

    clear hb
    obtain ⟨c0, c1, c2⟩ := HK.out.three_
    go_wp2
    go_ret
    exact ⟨rfl, HB.out⟩
  obtain ⟨ec, hec⟩ : ∃ e, ckV t.c = e := ⟨_, rfl⟩
  have HCC := Lib.hid hec
  by_cases hz1 : ec = 0
  case neg =>
    have hz2 : (ec != 0) = true := by simpa using hz1
    clear hec
    go_enter Try.func13, Try.ntmps13
    go_upto_region 1 with fail
    obtain ⟨w1, hW⟩ : ∃ W, w.alloc (.cells #[.slice t.Af t.nf t.kf, .slice t.Ab t.nb t.kb, .int .i64 t.c.share] 24) = W := ⟨_, rfl⟩
    have hb : Below w.heap.size w w1 := by rw [← hW]; exact (Below.refl _ _).alloc (Nat.le_refl _) _
    have hsz1 := hb.size
    replace HC := Lib.hid (HC.out.below hb (by omega))
    replace HP := Lib.hid (HP.out.below hb (by omega))
    have HK : Hid (Blk w1 w.heap.size 24 #[.slice t.Af t.nf t.kf, .slice t.Ab t.nb t.kb, .int .i64 t.c.share]) := Lib.hid (by rw [← hW]; exact Blk.new _ _ _)
    have HB := Lib.hid hb
    try rw [hW]
    clear hW hb
    obtain ⟨c0, c1, c2⟩ := HK.out.three_
    go_wp2_with fail
    have CALL := refCheckCurve_any w1.heap.size t w1 (HC.out.more (by omega)) (Nat.le_refl _) hs
    rw [HCC.out] at CALL
    refine CALL.mono ?_
    rintro e w2 ⟨rfl, hb⟩
    clear CALL
    have hsz2 := hb.size
    replace HC := Lib.hid (HC.out.below hb (by omega))
    replace HP := Lib.hid (HP.out.below hb (by omega))
    replace HK := Lib.hid (HK.out.below hb HK.out.lt)
    replace HB := Lib.hid (HB.out.trans (hb.mono (by omega)))

    clear hb
    obtain ⟨c0, c1, c2⟩ := HK.out.three_
    go_wp2_with fail
    have CALL := works_any w2
    refine CALL.mono ?_
    rintro e w3 ⟨rfl, hb⟩
    clear CALL
    have hsz3 := hb.size
    replace HC := Lib.hid (HC.out.below hb (by omega))
    replace HP := Lib.hid (HP.out.below hb (by omega))
    replace HK := Lib.hid (HK.out.below hb HK.out.lt)
    replace HB := Lib.hid (HB.out.trans (hb.mono (by omega)))

    clear hb
    obtain ⟨c0, c1, c2⟩ := HK.out.three_
    go_wp2
    go_ret
    exact ⟨rfl, HB.out⟩
  subst hz1
  obtain ⟨eq, heq⟩ : ∃ e, ckQ p = e := ⟨_, rfl⟩
  have HQQ := Lib.hid heq
  by_cases hz3 : eq = 0
  case neg =>
    have hz4 : (eq != 0) = true := by simpa using hz3
    clear hec heq
    go_enter Try.func13, Try.ntmps13
    go_upto_region 1 with fail
    obtain ⟨w1, hW⟩ : ∃ W, w.alloc (.cells #[.slice t.Af t.nf t.kf, .slice t.Ab t.nb t.kb, .int .i64 t.c.share] 24) = W := ⟨_, rfl⟩
    have hb : Below w.heap.size w w1 := by rw [← hW]; exact (Below.refl _ _).alloc (Nat.le_refl _) _
    have hsz1 := hb.size
    replace HC := Lib.hid (HC.out.below hb (by omega))
    replace HP := Lib.hid (HP.out.below hb (by omega))
    have HK : Hid (Blk w1 w.heap.size 24 #[.slice t.Af t.nf t.kf, .slice t.Ab t.nb t.kb, .int .i64 t.c.share]) := Lib.hid (by rw [← hW]; exact Blk.new _ _ _)
    have HB := Lib.hid hb
    try rw [hW]
    clear hW hb
    obtain ⟨c0, c1, c2⟩ := HK.out.three_
    go_wp2_with fail
    have CALL := refCheckCurve_any w1.heap.size t w1 (HC.out.more (by omega)) (Nat.le_refl _) hs
    rw [HCC.out] at CALL
    refine CALL.mono ?_
    rintro e w2 ⟨rfl, hb⟩
    clear CALL
    have hsz2 := hb.size
    replace HC := Lib.hid (HC.out.below hb (by omega))
    replace HP := Lib.hid (HP.out.below hb (by omega))
    replace HK := Lib.hid (HK.out.below hb HK.out.lt)
    replace HB := Lib.hid (HB.out.trans (hb.mono (by omega)))

    clear hb
    obtain ⟨c0, c1, c2⟩ := HK.out.three_
    go_wp2_with fail
    have CALL := refProgramme_any w2.heap.size Ap np kp p w2 (HP.out.more (by omega)) (by omega)
    rw [HQQ.out] at CALL
    refine CALL.mono ?_
    rintro e w_ ⟨rfl, rfl⟩
    clear CALL
    go_wp2_with fail
    have CALL := works_any w2
    refine CALL.mono ?_
    rintro e w3 ⟨rfl, hb⟩
    clear CALL
    have hsz3 := hb.size
    replace HC := Lib.hid (HC.out.below hb (by omega))
    replace HP := Lib.hid (HP.out.below hb (by omega))
    replace HK := Lib.hid (HK.out.below hb HK.out.lt)
    replace HB := Lib.hid (HB.out.trans (hb.mono (by omega)))

    clear hb
    obtain ⟨c0, c1, c2⟩ := HK.out.three_
    go_wp2
    go_ret
    exact ⟨rfl, HB.out⟩
  subst hz3
  obtain ⟨i0, hi0, hz0, hz1, hz2⟩ := info_parts info_smp
  have HI0 := Lib.hid hi0
  have HZ0 := Lib.hid hz0
  have HZ1 := Lib.hid hz1
  have HZ2 := Lib.hid hz2
  clear hi0 hz0 hz1 hz2
  have EA := Lib.hid (sd_mono (d := true) hec heq)
  have EB := Lib.hid (sd_mono (d := false) hec heq)
  have ES : Hid (splM p = spM p ∧ splD p = spD p ∧ ckQ p = 0) := Lib.hid ⟨(spl_ok heq).1, (spl_ok heq).2, heq⟩
  have EJ := Lib.hid (jo_sp heq)
  have SMM := Lib.hid (sameI_self (spM p))
  have hlM : (monoL p).length ≤ 200 := by unfold monoL; rw [List.length_map]; have := HNP.out; omega
  have hlP : p.length ≤ 200 := by have := HNP.out; omega
  have hlS : (spM p).length ≤ 200 := by rw [(sp_len p).1]; exact hlP
  have hlD : (spD p).length ≤ 200 := by rw [(sp_len p).2]; exact hlP
  have F1 := Lib.hid (sd_err (d := true) hec heq)
  have F2 := Lib.hid (sd_err (d := false) hec heq)
  have K1 := Lib.hid (fun h => sd_back (d := true) hec heq h)
  have K2 := Lib.hid (fun h => sd_back (d := false) hec heq h)
  clear hec heq
  go_enter Try.func13, Try.ntmps13
  go_upto_region 1 with fail
  obtain ⟨w1, hW⟩ : ∃ W, w.alloc (.cells #[.slice t.Af t.nf t.kf, .slice t.Ab t.nb t.kb, .int .i64 t.c.share] 24) = W := ⟨_, rfl⟩
  have hb : Below w.heap.size w w1 := by rw [← hW]; exact (Below.refl _ _).alloc (Nat.le_refl _) _
  have hsz1 := hb.size
  replace HC := Lib.hid (HC.out.below hb (by omega))
  replace HP := Lib.hid (HP.out.below hb (by omega))
  have HK : Hid (Blk w1 w.heap.size 24 #[.slice t.Af t.nf t.kf, .slice t.Ab t.nb t.kb, .int .i64 t.c.share]) := Lib.hid (by rw [← hW]; exact Blk.new _ _ _)
  have HB := Lib.hid hb
  try rw [hW]
  clear hW hb
  obtain ⟨c0, c1, c2⟩ := HK.out.three_
  go_wp2_with fail
  have CALL := refCheckCurve_any w1.heap.size t w1 (HC.out.more (by omega)) (Nat.le_refl _) hs
  rw [HCC.out] at CALL
  refine CALL.mono ?_
  rintro e w2 ⟨rfl, hb⟩
  clear CALL
  have hsz2 := hb.size
  replace HC := Lib.hid (HC.out.below hb (by omega))
  replace HP := Lib.hid (HP.out.below hb (by omega))
  replace HK := Lib.hid (HK.out.below hb HK.out.lt)
  replace HB := Lib.hid (HB.out.trans (hb.mono (by omega)))

  clear hb
  obtain ⟨c0, c1, c2⟩ := HK.out.three_
  go_wp2_with fail
  have CALL := refProgramme_any w2.heap.size Ap np kp p w2 (HP.out.more (by omega)) (by omega)
  rw [HQQ.out] at CALL
  refine CALL.mono ?_
  rintro e w_ ⟨rfl, rfl⟩
  clear CALL
  go_wp2_with fail
  go_loopw [5, 6] (fun vo i wr => ∃ (j : Nat) (so : Value), j ≤ np ∧ i = .int .i64 j ∧ so = vo ∧ Hid (wr.ownsRow w2.heap.size 64 2 so j (smpCells (monoL (p.take j)))) ∧ Hid (Below w2.heap.size w2 wr)) (fun _ i wr => np - (intOf i).toNat)
  case atStart => exact ⟨0, _, Nat.zero_le _, rfl, rfl, Lib.hid (World.ownsRow_nil _ _ _ _), Lib.hid (Below.refl _ _)⟩
  case round =>
    obtain ⟨j, so, hj, rfl, rfl, HOO, HBR⟩ := hrel
    by_cases hlt : j < np
    · have hjl : j < p.length := by have := HNP.out; omega
      have CX : Hid (∀ W, Below w2.heap.size w2 W → ∃ ad, Ap = some ad ∧ W.cell? (ad.add (j * 2)) = some (.int .i64 p[j].1)) := Lib.hid (fun W hW => by
        obtain ⟨ad', hA, _, g1, g2⟩ := ((HP.out.more (B' := w2.heap.size) (by omega)).below hW (Nat.le_refl _)).at_ (k := j) hjl
        exact ⟨ad', hA, g1⟩)
      have HSN : Hid (smpCells (monoL (p.take (j + 1))) = smpCells (monoL (p.take j)) ++ [.int .i64 p[j].1, .int .i64 p[j].1]) := Lib.hid (by
        rw [List.take_succ_eq_append_getElem hjl]
        unfold monoL
        rw [List.map_append, List.map_cons, List.map_nil, smpCells_snoc])
      obtain ⟨l, hl0⟩ : ∃ l, p[j].1 = l := ⟨_, rfl⟩
      rw [hl0] at CX HSN
      clear hl0
      obtain ⟨ad, hA, h1⟩ := CX.out _ HBR.out
      obtain rfl := hA
      have h2 : wr.drew.cell? (ad.add (j * 2)) = some (.int .i64 l) := h1
      obtain ⟨AO, cO, rfl, -⟩ := own_reads HOO.out
      have hsr := HBR.out.size
      go_upto_region 7 with fail
      go_region_held3 (fun w' => w'.cell? (ad.add (j * 2)) = some (.int .i64 l))
        ((refine ?_ <;> (repeat (with_reducible (first | refine cell_al _ ?_ | refine cell_dr ?_))) <;> (with_reducible assumption)))
        (first | (refine step_append_any _ rfl (.tmp 44) (.tmp 56) 44 rfl w2.heap.size 64 i0 _ 2 16 Try.underlying44 HI0.out HZ0.out HZ1.out HZ2.out rfl (by omega) (.slice AO j cO) j (smpCells (monoL (p.take j))) rfl (by first | exact (HOO.out.drew.alloc _) | exact (HOO.out.alloc _).drew | exact (HOO.out.alloc _)) _ (some ⟨wr.heap.size, 0, none⟩) 1 1 [.int .i64 l, .int .i64 l] rfl (reads_cells (B := wr.heap.size + 1) (by first | exact blk_al rfl | exact blk_dr rfl) (Nat.lt_succ_self _) rfl rfl) (by intro u hu; simp at hu; rcases hu with rfl | rfl <;> rfl) (by unfold maxLen; omega) (by omega) (by first | exact (HBR.out.drew.alloc hsr _).size | exact (HBR.out.alloc hsr _).drew.size) ?_; intro vo w4 hown hgrow hblk; have HON : Hid (w4.ownsRow w2.heap.size 64 2 vo (j + 1) (smpCells (monoL (p.take (j + 1))))) := Lib.hid (by rw [HSN.out]; exact hown); have HBN : Hid (Below w2.heap.size w2 w4) := Lib.hid (by first | exact (HBR.out.drew.alloc hsr _).grown hgrow (by simp; omega) (fun k hk => (HOO.out.lt k hk).1) | exact (HBR.out.alloc hsr _).drew.grown hgrow (by simp; omega) (fun k hk => (HOO.out.lt k hk).1)); obtain ⟨ad2, hA2, g3⟩ := CX.out _ HBN.out; cases hA2; clear hown hgrow hblk))
      all_goals
        go_wp2
        go_roundw
        case rel => exact ⟨j + 1, vo, by omega, by go_num, rfl, HON, HBN⟩
        case measure => simp [intOf]; omega
    · obtain rfl : j = np := by omega
      clear hj hlt
      have ho := HOO.out
      rw [List.take_of_length_le (by have := HNP.out; omega)] at ho
      obtain ⟨AO, cO, rfl, hr⟩ := own_reads ho
      obtain ⟨w3, hw_⟩ : ∃ W, W = wr := ⟨_, rfl⟩
      subst hw_
      have HO : Hid (RS w3 w3.heap.size AO j (monoL p)) := Lib.hid ⟨by unfold monoL; rw [List.length_map]; exact HNP.out, hr⟩
      have hb := HBR.out
      have hsz3 := hb.size
      clear ho hr HOO
      replace HC := Lib.hid (HC.out.below hb (by omega))
      replace HP := Lib.hid (HP.out.below hb (by omega))
      replace HK := Lib.hid (HK.out.below hb HK.out.lt)
      replace HB := Lib.hid (HB.out.trans (hb.mono (by omega)))
      clear hb HBR
      obtain ⟨c0, c1, c2⟩ := HK.out.three_
      rcases F1.out with f1 | f1 <;> rcases F2.out with f2 | f2
      · have E1 := Lib.hid f1
        have E2 := Lib.hid f2
        obtain ⟨a1, b1, g1, m1, n1⟩ := K1.out f1
        have ES1 : Hid (splM (sdR true t.c p) = spM p ∧ splD (sdR true t.c p) = spD (sdR true t.c p) ∧ ckQ (sdR true t.c p) = 0) := Lib.hid ⟨by rw [(spl_ok a1).1, b1], (spl_ok a1).2, a1⟩
        simp only [Bool.not_true] at g1 m1
        have EW1 := Lib.hid (And.intro g1 m1)
        have hlq1 : (sdR true t.c p).length ≤ 200 := by omega
        clear a1 b1 g1 m1 n1
        obtain ⟨a2, b2, g2, m2, n2⟩ := K2.out f2
        have ES2 : Hid (splM (sdR false t.c p) = spM p ∧ splD (sdR false t.c p) = spD (sdR false t.c p) ∧ ckQ (sdR false t.c p) = 0) := Lib.hid ⟨by rw [(spl_ok a2).1, b2], (spl_ok a2).2, a2⟩
        simp only [Bool.not_false] at g2 m2
        have EW2 := Lib.hid (And.intro g2 m2)
        have hlq2 : (sdR false t.c p).length ≤ 200 := by omega
        clear a2 b2 g2 m2 n2
        clear F1 F2 K1 K2 f1 f2
        as_aux_lemma =>
          go_wp2_with fail
          have CALL := Narrow_any w3.heap.size t AO j cO (monoL p) w3 (HC.out.more (by omega)) (HO.out.more (by omega)) (Nat.le_refl _) (by omega) hs
          rw [EA.out.1, EA.out.2] at CALL
          refine CALL.mono ?_
          rintro e w4 ⟨va, rfl, ho, hb⟩
          clear CALL
          have hsz4 := hb.size
          replace HC := Lib.hid (HC.out.below hb (by omega))
          replace HP := Lib.hid (HP.out.below hb (by omega))
          replace HO := Lib.hid (HO.out.below hb (by omega))
          replace HK := Lib.hid (HK.out.below hb HK.out.lt)
          replace HB := Lib.hid (HB.out.trans (hb.mono (by omega)))
          have hlQ := own_le ho
          obtain ⟨AQ, cQ, rfl, hr⟩ := own_reads ho
          have HQ : Hid (RS w4 w4.heap.size AQ (monoL p).length (monoL p)) := Lib.hid ⟨rfl, hr⟩
          clear ho hr
          clear hb
          obtain ⟨c0, c1, c2⟩ := HK.out.three_
          go_wp2_with fail
          have CALL := Widen_any w4.heap.size t AO j cO (monoL p) w4 (HC.out.more (by omega)) (HO.out.more (by omega)) (Nat.le_refl _) (by omega) hs
          rw [EB.out.1, EB.out.2] at CALL
          refine CALL.mono ?_
          rintro e w5 ⟨va, rfl, ho, hb⟩
          clear CALL
          have hsz5 := hb.size
          replace HC := Lib.hid (HC.out.below hb (by omega))
          replace HP := Lib.hid (HP.out.below hb (by omega))
          replace HO := Lib.hid (HO.out.below hb (by omega))
          replace HQ := Lib.hid (HQ.out.below hb (by omega))
          replace HK := Lib.hid (HK.out.below hb HK.out.lt)
          replace HB := Lib.hid (HB.out.trans (hb.mono (by omega)))
          have hlR := own_le ho
          obtain ⟨AR, cR, rfl, hr⟩ := own_reads ho
          have HR : Hid (RS w5 w5.heap.size AR (monoL p).length (monoL p)) := Lib.hid ⟨rfl, hr⟩
          clear ho hr
          clear hb
          obtain ⟨c0, c1, c2⟩ := HK.out.three_
          go_wp2_with fail
          have CALL := SamePrograms_any w5.heap.size AQ AO (monoL p).length cQ j cO (monoL p) w5 (HQ.out.more (by omega)) (HO.out.more (by omega)) (Nat.le_refl _) (by omega)
          refine CALL.mono ?_
          rintro e w6 ⟨rfl, hb⟩
          clear CALL
          have hsz6 := hb.size
          replace HC := Lib.hid (HC.out.below hb (by omega))
          replace HP := Lib.hid (HP.out.below hb (by omega))
          replace HO := Lib.hid (HO.out.below hb (by omega))
          replace HQ := Lib.hid (HQ.out.below hb (by omega))
          replace HR := Lib.hid (HR.out.below hb (by omega))
          replace HK := Lib.hid (HK.out.below hb HK.out.lt)
          replace HB := Lib.hid (HB.out.trans (hb.mono (by omega)))

          clear hb
          obtain ⟨c0, c1, c2⟩ := HK.out.three_
          go_wp2_with fail
          have CALL := SamePrograms_any w6.heap.size AR AO (monoL p).length cR j cO (monoL p) w6 (HR.out.more (by omega)) (HO.out.more (by omega)) (Nat.le_refl _) (by omega)
          refine CALL.mono ?_
          rintro e w7 ⟨rfl, hb⟩
          clear CALL
          have hsz7 := hb.size
          replace HC := Lib.hid (HC.out.below hb (by omega))
          replace HP := Lib.hid (HP.out.below hb (by omega))
          replace HO := Lib.hid (HO.out.below hb (by omega))
          replace HQ := Lib.hid (HQ.out.below hb (by omega))
          replace HR := Lib.hid (HR.out.below hb (by omega))
          replace HK := Lib.hid (HK.out.below hb HK.out.lt)
          replace HB := Lib.hid (HB.out.trans (hb.mono (by omega)))

          clear hb
          obtain ⟨c0, c1, c2⟩ := HK.out.three_
          go_wp2_with fail
          have CALL := Split_any w7.heap.size Ap j kp p w7 (HP.out.more (by omega)) (Nat.le_refl _) (by omega)
          rw [ES.out.1, ES.out.2.1, ES.out.2.2] at CALL
          refine CALL.mono ?_
          rintro e w8 ⟨va, vb, rfl, ho, hq, hb⟩
          clear CALL
          have hsz8 := hb.size
          replace HC := Lib.hid (HC.out.below hb (by omega))
          replace HP := Lib.hid (HP.out.below hb (by omega))
          replace HO := Lib.hid (HO.out.below hb (by omega))
          replace HQ := Lib.hid (HQ.out.below hb (by omega))
          replace HR := Lib.hid (HR.out.below hb (by omega))
          replace HK := Lib.hid (HK.out.below hb HK.out.lt)
          replace HB := Lib.hid (HB.out.trans (hb.mono (by omega)))
          have hlM := own_le ho
          obtain ⟨AM, cM, rfl, hL⟩ := li_own ho
          have HM := Lib.hid hL
          obtain ⟨AD, cD, rfl, hL2⟩ := li_own hq
          have hlD := own_le hq
          have HD := Lib.hid hL2
          clear ho hq hL hL2
          clear hb
          obtain ⟨c0, c1, c2⟩ := HK.out.three_
          go_wp2_with fail
          have CALL := Join_any w8.heap.size AM AD (spM p).length cM (spD p).length cD (spM p) (spD p) w8 (HM.out.more (by omega)) (HD.out.more (by omega)) (Nat.le_refl _) (by omega) (by omega)
          rw [EJ.out.1, EJ.out.2] at CALL
          refine CALL.mono ?_
          rintro e w9 ⟨va, rfl, ho, hb⟩
          clear CALL
          have hsz9 := hb.size
          replace HC := Lib.hid (HC.out.below hb (by omega))
          replace HP := Lib.hid (HP.out.below hb (by omega))
          replace HO := Lib.hid (HO.out.below hb (by omega))
          replace HQ := Lib.hid (HQ.out.below hb (by omega))
          replace HR := Lib.hid (HR.out.below hb (by omega))
          replace HM := Lib.hid (HM.out.below hb (by omega))
          replace HD := Lib.hid (HD.out.below hb (by omega))
          replace HK := Lib.hid (HK.out.below hb HK.out.lt)
          replace HB := Lib.hid (HB.out.trans (hb.mono (by omega)))
          have hlJ := own_le ho
          obtain ⟨AJ, cJ, rfl, hr⟩ := own_reads ho
          have HJ : Hid (RS w9 w9.heap.size AJ p.length p) := Lib.hid ⟨rfl, hr⟩
          clear ho hr
          clear hb
          obtain ⟨c0, c1, c2⟩ := HK.out.three_
          go_wp2_with fail
          have CALL := SamePrograms_any w9.heap.size Ap AJ j kp (p).length cJ p w9 (HP.out.more (by omega)) (HJ.out.more (by omega)) (Nat.le_refl _) (by omega)
          refine CALL.mono ?_
          rintro e w10 ⟨rfl, hb⟩
          clear CALL
          have hsz10 := hb.size
          replace HC := Lib.hid (HC.out.below hb (by omega))
          replace HP := Lib.hid (HP.out.below hb (by omega))
          replace HO := Lib.hid (HO.out.below hb (by omega))
          replace HQ := Lib.hid (HQ.out.below hb (by omega))
          replace HR := Lib.hid (HR.out.below hb (by omega))
          replace HM := Lib.hid (HM.out.below hb (by omega))
          replace HD := Lib.hid (HD.out.below hb (by omega))
          replace HJ := Lib.hid (HJ.out.below hb (by omega))
          replace HK := Lib.hid (HK.out.below hb HK.out.lt)
          replace HB := Lib.hid (HB.out.trans (hb.mono (by omega)))

          clear hb
          obtain ⟨c0, c1, c2⟩ := HK.out.three_
          go_wp2_with fail
          have CALL := Narrow_any w10.heap.size t Ap j kp p w10 (HC.out.more (by omega)) (HP.out.more (by omega)) (Nat.le_refl _) (by omega) hs
          rw [E1.out] at CALL
          refine CALL.mono ?_
          rintro e w11 ⟨va, rfl, ho, hb⟩
          clear CALL
          have hsz11 := hb.size
          replace HC := Lib.hid (HC.out.below hb (by omega))
          replace HP := Lib.hid (HP.out.below hb (by omega))
          replace HO := Lib.hid (HO.out.below hb (by omega))
          replace HQ := Lib.hid (HQ.out.below hb (by omega))
          replace HR := Lib.hid (HR.out.below hb (by omega))
          replace HM := Lib.hid (HM.out.below hb (by omega))
          replace HD := Lib.hid (HD.out.below hb (by omega))
          replace HJ := Lib.hid (HJ.out.below hb (by omega))
          replace HK := Lib.hid (HK.out.below hb HK.out.lt)
          replace HB := Lib.hid (HB.out.trans (hb.mono (by omega)))
          have hlT := own_le ho
          obtain ⟨AT, cT, rfl, hr⟩ := own_reads ho
          have HT : Hid (RS w11 w11.heap.size AT (sdR true t.c p).length (sdR true t.c p)) := Lib.hid ⟨rfl, hr⟩
          clear ho hr
          clear hb
          obtain ⟨c0, c1, c2⟩ := HK.out.three_
          go_wp2_with fail
          have CALL := Split_any w11.heap.size AT (sdR true t.c p).length cT (sdR true t.c p) w11 (HT.out.more (by omega)) (Nat.le_refl _) (by omega)
          rw [ES1.out.1, ES1.out.2.1, ES1.out.2.2] at CALL
          refine CALL.mono ?_
          rintro e w12 ⟨va, vb, rfl, ho, hq, hb⟩
          clear CALL
          have hsz12 := hb.size
          replace HC := Lib.hid (HC.out.below hb (by omega))
          replace HP := Lib.hid (HP.out.below hb (by omega))
          replace HO := Lib.hid (HO.out.below hb (by omega))
          replace HQ := Lib.hid (HQ.out.below hb (by omega))
          replace HR := Lib.hid (HR.out.below hb (by omega))
          replace HM := Lib.hid (HM.out.below hb (by omega))
          replace HD := Lib.hid (HD.out.below hb (by omega))
          replace HJ := Lib.hid (HJ.out.below hb (by omega))
          replace HT := Lib.hid (HT.out.below hb (by omega))
          replace HK := Lib.hid (HK.out.below hb HK.out.lt)
          replace HB := Lib.hid (HB.out.trans (hb.mono (by omega)))
          have hlU := own_le ho
          obtain ⟨AU, cU, rfl, hL⟩ := li_own ho
          have HU := Lib.hid hL
          obtain ⟨AV, cV, rfl, hL2⟩ := li_own hq
          have hlV := own_le hq
          have HV := Lib.hid hL2
          clear ho hq hL hL2
          clear hb
          obtain ⟨c0, c1, c2⟩ := HK.out.three_
          go_wp2_with fail
          have CALL := Widen_any w12.heap.size t AT (sdR true t.c p).length cT (sdR true t.c p) w12 (HC.out.more (by omega)) (HT.out.more (by omega)) (Nat.le_refl _) (by omega) hs
          rw [EW1.out.1, EW1.out.2] at CALL
          refine CALL.mono ?_
          rintro e w13 ⟨va, rfl, ho, hb⟩
          clear CALL
          have hsz13 := hb.size
          replace HC := Lib.hid (HC.out.below hb (by omega))
          replace HP := Lib.hid (HP.out.below hb (by omega))
          replace HO := Lib.hid (HO.out.below hb (by omega))
          replace HQ := Lib.hid (HQ.out.below hb (by omega))
          replace HR := Lib.hid (HR.out.below hb (by omega))
          replace HM := Lib.hid (HM.out.below hb (by omega))
          replace HD := Lib.hid (HD.out.below hb (by omega))
          replace HJ := Lib.hid (HJ.out.below hb (by omega))
          replace HT := Lib.hid (HT.out.below hb (by omega))
          replace HU := Lib.hid (HU.out.below hb (by omega))
          replace HV := Lib.hid (HV.out.below hb (by omega))
          replace HK := Lib.hid (HK.out.below hb HK.out.lt)
          replace HB := Lib.hid (HB.out.trans (hb.mono (by omega)))
          have hlL := own_le ho
          obtain ⟨AL, cL, rfl, hr⟩ := own_reads ho
          have HL : Hid (RS w13 w13.heap.size AL (p).length (p)) := Lib.hid ⟨rfl, hr⟩
          clear ho hr
          clear hb
          obtain ⟨c0, c1, c2⟩ := HK.out.three_
          go_wp2_with fail
          have CALL := refSame_any w13.heap.size AU AM (spM p).length cU (spM p).length cM (spM p) (spM p) w13 (HU.out.more (by omega)) (HM.out.more (by omega)) (Nat.le_refl _) (by omega) (by omega)
          rw [SMM.out] at CALL
          refine CALL.mono ?_
          rintro e w14 ⟨rfl, hb⟩
          clear CALL
          have hsz14 := hb.size
          replace HC := Lib.hid (HC.out.below hb (by omega))
          replace HP := Lib.hid (HP.out.below hb (by omega))
          replace HO := Lib.hid (HO.out.below hb (by omega))
          replace HQ := Lib.hid (HQ.out.below hb (by omega))
          replace HR := Lib.hid (HR.out.below hb (by omega))
          replace HM := Lib.hid (HM.out.below hb (by omega))
          replace HD := Lib.hid (HD.out.below hb (by omega))
          replace HJ := Lib.hid (HJ.out.below hb (by omega))
          replace HT := Lib.hid (HT.out.below hb (by omega))
          replace HU := Lib.hid (HU.out.below hb (by omega))
          replace HV := Lib.hid (HV.out.below hb (by omega))
          replace HL := Lib.hid (HL.out.below hb (by omega))
          replace HK := Lib.hid (HK.out.below hb HK.out.lt)
          replace HB := Lib.hid (HB.out.trans (hb.mono (by omega)))

          clear hb
          obtain ⟨c0, c1, c2⟩ := HK.out.three_
          go_wp2_with fail
          have CALL := SamePrograms_any w14.heap.size AL Ap (p).length cL j kp (p) w14 (HL.out.more (by omega)) (HP.out.more (by omega)) (Nat.le_refl _) (by omega)
          refine CALL.mono ?_
          rintro e w15 ⟨rfl, hb⟩
          clear CALL
          have hsz15 := hb.size
          replace HC := Lib.hid (HC.out.below hb (by omega))
          replace HP := Lib.hid (HP.out.below hb (by omega))
          replace HO := Lib.hid (HO.out.below hb (by omega))
          replace HQ := Lib.hid (HQ.out.below hb (by omega))
          replace HR := Lib.hid (HR.out.below hb (by omega))
          replace HM := Lib.hid (HM.out.below hb (by omega))
          replace HD := Lib.hid (HD.out.below hb (by omega))
          replace HJ := Lib.hid (HJ.out.below hb (by omega))
          replace HT := Lib.hid (HT.out.below hb (by omega))
          replace HU := Lib.hid (HU.out.below hb (by omega))
          replace HV := Lib.hid (HV.out.below hb (by omega))
          replace HL := Lib.hid (HL.out.below hb (by omega))
          replace HK := Lib.hid (HK.out.below hb HK.out.lt)
          replace HB := Lib.hid (HB.out.trans (hb.mono (by omega)))

          clear hb
          obtain ⟨c0, c1, c2⟩ := HK.out.three_
          go_wp2_with fail
          have CALL := Widen_any w15.heap.size t Ap j kp p w15 (HC.out.more (by omega)) (HP.out.more (by omega)) (Nat.le_refl _) (by omega) hs
          rw [E2.out] at CALL
          refine CALL.mono ?_
          rintro e w16 ⟨va, rfl, ho, hb⟩
          clear CALL
          have hsz16 := hb.size
          replace HC := Lib.hid (HC.out.below hb (by omega))
          replace HP := Lib.hid (HP.out.below hb (by omega))
          replace HO := Lib.hid (HO.out.below hb (by omega))
          replace HQ := Lib.hid (HQ.out.below hb (by omega))
          replace HR := Lib.hid (HR.out.below hb (by omega))
          replace HM := Lib.hid (HM.out.below hb (by omega))
          replace HD := Lib.hid (HD.out.below hb (by omega))
          replace HJ := Lib.hid (HJ.out.below hb (by omega))
          replace HT := Lib.hid (HT.out.below hb (by omega))
          replace HU := Lib.hid (HU.out.below hb (by omega))
          replace HV := Lib.hid (HV.out.below hb (by omega))
          replace HL := Lib.hid (HL.out.below hb (by omega))
          replace HK := Lib.hid (HK.out.below hb HK.out.lt)
          replace HB := Lib.hid (HB.out.trans (hb.mono (by omega)))
          have hlX := own_le ho
          obtain ⟨AX, cX, rfl, hr⟩ := own_reads ho
          have HX : Hid (RS w16 w16.heap.size AX (sdR false t.c p).length (sdR false t.c p)) := Lib.hid ⟨rfl, hr⟩
          clear ho hr
          clear hb
          obtain ⟨c0, c1, c2⟩ := HK.out.three_
          go_wp2_with fail
          have CALL := Split_any w16.heap.size AX (sdR false t.c p).length cX (sdR false t.c p) w16 (HX.out.more (by omega)) (Nat.le_refl _) (by omega)
          rw [ES2.out.1, ES2.out.2.1, ES2.out.2.2] at CALL
          refine CALL.mono ?_
          rintro e w17 ⟨va, vb, rfl, ho, hq, hb⟩
          clear CALL
          have hsz17 := hb.size
          replace HC := Lib.hid (HC.out.below hb (by omega))
          replace HP := Lib.hid (HP.out.below hb (by omega))
          replace HO := Lib.hid (HO.out.below hb (by omega))
          replace HQ := Lib.hid (HQ.out.below hb (by omega))
          replace HR := Lib.hid (HR.out.below hb (by omega))
          replace HM := Lib.hid (HM.out.below hb (by omega))
          replace HD := Lib.hid (HD.out.below hb (by omega))
          replace HJ := Lib.hid (HJ.out.below hb (by omega))
          replace HT := Lib.hid (HT.out.below hb (by omega))
          replace HU := Lib.hid (HU.out.below hb (by omega))
          replace HV := Lib.hid (HV.out.below hb (by omega))
          replace HL := Lib.hid (HL.out.below hb (by omega))
          replace HX := Lib.hid (HX.out.below hb (by omega))
          replace HK := Lib.hid (HK.out.below hb HK.out.lt)
          replace HB := Lib.hid (HB.out.trans (hb.mono (by omega)))
          have hlY := own_le ho
          obtain ⟨AY, cY, rfl, hL⟩ := li_own ho
          have HY := Lib.hid hL
          obtain ⟨AZ, cZ, rfl, hL2⟩ := li_own hq
          have hlZ := own_le hq
          have HZ := Lib.hid hL2
          clear ho hq hL hL2
          clear hb
          obtain ⟨c0, c1, c2⟩ := HK.out.three_
          go_wp2_with fail
          have CALL := Narrow_any w17.heap.size t AX (sdR false t.c p).length cX (sdR false t.c p) w17 (HC.out.more (by omega)) (HX.out.more (by omega)) (Nat.le_refl _) (by omega) hs
          rw [EW2.out.1, EW2.out.2] at CALL
          refine CALL.mono ?_
          rintro e w18 ⟨va, rfl, ho, hb⟩
          clear CALL
          have hsz18 := hb.size
          replace HC := Lib.hid (HC.out.below hb (by omega))
          replace HP := Lib.hid (HP.out.below hb (by omega))
          replace HO := Lib.hid (HO.out.below hb (by omega))
          replace HQ := Lib.hid (HQ.out.below hb (by omega))
          replace HR := Lib.hid (HR.out.below hb (by omega))
          replace HM := Lib.hid (HM.out.below hb (by omega))
          replace HD := Lib.hid (HD.out.below hb (by omega))
          replace HJ := Lib.hid (HJ.out.below hb (by omega))
          replace HT := Lib.hid (HT.out.below hb (by omega))
          replace HU := Lib.hid (HU.out.below hb (by omega))
          replace HV := Lib.hid (HV.out.below hb (by omega))
          replace HL := Lib.hid (HL.out.below hb (by omega))
          replace HX := Lib.hid (HX.out.below hb (by omega))
          replace HY := Lib.hid (HY.out.below hb (by omega))
          replace HZ := Lib.hid (HZ.out.below hb (by omega))
          replace HK := Lib.hid (HK.out.below hb HK.out.lt)
          replace HB := Lib.hid (HB.out.trans (hb.mono (by omega)))
          have hlG := own_le ho
          obtain ⟨AG, cG, rfl, hr⟩ := own_reads ho
          have HG : Hid (RS w18 w18.heap.size AG (p).length (p)) := Lib.hid ⟨rfl, hr⟩
          clear ho hr
          clear hb
          obtain ⟨c0, c1, c2⟩ := HK.out.three_
          go_wp2_with fail
          have CALL := refSame_any w18.heap.size AY AM (spM p).length cY (spM p).length cM (spM p) (spM p) w18 (HY.out.more (by omega)) (HM.out.more (by omega)) (Nat.le_refl _) (by omega) (by omega)
          rw [SMM.out] at CALL
          refine CALL.mono ?_
          rintro e w19 ⟨rfl, hb⟩
          clear CALL
          have hsz19 := hb.size
          replace HC := Lib.hid (HC.out.below hb (by omega))
          replace HP := Lib.hid (HP.out.below hb (by omega))
          replace HO := Lib.hid (HO.out.below hb (by omega))
          replace HQ := Lib.hid (HQ.out.below hb (by omega))
          replace HR := Lib.hid (HR.out.below hb (by omega))
          replace HM := Lib.hid (HM.out.below hb (by omega))
          replace HD := Lib.hid (HD.out.below hb (by omega))
          replace HJ := Lib.hid (HJ.out.below hb (by omega))
          replace HT := Lib.hid (HT.out.below hb (by omega))
          replace HU := Lib.hid (HU.out.below hb (by omega))
          replace HV := Lib.hid (HV.out.below hb (by omega))
          replace HL := Lib.hid (HL.out.below hb (by omega))
          replace HX := Lib.hid (HX.out.below hb (by omega))
          replace HY := Lib.hid (HY.out.below hb (by omega))
          replace HZ := Lib.hid (HZ.out.below hb (by omega))
          replace HG := Lib.hid (HG.out.below hb (by omega))
          replace HK := Lib.hid (HK.out.below hb HK.out.lt)
          replace HB := Lib.hid (HB.out.trans (hb.mono (by omega)))

          clear hb
          obtain ⟨c0, c1, c2⟩ := HK.out.three_
          go_wp2_with fail
          have CALL := SamePrograms_any w19.heap.size AG Ap (p).length cG j kp (p) w19 (HG.out.more (by omega)) (HP.out.more (by omega)) (Nat.le_refl _) (by omega)
          refine CALL.mono ?_
          rintro e w20 ⟨rfl, hb⟩
          clear CALL
          have hsz20 := hb.size
          replace HC := Lib.hid (HC.out.below hb (by omega))
          replace HP := Lib.hid (HP.out.below hb (by omega))
          replace HO := Lib.hid (HO.out.below hb (by omega))
          replace HQ := Lib.hid (HQ.out.below hb (by omega))
          replace HR := Lib.hid (HR.out.below hb (by omega))
          replace HM := Lib.hid (HM.out.below hb (by omega))
          replace HD := Lib.hid (HD.out.below hb (by omega))
          replace HJ := Lib.hid (HJ.out.below hb (by omega))
          replace HT := Lib.hid (HT.out.below hb (by omega))
          replace HU := Lib.hid (HU.out.below hb (by omega))
          replace HV := Lib.hid (HV.out.below hb (by omega))
          replace HL := Lib.hid (HL.out.below hb (by omega))
          replace HX := Lib.hid (HX.out.below hb (by omega))
          replace HY := Lib.hid (HY.out.below hb (by omega))
          replace HZ := Lib.hid (HZ.out.below hb (by omega))
          replace HG := Lib.hid (HG.out.below hb (by omega))
          replace HK := Lib.hid (HK.out.below hb HK.out.lt)
          replace HB := Lib.hid (HB.out.trans (hb.mono (by omega)))

          clear hb
          obtain ⟨c0, c1, c2⟩ := HK.out.three_
          go_wp2_with fail
          have CALL := works_any w20
          refine CALL.mono ?_
          rintro e w21 ⟨rfl, hb⟩
          clear CALL
          have hsz21 := hb.size
          replace HC := Lib.hid (HC.out.below hb (by omega))
          replace HP := Lib.hid (HP.out.below hb (by omega))
          replace HO := Lib.hid (HO.out.below hb (by omega))
          replace HQ := Lib.hid (HQ.out.below hb (by omega))
          replace HR := Lib.hid (HR.out.below hb (by omega))
          replace HM := Lib.hid (HM.out.below hb (by omega))
          replace HD := Lib.hid (HD.out.below hb (by omega))
          replace HJ := Lib.hid (HJ.out.below hb (by omega))
          replace HT := Lib.hid (HT.out.below hb (by omega))
          replace HU := Lib.hid (HU.out.below hb (by omega))
          replace HV := Lib.hid (HV.out.below hb (by omega))
          replace HL := Lib.hid (HL.out.below hb (by omega))
          replace HX := Lib.hid (HX.out.below hb (by omega))
          replace HY := Lib.hid (HY.out.below hb (by omega))
          replace HZ := Lib.hid (HZ.out.below hb (by omega))
          replace HG := Lib.hid (HG.out.below hb (by omega))
          replace HK := Lib.hid (HK.out.below hb HK.out.lt)
          replace HB := Lib.hid (HB.out.trans (hb.mono (by omega)))

          clear hb
          obtain ⟨c0, c1, c2⟩ := HK.out.three_
          go_wp2
          go_ret
          exact ⟨rfl, HB.out⟩
      · have E1 := Lib.hid f1
        have E2 := Lib.hid f2
        obtain ⟨a1, b1, g1, m1, n1⟩ := K1.out f1
        have ES1 : Hid (splM (sdR true t.c p) = spM p ∧ splD (sdR true t.c p) = spD (sdR true t.c p) ∧ ckQ (sdR true t.c p) = 0) := Lib.hid ⟨by rw [(spl_ok a1).1, b1], (spl_ok a1).2, a1⟩
        simp only [Bool.not_true] at g1 m1
        have EW1 := Lib.hid (And.intro g1 m1)
        have hlq1 : (sdR true t.c p).length ≤ 200 := by omega
        clear a1 b1 g1 m1 n1
        clear F1 F2 K1 K2 f1 f2
        as_aux_lemma =>
          go_wp2_with fail
          have CALL := Narrow_any w3.heap.size t AO j cO (monoL p) w3 (HC.out.more (by omega)) (HO.out.more (by omega)) (Nat.le_refl _) (by omega) hs
          rw [EA.out.1, EA.out.2] at CALL
          refine CALL.mono ?_
          rintro e w4 ⟨va, rfl, ho, hb⟩
          clear CALL
          have hsz4 := hb.size
          replace HC := Lib.hid (HC.out.below hb (by omega))
          replace HP := Lib.hid (HP.out.below hb (by omega))
          replace HO := Lib.hid (HO.out.below hb (by omega))
          replace HK := Lib.hid (HK.out.below hb HK.out.lt)
          replace HB := Lib.hid (HB.out.trans (hb.mono (by omega)))
          have hlQ := own_le ho
          obtain ⟨AQ, cQ, rfl, hr⟩ := own_reads ho
          have HQ : Hid (RS w4 w4.heap.size AQ (monoL p).length (monoL p)) := Lib.hid ⟨rfl, hr⟩
          clear ho hr
          clear hb
          obtain ⟨c0, c1, c2⟩ := HK.out.three_
          go_wp2_with fail
          have CALL := Widen_any w4.heap.size t AO j cO (monoL p) w4 (HC.out.more (by omega)) (HO.out.more (by omega)) (Nat.le_refl _) (by omega) hs
          rw [EB.out.1, EB.out.2] at CALL
          refine CALL.mono ?_
          rintro e w5 ⟨va, rfl, ho, hb⟩
          clear CALL
          have hsz5 := hb.size
          replace HC := Lib.hid (HC.out.below hb (by omega))
          replace HP := Lib.hid (HP.out.below hb (by omega))
          replace HO := Lib.hid (HO.out.below hb (by omega))
          replace HQ := Lib.hid (HQ.out.below hb (by omega))
          replace HK := Lib.hid (HK.out.below hb HK.out.lt)
          replace HB := Lib.hid (HB.out.trans (hb.mono (by omega)))
          have hlR := own_le ho
          obtain ⟨AR, cR, rfl, hr⟩ := own_reads ho
          have HR : Hid (RS w5 w5.heap.size AR (monoL p).length (monoL p)) := Lib.hid ⟨rfl, hr⟩
          clear ho hr
          clear hb
          obtain ⟨c0, c1, c2⟩ := HK.out.three_
          go_wp2_with fail
          have CALL := SamePrograms_any w5.heap.size AQ AO (monoL p).length cQ j cO (monoL p) w5 (HQ.out.more (by omega)) (HO.out.more (by omega)) (Nat.le_refl _) (by omega)
          refine CALL.mono ?_
          rintro e w6 ⟨rfl, hb⟩
          clear CALL
          have hsz6 := hb.size
          replace HC := Lib.hid (HC.out.below hb (by omega))
          replace HP := Lib.hid (HP.out.below hb (by omega))
          replace HO := Lib.hid (HO.out.below hb (by omega))
          replace HQ := Lib.hid (HQ.out.below hb (by omega))
          replace HR := Lib.hid (HR.out.below hb (by omega))
          replace HK := Lib.hid (HK.out.below hb HK.out.lt)
          replace HB := Lib.hid (HB.out.trans (hb.mono (by omega)))

          clear hb
          obtain ⟨c0, c1, c2⟩ := HK.out.three_
          go_wp2_with fail
          have CALL := SamePrograms_any w6.heap.size AR AO (monoL p).length cR j cO (monoL p) w6 (HR.out.more (by omega)) (HO.out.more (by omega)) (Nat.le_refl _) (by omega)
          refine CALL.mono ?_
          rintro e w7 ⟨rfl, hb⟩
          clear CALL
          have hsz7 := hb.size
          replace HC := Lib.hid (HC.out.below hb (by omega))
          replace HP := Lib.hid (HP.out.below hb (by omega))
          replace HO := Lib.hid (HO.out.below hb (by omega))
          replace HQ := Lib.hid (HQ.out.below hb (by omega))
          replace HR := Lib.hid (HR.out.below hb (by omega))
          replace HK := Lib.hid (HK.out.below hb HK.out.lt)
          replace HB := Lib.hid (HB.out.trans (hb.mono (by omega)))

          clear hb
          obtain ⟨c0, c1, c2⟩ := HK.out.three_
          go_wp2_with fail
          have CALL := Split_any w7.heap.size Ap j kp p w7 (HP.out.more (by omega)) (Nat.le_refl _) (by omega)
          rw [ES.out.1, ES.out.2.1, ES.out.2.2] at CALL
          refine CALL.mono ?_
          rintro e w8 ⟨va, vb, rfl, ho, hq, hb⟩
          clear CALL
          have hsz8 := hb.size
          replace HC := Lib.hid (HC.out.below hb (by omega))
          replace HP := Lib.hid (HP.out.below hb (by omega))
          replace HO := Lib.hid (HO.out.below hb (by omega))
          replace HQ := Lib.hid (HQ.out.below hb (by omega))
          replace HR := Lib.hid (HR.out.below hb (by omega))
          replace HK := Lib.hid (HK.out.below hb HK.out.lt)
          replace HB := Lib.hid (HB.out.trans (hb.mono (by omega)))
          have hlM := own_le ho
          obtain ⟨AM, cM, rfl, hL⟩ := li_own ho
          have HM := Lib.hid hL
          obtain ⟨AD, cD, rfl, hL2⟩ := li_own hq
          have hlD := own_le hq
          have HD := Lib.hid hL2
          clear ho hq hL hL2
          clear hb
          obtain ⟨c0, c1, c2⟩ := HK.out.three_
          go_wp2_with fail
          have CALL := Join_any w8.heap.size AM AD (spM p).length cM (spD p).length cD (spM p) (spD p) w8 (HM.out.more (by omega)) (HD.out.more (by omega)) (Nat.le_refl _) (by omega) (by omega)
          rw [EJ.out.1, EJ.out.2] at CALL
          refine CALL.mono ?_
          rintro e w9 ⟨va, rfl, ho, hb⟩
          clear CALL
          have hsz9 := hb.size
          replace HC := Lib.hid (HC.out.below hb (by omega))
          replace HP := Lib.hid (HP.out.below hb (by omega))
          replace HO := Lib.hid (HO.out.below hb (by omega))
          replace HQ := Lib.hid (HQ.out.below hb (by omega))
          replace HR := Lib.hid (HR.out.below hb (by omega))
          replace HM := Lib.hid (HM.out.below hb (by omega))
          replace HD := Lib.hid (HD.out.below hb (by omega))
          replace HK := Lib.hid (HK.out.below hb HK.out.lt)
          replace HB := Lib.hid (HB.out.trans (hb.mono (by omega)))
          have hlJ := own_le ho
          obtain ⟨AJ, cJ, rfl, hr⟩ := own_reads ho
          have HJ : Hid (RS w9 w9.heap.size AJ p.length p) := Lib.hid ⟨rfl, hr⟩
          clear ho hr
          clear hb
          obtain ⟨c0, c1, c2⟩ := HK.out.three_
          go_wp2_with fail
          have CALL := SamePrograms_any w9.heap.size Ap AJ j kp (p).length cJ p w9 (HP.out.more (by omega)) (HJ.out.more (by omega)) (Nat.le_refl _) (by omega)
          refine CALL.mono ?_
          rintro e w10 ⟨rfl, hb⟩
          clear CALL
          have hsz10 := hb.size
          replace HC := Lib.hid (HC.out.below hb (by omega))
          replace HP := Lib.hid (HP.out.below hb (by omega))
          replace HO := Lib.hid (HO.out.below hb (by omega))
          replace HQ := Lib.hid (HQ.out.below hb (by omega))
          replace HR := Lib.hid (HR.out.below hb (by omega))
          replace HM := Lib.hid (HM.out.below hb (by omega))
          replace HD := Lib.hid (HD.out.below hb (by omega))
          replace HJ := Lib.hid (HJ.out.below hb (by omega))
          replace HK := Lib.hid (HK.out.below hb HK.out.lt)
          replace HB := Lib.hid (HB.out.trans (hb.mono (by omega)))

          clear hb
          obtain ⟨c0, c1, c2⟩ := HK.out.three_
          go_wp2_with fail
          have CALL := Narrow_any w10.heap.size t Ap j kp p w10 (HC.out.more (by omega)) (HP.out.more (by omega)) (Nat.le_refl _) (by omega) hs
          rw [E1.out] at CALL
          refine CALL.mono ?_
          rintro e w11 ⟨va, rfl, ho, hb⟩
          clear CALL
          have hsz11 := hb.size
          replace HC := Lib.hid (HC.out.below hb (by omega))
          replace HP := Lib.hid (HP.out.below hb (by omega))
          replace HO := Lib.hid (HO.out.below hb (by omega))
          replace HQ := Lib.hid (HQ.out.below hb (by omega))
          replace HR := Lib.hid (HR.out.below hb (by omega))
          replace HM := Lib.hid (HM.out.below hb (by omega))
          replace HD := Lib.hid (HD.out.below hb (by omega))
          replace HJ := Lib.hid (HJ.out.below hb (by omega))
          replace HK := Lib.hid (HK.out.below hb HK.out.lt)
          replace HB := Lib.hid (HB.out.trans (hb.mono (by omega)))
          have hlT := own_le ho
          obtain ⟨AT, cT, rfl, hr⟩ := own_reads ho
          have HT : Hid (RS w11 w11.heap.size AT (sdR true t.c p).length (sdR true t.c p)) := Lib.hid ⟨rfl, hr⟩
          clear ho hr
          clear hb
          obtain ⟨c0, c1, c2⟩ := HK.out.three_
          go_wp2_with fail
          have CALL := Split_any w11.heap.size AT (sdR true t.c p).length cT (sdR true t.c p) w11 (HT.out.more (by omega)) (Nat.le_refl _) (by omega)
          rw [ES1.out.1, ES1.out.2.1, ES1.out.2.2] at CALL
          refine CALL.mono ?_
          rintro e w12 ⟨va, vb, rfl, ho, hq, hb⟩
          clear CALL
          have hsz12 := hb.size
          replace HC := Lib.hid (HC.out.below hb (by omega))
          replace HP := Lib.hid (HP.out.below hb (by omega))
          replace HO := Lib.hid (HO.out.below hb (by omega))
          replace HQ := Lib.hid (HQ.out.below hb (by omega))
          replace HR := Lib.hid (HR.out.below hb (by omega))
          replace HM := Lib.hid (HM.out.below hb (by omega))
          replace HD := Lib.hid (HD.out.below hb (by omega))
          replace HJ := Lib.hid (HJ.out.below hb (by omega))
          replace HT := Lib.hid (HT.out.below hb (by omega))
          replace HK := Lib.hid (HK.out.below hb HK.out.lt)
          replace HB := Lib.hid (HB.out.trans (hb.mono (by omega)))
          have hlU := own_le ho
          obtain ⟨AU, cU, rfl, hL⟩ := li_own ho
          have HU := Lib.hid hL
          obtain ⟨AV, cV, rfl, hL2⟩ := li_own hq
          have hlV := own_le hq
          have HV := Lib.hid hL2
          clear ho hq hL hL2
          clear hb
          obtain ⟨c0, c1, c2⟩ := HK.out.three_
          go_wp2_with fail
          have CALL := Widen_any w12.heap.size t AT (sdR true t.c p).length cT (sdR true t.c p) w12 (HC.out.more (by omega)) (HT.out.more (by omega)) (Nat.le_refl _) (by omega) hs
          rw [EW1.out.1, EW1.out.2] at CALL
          refine CALL.mono ?_
          rintro e w13 ⟨va, rfl, ho, hb⟩
          clear CALL
          have hsz13 := hb.size
          replace HC := Lib.hid (HC.out.below hb (by omega))
          replace HP := Lib.hid (HP.out.below hb (by omega))
          replace HO := Lib.hid (HO.out.below hb (by omega))
          replace HQ := Lib.hid (HQ.out.below hb (by omega))
          replace HR := Lib.hid (HR.out.below hb (by omega))
          replace HM := Lib.hid (HM.out.below hb (by omega))
          replace HD := Lib.hid (HD.out.below hb (by omega))
          replace HJ := Lib.hid (HJ.out.below hb (by omega))
          replace HT := Lib.hid (HT.out.below hb (by omega))
          replace HU := Lib.hid (HU.out.below hb (by omega))
          replace HV := Lib.hid (HV.out.below hb (by omega))
          replace HK := Lib.hid (HK.out.below hb HK.out.lt)
          replace HB := Lib.hid (HB.out.trans (hb.mono (by omega)))
          have hlL := own_le ho
          obtain ⟨AL, cL, rfl, hr⟩ := own_reads ho
          have HL : Hid (RS w13 w13.heap.size AL (p).length (p)) := Lib.hid ⟨rfl, hr⟩
          clear ho hr
          clear hb
          obtain ⟨c0, c1, c2⟩ := HK.out.three_
          go_wp2_with fail
          have CALL := refSame_any w13.heap.size AU AM (spM p).length cU (spM p).length cM (spM p) (spM p) w13 (HU.out.more (by omega)) (HM.out.more (by omega)) (Nat.le_refl _) (by omega) (by omega)
          rw [SMM.out] at CALL
          refine CALL.mono ?_
          rintro e w14 ⟨rfl, hb⟩
          clear CALL
          have hsz14 := hb.size
          replace HC := Lib.hid (HC.out.below hb (by omega))
          replace HP := Lib.hid (HP.out.below hb (by omega))
          replace HO := Lib.hid (HO.out.below hb (by omega))
          replace HQ := Lib.hid (HQ.out.below hb (by omega))
          replace HR := Lib.hid (HR.out.below hb (by omega))
          replace HM := Lib.hid (HM.out.below hb (by omega))
          replace HD := Lib.hid (HD.out.below hb (by omega))
          replace HJ := Lib.hid (HJ.out.below hb (by omega))
          replace HT := Lib.hid (HT.out.below hb (by omega))
          replace HU := Lib.hid (HU.out.below hb (by omega))
          replace HV := Lib.hid (HV.out.below hb (by omega))
          replace HL := Lib.hid (HL.out.below hb (by omega))
          replace HK := Lib.hid (HK.out.below hb HK.out.lt)
          replace HB := Lib.hid (HB.out.trans (hb.mono (by omega)))

          clear hb
          obtain ⟨c0, c1, c2⟩ := HK.out.three_
          go_wp2_with fail
          have CALL := SamePrograms_any w14.heap.size AL Ap (p).length cL j kp (p) w14 (HL.out.more (by omega)) (HP.out.more (by omega)) (Nat.le_refl _) (by omega)
          refine CALL.mono ?_
          rintro e w15 ⟨rfl, hb⟩
          clear CALL
          have hsz15 := hb.size
          replace HC := Lib.hid (HC.out.below hb (by omega))
          replace HP := Lib.hid (HP.out.below hb (by omega))
          replace HO := Lib.hid (HO.out.below hb (by omega))
          replace HQ := Lib.hid (HQ.out.below hb (by omega))
          replace HR := Lib.hid (HR.out.below hb (by omega))
          replace HM := Lib.hid (HM.out.below hb (by omega))
          replace HD := Lib.hid (HD.out.below hb (by omega))
          replace HJ := Lib.hid (HJ.out.below hb (by omega))
          replace HT := Lib.hid (HT.out.below hb (by omega))
          replace HU := Lib.hid (HU.out.below hb (by omega))
          replace HV := Lib.hid (HV.out.below hb (by omega))
          replace HL := Lib.hid (HL.out.below hb (by omega))
          replace HK := Lib.hid (HK.out.below hb HK.out.lt)
          replace HB := Lib.hid (HB.out.trans (hb.mono (by omega)))

          clear hb
          obtain ⟨c0, c1, c2⟩ := HK.out.three_
          go_wp2_with fail
          have CALL := Widen_any w15.heap.size t Ap j kp p w15 (HC.out.more (by omega)) (HP.out.more (by omega)) (Nat.le_refl _) (by omega) hs
          rw [E2.out] at CALL
          refine CALL.mono ?_
          rintro e w16 ⟨va, rfl, ho, hb⟩
          clear CALL
          have hsz16 := hb.size
          replace HC := Lib.hid (HC.out.below hb (by omega))
          replace HP := Lib.hid (HP.out.below hb (by omega))
          replace HO := Lib.hid (HO.out.below hb (by omega))
          replace HQ := Lib.hid (HQ.out.below hb (by omega))
          replace HR := Lib.hid (HR.out.below hb (by omega))
          replace HM := Lib.hid (HM.out.below hb (by omega))
          replace HD := Lib.hid (HD.out.below hb (by omega))
          replace HJ := Lib.hid (HJ.out.below hb (by omega))
          replace HT := Lib.hid (HT.out.below hb (by omega))
          replace HU := Lib.hid (HU.out.below hb (by omega))
          replace HV := Lib.hid (HV.out.below hb (by omega))
          replace HL := Lib.hid (HL.out.below hb (by omega))
          replace HK := Lib.hid (HK.out.below hb HK.out.lt)
          replace HB := Lib.hid (HB.out.trans (hb.mono (by omega)))
          have hlX := own_le ho
          obtain ⟨AX, cX, rfl, hr⟩ := own_reads ho
          have HX : Hid (RS w16 w16.heap.size AX (sdR false t.c p).length (sdR false t.c p)) := Lib.hid ⟨rfl, hr⟩
          clear ho hr
          clear hb
          obtain ⟨c0, c1, c2⟩ := HK.out.three_
          go_wp2_with fail
          have CALL := works_any w16
          refine CALL.mono ?_
          rintro e w17 ⟨rfl, hb⟩
          clear CALL
          have hsz17 := hb.size
          replace HC := Lib.hid (HC.out.below hb (by omega))
          replace HP := Lib.hid (HP.out.below hb (by omega))
          replace HO := Lib.hid (HO.out.below hb (by omega))
          replace HQ := Lib.hid (HQ.out.below hb (by omega))
          replace HR := Lib.hid (HR.out.below hb (by omega))
          replace HM := Lib.hid (HM.out.below hb (by omega))
          replace HD := Lib.hid (HD.out.below hb (by omega))
          replace HJ := Lib.hid (HJ.out.below hb (by omega))
          replace HT := Lib.hid (HT.out.below hb (by omega))
          replace HU := Lib.hid (HU.out.below hb (by omega))
          replace HV := Lib.hid (HV.out.below hb (by omega))
          replace HL := Lib.hid (HL.out.below hb (by omega))
          replace HX := Lib.hid (HX.out.below hb (by omega))
          replace HK := Lib.hid (HK.out.below hb HK.out.lt)
          replace HB := Lib.hid (HB.out.trans (hb.mono (by omega)))

          clear hb
          obtain ⟨c0, c1, c2⟩ := HK.out.three_
          go_wp2
          go_ret
          exact ⟨rfl, HB.out⟩
      · have E1 := Lib.hid f1
        have E2 := Lib.hid f2
        obtain ⟨a2, b2, g2, m2, n2⟩ := K2.out f2
        have ES2 : Hid (splM (sdR false t.c p) = spM p ∧ splD (sdR false t.c p) = spD (sdR false t.c p) ∧ ckQ (sdR false t.c p) = 0) := Lib.hid ⟨by rw [(spl_ok a2).1, b2], (spl_ok a2).2, a2⟩
        simp only [Bool.not_false] at g2 m2
        have EW2 := Lib.hid (And.intro g2 m2)
        have hlq2 : (sdR false t.c p).length ≤ 200 := by omega
        clear a2 b2 g2 m2 n2
        clear F1 F2 K1 K2 f1 f2
        as_aux_lemma =>
          go_wp2_with fail
          have CALL := Narrow_any w3.heap.size t AO j cO (monoL p) w3 (HC.out.more (by omega)) (HO.out.more (by omega)) (Nat.le_refl _) (by omega) hs
          rw [EA.out.1, EA.out.2] at CALL
          refine CALL.mono ?_
          rintro e w4 ⟨va, rfl, ho, hb⟩
          clear CALL
          have hsz4 := hb.size
          replace HC := Lib.hid (HC.out.below hb (by omega))
          replace HP := Lib.hid (HP.out.below hb (by omega))
          replace HO := Lib.hid (HO.out.below hb (by omega))
          replace HK := Lib.hid (HK.out.below hb HK.out.lt)
          replace HB := Lib.hid (HB.out.trans (hb.mono (by omega)))
          have hlQ := own_le ho
          obtain ⟨AQ, cQ, rfl, hr⟩ := own_reads ho
          have HQ : Hid (RS w4 w4.heap.size AQ (monoL p).length (monoL p)) := Lib.hid ⟨rfl, hr⟩
          clear ho hr
          clear hb
          obtain ⟨c0, c1, c2⟩ := HK.out.three_
          go_wp2_with fail
          have CALL := Widen_any w4.heap.size t AO j cO (monoL p) w4 (HC.out.more (by omega)) (HO.out.more (by omega)) (Nat.le_refl _) (by omega) hs
          rw [EB.out.1, EB.out.2] at CALL
          refine CALL.mono ?_
          rintro e w5 ⟨va, rfl, ho, hb⟩
          clear CALL
          have hsz5 := hb.size
          replace HC := Lib.hid (HC.out.below hb (by omega))
          replace HP := Lib.hid (HP.out.below hb (by omega))
          replace HO := Lib.hid (HO.out.below hb (by omega))
          replace HQ := Lib.hid (HQ.out.below hb (by omega))
          replace HK := Lib.hid (HK.out.below hb HK.out.lt)
          replace HB := Lib.hid (HB.out.trans (hb.mono (by omega)))
          have hlR := own_le ho
          obtain ⟨AR, cR, rfl, hr⟩ := own_reads ho
          have HR : Hid (RS w5 w5.heap.size AR (monoL p).length (monoL p)) := Lib.hid ⟨rfl, hr⟩
          clear ho hr
          clear hb
          obtain ⟨c0, c1, c2⟩ := HK.out.three_
          go_wp2_with fail
          have CALL := SamePrograms_any w5.heap.size AQ AO (monoL p).length cQ j cO (monoL p) w5 (HQ.out.more (by omega)) (HO.out.more (by omega)) (Nat.le_refl _) (by omega)
          refine CALL.mono ?_
          rintro e w6 ⟨rfl, hb⟩
          clear CALL
          have hsz6 := hb.size
          replace HC := Lib.hid (HC.out.below hb (by omega))
          replace HP := Lib.hid (HP.out.below hb (by omega))
          replace HO := Lib.hid (HO.out.below hb (by omega))
          replace HQ := Lib.hid (HQ.out.below hb (by omega))
          replace HR := Lib.hid (HR.out.below hb (by omega))
          replace HK := Lib.hid (HK.out.below hb HK.out.lt)
          replace HB := Lib.hid (HB.out.trans (hb.mono (by omega)))

          clear hb
          obtain ⟨c0, c1, c2⟩ := HK.out.three_
          go_wp2_with fail
          have CALL := SamePrograms_any w6.heap.size AR AO (monoL p).length cR j cO (monoL p) w6 (HR.out.more (by omega)) (HO.out.more (by omega)) (Nat.le_refl _) (by omega)
          refine CALL.mono ?_
          rintro e w7 ⟨rfl, hb⟩
          clear CALL
          have hsz7 := hb.size
          replace HC := Lib.hid (HC.out.below hb (by omega))
          replace HP := Lib.hid (HP.out.below hb (by omega))
          replace HO := Lib.hid (HO.out.below hb (by omega))
          replace HQ := Lib.hid (HQ.out.below hb (by omega))
          replace HR := Lib.hid (HR.out.below hb (by omega))
          replace HK := Lib.hid (HK.out.below hb HK.out.lt)
          replace HB := Lib.hid (HB.out.trans (hb.mono (by omega)))

          clear hb
          obtain ⟨c0, c1, c2⟩ := HK.out.three_
          go_wp2_with fail
          have CALL := Split_any w7.heap.size Ap j kp p w7 (HP.out.more (by omega)) (Nat.le_refl _) (by omega)
          rw [ES.out.1, ES.out.2.1, ES.out.2.2] at CALL
          refine CALL.mono ?_
          rintro e w8 ⟨va, vb, rfl, ho, hq, hb⟩
          clear CALL
          have hsz8 := hb.size
          replace HC := Lib.hid (HC.out.below hb (by omega))
          replace HP := Lib.hid (HP.out.below hb (by omega))
          replace HO := Lib.hid (HO.out.below hb (by omega))
          replace HQ := Lib.hid (HQ.out.below hb (by omega))
          replace HR := Lib.hid (HR.out.below hb (by omega))
          replace HK := Lib.hid (HK.out.below hb HK.out.lt)
          replace HB := Lib.hid (HB.out.trans (hb.mono (by omega)))
          have hlM := own_le ho
          obtain ⟨AM, cM, rfl, hL⟩ := li_own ho
          have HM := Lib.hid hL
          obtain ⟨AD, cD, rfl, hL2⟩ := li_own hq
          have hlD := own_le hq
          have HD := Lib.hid hL2
          clear ho hq hL hL2
          clear hb
          obtain ⟨c0, c1, c2⟩ := HK.out.three_
          go_wp2_with fail
          have CALL := Join_any w8.heap.size AM AD (spM p).length cM (spD p).length cD (spM p) (spD p) w8 (HM.out.more (by omega)) (HD.out.more (by omega)) (Nat.le_refl _) (by omega) (by omega)
          rw [EJ.out.1, EJ.out.2] at CALL
          refine CALL.mono ?_
          rintro e w9 ⟨va, rfl, ho, hb⟩
          clear CALL
          have hsz9 := hb.size
          replace HC := Lib.hid (HC.out.below hb (by omega))
          replace HP := Lib.hid (HP.out.below hb (by omega))
          replace HO := Lib.hid (HO.out.below hb (by omega))
          replace HQ := Lib.hid (HQ.out.below hb (by omega))
          replace HR := Lib.hid (HR.out.below hb (by omega))
          replace HM := Lib.hid (HM.out.below hb (by omega))
          replace HD := Lib.hid (HD.out.below hb (by omega))
          replace HK := Lib.hid (HK.out.below hb HK.out.lt)
          replace HB := Lib.hid (HB.out.trans (hb.mono (by omega)))
          have hlJ := own_le ho
          obtain ⟨AJ, cJ, rfl, hr⟩ := own_reads ho
          have HJ : Hid (RS w9 w9.heap.size AJ p.length p) := Lib.hid ⟨rfl, hr⟩
          clear ho hr
          clear hb
          obtain ⟨c0, c1, c2⟩ := HK.out.three_
          go_wp2_with fail
          have CALL := SamePrograms_any w9.heap.size Ap AJ j kp (p).length cJ p w9 (HP.out.more (by omega)) (HJ.out.more (by omega)) (Nat.le_refl _) (by omega)
          refine CALL.mono ?_
          rintro e w10 ⟨rfl, hb⟩
          clear CALL
          have hsz10 := hb.size
          replace HC := Lib.hid (HC.out.below hb (by omega))
          replace HP := Lib.hid (HP.out.below hb (by omega))
          replace HO := Lib.hid (HO.out.below hb (by omega))
          replace HQ := Lib.hid (HQ.out.below hb (by omega))
          replace HR := Lib.hid (HR.out.below hb (by omega))
          replace HM := Lib.hid (HM.out.below hb (by omega))
          replace HD := Lib.hid (HD.out.below hb (by omega))
          replace HJ := Lib.hid (HJ.out.below hb (by omega))
          replace HK := Lib.hid (HK.out.below hb HK.out.lt)
          replace HB := Lib.hid (HB.out.trans (hb.mono (by omega)))

          clear hb
          obtain ⟨c0, c1, c2⟩ := HK.out.three_
          go_wp2_with fail
          have CALL := Narrow_any w10.heap.size t Ap j kp p w10 (HC.out.more (by omega)) (HP.out.more (by omega)) (Nat.le_refl _) (by omega) hs
          rw [E1.out] at CALL
          refine CALL.mono ?_
          rintro e w11 ⟨va, rfl, ho, hb⟩
          clear CALL
          have hsz11 := hb.size
          replace HC := Lib.hid (HC.out.below hb (by omega))
          replace HP := Lib.hid (HP.out.below hb (by omega))
          replace HO := Lib.hid (HO.out.below hb (by omega))
          replace HQ := Lib.hid (HQ.out.below hb (by omega))
          replace HR := Lib.hid (HR.out.below hb (by omega))
          replace HM := Lib.hid (HM.out.below hb (by omega))
          replace HD := Lib.hid (HD.out.below hb (by omega))
          replace HJ := Lib.hid (HJ.out.below hb (by omega))
          replace HK := Lib.hid (HK.out.below hb HK.out.lt)
          replace HB := Lib.hid (HB.out.trans (hb.mono (by omega)))
          have hlT := own_le ho
          obtain ⟨AT, cT, rfl, hr⟩ := own_reads ho
          have HT : Hid (RS w11 w11.heap.size AT (sdR true t.c p).length (sdR true t.c p)) := Lib.hid ⟨rfl, hr⟩
          clear ho hr
          clear hb
          obtain ⟨c0, c1, c2⟩ := HK.out.three_
          go_wp2_with fail
          have CALL := Widen_any w11.heap.size t Ap j kp p w11 (HC.out.more (by omega)) (HP.out.more (by omega)) (Nat.le_refl _) (by omega) hs
          rw [E2.out] at CALL
          refine CALL.mono ?_
          rintro e w12 ⟨va, rfl, ho, hb⟩
          clear CALL
          have hsz12 := hb.size
          replace HC := Lib.hid (HC.out.below hb (by omega))
          replace HP := Lib.hid (HP.out.below hb (by omega))
          replace HO := Lib.hid (HO.out.below hb (by omega))
          replace HQ := Lib.hid (HQ.out.below hb (by omega))
          replace HR := Lib.hid (HR.out.below hb (by omega))
          replace HM := Lib.hid (HM.out.below hb (by omega))
          replace HD := Lib.hid (HD.out.below hb (by omega))
          replace HJ := Lib.hid (HJ.out.below hb (by omega))
          replace HT := Lib.hid (HT.out.below hb (by omega))
          replace HK := Lib.hid (HK.out.below hb HK.out.lt)
          replace HB := Lib.hid (HB.out.trans (hb.mono (by omega)))
          have hlX := own_le ho
          obtain ⟨AX, cX, rfl, hr⟩ := own_reads ho
          have HX : Hid (RS w12 w12.heap.size AX (sdR false t.c p).length (sdR false t.c p)) := Lib.hid ⟨rfl, hr⟩
          clear ho hr
          clear hb
          obtain ⟨c0, c1, c2⟩ := HK.out.three_
          go_wp2_with fail
          have CALL := Split_any w12.heap.size AX (sdR false t.c p).length cX (sdR false t.c p) w12 (HX.out.more (by omega)) (Nat.le_refl _) (by omega)
          rw [ES2.out.1, ES2.out.2.1, ES2.out.2.2] at CALL
          refine CALL.mono ?_
          rintro e w13 ⟨va, vb, rfl, ho, hq, hb⟩
          clear CALL
          have hsz13 := hb.size
          replace HC := Lib.hid (HC.out.below hb (by omega))
          replace HP := Lib.hid (HP.out.below hb (by omega))
          replace HO := Lib.hid (HO.out.below hb (by omega))
          replace HQ := Lib.hid (HQ.out.below hb (by omega))
          replace HR := Lib.hid (HR.out.below hb (by omega))
          replace HM := Lib.hid (HM.out.below hb (by omega))
          replace HD := Lib.hid (HD.out.below hb (by omega))
          replace HJ := Lib.hid (HJ.out.below hb (by omega))
          replace HT := Lib.hid (HT.out.below hb (by omega))
          replace HX := Lib.hid (HX.out.below hb (by omega))
          replace HK := Lib.hid (HK.out.below hb HK.out.lt)
          replace HB := Lib.hid (HB.out.trans (hb.mono (by omega)))
          have hlY := own_le ho
          obtain ⟨AY, cY, rfl, hL⟩ := li_own ho
          have HY := Lib.hid hL
          obtain ⟨AZ, cZ, rfl, hL2⟩ := li_own hq
          have hlZ := own_le hq
          have HZ := Lib.hid hL2
          clear ho hq hL hL2
          clear hb
          obtain ⟨c0, c1, c2⟩ := HK.out.three_
          go_wp2_with fail
          have CALL := Narrow_any w13.heap.size t AX (sdR false t.c p).length cX (sdR false t.c p) w13 (HC.out.more (by omega)) (HX.out.more (by omega)) (Nat.le_refl _) (by omega) hs
          rw [EW2.out.1, EW2.out.2] at CALL
          refine CALL.mono ?_
          rintro e w14 ⟨va, rfl, ho, hb⟩
          clear CALL
          have hsz14 := hb.size
          replace HC := Lib.hid (HC.out.below hb (by omega))
          replace HP := Lib.hid (HP.out.below hb (by omega))
          replace HO := Lib.hid (HO.out.below hb (by omega))
          replace HQ := Lib.hid (HQ.out.below hb (by omega))
          replace HR := Lib.hid (HR.out.below hb (by omega))
          replace HM := Lib.hid (HM.out.below hb (by omega))
          replace HD := Lib.hid (HD.out.below hb (by omega))
          replace HJ := Lib.hid (HJ.out.below hb (by omega))
          replace HT := Lib.hid (HT.out.below hb (by omega))
          replace HX := Lib.hid (HX.out.below hb (by omega))
          replace HY := Lib.hid (HY.out.below hb (by omega))
          replace HZ := Lib.hid (HZ.out.below hb (by omega))
          replace HK := Lib.hid (HK.out.below hb HK.out.lt)
          replace HB := Lib.hid (HB.out.trans (hb.mono (by omega)))
          have hlG := own_le ho
          obtain ⟨AG, cG, rfl, hr⟩ := own_reads ho
          have HG : Hid (RS w14 w14.heap.size AG (p).length (p)) := Lib.hid ⟨rfl, hr⟩
          clear ho hr
          clear hb
          obtain ⟨c0, c1, c2⟩ := HK.out.three_
          go_wp2_with fail
          have CALL := refSame_any w14.heap.size AY AM (spM p).length cY (spM p).length cM (spM p) (spM p) w14 (HY.out.more (by omega)) (HM.out.more (by omega)) (Nat.le_refl _) (by omega) (by omega)
          rw [SMM.out] at CALL
          refine CALL.mono ?_
          rintro e w15 ⟨rfl, hb⟩
          clear CALL
          have hsz15 := hb.size
          replace HC := Lib.hid (HC.out.below hb (by omega))
          replace HP := Lib.hid (HP.out.below hb (by omega))
          replace HO := Lib.hid (HO.out.below hb (by omega))
          replace HQ := Lib.hid (HQ.out.below hb (by omega))
          replace HR := Lib.hid (HR.out.below hb (by omega))
          replace HM := Lib.hid (HM.out.below hb (by omega))
          replace HD := Lib.hid (HD.out.below hb (by omega))
          replace HJ := Lib.hid (HJ.out.below hb (by omega))
          replace HT := Lib.hid (HT.out.below hb (by omega))
          replace HX := Lib.hid (HX.out.below hb (by omega))
          replace HY := Lib.hid (HY.out.below hb (by omega))
          replace HZ := Lib.hid (HZ.out.below hb (by omega))
          replace HG := Lib.hid (HG.out.below hb (by omega))
          replace HK := Lib.hid (HK.out.below hb HK.out.lt)
          replace HB := Lib.hid (HB.out.trans (hb.mono (by omega)))

          clear hb
          obtain ⟨c0, c1, c2⟩ := HK.out.three_
          go_wp2_with fail
          have CALL := SamePrograms_any w15.heap.size AG Ap (p).length cG j kp (p) w15 (HG.out.more (by omega)) (HP.out.more (by omega)) (Nat.le_refl _) (by omega)
          refine CALL.mono ?_
          rintro e w16 ⟨rfl, hb⟩
          clear CALL
          have hsz16 := hb.size
          replace HC := Lib.hid (HC.out.below hb (by omega))
          replace HP := Lib.hid (HP.out.below hb (by omega))
          replace HO := Lib.hid (HO.out.below hb (by omega))
          replace HQ := Lib.hid (HQ.out.below hb (by omega))
          replace HR := Lib.hid (HR.out.below hb (by omega))
          replace HM := Lib.hid (HM.out.below hb (by omega))
          replace HD := Lib.hid (HD.out.below hb (by omega))
          replace HJ := Lib.hid (HJ.out.below hb (by omega))
          replace HT := Lib.hid (HT.out.below hb (by omega))
          replace HX := Lib.hid (HX.out.below hb (by omega))
          replace HY := Lib.hid (HY.out.below hb (by omega))
          replace HZ := Lib.hid (HZ.out.below hb (by omega))
          replace HG := Lib.hid (HG.out.below hb (by omega))
          replace HK := Lib.hid (HK.out.below hb HK.out.lt)
          replace HB := Lib.hid (HB.out.trans (hb.mono (by omega)))

          clear hb
          obtain ⟨c0, c1, c2⟩ := HK.out.three_
          go_wp2_with fail
          have CALL := works_any w16
          refine CALL.mono ?_
          rintro e w17 ⟨rfl, hb⟩
          clear CALL
          have hsz17 := hb.size
          replace HC := Lib.hid (HC.out.below hb (by omega))
          replace HP := Lib.hid (HP.out.below hb (by omega))
          replace HO := Lib.hid (HO.out.below hb (by omega))
          replace HQ := Lib.hid (HQ.out.below hb (by omega))
          replace HR := Lib.hid (HR.out.below hb (by omega))
          replace HM := Lib.hid (HM.out.below hb (by omega))
          replace HD := Lib.hid (HD.out.below hb (by omega))
          replace HJ := Lib.hid (HJ.out.below hb (by omega))
          replace HT := Lib.hid (HT.out.below hb (by omega))
          replace HX := Lib.hid (HX.out.below hb (by omega))
          replace HY := Lib.hid (HY.out.below hb (by omega))
          replace HZ := Lib.hid (HZ.out.below hb (by omega))
          replace HG := Lib.hid (HG.out.below hb (by omega))
          replace HK := Lib.hid (HK.out.below hb HK.out.lt)
          replace HB := Lib.hid (HB.out.trans (hb.mono (by omega)))

          clear hb
          obtain ⟨c0, c1, c2⟩ := HK.out.three_
          go_wp2
          go_ret
          exact ⟨rfl, HB.out⟩
      · have E1 := Lib.hid f1
        have E2 := Lib.hid f2
        clear F1 F2 K1 K2 f1 f2
        as_aux_lemma =>
          go_wp2_with fail
          have CALL := Narrow_any w3.heap.size t AO j cO (monoL p) w3 (HC.out.more (by omega)) (HO.out.more (by omega)) (Nat.le_refl _) (by omega) hs
          rw [EA.out.1, EA.out.2] at CALL
          refine CALL.mono ?_
          rintro e w4 ⟨va, rfl, ho, hb⟩
          clear CALL
          have hsz4 := hb.size
          replace HC := Lib.hid (HC.out.below hb (by omega))
          replace HP := Lib.hid (HP.out.below hb (by omega))
          replace HO := Lib.hid (HO.out.below hb (by omega))
          replace HK := Lib.hid (HK.out.below hb HK.out.lt)
          replace HB := Lib.hid (HB.out.trans (hb.mono (by omega)))
          have hlQ := own_le ho
          obtain ⟨AQ, cQ, rfl, hr⟩ := own_reads ho
          have HQ : Hid (RS w4 w4.heap.size AQ (monoL p).length (monoL p)) := Lib.hid ⟨rfl, hr⟩
          clear ho hr
          clear hb
          obtain ⟨c0, c1, c2⟩ := HK.out.three_
          go_wp2_with fail
          have CALL := Widen_any w4.heap.size t AO j cO (monoL p) w4 (HC.out.more (by omega)) (HO.out.more (by omega)) (Nat.le_refl _) (by omega) hs
          rw [EB.out.1, EB.out.2] at CALL
          refine CALL.mono ?_
          rintro e w5 ⟨va, rfl, ho, hb⟩
          clear CALL
          have hsz5 := hb.size
          replace HC := Lib.hid (HC.out.below hb (by omega))
          replace HP := Lib.hid (HP.out.below hb (by omega))
          replace HO := Lib.hid (HO.out.below hb (by omega))
          replace HQ := Lib.hid (HQ.out.below hb (by omega))
          replace HK := Lib.hid (HK.out.below hb HK.out.lt)
          replace HB := Lib.hid (HB.out.trans (hb.mono (by omega)))
          have hlR := own_le ho
          obtain ⟨AR, cR, rfl, hr⟩ := own_reads ho
          have HR : Hid (RS w5 w5.heap.size AR (monoL p).length (monoL p)) := Lib.hid ⟨rfl, hr⟩
          clear ho hr
          clear hb
          obtain ⟨c0, c1, c2⟩ := HK.out.three_
          go_wp2_with fail
          have CALL := SamePrograms_any w5.heap.size AQ AO (monoL p).length cQ j cO (monoL p) w5 (HQ.out.more (by omega)) (HO.out.more (by omega)) (Nat.le_refl _) (by omega)
          refine CALL.mono ?_
          rintro e w6 ⟨rfl, hb⟩
          clear CALL
          have hsz6 := hb.size
          replace HC := Lib.hid (HC.out.below hb (by omega))
          replace HP := Lib.hid (HP.out.below hb (by omega))
          replace HO := Lib.hid (HO.out.below hb (by omega))
          replace HQ := Lib.hid (HQ.out.below hb (by omega))
          replace HR := Lib.hid (HR.out.below hb (by omega))
          replace HK := Lib.hid (HK.out.below hb HK.out.lt)
          replace HB := Lib.hid (HB.out.trans (hb.mono (by omega)))

          clear hb
          obtain ⟨c0, c1, c2⟩ := HK.out.three_
          go_wp2_with fail
          have CALL := SamePrograms_any w6.heap.size AR AO (monoL p).length cR j cO (monoL p) w6 (HR.out.more (by omega)) (HO.out.more (by omega)) (Nat.le_refl _) (by omega)
          refine CALL.mono ?_
          rintro e w7 ⟨rfl, hb⟩
          clear CALL
          have hsz7 := hb.size
          replace HC := Lib.hid (HC.out.below hb (by omega))
          replace HP := Lib.hid (HP.out.below hb (by omega))
          replace HO := Lib.hid (HO.out.below hb (by omega))
          replace HQ := Lib.hid (HQ.out.below hb (by omega))
          replace HR := Lib.hid (HR.out.below hb (by omega))
          replace HK := Lib.hid (HK.out.below hb HK.out.lt)
          replace HB := Lib.hid (HB.out.trans (hb.mono (by omega)))

          clear hb
          obtain ⟨c0, c1, c2⟩ := HK.out.three_
          go_wp2_with fail
          have CALL := Split_any w7.heap.size Ap j kp p w7 (HP.out.more (by omega)) (Nat.le_refl _) (by omega)
          rw [ES.out.1, ES.out.2.1, ES.out.2.2] at CALL
          refine CALL.mono ?_
          rintro e w8 ⟨va, vb, rfl, ho, hq, hb⟩
          clear CALL
          have hsz8 := hb.size
          replace HC := Lib.hid (HC.out.below hb (by omega))
          replace HP := Lib.hid (HP.out.below hb (by omega))
          replace HO := Lib.hid (HO.out.below hb (by omega))
          replace HQ := Lib.hid (HQ.out.below hb (by omega))
          replace HR := Lib.hid (HR.out.below hb (by omega))
          replace HK := Lib.hid (HK.out.below hb HK.out.lt)
          replace HB := Lib.hid (HB.out.trans (hb.mono (by omega)))
          have hlM := own_le ho
          obtain ⟨AM, cM, rfl, hL⟩ := li_own ho
          have HM := Lib.hid hL
          obtain ⟨AD, cD, rfl, hL2⟩ := li_own hq
          have hlD := own_le hq
          have HD := Lib.hid hL2
          clear ho hq hL hL2
          clear hb
          obtain ⟨c0, c1, c2⟩ := HK.out.three_
          go_wp2_with fail
          have CALL := Join_any w8.heap.size AM AD (spM p).length cM (spD p).length cD (spM p) (spD p) w8 (HM.out.more (by omega)) (HD.out.more (by omega)) (Nat.le_refl _) (by omega) (by omega)
          rw [EJ.out.1, EJ.out.2] at CALL
          refine CALL.mono ?_
          rintro e w9 ⟨va, rfl, ho, hb⟩
          clear CALL
          have hsz9 := hb.size
          replace HC := Lib.hid (HC.out.below hb (by omega))
          replace HP := Lib.hid (HP.out.below hb (by omega))
          replace HO := Lib.hid (HO.out.below hb (by omega))
          replace HQ := Lib.hid (HQ.out.below hb (by omega))
          replace HR := Lib.hid (HR.out.below hb (by omega))
          replace HM := Lib.hid (HM.out.below hb (by omega))
          replace HD := Lib.hid (HD.out.below hb (by omega))
          replace HK := Lib.hid (HK.out.below hb HK.out.lt)
          replace HB := Lib.hid (HB.out.trans (hb.mono (by omega)))
          have hlJ := own_le ho
          obtain ⟨AJ, cJ, rfl, hr⟩ := own_reads ho
          have HJ : Hid (RS w9 w9.heap.size AJ p.length p) := Lib.hid ⟨rfl, hr⟩
          clear ho hr
          clear hb
          obtain ⟨c0, c1, c2⟩ := HK.out.three_
          go_wp2_with fail
          have CALL := SamePrograms_any w9.heap.size Ap AJ j kp (p).length cJ p w9 (HP.out.more (by omega)) (HJ.out.more (by omega)) (Nat.le_refl _) (by omega)
          refine CALL.mono ?_
          rintro e w10 ⟨rfl, hb⟩
          clear CALL
          have hsz10 := hb.size
          replace HC := Lib.hid (HC.out.below hb (by omega))
          replace HP := Lib.hid (HP.out.below hb (by omega))
          replace HO := Lib.hid (HO.out.below hb (by omega))
          replace HQ := Lib.hid (HQ.out.below hb (by omega))
          replace HR := Lib.hid (HR.out.below hb (by omega))
          replace HM := Lib.hid (HM.out.below hb (by omega))
          replace HD := Lib.hid (HD.out.below hb (by omega))
          replace HJ := Lib.hid (HJ.out.below hb (by omega))
          replace HK := Lib.hid (HK.out.below hb HK.out.lt)
          replace HB := Lib.hid (HB.out.trans (hb.mono (by omega)))

          clear hb
          obtain ⟨c0, c1, c2⟩ := HK.out.three_
          go_wp2_with fail
          have CALL := Narrow_any w10.heap.size t Ap j kp p w10 (HC.out.more (by omega)) (HP.out.more (by omega)) (Nat.le_refl _) (by omega) hs
          rw [E1.out] at CALL
          refine CALL.mono ?_
          rintro e w11 ⟨va, rfl, ho, hb⟩
          clear CALL
          have hsz11 := hb.size
          replace HC := Lib.hid (HC.out.below hb (by omega))
          replace HP := Lib.hid (HP.out.below hb (by omega))
          replace HO := Lib.hid (HO.out.below hb (by omega))
          replace HQ := Lib.hid (HQ.out.below hb (by omega))
          replace HR := Lib.hid (HR.out.below hb (by omega))
          replace HM := Lib.hid (HM.out.below hb (by omega))
          replace HD := Lib.hid (HD.out.below hb (by omega))
          replace HJ := Lib.hid (HJ.out.below hb (by omega))
          replace HK := Lib.hid (HK.out.below hb HK.out.lt)
          replace HB := Lib.hid (HB.out.trans (hb.mono (by omega)))
          have hlT := own_le ho
          obtain ⟨AT, cT, rfl, hr⟩ := own_reads ho
          have HT : Hid (RS w11 w11.heap.size AT (sdR true t.c p).length (sdR true t.c p)) := Lib.hid ⟨rfl, hr⟩
          clear ho hr
          clear hb
          obtain ⟨c0, c1, c2⟩ := HK.out.three_
          go_wp2_with fail
          have CALL := Widen_any w11.heap.size t Ap j kp p w11 (HC.out.more (by omega)) (HP.out.more (by omega)) (Nat.le_refl _) (by omega) hs
          rw [E2.out] at CALL
          refine CALL.mono ?_
          rintro e w12 ⟨va, rfl, ho, hb⟩
          clear CALL
          have hsz12 := hb.size
          replace HC := Lib.hid (HC.out.below hb (by omega))
          replace HP := Lib.hid (HP.out.below hb (by omega))
          replace HO := Lib.hid (HO.out.below hb (by omega))
          replace HQ := Lib.hid (HQ.out.below hb (by omega))
          replace HR := Lib.hid (HR.out.below hb (by omega))
          replace HM := Lib.hid (HM.out.below hb (by omega))
          replace HD := Lib.hid (HD.out.below hb (by omega))
          replace HJ := Lib.hid (HJ.out.below hb (by omega))
          replace HT := Lib.hid (HT.out.below hb (by omega))
          replace HK := Lib.hid (HK.out.below hb HK.out.lt)
          replace HB := Lib.hid (HB.out.trans (hb.mono (by omega)))
          have hlX := own_le ho
          obtain ⟨AX, cX, rfl, hr⟩ := own_reads ho
          have HX : Hid (RS w12 w12.heap.size AX (sdR false t.c p).length (sdR false t.c p)) := Lib.hid ⟨rfl, hr⟩
          clear ho hr
          clear hb
          obtain ⟨c0, c1, c2⟩ := HK.out.three_
          go_wp2_with fail
          have CALL := works_any w12
          refine CALL.mono ?_
          rintro e w13 ⟨rfl, hb⟩
          clear CALL
          have hsz13 := hb.size
          replace HC := Lib.hid (HC.out.below hb (by omega))
          replace HP := Lib.hid (HP.out.below hb (by omega))
          replace HO := Lib.hid (HO.out.below hb (by omega))
          replace HQ := Lib.hid (HQ.out.below hb (by omega))
          replace HR := Lib.hid (HR.out.below hb (by omega))
          replace HM := Lib.hid (HM.out.below hb (by omega))
          replace HD := Lib.hid (HD.out.below hb (by omega))
          replace HJ := Lib.hid (HJ.out.below hb (by omega))
          replace HT := Lib.hid (HT.out.below hb (by omega))
          replace HX := Lib.hid (HX.out.below hb (by omega))
          replace HK := Lib.hid (HK.out.below hb HK.out.lt)
          replace HB := Lib.hid (HB.out.trans (hb.mono (by omega)))

          clear hb
          obtain ⟨c0, c1, c2⟩ := HK.out.three_
          go_wp2
          go_ret
          exact ⟨rfl, HB.out⟩
end Go.Proofs.Ytlghgehbmlgacaa
