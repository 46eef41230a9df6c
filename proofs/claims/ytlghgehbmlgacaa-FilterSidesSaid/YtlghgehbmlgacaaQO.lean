/-
  The document's sided, Narrow, Widen; the walk of FilterSides.
-/
import Derived.Test.YtlghgehbmlgacaaQN
import Derived.Test.YtlghgehbmlgacaaUO
import Derived.Test.YtlghgehbmlgacaaUK
namespace Go.Proofs.Ytlghgehbmlgacaa
open Go.RowKit

set_option maxRecDepth 100000 in
set_option maxHeartbeats 4000000 in
theorem refSided_true_any (B : Nat) (t : CV) (Ap : Option Addr) (n kp : Nat) (xs : List Smp) (w : World) (hc : CI w B t) (hp : RS w B Ap n xs) (hB : B ≤ w.heap.size) (hl : n ≤ 9223372036854775807) (hs : t.nf ≤ 9223372036854775807 ∧ t.nb ≤ 9223372036854775807) :
    Calls Try.prog 74 #[.agg #[.slice t.Af t.nf t.kf, .slice t.Ab t.nb t.kb, .int .i64 t.c.share], .slice Ap n kp, .bool false] w (SmpPost w (sdR true t.c xs) (sdE true t.c xs)) := by
  have HC := Lib.hid (hc.more hB)
  have HP := Lib.hid (hp.more hB)
  have HN := Lib.hid hp.1
  clear hc hp hB
  have CC := Lib.hid (fun W (h : Below w.heap.size w W) => refCheckCurve_any w.heap.size t W (HC.out.below h (Nat.le_refl _)) h.size hs)
  have CQ := Lib.hid (fun W (h : Below w.heap.size w W) => refProgramme_any w.heap.size Ap n kp xs W (HP.out.below h (Nat.le_refl _)) hl)
  have HER : Hid (sdEr t.c xs = if ckV t.c = 0 then (if ckQ xs = 0 then 0 else ckQ xs) else ckV t.c) := Lib.hid (by unfold sdEr orL; rfl)
  obtain ⟨e1, he1⟩ : ∃ e, ckV t.c = e := ⟨_, rfl⟩
  obtain ⟨e2, he2⟩ : ∃ e, ckQ xs = e := ⟨_, rfl⟩
  rw [he1] at CC HER
  rw [he2] at CQ HER
  have HE1 := Lib.hid he1
  have HE2 := Lib.hid he2
  clear he1 he2
  obtain ⟨R, hRR⟩ : ∃ R, sdR true t.c xs = R := ⟨_, rfl⟩
  obtain ⟨E, hEE⟩ : ∃ R, sdE true t.c xs = R := ⟨_, rfl⟩
  rw [hRR, hEE]
  have HRR := Lib.hid hRR
  have HEE := Lib.hid hEE
  clear hRR hEE
  have BAD : Hid (∀ er : Int, sdEr t.c xs = er → er ≠ 0 → R = [] ∧ E = er) := Lib.hid (fun er h h0 => ⟨by rw [← HRR.out]; unfold sdR; rw [h, if_neg h0], by rw [← HEE.out]; unfold sdE; rw [h, if_neg h0]⟩)
  obtain ⟨W, hW⟩ : ∃ W, w.alloc (.cells #[.slice t.Af t.nf t.kf, .slice t.Ab t.nb t.kb, .int .i64 t.c.share] 24) = W := ⟨_, rfl⟩
  have hb0 : Below w.heap.size w W := by rw [← hW]; exact (Below.refl _ _).alloc (Nat.le_refl _) _
  have HB := Lib.hid hb0
  have HK : Hid (Blk W w.heap.size 24 #[.slice t.Af t.nf t.kf, .slice t.Ab t.nb t.kb, .int .i64 t.c.share]) := Lib.hid (by rw [← hW]; exact Blk.new _ _ _)
  clear hb0
  go_enter Try.func74, Try.ntmps74
  go_upto_region 1 with fail
  try rw [hW]
  clear hW
  obtain ⟨c0, c1, c2⟩ := HK.out.three_
  go_wp2_with fail
  refine (CC.out _ HB.out).mono ?_
  rintro e w1 ⟨rfl, hb⟩
  replace HK := Lib.hid (HK.out.below hb HK.out.lt)
  replace HB := Lib.hid (HB.out.trans (hb.mono HB.out.size))
  clear hb c0 c1 c2 CC
  by_cases hz1 : e1 = 0
  case neg =>
    obtain ⟨rfl, rfl⟩ := BAD.out e1 (by rw [HER.out, if_neg hz1]) hz1
    have hz2 : (E != 0) = true := by simpa using hz1
    clear BAD
    go_wp2
    go_ret2
    exact ⟨_, rfl, World.ownsRow_nil _ _ _ _, HB.out⟩
  subst hz1
  go_wp2_with fail
  refine (CQ.out _ HB.out).mono ?_
  rintro e w_ ⟨rfl, rfl⟩
  clear CQ
  by_cases hz2 : e2 = 0
  case neg =>
    obtain ⟨rfl, rfl⟩ := BAD.out e2 (by rw [HER.out, if_pos trivial, if_neg hz2]) hz2
    have hz3 : (E != 0) = true := by simpa using hz2
    clear BAD
    go_wp2
    go_ret2
    exact ⟨_, rfl, World.ownsRow_nil _ _ _ _, HB.out⟩
  subst hz2
  have hzz : sdEr t.c xs = 0 := by rw [HER.out]; rfl
  obtain ⟨hq1, hq2⟩ := ckQ_ok HE2.out
  have hn4 : n ≤ 4096 := by have := HN.out; omega
  have HCO := Lib.hid (ckV_ok HE1.out)
  have HV := Lib.hid hq2
  have SP := Lib.hid (refSplit_any w.heap.size Ap n kp xs w1 (HP.out.below HB.out (Nat.le_refl _)) HB.out.size hn4 hq2)
  have hs1 := HB.out.size
  clear hq1 hq2 BAD
  go_wp2_with fail
  refine SP.out.mono ?_
  rintro e w3 ⟨sx, sy, rfl, ht⟩
  replace HK := Lib.hid (HK.out.below ht.b HK.out.lt)
  replace HB := Lib.hid (HB.out.trans (ht.b.mono hs1))
  obtain ⟨A1, k1, rfl, hM⟩ := li_own ht.ox
  obtain ⟨A2, k2, rfl, hD⟩ := li_own ht.oy
  have HM := Lib.hid hM
  have HCI := Lib.hid ((HC.out.below HB.out (Nat.le_refl _)).more HB.out.size)
  have RN := refRun_forth w3.heap.size t A2 n k2 (spD xs) 65534 w3 HCI.out hD (Nat.le_refl _) hn4 HCO.out (spD_wib HV.out) (by omega) (by omega)
  have HBK := Lib.hid (fun y (h : run1 true 65534 t.c [] (spD xs) = some y) => run1_back (spD_wib HV.out) h)
  clear ht hM hD SP hs1
  obtain ⟨c0, c1, c2⟩ := HK.out.three_
  have hs3 := HB.out.size
  cases hR : run1 true 65534 t.c [] (spD xs) with
  | none =>
    obtain ⟨g1, g2⟩ := sdR_none hzz hR
    obtain rfl : R = [] := HRR.out.symm.trans g1
    obtain rfl : E = 4 := HEE.out.symm.trans g2
    rw [hR] at RN
    have RN := Lib.hid RN
    clear HBK hR HRR HEE g1 g2 hzz
    go_wp2_with fail
    refine RN.out.mono ?_
    rintro e w6 ⟨v, rfl, ho6, hb6⟩
    have HB6 := Lib.hid (HB.out.trans (hb6.mono hs3))
    obtain ⟨A6, k6, rfl, -⟩ := li_own ho6
    clear ho6 hb6 c0 c1 c2
    go_wp2
    go_ret2
    exact ⟨_, rfl, World.ownsRow_nil _ _ _ _, HB6.out⟩
  | some y =>
    obtain ⟨g1, g2⟩ := sdR_some hzz hR
    have hq1 : R = jnRes (spM xs) y := HRR.out.symm.trans g1
    have hq2 : E = jnErr (spM xs) y := HEE.out.symm.trans g2
    subst hq1 hq2
    rw [hR] at RN
    have RN := Lib.hid RN
    clear HRR HEE g1 g2 hzz
    obtain ⟨_, hy2, hy3⟩ := HBK.out y hR
    have hyn : y.length = n := by rw [hy2]; unfold spD; rw [List.length_map]; exact HN.out.symm
    have HY3 := Lib.hid hy3
    clear HBK hR hy2 hy3
    go_wp2_with fail
    refine RN.out.mono ?_
    rintro e w6 ⟨v, rfl, ho6, hb6⟩
    have HB6 := Lib.hid (HB.out.trans (hb6.mono hs3))
    have hs6 : w3.heap.size ≤ w6.heap.size := hb6.size
    have HM6 := Lib.hid ((HM.out.below hb6 (Nat.le_refl _)).more hs6)
    have ho7 : w6.ownsRow w3.heap.size 2 1 v n (nums y) := by rw [← hyn]; exact ho6
    obtain ⟨A6, k6, rfl, hY⟩ := li_own ho7
    have JN := Lib.hid (refJoin1_any w6.heap.size A1 A6 n k1 k6 (spM xs) y w6 HM6.out hY (Nat.le_refl _) hn4 (spM_wib HV.out) HY3.out)
    clear ho6 ho7 hb6 hY c0 c1 c2
    go_wp2_with fail
    refine JN.out.mono ?_
    rintro e w7 ⟨v, rfl, ho, hb⟩
    have HB7 := Lib.hid (HB6.out.trans (hb.mono HB6.out.size))
    have HO := Lib.hid (own_base_ ho HB6.out.size)
    obtain ⟨A7, c7, rfl, -⟩ := own_reads ho
    clear ho hb
    go_wp2
    go_ret2
    exact ⟨_, rfl, HO.out, HB7.out⟩

set_option maxRecDepth 100000 in
set_option maxHeartbeats 4000000 in
theorem refSided_false_any (B : Nat) (t : CV) (Ap : Option Addr) (n kp : Nat) (xs : List Smp) (w : World) (hc : CI w B t) (hp : RS w B Ap n xs) (hB : B ≤ w.heap.size) (hl : n ≤ 9223372036854775807) (hs : t.nf ≤ 9223372036854775807 ∧ t.nb ≤ 9223372036854775807) :
    Calls Try.prog 74 #[.agg #[.slice t.Af t.nf t.kf, .slice t.Ab t.nb t.kb, .int .i64 t.c.share], .slice Ap n kp, .bool true] w (SmpPost w (sdR false t.c xs) (sdE false t.c xs)) := by
  have HC := Lib.hid (hc.more hB)
  have HP := Lib.hid (hp.more hB)
  have HN := Lib.hid hp.1
  clear hc hp hB
  have CC := Lib.hid (fun W (h : Below w.heap.size w W) => refCheckCurve_any w.heap.size t W (HC.out.below h (Nat.le_refl _)) h.size hs)
  have CQ := Lib.hid (fun W (h : Below w.heap.size w W) => refProgramme_any w.heap.size Ap n kp xs W (HP.out.below h (Nat.le_refl _)) hl)
  have HER : Hid (sdEr t.c xs = if ckV t.c = 0 then (if ckQ xs = 0 then 0 else ckQ xs) else ckV t.c) := Lib.hid (by unfold sdEr orL; rfl)
  obtain ⟨e1, he1⟩ : ∃ e, ckV t.c = e := ⟨_, rfl⟩
  obtain ⟨e2, he2⟩ : ∃ e, ckQ xs = e := ⟨_, rfl⟩
  rw [he1] at CC HER
  rw [he2] at CQ HER
  have HE1 := Lib.hid he1
  have HE2 := Lib.hid he2
  clear he1 he2
  obtain ⟨R, hRR⟩ : ∃ R, sdR false t.c xs = R := ⟨_, rfl⟩
  obtain ⟨E, hEE⟩ : ∃ R, sdE false t.c xs = R := ⟨_, rfl⟩
  rw [hRR, hEE]
  have HRR := Lib.hid hRR
  have HEE := Lib.hid hEE
  clear hRR hEE
  have BAD : Hid (∀ er : Int, sdEr t.c xs = er → er ≠ 0 → R = [] ∧ E = er) := Lib.hid (fun er h h0 => ⟨by rw [← HRR.out]; unfold sdR; rw [h, if_neg h0], by rw [← HEE.out]; unfold sdE; rw [h, if_neg h0]⟩)
  obtain ⟨W, hW⟩ : ∃ W, w.alloc (.cells #[.slice t.Af t.nf t.kf, .slice t.Ab t.nb t.kb, .int .i64 t.c.share] 24) = W := ⟨_, rfl⟩
  have hb0 : Below w.heap.size w W := by rw [← hW]; exact (Below.refl _ _).alloc (Nat.le_refl _) _
  have HB := Lib.hid hb0
  have HK : Hid (Blk W w.heap.size 24 #[.slice t.Af t.nf t.kf, .slice t.Ab t.nb t.kb, .int .i64 t.c.share]) := Lib.hid (by rw [← hW]; exact Blk.new _ _ _)
  clear hb0
  go_enter Try.func74, Try.ntmps74
  go_upto_region 1 with fail
  try rw [hW]
  clear hW
  obtain ⟨c0, c1, c2⟩ := HK.out.three_
  go_wp2_with fail
  refine (CC.out _ HB.out).mono ?_
  rintro e w1 ⟨rfl, hb⟩
  replace HK := Lib.hid (HK.out.below hb HK.out.lt)
  replace HB := Lib.hid (HB.out.trans (hb.mono HB.out.size))
  clear hb c0 c1 c2 CC
  by_cases hz1 : e1 = 0
  case neg =>
    obtain ⟨rfl, rfl⟩ := BAD.out e1 (by rw [HER.out, if_neg hz1]) hz1
    have hz2 : (E != 0) = true := by simpa using hz1
    clear BAD
    go_wp2
    go_ret2
    exact ⟨_, rfl, World.ownsRow_nil _ _ _ _, HB.out⟩
  subst hz1
  go_wp2_with fail
  refine (CQ.out _ HB.out).mono ?_
  rintro e w_ ⟨rfl, rfl⟩
  clear CQ
  by_cases hz2 : e2 = 0
  case neg =>
    obtain ⟨rfl, rfl⟩ := BAD.out e2 (by rw [HER.out, if_pos trivial, if_neg hz2]) hz2
    have hz3 : (E != 0) = true := by simpa using hz2
    clear BAD
    go_wp2
    go_ret2
    exact ⟨_, rfl, World.ownsRow_nil _ _ _ _, HB.out⟩
  subst hz2
  have hzz : sdEr t.c xs = 0 := by rw [HER.out]; rfl
  obtain ⟨hq1, hq2⟩ := ckQ_ok HE2.out
  have hn4 : n ≤ 4096 := by have := HN.out; omega
  have HCO := Lib.hid (ckV_ok HE1.out)
  have HV := Lib.hid hq2
  have SP := Lib.hid (refSplit_any w.heap.size Ap n kp xs w1 (HP.out.below HB.out (Nat.le_refl _)) HB.out.size hn4 hq2)
  have hs1 := HB.out.size
  clear hq1 hq2 BAD
  go_wp2_with fail
  refine SP.out.mono ?_
  rintro e w3 ⟨sx, sy, rfl, ht⟩
  replace HK := Lib.hid (HK.out.below ht.b HK.out.lt)
  replace HB := Lib.hid (HB.out.trans (ht.b.mono hs1))
  obtain ⟨A1, k1, rfl, hM⟩ := li_own ht.ox
  obtain ⟨A2, k2, rfl, hD⟩ := li_own ht.oy
  have HM := Lib.hid hM
  have HCI := Lib.hid ((HC.out.below HB.out (Nat.le_refl _)).more HB.out.size)
  have RN := refRun_back w3.heap.size t A2 n k2 (spD xs) 65534 w3 HCI.out hD (Nat.le_refl _) hn4 HCO.out (spD_wib HV.out) (by omega) (by omega)
  have HBK := Lib.hid (fun y (h : run1 false 65534 t.c [] (spD xs) = some y) => run1_back (spD_wib HV.out) h)
  clear ht hM hD SP hs1
  obtain ⟨c0, c1, c2⟩ := HK.out.three_
  have hs3 := HB.out.size
  cases hR : run1 false 65534 t.c [] (spD xs) with
  | none =>
    obtain ⟨g1, g2⟩ := sdR_none hzz hR
    obtain rfl : R = [] := HRR.out.symm.trans g1
    obtain rfl : E = 4 := HEE.out.symm.trans g2
    rw [hR] at RN
    have RN := Lib.hid RN
    clear HBK hR HRR HEE g1 g2 hzz
    go_wp2_with fail
    refine RN.out.mono ?_
    rintro e w6 ⟨v, rfl, ho6, hb6⟩
    have HB6 := Lib.hid (HB.out.trans (hb6.mono hs3))
    obtain ⟨A6, k6, rfl, -⟩ := li_own ho6
    clear ho6 hb6 c0 c1 c2
    go_wp2
    go_ret2
    exact ⟨_, rfl, World.ownsRow_nil _ _ _ _, HB6.out⟩
  | some y =>
    obtain ⟨g1, g2⟩ := sdR_some hzz hR
    have hq1 : R = jnRes (spM xs) y := HRR.out.symm.trans g1
    have hq2 : E = jnErr (spM xs) y := HEE.out.symm.trans g2
    subst hq1 hq2
    rw [hR] at RN
    have RN := Lib.hid RN
    clear HRR HEE g1 g2 hzz
    obtain ⟨_, hy2, hy3⟩ := HBK.out y hR
    have hyn : y.length = n := by rw [hy2]; unfold spD; rw [List.length_map]; exact HN.out.symm
    have HY3 := Lib.hid hy3
    clear HBK hR hy2 hy3
    go_wp2_with fail
    refine RN.out.mono ?_
    rintro e w6 ⟨v, rfl, ho6, hb6⟩
    have HB6 := Lib.hid (HB.out.trans (hb6.mono hs3))
    have hs6 : w3.heap.size ≤ w6.heap.size := hb6.size
    have HM6 := Lib.hid ((HM.out.below hb6 (Nat.le_refl _)).more hs6)
    have ho7 : w6.ownsRow w3.heap.size 2 1 v n (nums y) := by rw [← hyn]; exact ho6
    obtain ⟨A6, k6, rfl, hY⟩ := li_own ho7
    have JN := Lib.hid (refJoin1_any w6.heap.size A1 A6 n k1 k6 (spM xs) y w6 HM6.out hY (Nat.le_refl _) hn4 (spM_wib HV.out) HY3.out)
    clear ho6 ho7 hb6 hY c0 c1 c2
    go_wp2_with fail
    refine JN.out.mono ?_
    rintro e w7 ⟨v, rfl, ho, hb⟩
    have HB7 := Lib.hid (HB6.out.trans (hb.mono HB6.out.size))
    have HO := Lib.hid (own_base_ ho HB6.out.size)
    obtain ⟨A7, c7, rfl, -⟩ := own_reads ho
    clear ho hb
    go_wp2
    go_ret2
    exact ⟨_, rfl, HO.out, HB7.out⟩

set_option maxHeartbeats 1000000 in
theorem refNarrow_any (B : Nat) (t : CV) (Ap : Option Addr) (n kp : Nat) (xs : List Smp) (w : World) (hc : CI w B t) (hp : RS w B Ap n xs) (hB : B ≤ w.heap.size) (hl : n ≤ 9223372036854775807) (hs : t.nf ≤ 9223372036854775807 ∧ t.nb ≤ 9223372036854775807) :
    Calls Try.prog 41 #[.agg #[.slice t.Af t.nf t.kf, .slice t.Ab t.nb t.kb, .int .i64 t.c.share], .slice Ap n kp] w (SmpPost w (sdR true t.c xs) (sdE true t.c xs)) := by
  obtain ⟨W, hW⟩ : ∃ W, w.alloc (.cells #[.slice t.Af t.nf t.kf, .slice t.Ab t.nb t.kb, .int .i64 t.c.share] 24) = W := ⟨_, rfl⟩
  have hb0 : Below w.heap.size w W := by rw [← hW]; exact (Below.refl _ _).alloc (Nat.le_refl _) _
  have HB := Lib.hid hb0
  have hK : Blk W w.heap.size 24 #[.slice t.Af t.nf t.kf, .slice t.Ab t.nb t.kb, .int .i64 t.c.share] := by rw [← hW]; exact Blk.new _ _ _
  obtain ⟨c0, c1, c2⟩ := hK.three_
  have CS := Lib.hid (refSided_true_any B t Ap n kp xs W (hc.below hb0 hB) (hp.below hb0 hB) (Nat.le_trans hB hb0.size) hl hs)
  clear hc hp hB hb0 hK
  go_enter Try.func41, Try.ntmps41
  go_upto_region 1 with fail
  try rw [hW]
  clear hW
  go_wp2_with fail
  refine CS.out.mono ?_
  rintro e w7 ⟨v, rfl, ho, hb⟩
  have HB7 := Lib.hid (HB.out.trans (hb.mono HB.out.size))
  have HO := Lib.hid (own_base_ ho HB.out.size)
  obtain ⟨A7, c7, rfl, -⟩ := own_reads ho
  clear ho hb
  go_wp2
  go_ret2
  exact ⟨_, rfl, HO.out, HB7.out⟩

set_option maxHeartbeats 1000000 in
theorem refWiden_any (B : Nat) (t : CV) (Ap : Option Addr) (n kp : Nat) (xs : List Smp) (w : World) (hc : CI w B t) (hp : RS w B Ap n xs) (hB : B ≤ w.heap.size) (hl : n ≤ 9223372036854775807) (hs : t.nf ≤ 9223372036854775807 ∧ t.nb ≤ 9223372036854775807) :
    Calls Try.prog 43 #[.agg #[.slice t.Af t.nf t.kf, .slice t.Ab t.nb t.kb, .int .i64 t.c.share], .slice Ap n kp] w (SmpPost w (sdR false t.c xs) (sdE false t.c xs)) := by
  obtain ⟨W, hW⟩ : ∃ W, w.alloc (.cells #[.slice t.Af t.nf t.kf, .slice t.Ab t.nb t.kb, .int .i64 t.c.share] 24) = W := ⟨_, rfl⟩
  have hb0 : Below w.heap.size w W := by rw [← hW]; exact (Below.refl _ _).alloc (Nat.le_refl _) _
  have HB := Lib.hid hb0
  have hK : Blk W w.heap.size 24 #[.slice t.Af t.nf t.kf, .slice t.Ab t.nb t.kb, .int .i64 t.c.share] := by rw [← hW]; exact Blk.new _ _ _
  obtain ⟨c0, c1, c2⟩ := hK.three_
  have CS := Lib.hid (refSided_false_any B t Ap n kp xs W (hc.below hb0 hB) (hp.below hb0 hB) (Nat.le_trans hB hb0.size) hl hs)
  clear hc hp hB hb0 hK
  go_enter Try.func43, Try.ntmps43
  go_upto_region 1 with fail
  try rw [hW]
  clear hW
  go_wp2_with fail
  refine CS.out.mono ?_
  rintro e w7 ⟨v, rfl, ho, hb⟩
  have HB7 := Lib.hid (HB.out.trans (hb.mono HB.out.size))
  have HO := Lib.hid (own_base_ ho HB.out.size)
  obtain ⟨A7, c7, rfl, -⟩ := own_reads ho
  clear ho hb
  go_wp2
  go_ret2
  exact ⟨_, rfl, HO.out, HB7.out⟩

set_option maxRecDepth 100000 in
set_option maxHeartbeats 8000000 in
theorem sides_walk (B : Nat) (t : CV) (Ap : Option Addr) (np kp : Nat) (p : List Smp) (w : World) (hc : CI w B t) (hp : RS w B Ap np p) (hB : B ≤ w.heap.size) (l1 : np ≤ 9223372036854775807) (hs : t.nf ≤ 9223372036854775807 ∧ t.nb ≤ 9223372036854775807) :
    Calls Try.prog 8 #[.agg #[.slice t.Af t.nf t.kf, .slice t.Ab t.nb t.kb, .int .i64 t.c.share], .slice Ap np kp] w fun e w' => e = .returned (.bool true) ∧ Below w.heap.size w w' := by
  have HC := Lib.hid (hc.more hB)
  have HP := Lib.hid (hp.more hB)
  clear hp hc hB
  have hcs : CSm [t] := fun u hu => by rw [List.mem_singleton.1 hu]; exact hs
  cases b1 : chnB ([t].map CV.c)
  case true =>
    have HCS := Lib.hid b1
    clear b1
    go_enter Try.func8, Try.ntmps8
    go_upto_region 1 with fail
    obtain ⟨w1, hW⟩ : ∃ W, w.alloc (.cells #[.slice t.Af t.nf t.kf, .slice t.Ab t.nb t.kb, .int .i64 t.c.share] 24) = W := ⟨_, rfl⟩
    have hb : Below w.heap.size w w1 := by rw [← hW]; exact (Below.refl _ _).alloc (Nat.le_refl _) _
    have hsz1 := hb.size
    replace HC := Lib.hid (HC.out.below hb (by omega))
    replace HP := Lib.hid (HP.out.below hb (by omega))
    have HK : Hid (Blk w1 w.heap.size 24 #[.slice t.Af t.nf t.kf, .slice t.Ab t.nb t.kb, .int .i64 t.c.share]) := Lib.hid (by rw [← hW]; exact Blk.new _ _ _)
    have HB := Lib.hid hb
    try rw [hW]
    clear hW hb
    obtain ⟨c0, c1, c2⟩ := HK.out.three_
    go_wp2_with fail
    obtain ⟨w2, hW⟩ : ∃ W, w1.alloc (.cells #[.slice t.Af t.nf t.kf, .slice t.Ab t.nb t.kb, .int .i64 t.c.share] 24) = W := ⟨_, rfl⟩
    have hb : Below w1.heap.size w1 w2 := by rw [← hW]; exact (Below.refl _ _).alloc (Nat.le_refl _) _
    have hsz2 := hb.size
    replace HC := Lib.hid (HC.out.below hb (by omega))
    replace HP := Lib.hid (HP.out.below hb (by omega))
    replace HK := Lib.hid (HK.out.below hb HK.out.lt)
    replace HB := Lib.hid (HB.out.trans (hb.mono (by omega)))
    have HD : Hid (Blk w2 w1.heap.size 24 #[.slice t.Af t.nf t.kf, .slice t.Ab t.nb t.kb, .int .i64 t.c.share]) := Lib.hid (by rw [← hW]; exact Blk.new _ _ _)
    try rw [hW]
    clear hW hb
    obtain ⟨c0, c1, c2⟩ := HK.out.three_
    have CALL := chains_any w2.heap.size (some ⟨w1.heap.size, 0, none⟩) 1 1 [t] w2 (rc_one HD.out HD.out.lt (HC.out.more (by omega))) (Nat.le_refl _) (by omega) hcs
    rw [HCS.out] at CALL
    refine CALL.mono ?_
    rintro e w_ ⟨rfl, rfl⟩
    clear CALL HD
    go_wp2_with fail
    have CALL := works_any w2
    refine CALL.mono ?_
    rintro e w3 ⟨rfl, hb⟩
    clear CALL
    have hsz3 := hb.size
    replace HC := Lib.hid (HC.out.below hb (by omega))
    replace HP := Lib.hid (HP.out.below hb (by omega))
    replace HK := Lib.hid (HK.out.below hb HK.out.lt)
    replace HB := Lib.hid (HB.out.trans (hb.mono (by omega)))

    clear hb
    obtain ⟨c0, c1, c2⟩ := HK.out.three_
    go_wp2
    go_ret
    exact ⟨rfl, HB.out⟩
  case false =>
    cases b2 : lngB np 400
    case true =>
      have HCS := Lib.hid b1
      have HLN := Lib.hid b2
      clear b1 b2
      go_enter Try.func8, Try.ntmps8
      go_upto_region 1 with fail
      obtain ⟨w1, hW⟩ : ∃ W, w.alloc (.cells #[.slice t.Af t.nf t.kf, .slice t.Ab t.nb t.kb, .int .i64 t.c.share] 24) = W := ⟨_, rfl⟩
      have hb : Below w.heap.size w w1 := by rw [← hW]; exact (Below.refl _ _).alloc (Nat.le_refl _) _
      have hsz1 := hb.size
      replace HC := Lib.hid (HC.out.below hb (by omega))
      replace HP := Lib.hid (HP.out.below hb (by omega))
      have HK : Hid (Blk w1 w.heap.size 24 #[.slice t.Af t.nf t.kf, .slice t.Ab t.nb t.kb, .int .i64 t.c.share]) := Lib.hid (by rw [← hW]; exact Blk.new _ _ _)
      have HB := Lib.hid hb
      try rw [hW]
      clear hW hb
      obtain ⟨c0, c1, c2⟩ := HK.out.three_
      go_wp2_with fail
      obtain ⟨w2, hW⟩ : ∃ W, w1.alloc (.cells #[.slice t.Af t.nf t.kf, .slice t.Ab t.nb t.kb, .int .i64 t.c.share] 24) = W := ⟨_, rfl⟩
      have hb : Below w1.heap.size w1 w2 := by rw [← hW]; exact (Below.refl _ _).alloc (Nat.le_refl _) _
      have hsz2 := hb.size
      replace HC := Lib.hid (HC.out.below hb (by omega))
      replace HP := Lib.hid (HP.out.below hb (by omega))
      replace HK := Lib.hid (HK.out.below hb HK.out.lt)
      replace HB := Lib.hid (HB.out.trans (hb.mono (by omega)))
      have HD : Hid (Blk w2 w1.heap.size 24 #[.slice t.Af t.nf t.kf, .slice t.Ab t.nb t.kb, .int .i64 t.c.share]) := Lib.hid (by rw [← hW]; exact Blk.new _ _ _)
      try rw [hW]
      clear hW hb
      obtain ⟨c0, c1, c2⟩ := HK.out.three_
      have CALL := chains_any w2.heap.size (some ⟨w1.heap.size, 0, none⟩) 1 1 [t] w2 (rc_one HD.out HD.out.lt (HC.out.more (by omega))) (Nat.le_refl _) (by omega) hcs
      rw [HCS.out] at CALL
      refine CALL.mono ?_
      rintro e w_ ⟨rfl, rfl⟩
      clear CALL HD
      go_wp2_with fail
      have CALL := long_any np 400 w2
      rw [HLN.out] at CALL
      refine CALL.mono ?_
      rintro e w_ ⟨rfl, rfl⟩
      clear CALL
      go_wp2_with fail
      have CALL := works_any w2
      refine CALL.mono ?_
      rintro e w3 ⟨rfl, hb⟩
      clear CALL
      have hsz3 := hb.size
      replace HC := Lib.hid (HC.out.below hb (by omega))
      replace HP := Lib.hid (HP.out.below hb (by omega))
      replace HK := Lib.hid (HK.out.below hb HK.out.lt)
      replace HB := Lib.hid (HB.out.trans (hb.mono (by omega)))

      clear hb
      obtain ⟨c0, c1, c2⟩ := HK.out.three_
      go_wp2
      go_ret
      exact ⟨rfl, HB.out⟩
    case false =>
      have HCS := Lib.hid b1
      have HLN := Lib.hid b2
      clear b1 b2
      go_enter Try.func8, Try.ntmps8
      go_upto_region 1 with fail
      obtain ⟨w1, hW⟩ : ∃ W, w.alloc (.cells #[.slice t.Af t.nf t.kf, .slice t.Ab t.nb t.kb, .int .i64 t.c.share] 24) = W := ⟨_, rfl⟩
      have hb : Below w.heap.size w w1 := by rw [← hW]; exact (Below.refl _ _).alloc (Nat.le_refl _) _
      have hsz1 := hb.size
      replace HC := Lib.hid (HC.out.below hb (by omega))
      replace HP := Lib.hid (HP.out.below hb (by omega))
      have HK : Hid (Blk w1 w.heap.size 24 #[.slice t.Af t.nf t.kf, .slice t.Ab t.nb t.kb, .int .i64 t.c.share]) := Lib.hid (by rw [← hW]; exact Blk.new _ _ _)
      have HB := Lib.hid hb
      try rw [hW]
      clear hW hb
      obtain ⟨c0, c1, c2⟩ := HK.out.three_
      go_wp2_with fail
      obtain ⟨w2, hW⟩ : ∃ W, w1.alloc (.cells #[.slice t.Af t.nf t.kf, .slice t.Ab t.nb t.kb, .int .i64 t.c.share] 24) = W := ⟨_, rfl⟩
      have hb : Below w1.heap.size w1 w2 := by rw [← hW]; exact (Below.refl _ _).alloc (Nat.le_refl _) _
      have hsz2 := hb.size
      replace HC := Lib.hid (HC.out.below hb (by omega))
      replace HP := Lib.hid (HP.out.below hb (by omega))
      replace HK := Lib.hid (HK.out.below hb HK.out.lt)
      replace HB := Lib.hid (HB.out.trans (hb.mono (by omega)))
      have HD : Hid (Blk w2 w1.heap.size 24 #[.slice t.Af t.nf t.kf, .slice t.Ab t.nb t.kb, .int .i64 t.c.share]) := Lib.hid (by rw [← hW]; exact Blk.new _ _ _)
      try rw [hW]
      clear hW hb
      obtain ⟨c0, c1, c2⟩ := HK.out.three_
      have CALL := chains_any w2.heap.size (some ⟨w1.heap.size, 0, none⟩) 1 1 [t] w2 (rc_one HD.out HD.out.lt (HC.out.more (by omega))) (Nat.le_refl _) (by omega) hcs
      rw [HCS.out] at CALL
      refine CALL.mono ?_
      rintro e w_ ⟨rfl, rfl⟩
      clear CALL HD
      go_wp2_with fail
      have CALL := long_any np 400 w2
      rw [HLN.out] at CALL
      refine CALL.mono ?_
      rintro e w_ ⟨rfl, rfl⟩
      clear CALL
      go_wp2_with fail
      have CALL := Narrow_any w2.heap.size t Ap np kp p w2 (HC.out.more (by omega)) (HP.out.more (by omega)) (Nat.le_refl _) (by omega) hs
      refine CALL.mono ?_
      rintro e w3 ⟨va, rfl, ho, hb⟩
      clear CALL
      have hsz3 := hb.size
      replace HC := Lib.hid (HC.out.below hb (by omega))
      replace HP := Lib.hid (HP.out.below hb (by omega))
      replace HK := Lib.hid (HK.out.below hb HK.out.lt)
      replace HB := Lib.hid (HB.out.trans (hb.mono (by omega)))
      have hlQ := own_le ho
      obtain ⟨AQ, cQ, rfl, hr⟩ := own_reads ho
      have HQ : Hid (RS w3 w3.heap.size AQ (sdR true t.c p).length (sdR true t.c p)) := Lib.hid ⟨rfl, hr⟩
      clear ho hr
      clear hb
      obtain ⟨c0, c1, c2⟩ := HK.out.three_
      go_wp2_with fail
      have CALL := refNarrow_any w3.heap.size t Ap np kp p w3 (HC.out.more (by omega)) (HP.out.more (by omega)) (Nat.le_refl _) (by omega) hs
      refine CALL.mono ?_
      rintro e w4 ⟨va, rfl, ho, hb⟩
      clear CALL
      have hsz4 := hb.size
      replace HC := Lib.hid (HC.out.below hb (by omega))
      replace HP := Lib.hid (HP.out.below hb (by omega))
      replace HQ := Lib.hid (HQ.out.below hb (by omega))
      replace HK := Lib.hid (HK.out.below hb HK.out.lt)
      replace HB := Lib.hid (HB.out.trans (hb.mono (by omega)))
      have hlU := own_le ho
      obtain ⟨AU, cU, rfl, hr⟩ := own_reads ho
      have HU : Hid (RS w4 w4.heap.size AU (sdR true t.c p).length (sdR true t.c p)) := Lib.hid ⟨rfl, hr⟩
      clear ho hr
      clear hb
      obtain ⟨c0, c1, c2⟩ := HK.out.three_
      go_wp2_with fail
      have CALL := Widen_any w4.heap.size t Ap np kp p w4 (HC.out.more (by omega)) (HP.out.more (by omega)) (Nat.le_refl _) (by omega) hs
      refine CALL.mono ?_
      rintro e w5 ⟨va, rfl, ho, hb⟩
      clear CALL
      have hsz5 := hb.size
      replace HC := Lib.hid (HC.out.below hb (by omega))
      replace HP := Lib.hid (HP.out.below hb (by omega))
      replace HQ := Lib.hid (HQ.out.below hb (by omega))
      replace HU := Lib.hid (HU.out.below hb (by omega))
      replace HK := Lib.hid (HK.out.below hb HK.out.lt)
      replace HB := Lib.hid (HB.out.trans (hb.mono (by omega)))
      have hlR := own_le ho
      obtain ⟨AR, cR, rfl, hr⟩ := own_reads ho
      have HR : Hid (RS w5 w5.heap.size AR (sdR false t.c p).length (sdR false t.c p)) := Lib.hid ⟨rfl, hr⟩
      clear ho hr
      clear hb
      obtain ⟨c0, c1, c2⟩ := HK.out.three_
      go_wp2_with fail
      have CALL := refWiden_any w5.heap.size t Ap np kp p w5 (HC.out.more (by omega)) (HP.out.more (by omega)) (Nat.le_refl _) (by omega) hs
      refine CALL.mono ?_
      rintro e w6 ⟨va, rfl, ho, hb⟩
      clear CALL
      have hsz6 := hb.size
      replace HC := Lib.hid (HC.out.below hb (by omega))
      replace HP := Lib.hid (HP.out.below hb (by omega))
      replace HQ := Lib.hid (HQ.out.below hb (by omega))
      replace HU := Lib.hid (HU.out.below hb (by omega))
      replace HR := Lib.hid (HR.out.below hb (by omega))
      replace HK := Lib.hid (HK.out.below hb HK.out.lt)
      replace HB := Lib.hid (HB.out.trans (hb.mono (by omega)))
      have hlV := own_le ho
      obtain ⟨AV, cV, rfl, hr⟩ := own_reads ho
      have HV : Hid (RS w6 w6.heap.size AV (sdR false t.c p).length (sdR false t.c p)) := Lib.hid ⟨rfl, hr⟩
      clear ho hr
      clear hb
      obtain ⟨c0, c1, c2⟩ := HK.out.three_
      go_wp2_with fail
      have CALL := SamePrograms_any w6.heap.size AQ AU (sdR true t.c p).length cQ (sdR true t.c p).length cU (sdR true t.c p) w6 (HQ.out.more (by omega)) (HU.out.more (by omega)) (Nat.le_refl _) (by omega)
      refine CALL.mono ?_
      rintro e w7 ⟨rfl, hb⟩
      clear CALL
      have hsz7 := hb.size
      replace HC := Lib.hid (HC.out.below hb (by omega))
      replace HP := Lib.hid (HP.out.below hb (by omega))
      replace HQ := Lib.hid (HQ.out.below hb (by omega))
      replace HU := Lib.hid (HU.out.below hb (by omega))
      replace HR := Lib.hid (HR.out.below hb (by omega))
      replace HV := Lib.hid (HV.out.below hb (by omega))
      replace HK := Lib.hid (HK.out.below hb HK.out.lt)
      replace HB := Lib.hid (HB.out.trans (hb.mono (by omega)))

      clear hb
      obtain ⟨c0, c1, c2⟩ := HK.out.three_
      go_wp2_with fail
      have CALL := SamePrograms_any w7.heap.size AR AV (sdR false t.c p).length cR (sdR false t.c p).length cV (sdR false t.c p) w7 (HR.out.more (by omega)) (HV.out.more (by omega)) (Nat.le_refl _) (by omega)
      refine CALL.mono ?_
      rintro e w8 ⟨rfl, hb⟩
      clear CALL
      have hsz8 := hb.size
      replace HC := Lib.hid (HC.out.below hb (by omega))
      replace HP := Lib.hid (HP.out.below hb (by omega))
      replace HQ := Lib.hid (HQ.out.below hb (by omega))
      replace HU := Lib.hid (HU.out.below hb (by omega))
      replace HR := Lib.hid (HR.out.below hb (by omega))
      replace HV := Lib.hid (HV.out.below hb (by omega))
      replace HK := Lib.hid (HK.out.below hb HK.out.lt)
      replace HB := Lib.hid (HB.out.trans (hb.mono (by omega)))

      clear hb
      obtain ⟨c0, c1, c2⟩ := HK.out.three_
      go_wp2_with fail
      have CALL := works_any w8
      refine CALL.mono ?_
      rintro e w9 ⟨rfl, hb⟩
      clear CALL
      have hsz9 := hb.size
      replace HC := Lib.hid (HC.out.below hb (by omega))
      replace HP := Lib.hid (HP.out.below hb (by omega))
      replace HQ := Lib.hid (HQ.out.below hb (by omega))
      replace HU := Lib.hid (HU.out.below hb (by omega))
      replace HR := Lib.hid (HR.out.below hb (by omega))
      replace HV := Lib.hid (HV.out.below hb (by omega))
      replace HK := Lib.hid (HK.out.below hb HK.out.lt)
      replace HB := Lib.hid (HB.out.trans (hb.mono (by omega)))

      clear hb
      obtain ⟨c0, c1, c2⟩ := HK.out.three_
      go_wp2
      go_ret
      exact ⟨rfl, HB.out⟩
end Go.Proofs.Ytlghgehbmlgacaa
