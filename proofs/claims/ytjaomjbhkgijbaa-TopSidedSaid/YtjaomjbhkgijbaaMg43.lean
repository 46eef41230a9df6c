/-
  Programmes narrowed and widened: sided, Narrow, Widen.
-/
import Derived.Test.YtjaomjbhkgijbaaMg42
import Derived.Test.YtjaomjbhkgijbaaMg25

namespace Go.Proofs.Ytjaomjbhkgijbaa
open Go.RowKit

def sdEr (c : Cur) (xs : List Smp) : Int := orL [ckV c, ckQ xs]
def sdR (d : Bool) (c : Cur) (xs : List Smp) : List Smp := if sdEr c xs = 0 then (match run1 d 65534 c [] (spD xs) with | none => [] | some y => jnRes (spM xs) y) else []
def sdE (d : Bool) (c : Cur) (xs : List Smp) : Int := if sdEr c xs = 0 then (match run1 d 65534 c [] (spD xs) with | none => 4 | some y => jnErr (spM xs) y) else sdEr c xs
theorem sdEr_ok {c : Cur} {xs : List Smp} (h : sdEr c xs = 0) : ckV c = 0 ∧ ckQ xs = 0 := by
  unfold sdEr orL at h
  split at h
  · rename_i h1
    unfold orL at h
    split at h
    · rename_i h2; exact ⟨h1, h2⟩
    · rename_i h2; exact absurd h h2
  · rename_i h1; exact absurd h h1
theorem sdR_none {d : Bool} {c : Cur} {xs : List Smp} (h : sdEr c xs = 0) (hr : run1 d 65534 c [] (spD xs) = none) : sdR d c xs = [] ∧ sdE d c xs = 4 := by
  unfold sdR sdE; rw [if_pos h, if_pos h, hr]; exact ⟨rfl, rfl⟩
theorem sdR_some {d : Bool} {c : Cur} {xs : List Smp} {y : List Int} (h : sdEr c xs = 0) (hr : run1 d 65534 c [] (spD xs) = some y) : sdR d c xs = jnRes (spM xs) y ∧ sdE d c xs = jnErr (spM xs) y := by
  unfold sdR sdE; rw [if_pos h, if_pos h, hr]; exact ⟨rfl, rfl⟩
theorem spD_wib {xs : List Smp} (h : vss xs = true) : ∀ v ∈ spD xs, wib v 65534 = true := by
  intro v hv
  unfold spD at hv
  obtain ⟨s, hs, rfl⟩ := List.mem_map.1 hv
  unfold vss at h
  have := vs_bdQ ((List.all_eq_true.1 h) s hs)
  exact wib_in (by omega) (by omega)
theorem spM_wib {xs : List Smp} (h : vss xs = true) : ∀ v ∈ spM xs, wib v 32767 = true := by
  intro v hv
  unfold spM at hv
  obtain ⟨s, hs, rfl⟩ := List.mem_map.1 hv
  unfold vss at h
  have := vs_bdQ ((List.all_eq_true.1 h) s hs)
  exact wib_in (by omega) (by omega)

set_option maxRecDepth 100000 in
set_option maxHeartbeats 4000000 in
theorem sided_true_any (B : Nat) (t : CV) (Ap : Option Addr) (n kp : Nat) (xs : List Smp) (w : World) (hc : CI w B t) (hp : RS w B Ap n xs) (hB : B ≤ w.heap.size) (hl : n ≤ 9223372036854775807) (hs : t.nf ≤ 9223372036854775807 ∧ t.nb ≤ 9223372036854775807) :
    Calls Try.prog 113 #[.agg #[.slice t.Af t.nf t.kf, .slice t.Ab t.nb t.kb, .int .i64 t.c.share], .slice Ap n kp] w (SmpPost w (sdR true t.c xs) (sdE true t.c xs)) := by
  have HC := Lib.hid (hc.more hB)
  have HP := Lib.hid (hp.more hB)
  have HN := Lib.hid hp.1
  clear hc hp hB
  have CC := Lib.hid (fun W (h : Below w.heap.size w W) => CheckCurve_any w.heap.size t.Af t.Ab t.nf t.kf t.nb t.kb t.c W (HC.out.below h (Nat.le_refl _)).f (HC.out.below h (Nat.le_refl _)).b h.size hs.1 hs.2)
  have CQ := Lib.hid (fun W (h : Below w.heap.size w W) => checkProgramme_any w.heap.size Ap n kp xs W (HP.out.below h (Nat.le_refl _)) h.size hl)
  have HER : Hid (sdEr t.c xs = orL [ckV t.c, ckQ xs]) := Lib.hid rfl
  obtain ⟨e1, he1⟩ : ∃ e, ckV t.c = e := ⟨_, rfl⟩
  obtain ⟨e2, he2⟩ : ∃ e, ckQ xs = e := ⟨_, rfl⟩
  rw [he1] at CC HER
  rw [he2] at CQ HER
  clear he1 he2
  have HOR := Lib.hid (fun B A n c W h1 h2 h3 h4 => cmpOr_any B A n c [e1, e2] W h1 h2 h3 h4)
  obtain ⟨er, her⟩ : ∃ e, orL [e1, e2] = e := ⟨_, rfl⟩
  rw [her] at HOR HER
  clear her
  obtain ⟨R, hRR⟩ : ∃ R, sdR true t.c xs = R := ⟨_, rfl⟩
  obtain ⟨E, hEE⟩ : ∃ R, sdE true t.c xs = R := ⟨_, rfl⟩
  rw [hRR, hEE]
  have HRR := Lib.hid hRR
  have HEE := Lib.hid hEE
  clear hRR hEE
  obtain ⟨W, hW⟩ : ∃ W, w.alloc (.cells #[.slice t.Af t.nf t.kf, .slice t.Ab t.nb t.kb, .int .i64 t.c.share] 43) = W := ⟨_, rfl⟩
  have hb0 : Below w.heap.size w W := by rw [← hW]; exact (Below.refl _ _).alloc (Nat.le_refl _) _
  have HB := Lib.hid hb0
  have HK : Hid (Blk W w.heap.size 43 #[.slice t.Af t.nf t.kf, .slice t.Ab t.nb t.kb, .int .i64 t.c.share]) := Lib.hid (by rw [← hW]; exact Blk.new _ _ _)
  clear hb0
  go_enter Try.func113, Try.ntmps113
  go_upto_region 1 with fail
  try rw [hW]
  clear hW
  obtain ⟨c0, c1, c2⟩ := HK.out.three_
  go_wp2_with fail
  refine (CC.out _ HB.out).mono ?_
  rintro e w1 ⟨rfl, hb⟩
  replace HK := Lib.hid (HK.out.below hb HK.out.lt)
  replace HB := Lib.hid (HB.out.trans (hb.mono HB.out.size))
  clear hb c0 c1 c2
  go_wp2_with fail
  refine (CQ.out _ HB.out).mono ?_
  rintro e w2 ⟨rfl, hb⟩
  replace HK := Lib.hid (HK.out.below hb HK.out.lt)
  replace HB := Lib.hid (HB.out.trans (hb.mono HB.out.size))
  clear hb
  go_wp2_with fail
  refine (HOR.out _ _ _ _ _ rfl (reads_cells (blk_al rfl) (Nat.lt_succ_self _) (by rfl) (by rfl)) (by simp) (by simp)).mono ?_
  rintro e w' ⟨rfl, rfl⟩
  obtain ⟨W2, hW2⟩ : ∃ W2, w2.alloc (.cells #[.int .i64 e1, .int .i64 e2] 27) = W2 := ⟨_, rfl⟩
  replace HK : Hid (Blk W2 w.heap.size 43 #[.slice t.Af t.nf t.kf, .slice t.Ab t.nb t.kb, .int .i64 t.c.share]) := Lib.hid (by rw [← hW2]; exact HK.out.alloc _)
  replace HB : Hid (Below w.heap.size w W2) := Lib.hid (by rw [← hW2]; exact HB.out.alloc HB.out.size _)
  rw [hW2]
  clear hW2 CC CQ HOR
  by_cases hz : er = 0
  · subst hz
    obtain ⟨hcv, hcq⟩ := sdEr_ok HER.out
    obtain ⟨hq1, hq2⟩ := ckQ_ok hcq
    have hn4 : n ≤ 4096 := by have := HN.out; omega
    have HCO := Lib.hid (ckV_ok hcv)
    have HV := Lib.hid hq2
    have SP := fsplit_any w.heap.size Ap n kp xs W2 (HP.out.below HB.out (Nat.le_refl _)) HB.out.size hn4 hq2
    have SP := Lib.hid SP
    have hs2 := HB.out.size
    clear hcv hcq hq1 hq2
    go_wp2_with fail
    refine SP.out.mono ?_
    rintro e w3 ⟨sx, sy, rfl, ht⟩
    replace HK := Lib.hid (HK.out.below ht.b HK.out.lt)
    replace HB := Lib.hid (HB.out.trans (ht.b.mono hs2))
    obtain ⟨A1, k1, rfl, hM⟩ := li_own ht.ox
    obtain ⟨A2, k2, rfl, hD⟩ := li_own ht.oy
    have HM := Lib.hid hM
    have HD := Lib.hid hD
    have HCI := Lib.hid ((HC.out.below HB.out (Nat.le_refl _)).more HB.out.size)
    clear ht hM hD SP hs2
    obtain ⟨c0, c1, c2⟩ := HK.out.three_
    go_wp2_with fail
    refine (run_forth_any t.Af t.Ab t.nf t.kf t.nb t.kb t.c.share _).mono ?_
    rintro e w4 ⟨gd, g, rfl, r1, r2, r3, hb4, hd4, hs4⟩
    clear c0 c1 c2
    go_wp2_with fail
    obtain ⟨W5, hW5⟩ : ∃ W5, w4.alloc (.cells #[.func (.func 166) #[] #[.pointer (some ⟨gd, 0, none⟩), .pointer (some ⟨g, 0, none⟩)]] 147) = W5 := ⟨_, rfl⟩
    have hb5 : Below w3.heap.size w3 W5 := by rw [← hW5]; exact hb4.alloc hb4.size _
    have hown : W5.ownsRow w3.heap.size 147 1 (.slice (some ⟨w4.heap.size, 0, none⟩) 1 1) 1 ([(⟨gd, g, t.Af, t.Ab, t.nf, t.kf, t.nb, t.kb, t.c⟩ : SR)].map (SR.val true)) := by
      rw [← hW5]
      exact World.ownsRow_lit (base := w3.heap.size) (e := 147) (size := 1) w4 #[SR.val true (⟨gd, g, t.Af, t.Ab, t.nf, t.kf, t.nb, t.kb, t.c⟩ : SR)] 1 hb4.size (by unfold maxLen; omega) rfl
    have hliv : Lives W5 w3.heap.size true [(⟨gd, g, t.Af, t.Ab, t.nf, t.kf, t.nb, t.kb, t.c⟩ : SR)] [[]] := by
      have h0 : Lives w4 w3.heap.size true [] [] := Lives.nil_
      have h1 : Live w4 w3.heap.size true (⟨gd, g, t.Af, t.Ab, t.nf, t.kf, t.nb, t.kb, t.c⟩ : SR) [] := ⟨hs4, hd4, HCI.out.f.below hb4 (Nat.le_refl _), HCI.out.b.below hb4 (Nat.le_refl _), r2, r1, HCO.out, fun m hm => by cases hm⟩
      have h2 := h0.snoc h1 (fun u hu => by cases hu)
      have h3 := h2.below (w' := W5) (by rw [← hW5]; exact (Below.refl _ _).alloc (Nat.le_refl _) _)
      exact h3
    have TH := through_any true w3.heap.size w3.heap.size (some ⟨w4.heap.size, 0, none⟩) 1 1 [(⟨gd, g, t.Af, t.Ab, t.nf, t.kf, t.nb, t.kb, t.c⟩ : SR)] [[]] A2 n k2 (spD xs) 65534 W5 hown rfl hliv (HD.out.below hb5 (Nat.le_refl _)) hb5.size (by omega) hn4 (spD_wib HV.out) (by omega) (by omega)
    rw [show thr true 65534 ([(⟨gd, g, t.Af, t.Ab, t.nf, t.kf, t.nb, t.kb, t.c⟩ : SR)].map SR.c) [[]] (spD xs) = run1 true 65534 t.c [] (spD xs) from thr_one true 65534 t.c (spD xs) []] at TH
    have HM5 := Lib.hid (HM.out.below hb5 (Nat.le_refl _))
    have HB5 := Lib.hid (HB.out.trans (hb5.mono HB.out.size))
    have hs3 : w.heap.size ≤ w3.heap.size := HB.out.size
    have hs5 : w3.heap.size ≤ W5.heap.size := hb5.size
    rw [hW5]
    clear hW5 hb5 hb4 hown hliv hd4 hs4 HK HM HD HB
    have hq1 : R = (match run1 true 65534 t.c [] (spD xs) with | none => [] | some y => jnRes (spM xs) y) := by rw [← HRR.out]; unfold sdR; rw [if_pos HER.out]
    have hq2 : E = (match run1 true 65534 t.c [] (spD xs) with | none => 4 | some y => jnErr (spM xs) y) := by rw [← HEE.out]; unfold sdE; rw [if_pos HER.out]
    have HBK := Lib.hid (fun y (h : run1 true 65534 t.c [] (spD xs) = some y) => run1_back (spD_wib HV.out) h)
    clear HRR HEE
    cases hR : run1 true 65534 t.c [] (spD xs) with
    | none =>
      rw [hR] at TH hq1 hq2
      dsimp only at hq1 hq2
      subst hq1 hq2
      have TH := Lib.hid TH
      clear HBK hR
      refine TH.out.mono ?_
      rintro e w6 ⟨⟨v, rfl, ho6, hb6⟩, -⟩
      have HB6 := Lib.hid (HB5.out.trans (hb6.mono hs3))
      obtain ⟨A6, k6, rfl, -⟩ := li_own ho6
      clear ho6 hb6
      go_wp2
      go_ret2
      exact ⟨_, rfl, World.ownsRow_nil _ _ _ _, HB6.out⟩
    | some y =>
      rw [hR] at TH hq1 hq2
      dsimp only at hq1 hq2
      subst hq1 hq2
      have TH := Lib.hid TH
      obtain ⟨_, hy2, hy3⟩ := HBK.out y hR
      have hyn : y.length = n := by rw [hy2]; unfold spD; rw [List.length_map]; exact HN.out.symm
      have HY3 := Lib.hid hy3
      clear HBK hR hy2 hy3
      refine TH.out.mono ?_
      rintro e w6 ⟨⟨v, rfl, ho6, hb6⟩, -⟩
      have HB6 := Lib.hid (HB5.out.trans (hb6.mono hs3))
      have hs6 : w3.heap.size ≤ w6.heap.size := Nat.le_trans hs5 hb6.size
      have HM6 := Lib.hid ((HM5.out.below hb6 (Nat.le_refl _)).more hs6)
      have ho7 : w6.ownsRow w3.heap.size 2 1 v n (nums y) := by rw [← hyn]; exact ho6
      obtain ⟨A6, k6, rfl, hY⟩ := li_own ho7
      have JN := Lib.hid (join_any w6.heap.size A1 A6 n k1 k6 (spM xs) y w6 HM6.out hY (Nat.le_refl _) hn4 (spM_wib HV.out) HY3.out)
      clear ho6 ho7 hb6 hY
      go_wp2_with fail
      refine JN.out.mono ?_
      rintro e w7 ⟨v, rfl, ho, hb⟩
      have HB7 := Lib.hid (HB6.out.trans (hb.mono HB6.out.size))
      have HO := Lib.hid (own_base_ ho HB6.out.size)
      obtain ⟨A7, c7, rfl, -⟩ := own_reads ho
      clear ho hb
      go_wp2
      go_ret2
      exact ⟨_, rfl, HO.out, HB7.out⟩
  · obtain rfl : R = [] := by rw [← HRR.out]; unfold sdR; rw [HER.out, if_neg hz]
    obtain rfl : E = er := by rw [← HEE.out]; unfold sdE; rw [HER.out, if_neg hz]
    have hz2 : (E != 0) = true := by simpa using hz
    go_wp2
    go_ret2
    exact ⟨_, rfl, World.ownsRow_nil _ _ _ _, HB.out⟩

set_option maxRecDepth 100000 in
set_option maxHeartbeats 4000000 in
theorem sided_false_any (B : Nat) (t : CV) (Ap : Option Addr) (n kp : Nat) (xs : List Smp) (w : World) (hc : CI w B t) (hp : RS w B Ap n xs) (hB : B ≤ w.heap.size) (hl : n ≤ 9223372036854775807) (hs : t.nf ≤ 9223372036854775807 ∧ t.nb ≤ 9223372036854775807) :
    Calls Try.prog 115 #[.agg #[.slice t.Af t.nf t.kf, .slice t.Ab t.nb t.kb, .int .i64 t.c.share], .slice Ap n kp] w (SmpPost w (sdR false t.c xs) (sdE false t.c xs)) := by
  have HC := Lib.hid (hc.more hB)
  have HP := Lib.hid (hp.more hB)
  have HN := Lib.hid hp.1
  clear hc hp hB
  have CC := Lib.hid (fun W (h : Below w.heap.size w W) => CheckCurve_any w.heap.size t.Af t.Ab t.nf t.kf t.nb t.kb t.c W (HC.out.below h (Nat.le_refl _)).f (HC.out.below h (Nat.le_refl _)).b h.size hs.1 hs.2)
  have CQ := Lib.hid (fun W (h : Below w.heap.size w W) => checkProgramme_any w.heap.size Ap n kp xs W (HP.out.below h (Nat.le_refl _)) h.size hl)
  have HER : Hid (sdEr t.c xs = orL [ckV t.c, ckQ xs]) := Lib.hid rfl
  obtain ⟨e1, he1⟩ : ∃ e, ckV t.c = e := ⟨_, rfl⟩
  obtain ⟨e2, he2⟩ : ∃ e, ckQ xs = e := ⟨_, rfl⟩
  rw [he1] at CC HER
  rw [he2] at CQ HER
  clear he1 he2
  have HOR := Lib.hid (fun B A n c W h1 h2 h3 h4 => cmpOr_any B A n c [e1, e2] W h1 h2 h3 h4)
  obtain ⟨er, her⟩ : ∃ e, orL [e1, e2] = e := ⟨_, rfl⟩
  rw [her] at HOR HER
  clear her
  obtain ⟨R, hRR⟩ : ∃ R, sdR false t.c xs = R := ⟨_, rfl⟩
  obtain ⟨E, hEE⟩ : ∃ R, sdE false t.c xs = R := ⟨_, rfl⟩
  rw [hRR, hEE]
  have HRR := Lib.hid hRR
  have HEE := Lib.hid hEE
  clear hRR hEE
  obtain ⟨W, hW⟩ : ∃ W, w.alloc (.cells #[.slice t.Af t.nf t.kf, .slice t.Ab t.nb t.kb, .int .i64 t.c.share] 43) = W := ⟨_, rfl⟩
  have hb0 : Below w.heap.size w W := by rw [← hW]; exact (Below.refl _ _).alloc (Nat.le_refl _) _
  have HB := Lib.hid hb0
  have HK : Hid (Blk W w.heap.size 43 #[.slice t.Af t.nf t.kf, .slice t.Ab t.nb t.kb, .int .i64 t.c.share]) := Lib.hid (by rw [← hW]; exact Blk.new _ _ _)
  clear hb0
  go_enter Try.func115, Try.ntmps115
  go_upto_region 1 with fail
  try rw [hW]
  clear hW
  obtain ⟨c0, c1, c2⟩ := HK.out.three_
  go_wp2_with fail
  refine (CC.out _ HB.out).mono ?_
  rintro e w1 ⟨rfl, hb⟩
  replace HK := Lib.hid (HK.out.below hb HK.out.lt)
  replace HB := Lib.hid (HB.out.trans (hb.mono HB.out.size))
  clear hb c0 c1 c2
  go_wp2_with fail
  refine (CQ.out _ HB.out).mono ?_
  rintro e w2 ⟨rfl, hb⟩
  replace HK := Lib.hid (HK.out.below hb HK.out.lt)
  replace HB := Lib.hid (HB.out.trans (hb.mono HB.out.size))
  clear hb
  go_wp2_with fail
  refine (HOR.out _ _ _ _ _ rfl (reads_cells (blk_al rfl) (Nat.lt_succ_self _) (by rfl) (by rfl)) (by simp) (by simp)).mono ?_
  rintro e w' ⟨rfl, rfl⟩
  obtain ⟨W2, hW2⟩ : ∃ W2, w2.alloc (.cells #[.int .i64 e1, .int .i64 e2] 27) = W2 := ⟨_, rfl⟩
  replace HK : Hid (Blk W2 w.heap.size 43 #[.slice t.Af t.nf t.kf, .slice t.Ab t.nb t.kb, .int .i64 t.c.share]) := Lib.hid (by rw [← hW2]; exact HK.out.alloc _)
  replace HB : Hid (Below w.heap.size w W2) := Lib.hid (by rw [← hW2]; exact HB.out.alloc HB.out.size _)
  rw [hW2]
  clear hW2 CC CQ HOR
  by_cases hz : er = 0
  · subst hz
    obtain ⟨hcv, hcq⟩ := sdEr_ok HER.out
    obtain ⟨hq1, hq2⟩ := ckQ_ok hcq
    have hn4 : n ≤ 4096 := by have := HN.out; omega
    have HCO := Lib.hid (ckV_ok hcv)
    have HV := Lib.hid hq2
    have SP := fsplit_any w.heap.size Ap n kp xs W2 (HP.out.below HB.out (Nat.le_refl _)) HB.out.size hn4 hq2
    have SP := Lib.hid SP
    have hs2 := HB.out.size
    clear hcv hcq hq1 hq2
    go_wp2_with fail
    refine SP.out.mono ?_
    rintro e w3 ⟨sx, sy, rfl, ht⟩
    replace HK := Lib.hid (HK.out.below ht.b HK.out.lt)
    replace HB := Lib.hid (HB.out.trans (ht.b.mono hs2))
    obtain ⟨A1, k1, rfl, hM⟩ := li_own ht.ox
    obtain ⟨A2, k2, rfl, hD⟩ := li_own ht.oy
    have HM := Lib.hid hM
    have HD := Lib.hid hD
    have HCI := Lib.hid ((HC.out.below HB.out (Nat.le_refl _)).more HB.out.size)
    clear ht hM hD SP hs2
    obtain ⟨c0, c1, c2⟩ := HK.out.three_
    go_wp2_with fail
    refine (run_back_any t.Af t.Ab t.nf t.kf t.nb t.kb t.c.share _).mono ?_
    rintro e w4 ⟨gd, g, rfl, r1, r2, r3, hb4, hd4, hs4⟩
    clear c0 c1 c2
    go_wp2_with fail
    obtain ⟨W5, hW5⟩ : ∃ W5, w4.alloc (.cells #[.func (.func 171) #[] #[.pointer (some ⟨gd, 0, none⟩), .pointer (some ⟨g, 0, none⟩)]] 147) = W5 := ⟨_, rfl⟩
    have hb5 : Below w3.heap.size w3 W5 := by rw [← hW5]; exact hb4.alloc hb4.size _
    have hown : W5.ownsRow w3.heap.size 147 1 (.slice (some ⟨w4.heap.size, 0, none⟩) 1 1) 1 ([(⟨gd, g, t.Af, t.Ab, t.nf, t.kf, t.nb, t.kb, t.c⟩ : SR)].map (SR.val false)) := by
      rw [← hW5]
      exact World.ownsRow_lit (base := w3.heap.size) (e := 147) (size := 1) w4 #[SR.val false (⟨gd, g, t.Af, t.Ab, t.nf, t.kf, t.nb, t.kb, t.c⟩ : SR)] 1 hb4.size (by unfold maxLen; omega) rfl
    have hliv : Lives W5 w3.heap.size false [(⟨gd, g, t.Af, t.Ab, t.nf, t.kf, t.nb, t.kb, t.c⟩ : SR)] [[]] := by
      have h0 : Lives w4 w3.heap.size false [] [] := Lives.nil_
      have h1 : Live w4 w3.heap.size false (⟨gd, g, t.Af, t.Ab, t.nf, t.kf, t.nb, t.kb, t.c⟩ : SR) [] := ⟨hs4, hd4, HCI.out.f.below hb4 (Nat.le_refl _), HCI.out.b.below hb4 (Nat.le_refl _), r2, r1, HCO.out, fun m hm => by cases hm⟩
      have h2 := h0.snoc h1 (fun u hu => by cases hu)
      have h3 := h2.below (w' := W5) (by rw [← hW5]; exact (Below.refl _ _).alloc (Nat.le_refl _) _)
      exact h3
    have TH := through_any false w3.heap.size w3.heap.size (some ⟨w4.heap.size, 0, none⟩) 1 1 [(⟨gd, g, t.Af, t.Ab, t.nf, t.kf, t.nb, t.kb, t.c⟩ : SR)] [[]] A2 n k2 (spD xs) 65534 W5 hown rfl hliv (HD.out.below hb5 (Nat.le_refl _)) hb5.size (by omega) hn4 (spD_wib HV.out) (by omega) (by omega)
    rw [show thr false 65534 ([(⟨gd, g, t.Af, t.Ab, t.nf, t.kf, t.nb, t.kb, t.c⟩ : SR)].map SR.c) [[]] (spD xs) = run1 false 65534 t.c [] (spD xs) from thr_one false 65534 t.c (spD xs) []] at TH
    have HM5 := Lib.hid (HM.out.below hb5 (Nat.le_refl _))
    have HB5 := Lib.hid (HB.out.trans (hb5.mono HB.out.size))
    have hs3 : w.heap.size ≤ w3.heap.size := HB.out.size
    have hs5 : w3.heap.size ≤ W5.heap.size := hb5.size
    rw [hW5]
    clear hW5 hb5 hb4 hown hliv hd4 hs4 HK HM HD HB
    have hq1 : R = (match run1 false 65534 t.c [] (spD xs) with | none => [] | some y => jnRes (spM xs) y) := by rw [← HRR.out]; unfold sdR; rw [if_pos HER.out]
    have hq2 : E = (match run1 false 65534 t.c [] (spD xs) with | none => 4 | some y => jnErr (spM xs) y) := by rw [← HEE.out]; unfold sdE; rw [if_pos HER.out]
    have HBK := Lib.hid (fun y (h : run1 false 65534 t.c [] (spD xs) = some y) => run1_back (spD_wib HV.out) h)
    clear HRR HEE
    cases hR : run1 false 65534 t.c [] (spD xs) with
    | none =>
      rw [hR] at TH hq1 hq2
      dsimp only at hq1 hq2
      subst hq1 hq2
      have TH := Lib.hid TH
      clear HBK hR
      refine TH.out.mono ?_
      rintro e w6 ⟨⟨v, rfl, ho6, hb6⟩, -⟩
      have HB6 := Lib.hid (HB5.out.trans (hb6.mono hs3))
      obtain ⟨A6, k6, rfl, -⟩ := li_own ho6
      clear ho6 hb6
      go_wp2
      go_ret2
      exact ⟨_, rfl, World.ownsRow_nil _ _ _ _, HB6.out⟩
    | some y =>
      rw [hR] at TH hq1 hq2
      dsimp only at hq1 hq2
      subst hq1 hq2
      have TH := Lib.hid TH
      obtain ⟨_, hy2, hy3⟩ := HBK.out y hR
      have hyn : y.length = n := by rw [hy2]; unfold spD; rw [List.length_map]; exact HN.out.symm
      have HY3 := Lib.hid hy3
      clear HBK hR hy2 hy3
      refine TH.out.mono ?_
      rintro e w6 ⟨⟨v, rfl, ho6, hb6⟩, -⟩
      have HB6 := Lib.hid (HB5.out.trans (hb6.mono hs3))
      have hs6 : w3.heap.size ≤ w6.heap.size := Nat.le_trans hs5 hb6.size
      have HM6 := Lib.hid ((HM5.out.below hb6 (Nat.le_refl _)).more hs6)
      have ho7 : w6.ownsRow w3.heap.size 2 1 v n (nums y) := by rw [← hyn]; exact ho6
      obtain ⟨A6, k6, rfl, hY⟩ := li_own ho7
      have JN := Lib.hid (join_any w6.heap.size A1 A6 n k1 k6 (spM xs) y w6 HM6.out hY (Nat.le_refl _) hn4 (spM_wib HV.out) HY3.out)
      clear ho6 ho7 hb6 hY
      go_wp2_with fail
      refine JN.out.mono ?_
      rintro e w7 ⟨v, rfl, ho, hb⟩
      have HB7 := Lib.hid (HB6.out.trans (hb.mono HB6.out.size))
      have HO := Lib.hid (own_base_ ho HB6.out.size)
      obtain ⟨A7, c7, rfl, -⟩ := own_reads ho
      clear ho hb
      go_wp2
      go_ret2
      exact ⟨_, rfl, HO.out, HB7.out⟩
  · obtain rfl : R = [] := by rw [← HRR.out]; unfold sdR; rw [HER.out, if_neg hz]
    obtain rfl : E = er := by rw [← HEE.out]; unfold sdE; rw [HER.out, if_neg hz]
    have hz2 : (E != 0) = true := by simpa using hz
    go_wp2
    go_ret2
    exact ⟨_, rfl, World.ownsRow_nil _ _ _ _, HB.out⟩

set_option maxHeartbeats 1000000 in
theorem Narrow_any (B : Nat) (t : CV) (Ap : Option Addr) (n kp : Nat) (xs : List Smp) (w : World) (hc : CI w B t) (hp : RS w B Ap n xs) (hB : B ≤ w.heap.size) (hl : n ≤ 9223372036854775807) (hs : t.nf ≤ 9223372036854775807 ∧ t.nb ≤ 9223372036854775807) :
    Calls Try.prog 47 #[.agg #[.slice t.Af t.nf t.kf, .slice t.Ab t.nb t.kb, .int .i64 t.c.share], .slice Ap n kp] w (SmpPost w (sdR true t.c xs) (sdE true t.c xs)) := by
  obtain ⟨W, hW⟩ : ∃ W, w.alloc (.cells #[.slice t.Af t.nf t.kf, .slice t.Ab t.nb t.kb, .int .i64 t.c.share] 43) = W := ⟨_, rfl⟩
  have hb0 : Below w.heap.size w W := by rw [← hW]; exact (Below.refl _ _).alloc (Nat.le_refl _) _
  have HB := Lib.hid hb0
  have hK : Blk W w.heap.size 43 #[.slice t.Af t.nf t.kf, .slice t.Ab t.nb t.kb, .int .i64 t.c.share] := by rw [← hW]; exact Blk.new _ _ _
  obtain ⟨c0, c1, c2⟩ := hK.three_
  have CS := Lib.hid (sided_true_any B t Ap n kp xs W (hc.below hb0 hB) (hp.below hb0 hB) (Nat.le_trans hB hb0.size) hl hs)
  clear hc hp hB hb0 hK
  go_enter Try.func47, Try.ntmps47
  go_upto_region 1 with fail
  try rw [hW]
  clear hW
  go_wp2_with fail
  refine CS.out.mono ?_
  rintro e w7 ⟨v, rfl, ho, hb⟩
  have HB7 := Lib.hid (HB.out.trans (hb.mono HB.out.size))
  have HO := Lib.hid (own_base_ ho HB.out.size)
  obtain ⟨A7, c7, rfl, -⟩ := own_reads ho
  clear ho hb
  go_wp2
  go_ret2
  exact ⟨_, rfl, HO.out, HB7.out⟩

set_option maxHeartbeats 1000000 in
theorem Widen_any (B : Nat) (t : CV) (Ap : Option Addr) (n kp : Nat) (xs : List Smp) (w : World) (hc : CI w B t) (hp : RS w B Ap n xs) (hB : B ≤ w.heap.size) (hl : n ≤ 9223372036854775807) (hs : t.nf ≤ 9223372036854775807 ∧ t.nb ≤ 9223372036854775807) :
    Calls Try.prog 49 #[.agg #[.slice t.Af t.nf t.kf, .slice t.Ab t.nb t.kb, .int .i64 t.c.share], .slice Ap n kp] w (SmpPost w (sdR false t.c xs) (sdE false t.c xs)) := by
  obtain ⟨W, hW⟩ : ∃ W, w.alloc (.cells #[.slice t.Af t.nf t.kf, .slice t.Ab t.nb t.kb, .int .i64 t.c.share] 43) = W := ⟨_, rfl⟩
  have hb0 : Below w.heap.size w W := by rw [← hW]; exact (Below.refl _ _).alloc (Nat.le_refl _) _
  have HB := Lib.hid hb0
  have hK : Blk W w.heap.size 43 #[.slice t.Af t.nf t.kf, .slice t.Ab t.nb t.kb, .int .i64 t.c.share] := by rw [← hW]; exact Blk.new _ _ _
  obtain ⟨c0, c1, c2⟩ := hK.three_
  have CS := Lib.hid (sided_false_any B t Ap n kp xs W (hc.below hb0 hB) (hp.below hb0 hB) (Nat.le_trans hB hb0.size) hl hs)
  clear hc hp hB hb0 hK
  go_enter Try.func49, Try.ntmps49
  go_upto_region 1 with fail
  try rw [hW]
  clear hW
  go_wp2_with fail
  refine CS.out.mono ?_
  rintro e w7 ⟨v, rfl, ho, hb⟩
  have HB7 := Lib.hid (HB.out.trans (hb.mono HB.out.size))
  have HO := Lib.hid (own_base_ ho HB.out.size)
  obtain ⟨A7, c7, rfl, -⟩ := own_reads ho
  clear ho hb
  go_wp2
  go_ret2
  exact ⟨_, rfl, HO.out, HB7.out⟩
end Go.Proofs.Ytjaomjbhkgijbaa

