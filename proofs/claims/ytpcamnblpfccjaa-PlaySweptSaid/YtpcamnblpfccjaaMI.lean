/-
  The walk of PlaySwept.
-/
import Derived.Test.YtpcamnblpfccjaaMK
import Derived.Test.YtpcamnblpfccjaaMH
namespace Go.Proofs.Ytpcamnblpfccjaa
open Go.RowKit

set_option maxRecDepth 100000 in
set_option maxHeartbeats 8000000 in
theorem swept_walk (B : Nat) (Af A : Option Addr) (nf cf n k : Nat) (s : List Int) (l : List Smp) (Ab : Option Addr) (nb kb : Nat) (bs : List Int) (w : World) (hL : LI w B Af nf s) (h0 : RS w B A n l) (hU : LU w B Ab nb bs) (hB : B ≤ w.heap.size) (hf : nf ≤ 9223372036854775807) (hl : n ≤ 9223372036854775807) :
    Calls Try.prog 8 #[.agg #[.slice Af nf cf], .slice A n k, .slice Ab nb kb] w fun e w' => e = .returned (.bool true) ∧ Below w.heap.size w w' := by
  have HN := Lib.hid h0.1
  have H := Lib.hid h0
  have HL := Lib.hid hL
  have HU := Lib.hid hU
  clear h0 hL
  cases hv : vdL s l 60
  · have HV := Lib.hid hv
    clear hv
    go_enter Try.func8, Try.ntmps8
    go_wp2_with fail
    obtain ⟨w1, hW⟩ : ∃ W, w.alloc (.cells #[.slice Af nf cf] 24) = W := ⟨_, rfl⟩
    have hb : Below w.heap.size w w1 := by rw [← hW]; exact (Below.refl _ _).alloc (Nat.le_refl _) _
    have hsz1 := hb.size
    replace H := Lib.hid (H.out.below hb (by omega))
    replace HL := Lib.hid (HL.out.below hb (by omega))
    replace HU := Lib.hid (HU.out.below hb (by omega))
    have HK : Hid (Blk w1 w.heap.size 24 #[.slice Af nf cf]) := Lib.hid (by rw [← hW]; exact Blk.new _ _ _)
    have HB := Lib.hid hb
    try rw [hW]
    clear hW hb
    have t0 := HK.out.one.1
    have CALL := valid_any w1.heap.size Af A nf cf n k s l 60 w1 (HL.out.more (by omega)) (H.out.more (by omega)) (Nat.le_refl _) hf hl
    rw [HV.out] at CALL
    refine CALL.mono ?_
    rintro e w2 ⟨rfl, hb⟩
    clear CALL
    have hsz2 := hb.size
    replace H := Lib.hid (H.out.below hb (by omega))
    replace HL := Lib.hid (HL.out.below hb (by omega))
    replace HU := Lib.hid (HU.out.below hb (by omega))
    replace HK := Lib.hid (HK.out.below hb HK.out.lt)
    replace HB := Lib.hid (HB.out.trans (hb.mono (by omega)))
    clear hb
    have t0 := HK.out.one.1
    go_wp2_with fail
    have CALL := works6_any w2
    refine CALL.mono ?_
    rintro e w3 ⟨rfl, hb⟩
    clear CALL
    have hsz3 := hb.size
    replace H := Lib.hid (H.out.below hb (by omega))
    replace HL := Lib.hid (HL.out.below hb (by omega))
    replace HU := Lib.hid (HU.out.below hb (by omega))
    replace HK := Lib.hid (HK.out.below hb HK.out.lt)
    replace HB := Lib.hid (HB.out.trans (hb.mono (by omega)))
    clear hb
    have t0 := HK.out.one.1
    go_wp2
    go_ret
    exact ⟨rfl, HB.out⟩
  · have HV := Lib.hid hv
    clear hv
    go_enter Try.func8, Try.ntmps8
    go_wp2_with fail
    obtain ⟨w1, hW⟩ : ∃ W, w.alloc (.cells #[.slice Af nf cf] 24) = W := ⟨_, rfl⟩
    have hb : Below w.heap.size w w1 := by rw [← hW]; exact (Below.refl _ _).alloc (Nat.le_refl _) _
    have hsz1 := hb.size
    replace H := Lib.hid (H.out.below hb (by omega))
    replace HL := Lib.hid (HL.out.below hb (by omega))
    replace HU := Lib.hid (HU.out.below hb (by omega))
    have HK : Hid (Blk w1 w.heap.size 24 #[.slice Af nf cf]) := Lib.hid (by rw [← hW]; exact Blk.new _ _ _)
    have HB := Lib.hid hb
    try rw [hW]
    clear hW hb
    have t0 := HK.out.one.1
    have HOK := Lib.hid (vdL_t HV.out)
    have hs : Shp s := ckTip_ok HOK.out.1
    have he : Edg l := (ckG_edg HOK.out.2.2).2
    have hn60 : n ≤ 60 := by have := HOK.out.2.1; have := HN.out; omega
    have HSH := Lib.hid hs
    have HE := Lib.hid he
    have hl4 : l.length ≤ 4096 := by have := HN.out; omega
    have HR0 := Lib.hid (rd_ok hs hl4 he)
    clear hs he
    have CALL := valid_any w1.heap.size Af A nf cf n k s l 60 w1 (HL.out.more (by omega)) (H.out.more (by omega)) (Nat.le_refl _) hf hl
    rw [HV.out] at CALL
    refine CALL.mono ?_
    rintro e w2 ⟨rfl, hb⟩
    clear CALL
    have hsz2 := hb.size
    replace H := Lib.hid (H.out.below hb (by omega))
    replace HL := Lib.hid (HL.out.below hb (by omega))
    replace HU := Lib.hid (HU.out.below hb (by omega))
    replace HK := Lib.hid (HK.out.below hb HK.out.lt)
    replace HB := Lib.hid (HB.out.trans (hb.mono (by omega)))
    clear hb
    have t0 := HK.out.one.1
    go_wp2_with fail
    have CALL := Read_any w2.heap.size Af A nf cf n k s l w2 (HL.out.more (by omega)) (H.out.more (by omega)) (Nat.le_refl _) (by omega) (by omega)
    rw [HR0.out, rdRes_ok HR0.out] at CALL
    refine CALL.mono ?_
    rintro e w3 ⟨A1, n1, k1, rfl, hr, hc1, hb⟩
    clear CALL
    have hsz3 := hb.size
    replace H := Lib.hid (H.out.below hb (by omega))
    replace HL := Lib.hid (HL.out.below hb (by omega))
    replace HU := Lib.hid (HU.out.below hb (by omega))
    replace HK := Lib.hid (HK.out.below hb HK.out.lt)
    replace HB := Lib.hid (HB.out.trans (hb.mono (by omega)))
    have hle1 : n1 ≤ 4096 := by have h1 := hr.1; have h2 : (rdL s l).length ≤ 4096 := (by rw [rdL_len]; exact hl4); omega
    have H1 := Lib.hid hr
    clear hr
    clear hb
    have t0 := HK.out.one.1
    go_wp2_with fail
    have CALL := Sweep_any w3.heap.size Af A nf cf n k s l w3 (HL.out.more (by omega)) (H.out.more (by omega)) (Nat.le_refl _) (by omega) (by omega)
    rw [HR0.out, swRes_ok HR0.out] at CALL
    refine CALL.mono ?_
    rintro e w4 ⟨A2, n2, k2, rfl, hr, hc2, hb⟩
    clear CALL
    have hsz4 := hb.size
    replace H := Lib.hid (H.out.below hb (by omega))
    replace HL := Lib.hid (HL.out.below hb (by omega))
    replace HU := Lib.hid (HU.out.below hb (by omega))
    replace H1 := Lib.hid (H1.out.below hb (by omega))
    replace HK := Lib.hid (HK.out.below hb HK.out.lt)
    replace HB := Lib.hid (HB.out.trans (hb.mono (by omega)))
    have hle2 : n2 ≤ 4096 := by have h1 := hr.1; have h2 : (swL s (rdL s l)).length ≤ 4096 := (by rw [swL_len, rdL_len]; exact hl4); omega
    have H2 := Lib.hid hr
    clear hr
    clear hb
    have t0 := HK.out.one.1
    have HR2 := Lib.hid (rd_ok HSH.out (by rw [swL_len, rdL_len]; exact hl4) (sw_edg HSH.out HE.out))
    have hx1 : (rdL s l).length ≤ 4096 := by rw [rdL_len]; exact hl4
    have hx2 : (swL s (rdL s l)).length ≤ 4096 := by rw [swL_len, rdL_len]; exact hl4
    have HQ := Lib.hid (rd_sw HSH.out HE.out)
    obtain ⟨sw, hsw⟩ : ∃ x, swL s (rdL s l) = x := ⟨_, rfl⟩
    have HSW := Lib.hid hsw
    rw [hsw] at H2 HR2 hx2 HQ
    obtain ⟨rd, hrd⟩ : ∃ x, rdL s l = x := ⟨_, rfl⟩
    have HRD := Lib.hid hrd
    rw [hrd] at H1 hx1 HQ HSW
    clear hsw hrd
    go_wp2_with fail
    have CALL := Read_any w4.heap.size Af A2 nf cf n2 k2 s sw w4 (HL.out.more (by omega)) (H2.out.more (by omega)) (Nat.le_refl _) (by omega) (by omega)
    rw [HR2.out, rdRes_ok HR2.out, HQ.out] at CALL
    refine CALL.mono ?_
    rintro e w5 ⟨A3, n3, k3, rfl, hr, hc3, hb⟩
    clear CALL
    have hsz5 := hb.size
    replace H := Lib.hid (H.out.below hb (by omega))
    replace HL := Lib.hid (HL.out.below hb (by omega))
    replace HU := Lib.hid (HU.out.below hb (by omega))
    replace H1 := Lib.hid (H1.out.below hb (by omega))
    replace H2 := Lib.hid (H2.out.below hb (by omega))
    replace HK := Lib.hid (HK.out.below hb HK.out.lt)
    replace HB := Lib.hid (HB.out.trans (hb.mono (by omega)))
    have hle3 : n3 ≤ 4096 := by have h1 := hr.1; have h2 : (rd).length ≤ 4096 := (hx1); omega
    have H3 := Lib.hid hr
    clear hr
    clear hb
    have t0 := HK.out.one.1
    go_wp2_with fail
    have CALL := Sweep_any w5.heap.size Af A2 nf cf n2 k2 s sw w5 (HL.out.more (by omega)) (H2.out.more (by omega)) (Nat.le_refl _) (by omega) (by omega)
    rw [HR2.out, swRes_ok HR2.out, HQ.out, HSW.out] at CALL
    refine CALL.mono ?_
    rintro e w6 ⟨A4, n4, k4, rfl, hr, hc4, hb⟩
    clear CALL
    have hsz6 := hb.size
    replace H := Lib.hid (H.out.below hb (by omega))
    replace HL := Lib.hid (HL.out.below hb (by omega))
    replace HU := Lib.hid (HU.out.below hb (by omega))
    replace H1 := Lib.hid (H1.out.below hb (by omega))
    replace H2 := Lib.hid (H2.out.below hb (by omega))
    replace H3 := Lib.hid (H3.out.below hb (by omega))
    replace HK := Lib.hid (HK.out.below hb HK.out.lt)
    replace HB := Lib.hid (HB.out.trans (hb.mono (by omega)))
    have hle4 : n4 ≤ 4096 := by have h1 := hr.1; have h2 : (sw).length ≤ 4096 := (hx2); omega
    have H4 := Lib.hid hr
    clear hr
    clear hb
    have t0 := HK.out.one.1
    go_wp2_with fail
    have CALL := refSameP_any w6.heap.size A3 A1 n3 k3 n1 k1 rd rd w6 (H3.out.more (by omega)) (H1.out.more (by omega)) (Nat.le_refl _) (by omega) (by omega)
    rw [sameP_self] at CALL
    refine CALL.mono ?_
    rintro e w7 ⟨rfl, hb⟩
    clear CALL
    have hsz7 := hb.size
    replace H := Lib.hid (H.out.below hb (by omega))
    replace HL := Lib.hid (HL.out.below hb (by omega))
    replace HU := Lib.hid (HU.out.below hb (by omega))
    replace H1 := Lib.hid (H1.out.below hb (by omega))
    replace H2 := Lib.hid (H2.out.below hb (by omega))
    replace H3 := Lib.hid (H3.out.below hb (by omega))
    replace H4 := Lib.hid (H4.out.below hb (by omega))
    replace HK := Lib.hid (HK.out.below hb HK.out.lt)
    replace HB := Lib.hid (HB.out.trans (hb.mono (by omega)))
    clear hb
    have t0 := HK.out.one.1
    go_wp2_with fail
    have CALL := refSameP_any w7.heap.size A4 A2 n4 k4 n2 k2 sw sw w7 (H4.out.more (by omega)) (H2.out.more (by omega)) (Nat.le_refl _) (by omega) (by omega)
    rw [sameP_self] at CALL
    refine CALL.mono ?_
    rintro e w8 ⟨rfl, hb⟩
    clear CALL
    have hsz8 := hb.size
    replace H := Lib.hid (H.out.below hb (by omega))
    replace HL := Lib.hid (HL.out.below hb (by omega))
    replace HU := Lib.hid (HU.out.below hb (by omega))
    replace H1 := Lib.hid (H1.out.below hb (by omega))
    replace H2 := Lib.hid (H2.out.below hb (by omega))
    replace H3 := Lib.hid (H3.out.below hb (by omega))
    replace H4 := Lib.hid (H4.out.below hb (by omega))
    replace HK := Lib.hid (HK.out.below hb HK.out.lt)
    replace HB := Lib.hid (HB.out.trans (hb.mono (by omega)))
    clear hb
    have t0 := HK.out.one.1
    clear H3
    clear H4
    have HBD := Lib.hid (fun q => HU.out.bd q)
    have HOE := Lib.hid (nrL_edg HE.out HBD.out)
    go_wp2_with fail
    have CALL := narrowed_any w8.heap.size A Ab n k nb kb l bs w8 (H.out.more (by omega)) (HU.out.more (by omega)) (Nat.le_refl _) (by omega) HE.out
    refine CALL.mono ?_
    rintro e w9 ⟨A5, n5, k5, rfl, hr, hc5, hb⟩
    clear CALL
    have hsz9 := hb.size
    replace H := Lib.hid (H.out.below hb (by omega))
    replace HL := Lib.hid (HL.out.below hb (by omega))
    replace HU := Lib.hid (HU.out.below hb (by omega))
    replace H1 := Lib.hid (H1.out.below hb (by omega))
    replace H2 := Lib.hid (H2.out.below hb (by omega))
    replace HK := Lib.hid (HK.out.below hb HK.out.lt)
    replace HB := Lib.hid (HB.out.trans (hb.mono (by omega)))
    have hle5 : n5 ≤ 4096 := by have h1 := hr.1; have h2 : (nrL l bs).length ≤ 4096 := (by rw [nrL_len]; exact hl4); omega
    have H5 := Lib.hid hr
    clear hr
    clear hb
    have t0 := HK.out.one.1
    have HX5 : Hid ((nrL l bs).length = l.length) := Lib.hid (nrL_len _ _)
    have hx5 : (nrL l bs).length ≤ 4096 := by rw [nrL_len]; exact hl4
    have HR5 := Lib.hid (rd_ok HSH.out hx5 HOE.out)
    have HIN : Hid (rdL s (nrL l bs) = rd → insP sw (nrL l bs) = true) := Lib.hid (fun h => by have h2 := sw_least HSH.out HE.out HOE.out HX5.out (h.trans HRD.out.symm); rw [HRD.out, HSW.out] at h2; exact h2)
    obtain ⟨ot, hot⟩ : ∃ x, nrL l bs = x := ⟨_, rfl⟩
    rw [hot] at H5 hx5 HR5 HIN
    clear hot HOE
    go_wp2_with fail
    have CALL := Read_any w9.heap.size Af A5 nf cf n5 k5 s ot w9 (HL.out.more (by omega)) (H5.out.more (by omega)) (Nat.le_refl _) (by omega) (by omega)
    rw [HR5.out, rdRes_ok HR5.out] at CALL
    refine CALL.mono ?_
    rintro e w10 ⟨A6, n6, k6, rfl, hr, hc6, hb⟩
    clear CALL
    have hsz10 := hb.size
    replace H := Lib.hid (H.out.below hb (by omega))
    replace HL := Lib.hid (HL.out.below hb (by omega))
    replace HU := Lib.hid (HU.out.below hb (by omega))
    replace H1 := Lib.hid (H1.out.below hb (by omega))
    replace H2 := Lib.hid (H2.out.below hb (by omega))
    replace H5 := Lib.hid (H5.out.below hb (by omega))
    replace HK := Lib.hid (HK.out.below hb HK.out.lt)
    replace HB := Lib.hid (HB.out.trans (hb.mono (by omega)))
    have hle6 : n6 ≤ 4096 := by have h1 := hr.1; have h2 : (rdL s ot).length ≤ 4096 := (by rw [rdL_len]; exact hx5); omega
    have H6 := Lib.hid hr
    clear hr
    clear hb
    have t0 := HK.out.one.1
    obtain ⟨ro, hro⟩ : ∃ x, rdL s ot = x := ⟨_, rfl⟩
    rw [hro] at H6 HIN
    clear hro
    by_cases hq : ro = rd
    · have HIQ := Lib.hid (HIN.out hq)
      subst hq
      go_wp2_with fail
      have CALL := refSameP_any w10.heap.size A6 A1 n6 k6 n1 k1 ro ro w10 (H6.out.more (by omega)) (H1.out.more (by omega)) (Nat.le_refl _) (by omega) (by omega)
      rw [sameP_self] at CALL
      refine CALL.mono ?_
      rintro e w11 ⟨rfl, hb⟩
      clear CALL
      have hsz11 := hb.size
      replace H := Lib.hid (H.out.below hb (by omega))
      replace HL := Lib.hid (HL.out.below hb (by omega))
      replace HU := Lib.hid (HU.out.below hb (by omega))
      replace H1 := Lib.hid (H1.out.below hb (by omega))
      replace H2 := Lib.hid (H2.out.below hb (by omega))
      replace H5 := Lib.hid (H5.out.below hb (by omega))
      replace H6 := Lib.hid (H6.out.below hb (by omega))
      replace HK := Lib.hid (HK.out.below hb HK.out.lt)
      replace HB := Lib.hid (HB.out.trans (hb.mono (by omega)))
      clear hb
      have t0 := HK.out.one.1
      go_wp2_with fail
      have CALL := inside_any w11.heap.size A2 A5 n2 k2 n5 k5 sw ot w11 (H2.out.more (by omega)) (H5.out.more (by omega)) (Nat.le_refl _) (by omega) (by omega)
      rw [HIQ.out] at CALL
      refine CALL.mono ?_
      rintro e w12 ⟨rfl, hb⟩
      clear CALL
      have hsz12 := hb.size
      replace H := Lib.hid (H.out.below hb (by omega))
      replace HL := Lib.hid (HL.out.below hb (by omega))
      replace HU := Lib.hid (HU.out.below hb (by omega))
      replace H1 := Lib.hid (H1.out.below hb (by omega))
      replace H2 := Lib.hid (H2.out.below hb (by omega))
      replace H5 := Lib.hid (H5.out.below hb (by omega))
      replace H6 := Lib.hid (H6.out.below hb (by omega))
      replace HK := Lib.hid (HK.out.below hb HK.out.lt)
      replace HB := Lib.hid (HB.out.trans (hb.mono (by omega)))
      clear hb
      have t0 := HK.out.one.1
      go_wp2_with fail
      have CALL := works6_any w12
      refine CALL.mono ?_
      rintro e w13 ⟨rfl, hb⟩
      clear CALL
      have hsz13 := hb.size
      replace H := Lib.hid (H.out.below hb (by omega))
      replace HL := Lib.hid (HL.out.below hb (by omega))
      replace HU := Lib.hid (HU.out.below hb (by omega))
      replace H1 := Lib.hid (H1.out.below hb (by omega))
      replace H2 := Lib.hid (H2.out.below hb (by omega))
      replace H5 := Lib.hid (H5.out.below hb (by omega))
      replace H6 := Lib.hid (H6.out.below hb (by omega))
      replace HK := Lib.hid (HK.out.below hb HK.out.lt)
      replace HB := Lib.hid (HB.out.trans (hb.mono (by omega)))
      clear hb
      have t0 := HK.out.one.1
      go_wp2
      go_ret
      exact ⟨rfl, HB.out⟩
    · have HSQ : Hid (sameP ro rd = false) := Lib.hid (decide_eq_false hq)
      clear hq
      go_wp2_with fail
      have CALL := refSameP_any w10.heap.size A6 A1 n6 k6 n1 k1 ro rd w10 (H6.out.more (by omega)) (H1.out.more (by omega)) (Nat.le_refl _) (by omega) (by omega)
      rw [HSQ.out] at CALL
      refine CALL.mono ?_
      rintro e w11 ⟨rfl, hb⟩
      clear CALL
      have hsz11 := hb.size
      replace H := Lib.hid (H.out.below hb (by omega))
      replace HL := Lib.hid (HL.out.below hb (by omega))
      replace HU := Lib.hid (HU.out.below hb (by omega))
      replace H1 := Lib.hid (H1.out.below hb (by omega))
      replace H2 := Lib.hid (H2.out.below hb (by omega))
      replace H5 := Lib.hid (H5.out.below hb (by omega))
      replace H6 := Lib.hid (H6.out.below hb (by omega))
      replace HK := Lib.hid (HK.out.below hb HK.out.lt)
      replace HB := Lib.hid (HB.out.trans (hb.mono (by omega)))
      clear hb
      have t0 := HK.out.one.1
      go_wp2_with fail
      have CALL := works6_any w11
      refine CALL.mono ?_
      rintro e w12 ⟨rfl, hb⟩
      clear CALL
      have hsz12 := hb.size
      replace H := Lib.hid (H.out.below hb (by omega))
      replace HL := Lib.hid (HL.out.below hb (by omega))
      replace HU := Lib.hid (HU.out.below hb (by omega))
      replace H1 := Lib.hid (H1.out.below hb (by omega))
      replace H2 := Lib.hid (H2.out.below hb (by omega))
      replace H5 := Lib.hid (H5.out.below hb (by omega))
      replace H6 := Lib.hid (H6.out.below hb (by omega))
      replace HK := Lib.hid (HK.out.below hb HK.out.lt)
      replace HB := Lib.hid (HB.out.trans (hb.mono (by omega)))
      clear hb
      have t0 := HK.out.one.1
      go_wp2
      go_ret
      exact ⟨rfl, HB.out⟩
end Go.Proofs.Ytpcamnblpfccjaa
