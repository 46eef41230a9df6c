/-
  The walk of PlayExact.
-/
import Derived.Test.YtpcamnblpfccjaaMX
namespace Go.Proofs.Ytpcamnblpfccjaa
open Go.RowKit

set_option maxRecDepth 100000 in
set_option maxHeartbeats 8000000 in
theorem exact_walk (B : Nat) (Af A : Option Addr) (nf cf n k : Nat) (s : List Int) (l : List Smp) (Ab : Option Addr) (nb kb : Nat) (bs : List Int) (less : Int) (w : World) (hL : LI w B Af nf s) (h0 : RS w B A n l) (hU : LU w B Ab nb bs) (hl0 : 0 ≤ less) (hl1 : less ≤ 255) (hnb : nb ≤ 9223372036854775807) (hnk : n ≤ k) (hB : B ≤ w.heap.size) (hf : nf ≤ 9223372036854775807) (hl : n ≤ 9223372036854775807) :
    Calls Try.prog 9 #[.agg #[.slice Af nf cf], .slice A n k, .slice Ab nb kb, .int .u8 less] w fun e w' => e = .returned (.bool true) ∧ Below w.heap.size w w' := by
  have HN := Lib.hid h0.1
  have H := Lib.hid h0
  have HL := Lib.hid hL
  have HU := Lib.hid hU
  clear h0 hL
  cases hv : vdL s l 60
  · have HV := Lib.hid hv
    clear hv
    go_enter Try.func9, Try.ntmps9
    go_wp2_with fail
    obtain ⟨w1, hW⟩ : ∃ W, w.alloc (.cells #[.slice Af nf cf] 24) = W := ⟨_, rfl⟩
    have hb : Below w.heap.size w w1 := by rw [← hW]; exact (Below.refl _ _).alloc (Nat.le_refl _) _
    have hsz1 := hb.size
    replace H := Lib.hid (H.out.below hb (by omega))
    replace HL := Lib.hid (HL.out.below hb (by omega))
    replace HU := Lib.hid (HU.out.below hb (by omega))
    have HK : Hid (Blk w1 w.heap.size 24 #[.slice Af nf cf]) := Lib.hid (by rw [← hW]; exact Blk.new _ _ _)
    have HB := Lib.hid hb
    try rw [hW]
    clear hW hb
    have t0 := HK.out.one.1
    have CALL := valid_any w1.heap.size Af A nf cf n k s l 60 w1 (HL.out.more (by omega)) (H.out.more (by omega)) (Nat.le_refl _) hf hl
    rw [HV.out] at CALL
    refine CALL.mono ?_
    rintro e w2 ⟨rfl, hb⟩
    clear CALL
    have hsz2 := hb.size
    replace H := Lib.hid (H.out.below hb (by omega))
    replace HL := Lib.hid (HL.out.below hb (by omega))
    replace HU := Lib.hid (HU.out.below hb (by omega))
    replace HK := Lib.hid (HK.out.below hb HK.out.lt)
    replace HB := Lib.hid (HB.out.trans (hb.mono (by omega)))
    clear hb
    have t0 := HK.out.one.1
    go_wp2_with fail
    have CALL := works6_any w2
    refine CALL.mono ?_
    rintro e w3 ⟨rfl, hb⟩
    clear CALL
    have hsz3 := hb.size
    replace H := Lib.hid (H.out.below hb (by omega))
    replace HL := Lib.hid (HL.out.below hb (by omega))
    replace HU := Lib.hid (HU.out.below hb (by omega))
    replace HK := Lib.hid (HK.out.below hb HK.out.lt)
    replace HB := Lib.hid (HB.out.trans (hb.mono (by omega)))
    clear hb
    have t0 := HK.out.one.1
    go_wp2
    go_ret
    exact ⟨rfl, HB.out⟩
  · have HV := Lib.hid hv
    clear hv
    go_enter Try.func9, Try.ntmps9
    go_wp2_with fail
    obtain ⟨w1, hW⟩ : ∃ W, w.alloc (.cells #[.slice Af nf cf] 24) = W := ⟨_, rfl⟩
    have hb : Below w.heap.size w w1 := by rw [← hW]; exact (Below.refl _ _).alloc (Nat.le_refl _) _
    have hsz1 := hb.size
    replace H := Lib.hid (H.out.below hb (by omega))
    replace HL := Lib.hid (HL.out.below hb (by omega))
    replace HU := Lib.hid (HU.out.below hb (by omega))
    have HK : Hid (Blk w1 w.heap.size 24 #[.slice Af nf cf]) := Lib.hid (by rw [← hW]; exact Blk.new _ _ _)
    have HB := Lib.hid hb
    try rw [hW]
    clear hW hb
    have t0 := HK.out.one.1
    have HOK := Lib.hid (vdL_t HV.out)
    have hs : Shp s := ckTip_ok HOK.out.1
    have he : Edg l := (ckG_edg HOK.out.2.2).2
    have hn60 : n ≤ 60 := by have := HOK.out.2.1; have := HN.out; omega
    have HSH := Lib.hid hs
    have HE := Lib.hid he
    have hl4 : l.length ≤ 4096 := by have := HN.out; omega
    have HR0 := Lib.hid (rd_ok hs hl4 he)
    clear hs he
    have CALL := valid_any w1.heap.size Af A nf cf n k s l 60 w1 (HL.out.more (by omega)) (H.out.more (by omega)) (Nat.le_refl _) hf hl
    rw [HV.out] at CALL
    refine CALL.mono ?_
    rintro e w2 ⟨rfl, hb⟩
    clear CALL
    have hsz2 := hb.size
    replace H := Lib.hid (H.out.below hb (by omega))
    replace HL := Lib.hid (HL.out.below hb (by omega))
    replace HU := Lib.hid (HU.out.below hb (by omega))
    replace HK := Lib.hid (HK.out.below hb HK.out.lt)
    replace HB := Lib.hid (HB.out.trans (hb.mono (by omega)))
    clear hb
    have t0 := HK.out.one.1
    go_wp2_with fail
    have CALL := Read_any w2.heap.size Af A nf cf n k s l w2 (HL.out.more (by omega)) (H.out.more (by omega)) (Nat.le_refl _) (by omega) (by omega)
    rw [HR0.out, rdRes_ok HR0.out] at CALL
    refine CALL.mono ?_
    rintro e w3 ⟨A1, n1, k1, rfl, hr, hc1, hb⟩
    clear CALL
    have hsz3 := hb.size
    replace H := Lib.hid (H.out.below hb (by omega))
    replace HL := Lib.hid (HL.out.below hb (by omega))
    replace HU := Lib.hid (HU.out.below hb (by omega))
    replace HK := Lib.hid (HK.out.below hb HK.out.lt)
    replace HB := Lib.hid (HB.out.trans (hb.mono (by omega)))
    have hle1 : n1 ≤ 4096 := by have h1 := hr.1; have h2 : (rdL s l).length ≤ 4096 := (by rw [rdL_len]; exact hl4); omega
    have H1 := Lib.hid hr
    clear hr
    clear hb
    have t0 := HK.out.one.1
    have hnn : n = n1 := by have h1 := H1.out.1; rw [rdL_len] at h1; have := HN.out; omega
    subst hnn
    go_wp2_with fail
    have CALL := Sweep_any w3.heap.size Af A nf cf n k s l w3 (HL.out.more (by omega)) (H.out.more (by omega)) (Nat.le_refl _) (by omega) (by omega)
    rw [HR0.out, swRes_ok HR0.out] at CALL
    refine CALL.mono ?_
    rintro e w4 ⟨A2, n2, k2, rfl, hr, hc2, hb⟩
    clear CALL
    have hsz4 := hb.size
    replace H := Lib.hid (H.out.below hb (by omega))
    replace HL := Lib.hid (HL.out.below hb (by omega))
    replace HU := Lib.hid (HU.out.below hb (by omega))
    replace H1 := Lib.hid (H1.out.below hb (by omega))
    replace HK := Lib.hid (HK.out.below hb HK.out.lt)
    replace HB := Lib.hid (HB.out.trans (hb.mono (by omega)))
    have hle2 : n2 ≤ 4096 := by have h1 := hr.1; have h2 : (swL s (rdL s l)).length ≤ 4096 := (by rw [swL_len, rdL_len]; exact hl4); omega
    have H2 := Lib.hid hr
    clear hr
    clear hb
    have t0 := HK.out.one.1
    have hnn : n = n2 := by have h1 := H2.out.1; rw [swL_len, rdL_len] at h1; have := HN.out; omega
    subst hnn
    have HBD := Lib.hid (fun q => HU.out.bd q)
    have HSP := Lib.hid (shL_shp (by_ := bs) (less := less) HSH.out HBD.out)
    have HR8 := Lib.hid (rd_ok HSP.out.1 hl4 HE.out)
    have HI := Lib.hid (mi_none (rd_ok shp_zero hl4 HE.out) (mi_ideal l))
    have h64 : (shL s bs less).length ≤ 64 := HSP.out.1.many
    have q1 : ((n : Int) != (n : Int)) = false := by simp
    cases hm : miL s l with
    | none =>
      have HM := Lib.hid (mi_none HR0.out hm)
      have HRX := Lib.hid (rd_exact HSH.out HE.out hm)
      have HSX := Lib.hid (sw_exact HSH.out HE.out hm)
      have HM8 := Lib.hid (mi_none HR8.out (mi_sharper HSH.out HSP.out.1 HSP.out.2.1 HSP.out.2.2 hm))
      rw [HSX.out] at H2
      rw [HRX.out] at H1
      clear hm
      go_wp2_with fail
      have CALL := Miss_any w4.heap.size Af A nf cf n k s l w4 (HL.out.more (by omega)) (H.out.more (by omega)) (Nat.le_refl _) (by omega) (by omega)
      rw [HM.out.1, HM.out.2.1, HM.out.2.2] at CALL
      refine CALL.mono ?_
      rintro e w5 ⟨rfl, hb⟩
      clear CALL
      have hsz5 := hb.size
      replace H := Lib.hid (H.out.below hb (by omega))
      replace HL := Lib.hid (HL.out.below hb (by omega))
      replace HU := Lib.hid (HU.out.below hb (by omega))
      replace H1 := Lib.hid (H1.out.below hb (by omega))
      replace H2 := Lib.hid (H2.out.below hb (by omega))
      replace HK := Lib.hid (HK.out.below hb HK.out.lt)
      replace HB := Lib.hid (HB.out.trans (hb.mono (by omega)))
      clear hb
      have t0 := HK.out.one.1
      go_wp2_with fail
      obtain ⟨w6, hW⟩ : ∃ W, w5.alloc (.cells #[.int .i64 0] 2) = W := ⟨_, rfl⟩
      have hb : Below w5.heap.size w5 w6 := by rw [← hW]; exact (Below.refl _ _).alloc (Nat.le_refl _) _
      have hsz6 := hb.size
      replace H := Lib.hid (H.out.below hb (by omega))
      replace HL := Lib.hid (HL.out.below hb (by omega))
      replace HU := Lib.hid (HU.out.below hb (by omega))
      replace H1 := Lib.hid (H1.out.below hb (by omega))
      replace H2 := Lib.hid (H2.out.below hb (by omega))
      replace HK := Lib.hid (HK.out.below hb HK.out.lt)
      replace HB := Lib.hid (HB.out.trans (hb.mono (by omega)))
      have HD : Hid (Blk w6 w5.heap.size 2 #[.int .i64 0]) := Lib.hid (by rw [← hW]; exact Blk.new _ _ _)
      try rw [hW]
      clear hW hb
      have t0 := HK.out.one.1
      have HZ : Hid (LI w6 w6.heap.size (some ⟨w5.heap.size, 0, none⟩) 1 [0]) := Lib.hid (li_blk HD.out HD.out.lt rfl rfl)
      clear HD
      have CALL := Miss_any w6.heap.size (some ⟨w5.heap.size, 0, none⟩) A 1 1 n k [0] l w6 (HZ.out.more (by omega)) (H.out.more (by omega)) (Nat.le_refl _) (by omega) (by omega)
      rw [HI.out.1, HI.out.2.1, HI.out.2.2] at CALL
      refine CALL.mono ?_
      rintro e w7 ⟨rfl, hb⟩
      clear CALL
      have hsz7 := hb.size
      replace H := Lib.hid (H.out.below hb (by omega))
      replace HL := Lib.hid (HL.out.below hb (by omega))
      replace HU := Lib.hid (HU.out.below hb (by omega))
      replace H1 := Lib.hid (H1.out.below hb (by omega))
      replace H2 := Lib.hid (H2.out.below hb (by omega))
      replace HZ := Lib.hid (HZ.out.below hb (by omega))
      replace HK := Lib.hid (HK.out.below hb HK.out.lt)
      replace HB := Lib.hid (HB.out.trans (hb.mono (by omega)))
      clear hb
      have t0 := HK.out.one.1
      clear HZ
      go_wp2_with fail
      have CALL := sharper_any w7.heap.size Af Ab nf cf nb kb s bs less w7 (HL.out.more (by omega)) (HU.out.more (by omega)) (Nat.le_refl _) HSH.out hl0 hl1 hnb
      refine CALL.mono ?_
      rintro e w8 ⟨A7, n7, k7, rfl, hr, hc7, hb⟩
      clear CALL
      have hsz8 := hb.size
      replace H := Lib.hid (H.out.below hb (by omega))
      replace HL := Lib.hid (HL.out.below hb (by omega))
      replace HU := Lib.hid (HU.out.below hb (by omega))
      replace H1 := Lib.hid (H1.out.below hb (by omega))
      replace H2 := Lib.hid (H2.out.below hb (by omega))
      replace HK := Lib.hid (HK.out.below hb HK.out.lt)
      replace HB := Lib.hid (HB.out.trans (hb.mono (by omega)))
      have hle7 : n7 ≤ 64 := by have := hr.1; have := HSP.out.1.many; omega
      have H7 := Lib.hid hr
      clear hr
      clear hb
      have t0 := HK.out.one.1
      go_wp2_with fail
      have CALL := Miss_any w8.heap.size A7 A n7 k7 n k (shL s bs less) l w8 (H7.out.more (by omega)) (H.out.more (by omega)) (Nat.le_refl _) (by omega) (by omega)
      rw [HM8.out.1, HM8.out.2.1, HM8.out.2.2] at CALL
      refine CALL.mono ?_
      rintro e w9 ⟨rfl, hb⟩
      clear CALL
      have hsz9 := hb.size
      replace H := Lib.hid (H.out.below hb (by omega))
      replace HL := Lib.hid (HL.out.below hb (by omega))
      replace HU := Lib.hid (HU.out.below hb (by omega))
      replace H1 := Lib.hid (H1.out.below hb (by omega))
      replace H2 := Lib.hid (H2.out.below hb (by omega))
      replace H7 := Lib.hid (H7.out.below hb (by omega))
      replace HK := Lib.hid (HK.out.below hb HK.out.lt)
      replace HB := Lib.hid (HB.out.trans (hb.mono (by omega)))
      clear hb
      have t0 := HK.out.one.1
      clear H7
      go_wp2_with fail
      have CALL := refSameP_any w9.heap.size A1 A n k1 n k l l w9 (H1.out.more (by omega)) (H.out.more (by omega)) (Nat.le_refl _) (by omega) (by omega)
      rw [sameP_self] at CALL
      refine CALL.mono ?_
      rintro e w10 ⟨rfl, hb⟩
      clear CALL
      have hsz10 := hb.size
      replace H := Lib.hid (H.out.below hb (by omega))
      replace HL := Lib.hid (HL.out.below hb (by omega))
      replace HU := Lib.hid (HU.out.below hb (by omega))
      replace H1 := Lib.hid (H1.out.below hb (by omega))
      replace H2 := Lib.hid (H2.out.below hb (by omega))
      replace HK := Lib.hid (HK.out.below hb HK.out.lt)
      replace HB := Lib.hid (HB.out.trans (hb.mono (by omega)))
      clear hb
      have t0 := HK.out.one.1
      go_wp2_with fail
      have CALL := refSameP_any w10.heap.size A2 A n k2 n k l l w10 (H2.out.more (by omega)) (H.out.more (by omega)) (Nat.le_refl _) (by omega) (by omega)
      rw [sameP_self] at CALL
      refine CALL.mono ?_
      rintro e w11 ⟨rfl, hb⟩
      clear CALL
      have hsz11 := hb.size
      replace H := Lib.hid (H.out.below hb (by omega))
      replace HL := Lib.hid (HL.out.below hb (by omega))
      replace HU := Lib.hid (HU.out.below hb (by omega))
      replace H1 := Lib.hid (H1.out.below hb (by omega))
      replace H2 := Lib.hid (H2.out.below hb (by omega))
      replace HK := Lib.hid (HK.out.below hb HK.out.lt)
      replace HB := Lib.hid (HB.out.trans (hb.mono (by omega)))
      clear hb
      have t0 := HK.out.one.1
      go_wp2_with fail
      have CALL := works6_any w11
      refine CALL.mono ?_
      rintro e w12 ⟨rfl, hb⟩
      clear CALL
      have hsz12 := hb.size
      replace H := Lib.hid (H.out.below hb (by omega))
      replace HL := Lib.hid (HL.out.below hb (by omega))
      replace HU := Lib.hid (HU.out.below hb (by omega))
      replace H1 := Lib.hid (H1.out.below hb (by omega))
      replace H2 := Lib.hid (H2.out.below hb (by omega))
      replace HK := Lib.hid (HK.out.below hb HK.out.lt)
      replace HB := Lib.hid (HB.out.trans (hb.mono (by omega)))
      clear hb
      have t0 := HK.out.one.1
      go_wp2
      go_ret
      exact ⟨rfl, HB.out⟩
    | some iu =>
      obtain ⟨i, u⟩ := iu
      have HM := Lib.hid (mi_some HR0.out hm)
      have HG := Lib.hid (miL_get hm)
      have HMS := Lib.hid (msU_get HSH.out HG.out.2.1)
      have HNE := Lib.hid (rd_missed HSH.out HE.out hm)
      have HTK := Lib.hid (rd_take HSH.out HE.out (Nat.le_of_lt HG.out.1) HG.out.2.2)
      clear hm
      go_wp2_with fail
      have CALL := Miss_any w4.heap.size Af A nf cf n k s l w4 (HL.out.more (by omega)) (H.out.more (by omega)) (Nat.le_refl _) (by omega) (by omega)
      rw [HM.out.1, HM.out.2.1, HM.out.2.2] at CALL
      refine CALL.mono ?_
      rintro e w5 ⟨rfl, hb⟩
      clear CALL
      have hsz5 := hb.size
      replace H := Lib.hid (H.out.below hb (by omega))
      replace HL := Lib.hid (HL.out.below hb (by omega))
      replace HU := Lib.hid (HU.out.below hb (by omega))
      replace H1 := Lib.hid (H1.out.below hb (by omega))
      replace H2 := Lib.hid (H2.out.below hb (by omega))
      replace HK := Lib.hid (HK.out.below hb HK.out.lt)
      replace HB := Lib.hid (HB.out.trans (hb.mono (by omega)))
      clear hb
      have t0 := HK.out.one.1
      go_wp2_with fail
      obtain ⟨w6, hW⟩ : ∃ W, w5.alloc (.cells #[.int .i64 0] 2) = W := ⟨_, rfl⟩
      have hb : Below w5.heap.size w5 w6 := by rw [← hW]; exact (Below.refl _ _).alloc (Nat.le_refl _) _
      have hsz6 := hb.size
      replace H := Lib.hid (H.out.below hb (by omega))
      replace HL := Lib.hid (HL.out.below hb (by omega))
      replace HU := Lib.hid (HU.out.below hb (by omega))
      replace H1 := Lib.hid (H1.out.below hb (by omega))
      replace H2 := Lib.hid (H2.out.below hb (by omega))
      replace HK := Lib.hid (HK.out.below hb HK.out.lt)
      replace HB := Lib.hid (HB.out.trans (hb.mono (by omega)))
      have HD : Hid (Blk w6 w5.heap.size 2 #[.int .i64 0]) := Lib.hid (by rw [← hW]; exact Blk.new _ _ _)
      try rw [hW]
      clear hW hb
      have t0 := HK.out.one.1
      have HZ : Hid (LI w6 w6.heap.size (some ⟨w5.heap.size, 0, none⟩) 1 [0]) := Lib.hid (li_blk HD.out HD.out.lt rfl rfl)
      clear HD
      have CALL := Miss_any w6.heap.size (some ⟨w5.heap.size, 0, none⟩) A 1 1 n k [0] l w6 (HZ.out.more (by omega)) (H.out.more (by omega)) (Nat.le_refl _) (by omega) (by omega)
      rw [HI.out.1, HI.out.2.1, HI.out.2.2] at CALL
      refine CALL.mono ?_
      rintro e w7 ⟨rfl, hb⟩
      clear CALL
      have hsz7 := hb.size
      replace H := Lib.hid (H.out.below hb (by omega))
      replace HL := Lib.hid (HL.out.below hb (by omega))
      replace HU := Lib.hid (HU.out.below hb (by omega))
      replace H1 := Lib.hid (H1.out.below hb (by omega))
      replace H2 := Lib.hid (H2.out.below hb (by omega))
      replace HZ := Lib.hid (HZ.out.below hb (by omega))
      replace HK := Lib.hid (HK.out.below hb HK.out.lt)
      replace HB := Lib.hid (HB.out.trans (hb.mono (by omega)))
      clear hb
      have t0 := HK.out.one.1
      clear HZ
      go_wp2_with fail
      have CALL := sharper_any w7.heap.size Af Ab nf cf nb kb s bs less w7 (HL.out.more (by omega)) (HU.out.more (by omega)) (Nat.le_refl _) HSH.out hl0 hl1 hnb
      refine CALL.mono ?_
      rintro e w8 ⟨A7, n7, k7, rfl, hr, hc7, hb⟩
      clear CALL
      have hsz8 := hb.size
      replace H := Lib.hid (H.out.below hb (by omega))
      replace HL := Lib.hid (HL.out.below hb (by omega))
      replace HU := Lib.hid (HU.out.below hb (by omega))
      replace H1 := Lib.hid (H1.out.below hb (by omega))
      replace H2 := Lib.hid (H2.out.below hb (by omega))
      replace HK := Lib.hid (HK.out.below hb HK.out.lt)
      replace HB := Lib.hid (HB.out.trans (hb.mono (by omega)))
      have hle7 : n7 ≤ 64 := by have := hr.1; have := HSP.out.1.many; omega
      have H7 := Lib.hid hr
      clear hr
      clear hb
      have t0 := HK.out.one.1
      obtain ⟨m8, hm8⟩ : ∃ x : Nat, miI (shL s bs less) l = x := ⟨_, rfl⟩
      obtain ⟨u8, hu8⟩ : ∃ x : Nat, miU (shL s bs less) l = x := ⟨_, rfl⟩
      obtain ⟨e8, he8⟩ : ∃ x : Int, miE (shL s bs less) l = x := ⟨_, rfl⟩
      go_wp2_with fail
      have CALL := Miss_any w8.heap.size A7 A n7 k7 n k (shL s bs less) l w8 (H7.out.more (by omega)) (H.out.more (by omega)) (Nat.le_refl _) (by omega) (by omega)
      rw [hm8, hu8, he8] at CALL
      refine CALL.mono ?_
      rintro e w9 ⟨rfl, hb⟩
      clear CALL
      have hsz9 := hb.size
      replace H := Lib.hid (H.out.below hb (by omega))
      replace HL := Lib.hid (HL.out.below hb (by omega))
      replace HU := Lib.hid (HU.out.below hb (by omega))
      replace H1 := Lib.hid (H1.out.below hb (by omega))
      replace H2 := Lib.hid (H2.out.below hb (by omega))
      replace H7 := Lib.hid (H7.out.below hb (by omega))
      replace HK := Lib.hid (HK.out.below hb HK.out.lt)
      replace HB := Lib.hid (HB.out.trans (hb.mono (by omega)))
      clear hb
      have t0 := HK.out.one.1
      clear hm8 hu8 he8
      clear H7
      have hi : i < n := by have := HG.out.1; have := HN.out; omega
      have hu : u < n := by have := HMS.out.1; have := HN.out; omega
      have hxi : i < l.length := HG.out.1
      have hxu : u < l.length := HMS.out.1
      have hri : i < (rdL s l).length := by rw [rdL_len]; exact hxi
      obtain ⟨ad1, hA1, _, p1, p2⟩ := H1.out.at_ hri
      obtain ⟨ad, hA, _, p3, p4⟩ := H.out.at_ hxi
      obtain rfl := hA
      obtain rfl := hA1
      have hne : (rdL s l)[i] ≠ l[i] := fun e => HNE.out (by rw [List.getElem?_eq_getElem hri, List.getElem?_eq_getElem hxi, e])
      have eqp := fun W : World => eqPts (rdL s l)[i].1 (rdL s l)[i].2 l[i].1 l[i].2 W
      obtain ⟨x, hxx⟩ : ∃ x, (rdL s l)[i] = x := ⟨_, rfl⟩
      obtain ⟨y, hyy⟩ : ∃ y, l[i] = y := ⟨_, rfl⟩
      rw [hxx] at p1 p2 eqp hne
      rw [hyy] at p3 p4 eqp hne
      clear hxx
      replace eqp : ∀ W, _ = Result.ok false W := fun W => (eqp W).trans (by rw [decide_eq_false (fun h => hne h)])
      have HYY : Hid (∀ h : i < l.length, l[i] = y) := Lib.hid (fun _ => hyy)
      clear hne hyy hri hxi hxu
      have g1 : ¬ ((i : Int) < 0) := by omega
      have g2 : ¬ ((u : Int) < 0) := by omega
      have g3 : ¬ ((n : Int) ≤ (i : Int)) := by omega
      have g4 : ¬ ((n : Int) ≤ (u : Int)) := by omega
      have d1 : decide ((i : Int) < 0) = false := decide_eq_false g1
      have d2 : decide ((u : Int) < 0) = false := decide_eq_false g2
      have d3 : decide ((n : Int) ≤ (i : Int)) = false := decide_eq_false g3
      have d4 : decide ((n : Int) ≤ (u : Int)) = false := decide_eq_false g4
      have g5 : ¬ n ≤ i := by omega
      have g6 : ¬ n ≤ u := by omega
      have d5 : decide (n ≤ i) = false := decide_eq_false g5
      have d6 : decide (n ≤ u) = false := decide_eq_false g6
      have g7 : (i : Int) < n := by omega
      have g8 : (u : Int) < n := by omega
      have z0 := Lat.cell p1
      have z1 := Lat.cell p2
      have z2 := Lat.cell p3
      have z3 := Lat.cell p4
      clear p1 p2 p3 p4
      go_wp2_with fail
      try dsimp only [List.append]
      refine wp_region_lat (by kernel_rfl) (by kernel_rfl) ?_
      repeat (go_big_quiet_step (fail))
      refine wpQuiet_nil ?_
      intro w10 hw'
      have hb := lat_out hw'
      have hsz10 := hb.size
      replace H := Lib.hid (H.out.below hb (by omega))
      replace HL := Lib.hid (HL.out.below hb (by omega))
      replace HU := Lib.hid (HU.out.below hb (by omega))
      replace H1 := Lib.hid (H1.out.below hb (by omega))
      replace H2 := Lib.hid (H2.out.below hb (by omega))
      replace HK := Lib.hid (HK.out.below hb HK.out.lt)
      replace HB := Lib.hid (HB.out.trans (hb.mono (by omega)))
      clear hb hw' z0 z1 z2 z3 eqp g1 g2 g3 g4 d1 d2 d3 d4 g5 g6 d5 d6 g7 g8
      have t0 := HK.out.one.1
      have hxu : u < l.length := HMS.out.1
      have hxi : i < l.length := HG.out.1
      have hd0 : dst u i < s.length := HMS.out.2.1
      obtain ⟨ad2, hA2, _, p1, p2⟩ := H.out.at_ hxi
      obtain ⟨ad3, hA3, _, p3, p4⟩ := H.out.at_ hxu
      obtain ⟨ad4, hA4, _, p5⟩ := HL.out.at_ hd0
      injection hA2 with hA2
      injection hA3 with hA3
      subst hA2
      subst hA3
      subst hA4
      have b1 := HE.out.1 i hxi
      have b2 := HE.out.2 i hxi
      have b3 := HE.out.1 u hxu
      have b4 := HE.out.2 u hxu
      have hv0 := HSH.out.nn (dst u i)
      have hv1 := HSH.out.top (dst u i)
      have hmb := missB_tr.1 HMS.out.2.2
      rw [atI_eq hd0] at hv0 hv1 hmb
      unfold innW at b1 b3 hmb
      unfold outW at b2 b4 hmb
      rw [List.getElem?_eq_getElem hxi] at b1 b2 hmb
      rw [List.getElem?_eq_getElem hxu] at b3 b4 hmb
      rw [HYY.out hxi] at p1 p2 b1 b2 hmb
      obtain ⟨z, hzz⟩ : ∃ z, l[u] = z := ⟨_, rfl⟩
      rw [hzz] at p3 p4 b3 b4 hmb
      obtain ⟨v, hvv⟩ : ∃ v, s[dst u i] = v := ⟨_, rfl⟩
      rw [hvv] at p5 hv0 hv1 hmb
      clear hzz hvv
      dsimp only [Option.getD] at b1 b2 b3 b4 hmb
      have hdn : dst u i < nf := by have := HL.out.1; omega
      have e1 : IntKind.i64.wrap ((u : Int) - i) = (u : Int) - i := IntWalk.i64_in _ (by omega)
      have e2 : IntKind.i64.wrap ((i : Int) - u) = (i : Int) - u := IntWalk.i64_in _ (by omega)
      have e4 : (if (u : Int) - i < (i : Int) - u then (i : Int) - u else (u : Int) - i) = ((dst u i : Nat) : Int) := by unfold dst; split <;> omega
      obtain ⟨d, hd⟩ : ∃ d, dst u i = d := ⟨_, rfl⟩
      rw [hd] at e4 p5 hdn
      have e5 : IntKind.i64.wrap (z.2 + v) = z.2 + v := IntWalk.i64_in _ (by omega)
      have g1 : ¬ nf ≤ d := by omega
      have g2 : ¬ ((nf : Int) ≤ (d : Int)) := by omega
      have d1 : decide (nf ≤ d) = false := decide_eq_false g1
      have d2 : decide ((nf : Int) ≤ (d : Int)) = false := decide_eq_false g2
      have e6 : IntKind.i64.wrap (z.1 - v) = z.1 - v := IntWalk.i64_in _ (by omega)
      have hq : ¬ (y.2 ≤ z.2 + v) ∨ (y.2 ≤ z.2 + v ∧ ¬ (z.1 - v ≤ y.1)) := by omega
      clear hd hxu hxi hd0 b1 b2 b3 b4 hv0 hv1 hmb
      rcases hq with hq | ⟨hq, hq2⟩
      · have d3 : decide (y.2 ≤ z.2 + v) = false := decide_eq_false hq
        have z0 := Lat.cell p1
        have z1 := Lat.cell p2
        have z2 := Lat.cell p3
        have z3 := Lat.cell p4
        have z4 := Lat.cell p5
        have z5 := Lat.cell t0
        clear p1 p2 p3 p4 p5 t0
        go_wp2_with fail
        try dsimp only [List.append]
        refine wp_region_lat (by kernel_rfl) (by kernel_rfl) ?_
        repeat (go_big_quiet_step (fail))
        refine wpQuiet_nil ?_
        intro w11 hw'
        have hb := lat_out hw'
        have hsz11 := hb.size
        replace H := Lib.hid (H.out.below hb (by omega))
        replace HL := Lib.hid (HL.out.below hb (by omega))
        replace HU := Lib.hid (HU.out.below hb (by omega))
        replace H1 := Lib.hid (H1.out.below hb (by omega))
        replace H2 := Lib.hid (H2.out.below hb (by omega))
        replace HK := Lib.hid (HK.out.below hb HK.out.lt)
        replace HB := Lib.hid (HB.out.trans (hb.mono (by omega)))
        clear hb hw' z0 z1 z2 z3 z4 z5 e1 e2 e4 e5 e6 g1 g2 d1 d2 d3 hq
        have t0 := HK.out.one.1
        have sl1 := fun W => slice_hd (some ad1) n k1 i (by omega) W
        have sl2 := fun W => slice_hd (some ad) n k i (by omega) W
        have H1t := Lib.hid (rs_head H1.out i (by omega))
        rw [HTK.out] at H1t
        have Ht := Lib.hid (rs_head H.out i (by omega))
        go_wp2_with fail
        refine wp_region_held_drew (S := fun w' => w'.cell? ⟨w.heap.size, 0, none⟩ = some (.slice (some ad4) nf cf)) (by kernel_rfl) HK.out.one.1 (fun hHeld => ?_)
        obtain ⟨w12, hwd⟩ : ∃ wd, w11.drew = wd := ⟨_, rfl⟩
        have hb : Below w11.heap.size w11 w12 := by rw [← hwd]; exact (Below.refl _ _).drew
        have hsz12 := hb.size
        replace H := Lib.hid (H.out.below hb (by omega))
        replace HL := Lib.hid (HL.out.below hb (by omega))
        replace HU := Lib.hid (HU.out.below hb (by omega))
        replace H1 := Lib.hid (H1.out.below hb (by omega))
        replace H2 := Lib.hid (H2.out.below hb (by omega))
        replace H1t := Lib.hid (H1t.out.below hb (by omega))
        replace Ht := Lib.hid (Ht.out.below hb (by omega))
        replace HK := Lib.hid (HK.out.below hb HK.out.lt)
        replace HB := Lib.hid (HB.out.trans (hb.mono (by omega)))
        rw [hwd] at hHeld ⊢
        clear hb hwd
        have t0 := HK.out.one.1
        refine wpAnyH_take (i := 0) (oi := { dst := some 189, op := Go.Op.move (Go.Operand.tmp 9), type := 25, pos := "outright.go:116", after := #[], guard := none }) (v := ?vt12001) rfl (by kernel_rfl) (by kernel_rfl) (by kernel_rfl) (fun _ _ _ h => h) (Or.inl ⟨by rfl, ?ht12001⟩) hHeld ?_
        case ht12001 => intro w hSw; (try dsimp only at hSw); go_simp; try with_reducible rfl
        simp only [Act.put, List.setIfInBounds_toArray, List.set_cons_zero, List.set_cons_succ]
        refine wpAnyH_take (i := 1) (oi := { dst := some 190, op := Go.Op.move (Go.Operand.tmp 13), type := 3, pos := "outright.go:116", after := #[], guard := none }) (v := ?vt12002) rfl (by kernel_rfl) (by kernel_rfl) (by kernel_rfl) (fun _ _ _ h => h) (Or.inl ⟨by rfl, ?ht12002⟩) hHeld ?_
        case ht12002 => intro w hSw; (try dsimp only at hSw); go_simp; try with_reducible rfl
        simp only [Act.put, List.setIfInBounds_toArray, List.set_cons_zero, List.set_cons_succ]
        refine wpAnyH_take (i := 2) (oi := { dst := some 191, op := Go.Op.slice 25 (Go.Operand.tmp 189) none (some (Go.Operand.tmp 190)) none, type := 25, pos := "outright.go:116", after := #[{ on := 0, ground := Go.Ground.data }, { on := 1, ground := Go.Ground.data }], guard := none }) (v := ?vt12003) rfl (by kernel_rfl) (by kernel_rfl) (by kernel_rfl) (fun _ _ _ h => h) (Or.inl ⟨by rfl, ?ht12003⟩) hHeld ?_
        case ht12003 => intro w hSw; (try dsimp only at hSw); go_simp; try with_reducible rfl
        simp only [Act.put, List.setIfInBounds_toArray, List.set_cons_zero, List.set_cons_succ]
        refine wpAnyH_take (i := 3) (oi := { dst := some 192, op := Go.Op.move (Go.Operand.tmp 1), type := 25, pos := "outright.go:116", after := #[], guard := none }) (v := ?vt12004) rfl (by kernel_rfl) (by kernel_rfl) (by kernel_rfl) (fun _ _ _ h => h) (Or.inl ⟨by rfl, ?ht12004⟩) hHeld ?_
        case ht12004 => intro w hSw; (try dsimp only at hSw); go_simp; try with_reducible rfl
        simp only [Act.put, List.setIfInBounds_toArray, List.set_cons_zero, List.set_cons_succ]
        refine wpAnyH_take (i := 4) (oi := { dst := some 193, op := Go.Op.move (Go.Operand.tmp 13), type := 3, pos := "outright.go:116", after := #[], guard := none }) (v := ?vt12005) rfl (by kernel_rfl) (by kernel_rfl) (by kernel_rfl) (fun _ _ _ h => h) (Or.inl ⟨by rfl, ?ht12005⟩) hHeld ?_
        case ht12005 => intro w hSw; (try dsimp only at hSw); go_simp; try with_reducible rfl
        simp only [Act.put, List.setIfInBounds_toArray, List.set_cons_zero, List.set_cons_succ]
        refine wpAnyH_take (i := 5) (oi := { dst := some 194, op := Go.Op.slice 25 (Go.Operand.tmp 192) none (some (Go.Operand.tmp 193)) none, type := 25, pos := "outright.go:116", after := #[{ on := 3, ground := Go.Ground.data }, { on := 4, ground := Go.Ground.data }], guard := none }) (v := ?vt12006) rfl (by kernel_rfl) (by kernel_rfl) (by kernel_rfl) (fun _ _ _ h => h) (Or.inl ⟨by rfl, ?ht12006⟩) hHeld ?_
        case ht12006 => intro w hSw; (try dsimp only at hSw); go_simp; try with_reducible rfl
        simp only [Act.put, List.setIfInBounds_toArray, List.set_cons_zero, List.set_cons_succ]
        refine wpAnyH_ready (rs := [6]) (by kernel_rfl) (by simp) ?_
        refine AllReadyH.cons rfl (fun K hK => ?_) AllReadyH.nil
        go_simp
        have CALL := refSameP_any w12.heap.size (some ad1) (some ad) i k1 i k (l.take i) (l.take i) w12 (H1t.out.more (by omega)) (Ht.out.more (by omega)) (Nat.le_refl _) (by omega) (by omega)
        rw [sameP_self] at CALL
        refine CALL.mono ?_
        rintro e w13 ⟨rfl, hb⟩
        clear CALL
        have hsz13 := hb.size
        replace H := Lib.hid (H.out.below hb (by omega))
        replace HL := Lib.hid (HL.out.below hb (by omega))
        replace HU := Lib.hid (HU.out.below hb (by omega))
        replace H1 := Lib.hid (H1.out.below hb (by omega))
        replace H2 := Lib.hid (H2.out.below hb (by omega))
        replace H1t := Lib.hid (H1t.out.below hb (by omega))
        replace Ht := Lib.hid (Ht.out.below hb (by omega))
        replace HK := Lib.hid (HK.out.below hb HK.out.lt)
        replace HB := Lib.hid (HB.out.trans (hb.mono (by omega)))
        clear hb
        have t0 := HK.out.one.1
        refine hK.out _ _ ?_ (fun hH12007 => ?_)
        · exact HK.out.one.1
        clear hK K
        refine wpAnyH_take (i := 7) (oi := { dst := some 196, op := Go.Op.move (Go.Operand.tmp 195), type := 4, pos := "outright.go:116", after := #[{ on := 6, ground := Go.Ground.data }, { on := 6, ground := Go.Ground.chain }], guard := none }) (v := ?vt12008) rfl (by kernel_rfl) (by kernel_rfl) (by kernel_rfl) (fun _ _ _ h => h) (Or.inl ⟨by rfl, ?ht12008⟩) hH12007 ?_
        case ht12008 => intro w hSw; (try dsimp only at hSw); go_simp; try with_reducible rfl
        simp only [Act.put, List.setIfInBounds_toArray, List.set_cons_zero, List.set_cons_succ]
        refine wpAnyH_ready (rs := [8]) (by kernel_rfl) (by simp) ?_
        refine AllReadyH.cons rfl (fun K hK => ?_) AllReadyH.nil
        go_simp
        have CALL := works6_any w13
        refine CALL.mono ?_
        rintro e w14 ⟨rfl, hb⟩
        clear CALL
        have hsz14 := hb.size
        replace H := Lib.hid (H.out.below hb (by omega))
        replace HL := Lib.hid (HL.out.below hb (by omega))
        replace HU := Lib.hid (HU.out.below hb (by omega))
        replace H1 := Lib.hid (H1.out.below hb (by omega))
        replace H2 := Lib.hid (H2.out.below hb (by omega))
        replace H1t := Lib.hid (H1t.out.below hb (by omega))
        replace Ht := Lib.hid (Ht.out.below hb (by omega))
        replace HK := Lib.hid (HK.out.below hb HK.out.lt)
        replace HB := Lib.hid (HB.out.trans (hb.mono (by omega)))
        clear hb
        have t0 := HK.out.one.1
        refine hK.out _ _ ?_ (fun hH12009 => ?_)
        · exact HK.out.one.1
        clear hK K
        refine wpAnyH_take (i := 9) (oi := { dst := some 198, op := Go.Op.pick (Go.Operand.tmp 196) (Go.Operand.tmp 197) (Go.Operand.const (Go.Value.bool false)), type := 4, pos := "outright.go:116", after := #[{ on := 7, ground := Go.Ground.data }, { on := 8, ground := Go.Ground.data }], guard := none }) (v := ?vt12010) rfl (by kernel_rfl) (by kernel_rfl) (by kernel_rfl) (fun _ _ _ h => h) (Or.inl ⟨by rfl, ?ht12010⟩) hH12009 ?_
        case ht12010 => intro w hSw; (try dsimp only at hSw); go_simp; try with_reducible rfl
        simp only [Act.put, List.setIfInBounds_toArray, List.set_cons_zero, List.set_cons_succ]
        refine wpAnyH_take (i := 10) (oi := { dst := some 8, op := Go.Op.assign (Go.Operand.tmp 198), type := 4, pos := "outright.go:116", after := #[{ on := 9, ground := Go.Ground.data }, { on := 8, ground := Go.Ground.chain }, { on := 0, ground := Go.Ground.phase }, { on := 1, ground := Go.Ground.phase }, { on := 2, ground := Go.Ground.phase }, { on := 3, ground := Go.Ground.phase }, { on := 4, ground := Go.Ground.phase }, { on := 5, ground := Go.Ground.phase }, { on := 6, ground := Go.Ground.phase }, { on := 7, ground := Go.Ground.phase }, { on := 8, ground := Go.Ground.phase }, { on := 9, ground := Go.Ground.phase }], guard := none }) (v := ?vt12011) rfl (by kernel_rfl) (by kernel_rfl) (by kernel_rfl) (fun _ _ _ h => h) (Or.inl ⟨by rfl, ?ht12011⟩) hH12009 ?_
        case ht12011 => intro w hSw; (try dsimp only at hSw); go_simp; try with_reducible rfl
        simp only [Act.put, List.setIfInBounds_toArray, List.set_cons_zero, List.set_cons_succ]
        refine wpAnyH_done (by kernel_rfl) ?_ _
        go_wp2
        go_ret
        exact ⟨rfl, HB.out⟩
      · have d3 : decide (y.2 ≤ z.2 + v) = true := decide_eq_true hq
        have d4 : decide (z.1 - v ≤ y.1) = false := decide_eq_false hq2
        have z0 := Lat.cell p1
        have z1 := Lat.cell p2
        have z2 := Lat.cell p3
        have z3 := Lat.cell p4
        have z4 := Lat.cell p5
        have z5 := Lat.cell t0
        clear p1 p2 p3 p4 p5 t0
        go_wp2_with fail
        try dsimp only [List.append]
        refine wp_region_lat (by kernel_rfl) (by kernel_rfl) ?_
        repeat (go_big_quiet_step (fail))
        refine wpQuiet_nil ?_
        intro w11 hw'
        have hb := lat_out hw'
        have hsz11 := hb.size
        replace H := Lib.hid (H.out.below hb (by omega))
        replace HL := Lib.hid (HL.out.below hb (by omega))
        replace HU := Lib.hid (HU.out.below hb (by omega))
        replace H1 := Lib.hid (H1.out.below hb (by omega))
        replace H2 := Lib.hid (H2.out.below hb (by omega))
        replace HK := Lib.hid (HK.out.below hb HK.out.lt)
        replace HB := Lib.hid (HB.out.trans (hb.mono (by omega)))
        clear hb hw' z0 z1 z2 z3 z4 z5 e1 e2 e4 e5 e6 g1 g2 d1 d2 d3 hq d4 hq2
        have t0 := HK.out.one.1
        have sl1 := fun W => slice_hd (some ad1) n k1 i (by omega) W
        have sl2 := fun W => slice_hd (some ad) n k i (by omega) W
        have H1t := Lib.hid (rs_head H1.out i (by omega))
        rw [HTK.out] at H1t
        have Ht := Lib.hid (rs_head H.out i (by omega))
        go_wp2_with fail
        refine wp_region_held_drew (S := fun w' => w'.cell? ⟨w.heap.size, 0, none⟩ = some (.slice (some ad4) nf cf)) (by kernel_rfl) HK.out.one.1 (fun hHeld => ?_)
        obtain ⟨w12, hwd⟩ : ∃ wd, w11.drew = wd := ⟨_, rfl⟩
        have hb : Below w11.heap.size w11 w12 := by rw [← hwd]; exact (Below.refl _ _).drew
        have hsz12 := hb.size
        replace H := Lib.hid (H.out.below hb (by omega))
        replace HL := Lib.hid (HL.out.below hb (by omega))
        replace HU := Lib.hid (HU.out.below hb (by omega))
        replace H1 := Lib.hid (H1.out.below hb (by omega))
        replace H2 := Lib.hid (H2.out.below hb (by omega))
        replace H1t := Lib.hid (H1t.out.below hb (by omega))
        replace Ht := Lib.hid (Ht.out.below hb (by omega))
        replace HK := Lib.hid (HK.out.below hb HK.out.lt)
        replace HB := Lib.hid (HB.out.trans (hb.mono (by omega)))
        rw [hwd] at hHeld ⊢
        clear hb hwd
        have t0 := HK.out.one.1
        refine wpAnyH_take (i := 0) (oi := { dst := some 189, op := Go.Op.move (Go.Operand.tmp 9), type := 25, pos := "outright.go:116", after := #[], guard := none }) (v := ?vt12001) rfl (by kernel_rfl) (by kernel_rfl) (by kernel_rfl) (fun _ _ _ h => h) (Or.inl ⟨by rfl, ?ht12001⟩) hHeld ?_
        case ht12001 => intro w hSw; (try dsimp only at hSw); go_simp; try with_reducible rfl
        simp only [Act.put, List.setIfInBounds_toArray, List.set_cons_zero, List.set_cons_succ]
        refine wpAnyH_take (i := 1) (oi := { dst := some 190, op := Go.Op.move (Go.Operand.tmp 13), type := 3, pos := "outright.go:116", after := #[], guard := none }) (v := ?vt12002) rfl (by kernel_rfl) (by kernel_rfl) (by kernel_rfl) (fun _ _ _ h => h) (Or.inl ⟨by rfl, ?ht12002⟩) hHeld ?_
        case ht12002 => intro w hSw; (try dsimp only at hSw); go_simp; try with_reducible rfl
        simp only [Act.put, List.setIfInBounds_toArray, List.set_cons_zero, List.set_cons_succ]
        refine wpAnyH_take (i := 2) (oi := { dst := some 191, op := Go.Op.slice 25 (Go.Operand.tmp 189) none (some (Go.Operand.tmp 190)) none, type := 25, pos := "outright.go:116", after := #[{ on := 0, ground := Go.Ground.data }, { on := 1, ground := Go.Ground.data }], guard := none }) (v := ?vt12003) rfl (by kernel_rfl) (by kernel_rfl) (by kernel_rfl) (fun _ _ _ h => h) (Or.inl ⟨by rfl, ?ht12003⟩) hHeld ?_
        case ht12003 => intro w hSw; (try dsimp only at hSw); go_simp; try with_reducible rfl
        simp only [Act.put, List.setIfInBounds_toArray, List.set_cons_zero, List.set_cons_succ]
        refine wpAnyH_take (i := 3) (oi := { dst := some 192, op := Go.Op.move (Go.Operand.tmp 1), type := 25, pos := "outright.go:116", after := #[], guard := none }) (v := ?vt12004) rfl (by kernel_rfl) (by kernel_rfl) (by kernel_rfl) (fun _ _ _ h => h) (Or.inl ⟨by rfl, ?ht12004⟩) hHeld ?_
        case ht12004 => intro w hSw; (try dsimp only at hSw); go_simp; try with_reducible rfl
        simp only [Act.put, List.setIfInBounds_toArray, List.set_cons_zero, List.set_cons_succ]
        refine wpAnyH_take (i := 4) (oi := { dst := some 193, op := Go.Op.move (Go.Operand.tmp 13), type := 3, pos := "outright.go:116", after := #[], guard := none }) (v := ?vt12005) rfl (by kernel_rfl) (by kernel_rfl) (by kernel_rfl) (fun _ _ _ h => h) (Or.inl ⟨by rfl, ?ht12005⟩) hHeld ?_
        case ht12005 => intro w hSw; (try dsimp only at hSw); go_simp; try with_reducible rfl
        simp only [Act.put, List.setIfInBounds_toArray, List.set_cons_zero, List.set_cons_succ]
        refine wpAnyH_take (i := 5) (oi := { dst := some 194, op := Go.Op.slice 25 (Go.Operand.tmp 192) none (some (Go.Operand.tmp 193)) none, type := 25, pos := "outright.go:116", after := #[{ on := 3, ground := Go.Ground.data }, { on := 4, ground := Go.Ground.data }], guard := none }) (v := ?vt12006) rfl (by kernel_rfl) (by kernel_rfl) (by kernel_rfl) (fun _ _ _ h => h) (Or.inl ⟨by rfl, ?ht12006⟩) hHeld ?_
        case ht12006 => intro w hSw; (try dsimp only at hSw); go_simp; try with_reducible rfl
        simp only [Act.put, List.setIfInBounds_toArray, List.set_cons_zero, List.set_cons_succ]
        refine wpAnyH_ready (rs := [6]) (by kernel_rfl) (by simp) ?_
        refine AllReadyH.cons rfl (fun K hK => ?_) AllReadyH.nil
        go_simp
        have CALL := refSameP_any w12.heap.size (some ad1) (some ad) i k1 i k (l.take i) (l.take i) w12 (H1t.out.more (by omega)) (Ht.out.more (by omega)) (Nat.le_refl _) (by omega) (by omega)
        rw [sameP_self] at CALL
        refine CALL.mono ?_
        rintro e w13 ⟨rfl, hb⟩
        clear CALL
        have hsz13 := hb.size
        replace H := Lib.hid (H.out.below hb (by omega))
        replace HL := Lib.hid (HL.out.below hb (by omega))
        replace HU := Lib.hid (HU.out.below hb (by omega))
        replace H1 := Lib.hid (H1.out.below hb (by omega))
        replace H2 := Lib.hid (H2.out.below hb (by omega))
        replace H1t := Lib.hid (H1t.out.below hb (by omega))
        replace Ht := Lib.hid (Ht.out.below hb (by omega))
        replace HK := Lib.hid (HK.out.below hb HK.out.lt)
        replace HB := Lib.hid (HB.out.trans (hb.mono (by omega)))
        clear hb
        have t0 := HK.out.one.1
        refine hK.out _ _ ?_ (fun hH12007 => ?_)
        · exact HK.out.one.1
        clear hK K
        refine wpAnyH_take (i := 7) (oi := { dst := some 196, op := Go.Op.move (Go.Operand.tmp 195), type := 4, pos := "outright.go:116", after := #[{ on := 6, ground := Go.Ground.data }, { on := 6, ground := Go.Ground.chain }], guard := none }) (v := ?vt12008) rfl (by kernel_rfl) (by kernel_rfl) (by kernel_rfl) (fun _ _ _ h => h) (Or.inl ⟨by rfl, ?ht12008⟩) hH12007 ?_
        case ht12008 => intro w hSw; (try dsimp only at hSw); go_simp; try with_reducible rfl
        simp only [Act.put, List.setIfInBounds_toArray, List.set_cons_zero, List.set_cons_succ]
        refine wpAnyH_ready (rs := [8]) (by kernel_rfl) (by simp) ?_
        refine AllReadyH.cons rfl (fun K hK => ?_) AllReadyH.nil
        go_simp
        have CALL := works6_any w13
        refine CALL.mono ?_
        rintro e w14 ⟨rfl, hb⟩
        clear CALL
        have hsz14 := hb.size
        replace H := Lib.hid (H.out.below hb (by omega))
        replace HL := Lib.hid (HL.out.below hb (by omega))
        replace HU := Lib.hid (HU.out.below hb (by omega))
        replace H1 := Lib.hid (H1.out.below hb (by omega))
        replace H2 := Lib.hid (H2.out.below hb (by omega))
        replace H1t := Lib.hid (H1t.out.below hb (by omega))
        replace Ht := Lib.hid (Ht.out.below hb (by omega))
        replace HK := Lib.hid (HK.out.below hb HK.out.lt)
        replace HB := Lib.hid (HB.out.trans (hb.mono (by omega)))
        clear hb
        have t0 := HK.out.one.1
        refine hK.out _ _ ?_ (fun hH12009 => ?_)
        · exact HK.out.one.1
        clear hK K
        refine wpAnyH_take (i := 9) (oi := { dst := some 198, op := Go.Op.pick (Go.Operand.tmp 196) (Go.Operand.tmp 197) (Go.Operand.const (Go.Value.bool false)), type := 4, pos := "outright.go:116", after := #[{ on := 7, ground := Go.Ground.data }, { on := 8, ground := Go.Ground.data }], guard := none }) (v := ?vt12010) rfl (by kernel_rfl) (by kernel_rfl) (by kernel_rfl) (fun _ _ _ h => h) (Or.inl ⟨by rfl, ?ht12010⟩) hH12009 ?_
        case ht12010 => intro w hSw; (try dsimp only at hSw); go_simp; try with_reducible rfl
        simp only [Act.put, List.setIfInBounds_toArray, List.set_cons_zero, List.set_cons_succ]
        refine wpAnyH_take (i := 10) (oi := { dst := some 8, op := Go.Op.assign (Go.Operand.tmp 198), type := 4, pos := "outright.go:116", after := #[{ on := 9, ground := Go.Ground.data }, { on := 8, ground := Go.Ground.chain }, { on := 0, ground := Go.Ground.phase }, { on := 1, ground := Go.Ground.phase }, { on := 2, ground := Go.Ground.phase }, { on := 3, ground := Go.Ground.phase }, { on := 4, ground := Go.Ground.phase }, { on := 5, ground := Go.Ground.phase }, { on := 6, ground := Go.Ground.phase }, { on := 7, ground := Go.Ground.phase }, { on := 8, ground := Go.Ground.phase }, { on := 9, ground := Go.Ground.phase }], guard := none }) (v := ?vt12011) rfl (by kernel_rfl) (by kernel_rfl) (by kernel_rfl) (fun _ _ _ h => h) (Or.inl ⟨by rfl, ?ht12011⟩) hH12009 ?_
        case ht12011 => intro w hSw; (try dsimp only at hSw); go_simp; try with_reducible rfl
        simp only [Act.put, List.setIfInBounds_toArray, List.set_cons_zero, List.set_cons_succ]
        refine wpAnyH_done (by kernel_rfl) ?_ _
        go_wp2
        go_ret
        exact ⟨rfl, HB.out⟩
end Go.Proofs.Ytpcamnblpfccjaa
