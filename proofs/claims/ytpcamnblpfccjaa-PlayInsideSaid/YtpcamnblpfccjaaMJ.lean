/-
  The walk of PlayInside.
-/
import Derived.Test.YtpcamnblpfccjaaMK
import Derived.Test.YtpcamnblpfccjaaMH
namespace Go.Proofs.Ytpcamnblpfccjaa
open Go.RowKit

set_option maxRecDepth 100000 in
set_option maxHeartbeats 8000000 in
theorem inside_walk (B : Nat) (Af A : Option Addr) (nf cf n k : Nat) (s : List Int) (l : List Smp) (Ab Ac : Option Addr) (nb kb nc kc : Nat) (bs cs : List Int) (less : Int) (w : World) (hL : LI w B Af nf s) (h0 : RS w B A n l) (hU : LU w B Ab nb bs) (hU2 : LU w B Ac nc cs) (hl0 : 0 ≤ less) (hl1 : less ≤ 255) (hnc : nc ≤ 9223372036854775807) (hB : B ≤ w.heap.size) (hf : nf ≤ 9223372036854775807) (hl : n ≤ 9223372036854775807) :
    Calls Try.prog 7 #[.agg #[.slice Af nf cf], .slice A n k, .slice Ab nb kb, .slice Ac nc kc, .int .u8 less] w fun e w' => e = .returned (.bool true) ∧ Below w.heap.size w w' := by
  have HN := Lib.hid h0.1
  have H := Lib.hid h0
  have HL := Lib.hid hL
  have HU := Lib.hid hU
  have HU2 := Lib.hid hU2
  clear h0 hL
  cases hv : vdL s l 60
  · have HV := Lib.hid hv
    clear hv
    go_enter Try.func7, Try.ntmps7
    go_wp2_with fail
    obtain ⟨w1, hW⟩ : ∃ W, w.alloc (.cells #[.slice Af nf cf] 24) = W := ⟨_, rfl⟩
    have hb : Below w.heap.size w w1 := by rw [← hW]; exact (Below.refl _ _).alloc (Nat.le_refl _) _
    have hsz1 := hb.size
    replace H := Lib.hid (H.out.below hb (by omega))
    replace HL := Lib.hid (HL.out.below hb (by omega))
    replace HU := Lib.hid (HU.out.below hb (by omega))
    replace HU2 := Lib.hid (HU2.out.below hb (by omega))
    have HK : Hid (Blk w1 w.heap.size 24 #[.slice Af nf cf]) := Lib.hid (by rw [← hW]; exact Blk.new _ _ _)
    have HB := Lib.hid hb
    try rw [hW]
    clear hW hb
    have t0 := HK.out.one.1
    have CALL := valid_any w1.heap.size Af A nf cf n k s l 60 w1 (HL.out.more (by omega)) (H.out.more (by omega)) (Nat.le_refl _) hf hl
    rw [HV.out] at CALL
    refine CALL.mono ?_
    rintro e w2 ⟨rfl, hb⟩
    clear CALL
    have hsz2 := hb.size
    replace H := Lib.hid (H.out.below hb (by omega))
    replace HL := Lib.hid (HL.out.below hb (by omega))
    replace HU := Lib.hid (HU.out.below hb (by omega))
    replace HU2 := Lib.hid (HU2.out.below hb (by omega))
    replace HK := Lib.hid (HK.out.below hb HK.out.lt)
    replace HB := Lib.hid (HB.out.trans (hb.mono (by omega)))
    clear hb
    have t0 := HK.out.one.1
    go_wp2_with fail
    have CALL := works6_any w2
    refine CALL.mono ?_
    rintro e w3 ⟨rfl, hb⟩
    clear CALL
    have hsz3 := hb.size
    replace H := Lib.hid (H.out.below hb (by omega))
    replace HL := Lib.hid (HL.out.below hb (by omega))
    replace HU := Lib.hid (HU.out.below hb (by omega))
    replace HU2 := Lib.hid (HU2.out.below hb (by omega))
    replace HK := Lib.hid (HK.out.below hb HK.out.lt)
    replace HB := Lib.hid (HB.out.trans (hb.mono (by omega)))
    clear hb
    have t0 := HK.out.one.1
    go_wp2
    go_ret
    exact ⟨rfl, HB.out⟩
  · have HV := Lib.hid hv
    clear hv
    go_enter Try.func7, Try.ntmps7
    go_wp2_with fail
    obtain ⟨w1, hW⟩ : ∃ W, w.alloc (.cells #[.slice Af nf cf] 24) = W := ⟨_, rfl⟩
    have hb : Below w.heap.size w w1 := by rw [← hW]; exact (Below.refl _ _).alloc (Nat.le_refl _) _
    have hsz1 := hb.size
    replace H := Lib.hid (H.out.below hb (by omega))
    replace HL := Lib.hid (HL.out.below hb (by omega))
    replace HU := Lib.hid (HU.out.below hb (by omega))
    replace HU2 := Lib.hid (HU2.out.below hb (by omega))
    have HK : Hid (Blk w1 w.heap.size 24 #[.slice Af nf cf]) := Lib.hid (by rw [← hW]; exact Blk.new _ _ _)
    have HB := Lib.hid hb
    try rw [hW]
    clear hW hb
    have t0 := HK.out.one.1
    have HOK := Lib.hid (vdL_t HV.out)
    have hs : Shp s := ckTip_ok HOK.out.1
    have he : Edg l := (ckG_edg HOK.out.2.2).2
    have hn60 : n ≤ 60 := by have := HOK.out.2.1; have := HN.out; omega
    have HSH := Lib.hid hs
    have HE := Lib.hid he
    have hl4 : l.length ≤ 4096 := by have := HN.out; omega
    have HR0 := Lib.hid (rd_ok hs hl4 he)
    clear hs he
    have CALL := valid_any w1.heap.size Af A nf cf n k s l 60 w1 (HL.out.more (by omega)) (H.out.more (by omega)) (Nat.le_refl _) hf hl
    rw [HV.out] at CALL
    refine CALL.mono ?_
    rintro e w2 ⟨rfl, hb⟩
    clear CALL
    have hsz2 := hb.size
    replace H := Lib.hid (H.out.below hb (by omega))
    replace HL := Lib.hid (HL.out.below hb (by omega))
    replace HU := Lib.hid (HU.out.below hb (by omega))
    replace HU2 := Lib.hid (HU2.out.below hb (by omega))
    replace HK := Lib.hid (HK.out.below hb HK.out.lt)
    replace HB := Lib.hid (HB.out.trans (hb.mono (by omega)))
    clear hb
    have t0 := HK.out.one.1
    go_wp2_with fail
    have CALL := Read_any w2.heap.size Af A nf cf n k s l w2 (HL.out.more (by omega)) (H.out.more (by omega)) (Nat.le_refl _) (by omega) (by omega)
    rw [HR0.out, rdRes_ok HR0.out] at CALL
    refine CALL.mono ?_
    rintro e w3 ⟨A1, n1, k1, rfl, hr, hc1, hb⟩
    clear CALL
    have hsz3 := hb.size
    replace H := Lib.hid (H.out.below hb (by omega))
    replace HL := Lib.hid (HL.out.below hb (by omega))
    replace HU := Lib.hid (HU.out.below hb (by omega))
    replace HU2 := Lib.hid (HU2.out.below hb (by omega))
    replace HK := Lib.hid (HK.out.below hb HK.out.lt)
    replace HB := Lib.hid (HB.out.trans (hb.mono (by omega)))
    have hle1 : n1 ≤ 4096 := by have h1 := hr.1; have h2 : (rdL s l).length ≤ 4096 := (by rw [rdL_len]; exact hl4); omega
    have H1 := Lib.hid hr
    clear hr
    clear hb
    have t0 := HK.out.one.1
    go_wp2_with fail
    have CALL := Sweep_any w3.heap.size Af A nf cf n k s l w3 (HL.out.more (by omega)) (H.out.more (by omega)) (Nat.le_refl _) (by omega) (by omega)
    rw [HR0.out, swRes_ok HR0.out] at CALL
    refine CALL.mono ?_
    rintro e w4 ⟨A2, n2, k2, rfl, hr, hc2, hb⟩
    clear CALL
    have hsz4 := hb.size
    replace H := Lib.hid (H.out.below hb (by omega))
    replace HL := Lib.hid (HL.out.below hb (by omega))
    replace HU := Lib.hid (HU.out.below hb (by omega))
    replace HU2 := Lib.hid (HU2.out.below hb (by omega))
    replace H1 := Lib.hid (H1.out.below hb (by omega))
    replace HK := Lib.hid (HK.out.below hb HK.out.lt)
    replace HB := Lib.hid (HB.out.trans (hb.mono (by omega)))
    have hle2 : n2 ≤ 4096 := by have h1 := hr.1; have h2 : (swL s (rdL s l)).length ≤ 4096 := (by rw [swL_len, rdL_len]; exact hl4); omega
    have H2 := Lib.hid hr
    clear hr
    clear hb
    have t0 := HK.out.one.1
    have HBD := Lib.hid (fun q => HU.out.bd q)
    have HBD2 := Lib.hid (fun q => HU2.out.bd q)
    have HOE := Lib.hid (nrL_edg HE.out HBD.out)
    have HR5 := Lib.hid (rd_ok HSH.out (by rw [nrL_len]; exact hl4) HOE.out)
    have HSP := Lib.hid (shL_shp (by_ := cs) (less := less) HSH.out HBD2.out)
    have HR8 := Lib.hid (rd_ok HSP.out.1 hl4 HE.out)
    have I1 := Lib.hid (rd_in_sw HSH.out HE.out)
    have I2 := Lib.hid (sw_in HSH.out HE.out)
    have I3 := Lib.hid (rd_mono HSH.out HE.out HOE.out (nrL_len _ _) (nrL_le HE.out HBD.out))
    have I4 := Lib.hid (rd_sharper HSH.out HSP.out.1 HSP.out.2.1 HSP.out.2.2 HE.out)
    go_wp2_with fail
    refine wp_region_held_drew (S := fun w' => w'.cell? ⟨w.heap.size, 0, none⟩ = some (.slice Af nf cf)) (by kernel_rfl) HK.out.one.1 (fun hHeld => ?_)
    obtain ⟨w5, hwd⟩ : ∃ wd, w4.drew = wd := ⟨_, rfl⟩
    have hb : Below w4.heap.size w4 w5 := by rw [← hwd]; exact (Below.refl _ _).drew
    have hsz5 := hb.size
    replace H := Lib.hid (H.out.below hb (by omega))
    replace HL := Lib.hid (HL.out.below hb (by omega))
    replace HU := Lib.hid (HU.out.below hb (by omega))
    replace HU2 := Lib.hid (HU2.out.below hb (by omega))
    replace H1 := Lib.hid (H1.out.below hb (by omega))
    replace H2 := Lib.hid (H2.out.below hb (by omega))
    replace HK := Lib.hid (HK.out.below hb HK.out.lt)
    replace HB := Lib.hid (HB.out.trans (hb.mono (by omega)))
    rw [hwd] at hHeld ⊢
    clear hb hwd
    have t0 := HK.out.one.1
    refine wpAnyH_take (i := 0) (v := ?vt5001) rfl (by kernel_rfl) (by kernel_rfl) (by kernel_rfl) (fun _ _ _ h => h) (Or.inl ⟨by rfl, ?ht5001⟩) hHeld ?_
    case ht5001 => intro w hSw; (try dsimp only at hSw); go_simp; try with_reducible rfl
    simp only [Act.put, List.setIfInBounds_toArray]
    refine wpAnyH_take (i := 1) (v := ?vt5002) rfl (by kernel_rfl) (by kernel_rfl) (by kernel_rfl) (fun _ _ _ h => h) (Or.inl ⟨by rfl, ?ht5002⟩) hHeld ?_
    case ht5002 => intro w hSw; (try dsimp only at hSw); go_simp; try with_reducible rfl
    simp only [Act.put]
    refine wpAnyH_take (i := 2) (v := ?vt5003) rfl (by kernel_rfl) (by kernel_rfl) (by kernel_rfl) (fun _ _ _ h => h) (Or.inl ⟨by rfl, ?ht5003⟩) hHeld ?_
    case ht5003 => intro w hSw; (try dsimp only at hSw); go_simp; try with_reducible rfl
    simp only [Act.put]
    refine wpAnyH_ready (rs := [3]) (by kernel_rfl) (by simp) ?_
    refine AllReadyH.cons rfl (fun K hK => ?_) AllReadyH.nil
    go_simp
    have CALL := narrowed_any w5.heap.size A Ab n k nb kb l bs w5 (H.out.more (by omega)) (HU.out.more (by omega)) (Nat.le_refl _) (by omega) HE.out
    refine CALL.mono ?_
    rintro e w6 ⟨A5, n5, k5, rfl, hr, hc5, hb⟩
    clear CALL
    have hsz6 := hb.size
    replace H := Lib.hid (H.out.below hb (by omega))
    replace HL := Lib.hid (HL.out.below hb (by omega))
    replace HU := Lib.hid (HU.out.below hb (by omega))
    replace HU2 := Lib.hid (HU2.out.below hb (by omega))
    replace H1 := Lib.hid (H1.out.below hb (by omega))
    replace H2 := Lib.hid (H2.out.below hb (by omega))
    replace HK := Lib.hid (HK.out.below hb HK.out.lt)
    replace HB := Lib.hid (HB.out.trans (hb.mono (by omega)))
    have hle5 : n5 ≤ 4096 := by have h1 := hr.1; have h2 : (nrL l bs).length ≤ 4096 := (by rw [nrL_len]; exact hl4); omega
    have H5 := Lib.hid hr
    clear hr
    clear hb
    have t0 := HK.out.one.1
    refine hK.out _ _ ?_ (fun hH5004 => ?_)
    · exact HK.out.one.1
    clear hK K
    refine wpAnyH_ready (rs := [4]) (by kernel_rfl) (by simp) ?_
    refine AllReadyH.cons rfl (fun K hK => ?_) AllReadyH.nil
    go_simp
    have CALL := Read_any w6.heap.size Af A5 nf cf n5 k5 s (nrL l bs) w6 (HL.out.more (by omega)) (H5.out.more (by omega)) (Nat.le_refl _) (by omega) (by omega)
    rw [HR5.out, rdRes_ok HR5.out] at CALL
    refine CALL.mono ?_
    rintro e w7 ⟨A6, n6, k6, rfl, hr, hc6, hb⟩
    clear CALL
    have hsz7 := hb.size
    replace H := Lib.hid (H.out.below hb (by omega))
    replace HL := Lib.hid (HL.out.below hb (by omega))
    replace HU := Lib.hid (HU.out.below hb (by omega))
    replace HU2 := Lib.hid (HU2.out.below hb (by omega))
    replace H1 := Lib.hid (H1.out.below hb (by omega))
    replace H2 := Lib.hid (H2.out.below hb (by omega))
    replace H5 := Lib.hid (H5.out.below hb (by omega))
    replace HK := Lib.hid (HK.out.below hb HK.out.lt)
    replace HB := Lib.hid (HB.out.trans (hb.mono (by omega)))
    have hle6 : n6 ≤ 4096 := by have h1 := hr.1; have h2 : (rdL s (nrL l bs)).length ≤ 4096 := (by rw [rdL_len, nrL_len]; exact hl4); omega
    have H6 := Lib.hid hr
    clear hr
    clear hb
    have t0 := HK.out.one.1
    refine hK.out _ _ ?_ (fun hH5005 => ?_)
    · exact HK.out.one.1
    clear hK K
    refine wpAnyH_take (i := 5) (v := ?vt5006) rfl (by kernel_rfl) (by kernel_rfl) (by kernel_rfl) (fun _ _ _ h => h) (Or.inl ⟨by rfl, ?ht5006⟩) hH5005 ?_
    case ht5006 => intro w hSw; (try dsimp only at hSw); go_simp; try with_reducible rfl
    simp only [Act.put, List.setIfInBounds_toArray]
    refine wpAnyH_take (i := 6) (v := ?vt5007) rfl (by kernel_rfl) (by kernel_rfl) (by kernel_rfl) (fun _ _ _ h => h) (Or.inl ⟨by rfl, ?ht5007⟩) hH5005 ?_
    case ht5007 => intro w hSw; (try dsimp only at hSw); go_simp; try with_reducible rfl
    simp only [Act.put]
    refine wpAnyH_take (i := 7) (v := ?vt5008) rfl (by kernel_rfl) (by kernel_rfl) (by kernel_rfl) (fun _ _ _ h => h) (Or.inl ⟨by rfl, ?ht5008⟩) hH5005 ?_
    case ht5008 => intro w hSw; (try dsimp only at hSw); go_simp; try with_reducible rfl
    simp only [Act.put]
    refine wpAnyH_take (i := 8) (v := ?vt5009) rfl (by kernel_rfl) (by kernel_rfl) (by kernel_rfl) (fun _ _ _ h => h) (Or.inl ⟨by rfl, ?ht5009⟩) hH5005 ?_
    case ht5009 => intro w hSw; (try dsimp only at hSw); go_simp; try with_reducible rfl
    simp only [Act.put]
    refine wpAnyH_take (i := 9) (v := ?vt5010) rfl (by kernel_rfl) (by kernel_rfl) (by kernel_rfl) (fun _ _ _ h => h) (Or.inl ⟨by rfl, ?ht5010⟩) hH5005 ?_
    case ht5010 => intro w hSw; (try dsimp only at hSw); go_simp; try with_reducible rfl
    simp only [Act.put]
    refine wpAnyH_done (by kernel_rfl) ?_ _
    have h64 : (shL s cs less).length ≤ 64 := HSP.out.1.many
    go_wp2_with fail
    have CALL := sharper_any w7.heap.size Af Ac nf cf nc kc s cs less w7 (HL.out.more (by omega)) (HU2.out.more (by omega)) (Nat.le_refl _) HSH.out hl0 hl1 hnc
    refine CALL.mono ?_
    rintro e w8 ⟨A7, n7, k7, rfl, hr, hc7, hb⟩
    clear CALL
    have hsz8 := hb.size
    replace H := Lib.hid (H.out.below hb (by omega))
    replace HL := Lib.hid (HL.out.below hb (by omega))
    replace HU := Lib.hid (HU.out.below hb (by omega))
    replace HU2 := Lib.hid (HU2.out.below hb (by omega))
    replace H1 := Lib.hid (H1.out.below hb (by omega))
    replace H2 := Lib.hid (H2.out.below hb (by omega))
    replace H5 := Lib.hid (H5.out.below hb (by omega))
    replace H6 := Lib.hid (H6.out.below hb (by omega))
    replace HK := Lib.hid (HK.out.below hb HK.out.lt)
    replace HB := Lib.hid (HB.out.trans (hb.mono (by omega)))
    have hle7 : n7 ≤ 64 := by have := hr.1; have := HSP.out.1.many; omega
    have H7 := Lib.hid hr
    clear hr
    clear hb
    have t0 := HK.out.one.1
    go_wp2_with fail
    have CALL := Read_any w8.heap.size A7 A n7 k7 n k (shL s cs less) l w8 (H7.out.more (by omega)) (H.out.more (by omega)) (Nat.le_refl _) (by omega) (by omega)
    rw [HR8.out, rdRes_ok HR8.out] at CALL
    refine CALL.mono ?_
    rintro e w9 ⟨A8, n8, k8, rfl, hr, hc8, hb⟩
    clear CALL
    have hsz9 := hb.size
    replace H := Lib.hid (H.out.below hb (by omega))
    replace HL := Lib.hid (HL.out.below hb (by omega))
    replace HU := Lib.hid (HU.out.below hb (by omega))
    replace HU2 := Lib.hid (HU2.out.below hb (by omega))
    replace H1 := Lib.hid (H1.out.below hb (by omega))
    replace H2 := Lib.hid (H2.out.below hb (by omega))
    replace H5 := Lib.hid (H5.out.below hb (by omega))
    replace H6 := Lib.hid (H6.out.below hb (by omega))
    replace H7 := Lib.hid (H7.out.below hb (by omega))
    replace HK := Lib.hid (HK.out.below hb HK.out.lt)
    replace HB := Lib.hid (HB.out.trans (hb.mono (by omega)))
    have hle8 : n8 ≤ 4096 := by have h1 := hr.1; have h2 : (rdL (shL s cs less) l).length ≤ 4096 := (by rw [rdL_len]; exact hl4); omega
    have H8 := Lib.hid hr
    clear hr
    clear hb
    have t0 := HK.out.one.1
    go_wp2_with fail
    have CALL := inside_any w9.heap.size A1 A2 n1 k1 n2 k2 (rdL s l) (swL s (rdL s l)) w9 (H1.out.more (by omega)) (H2.out.more (by omega)) (Nat.le_refl _) (by omega) (by omega)
    rw [I1.out] at CALL
    refine CALL.mono ?_
    rintro e w10 ⟨rfl, hb⟩
    clear CALL
    have hsz10 := hb.size
    replace H := Lib.hid (H.out.below hb (by omega))
    replace HL := Lib.hid (HL.out.below hb (by omega))
    replace HU := Lib.hid (HU.out.below hb (by omega))
    replace HU2 := Lib.hid (HU2.out.below hb (by omega))
    replace H1 := Lib.hid (H1.out.below hb (by omega))
    replace H2 := Lib.hid (H2.out.below hb (by omega))
    replace H5 := Lib.hid (H5.out.below hb (by omega))
    replace H6 := Lib.hid (H6.out.below hb (by omega))
    replace H7 := Lib.hid (H7.out.below hb (by omega))
    replace H8 := Lib.hid (H8.out.below hb (by omega))
    replace HK := Lib.hid (HK.out.below hb HK.out.lt)
    replace HB := Lib.hid (HB.out.trans (hb.mono (by omega)))
    clear hb
    have t0 := HK.out.one.1
    go_wp2_with fail
    have CALL := inside_any w10.heap.size A2 A n2 k2 n k (swL s (rdL s l)) l w10 (H2.out.more (by omega)) (H.out.more (by omega)) (Nat.le_refl _) (by omega) (by omega)
    rw [I2.out] at CALL
    refine CALL.mono ?_
    rintro e w11 ⟨rfl, hb⟩
    clear CALL
    have hsz11 := hb.size
    replace H := Lib.hid (H.out.below hb (by omega))
    replace HL := Lib.hid (HL.out.below hb (by omega))
    replace HU := Lib.hid (HU.out.below hb (by omega))
    replace HU2 := Lib.hid (HU2.out.below hb (by omega))
    replace H1 := Lib.hid (H1.out.below hb (by omega))
    replace H2 := Lib.hid (H2.out.below hb (by omega))
    replace H5 := Lib.hid (H5.out.below hb (by omega))
    replace H6 := Lib.hid (H6.out.below hb (by omega))
    replace H7 := Lib.hid (H7.out.below hb (by omega))
    replace H8 := Lib.hid (H8.out.below hb (by omega))
    replace HK := Lib.hid (HK.out.below hb HK.out.lt)
    replace HB := Lib.hid (HB.out.trans (hb.mono (by omega)))
    clear hb
    have t0 := HK.out.one.1
    go_wp2_with fail
    have CALL := inside_any w11.heap.size A6 A1 n6 k6 n1 k1 (rdL s (nrL l bs)) (rdL s l) w11 (H6.out.more (by omega)) (H1.out.more (by omega)) (Nat.le_refl _) (by omega) (by omega)
    rw [I3.out] at CALL
    refine CALL.mono ?_
    rintro e w12 ⟨rfl, hb⟩
    clear CALL
    have hsz12 := hb.size
    replace H := Lib.hid (H.out.below hb (by omega))
    replace HL := Lib.hid (HL.out.below hb (by omega))
    replace HU := Lib.hid (HU.out.below hb (by omega))
    replace HU2 := Lib.hid (HU2.out.below hb (by omega))
    replace H1 := Lib.hid (H1.out.below hb (by omega))
    replace H2 := Lib.hid (H2.out.below hb (by omega))
    replace H5 := Lib.hid (H5.out.below hb (by omega))
    replace H6 := Lib.hid (H6.out.below hb (by omega))
    replace H7 := Lib.hid (H7.out.below hb (by omega))
    replace H8 := Lib.hid (H8.out.below hb (by omega))
    replace HK := Lib.hid (HK.out.below hb HK.out.lt)
    replace HB := Lib.hid (HB.out.trans (hb.mono (by omega)))
    clear hb
    have t0 := HK.out.one.1
    go_wp2_with fail
    have CALL := inside_any w12.heap.size A1 A8 n1 k1 n8 k8 (rdL s l) (rdL (shL s cs less) l) w12 (H1.out.more (by omega)) (H8.out.more (by omega)) (Nat.le_refl _) (by omega) (by omega)
    rw [I4.out] at CALL
    refine CALL.mono ?_
    rintro e w13 ⟨rfl, hb⟩
    clear CALL
    have hsz13 := hb.size
    replace H := Lib.hid (H.out.below hb (by omega))
    replace HL := Lib.hid (HL.out.below hb (by omega))
    replace HU := Lib.hid (HU.out.below hb (by omega))
    replace HU2 := Lib.hid (HU2.out.below hb (by omega))
    replace H1 := Lib.hid (H1.out.below hb (by omega))
    replace H2 := Lib.hid (H2.out.below hb (by omega))
    replace H5 := Lib.hid (H5.out.below hb (by omega))
    replace H6 := Lib.hid (H6.out.below hb (by omega))
    replace H7 := Lib.hid (H7.out.below hb (by omega))
    replace H8 := Lib.hid (H8.out.below hb (by omega))
    replace HK := Lib.hid (HK.out.below hb HK.out.lt)
    replace HB := Lib.hid (HB.out.trans (hb.mono (by omega)))
    clear hb
    have t0 := HK.out.one.1
    go_wp2_with fail
    have CALL := works6_any w13
    refine CALL.mono ?_
    rintro e w14 ⟨rfl, hb⟩
    clear CALL
    have hsz14 := hb.size
    replace H := Lib.hid (H.out.below hb (by omega))
    replace HL := Lib.hid (HL.out.below hb (by omega))
    replace HU := Lib.hid (HU.out.below hb (by omega))
    replace HU2 := Lib.hid (HU2.out.below hb (by omega))
    replace H1 := Lib.hid (H1.out.below hb (by omega))
    replace H2 := Lib.hid (H2.out.below hb (by omega))
    replace H5 := Lib.hid (H5.out.below hb (by omega))
    replace H6 := Lib.hid (H6.out.below hb (by omega))
    replace H7 := Lib.hid (H7.out.below hb (by omega))
    replace H8 := Lib.hid (H8.out.below hb (by omega))
    replace HK := Lib.hid (HK.out.below hb HK.out.lt)
    replace HB := Lib.hid (HB.out.trans (hb.mono (by omega)))
    clear hb
    have t0 := HK.out.one.1
    go_wp2
    go_ret
    exact ⟨rfl, HB.out⟩
end Go.Proofs.Ytpcamnblpfccjaa
