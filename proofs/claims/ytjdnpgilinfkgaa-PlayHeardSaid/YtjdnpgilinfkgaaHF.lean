/-
  The walk of PlayHeard.
-/
import Derived.Test.YtjdnpgilinfkgaaHE
import Derived.Test.YtjdnpgilinfkgaaPL
import Derived.Test.YtjdnpgilinfkgaaMF
import Derived.Test.YtjdnpgilinfkgaaMH
import Derived.Deep.Cut
namespace Go.Proofs.Ytjdnpgilinfkgaa
open Go.RowKit

theorem tmod_bd {x m : Int} (h : 0 < m) : -m < x.tmod m ∧ x.tmod m < m := by
  rcases Int.le_total 0 x with hx | hx
  · rw [Int.tmod_eq_emod_of_nonneg hx]
    have := Int.emod_nonneg x (by omega : m ≠ 0)
    have := Int.emod_lt_of_pos x h
    omega
  · obtain ⟨y, rfl⟩ : ∃ y, x = -y := ⟨-x, by omega⟩
    rw [Int.neg_tmod, Int.tmod_eq_emod_of_nonneg (by omega)]
    have := Int.emod_nonneg y (by omega : m ≠ 0)
    have := Int.emod_lt_of_pos y h
    omega

set_option maxRecDepth 100000 in
set_option maxHeartbeats 16000000 in
theorem heard_walk (B : Nat) (Af A Ab Ac Al : Option Addr) (nf cf n k nb kb nc kc nl kl : Nat) (s : List Int) (l : List Smp) (bs cs ls : List Int) (la lb wow : Int) (w : World) (hL : LI w B Af nf s) (h0 : RS w B A n l) (hU : LU w B Ab nb bs) (hU2 : LU w B Ac nc cs) (hV : LB w B Al nl ls) (hB : B ≤ w.heap.size)
    (hf : nf ≤ 9223372036854775807) (hl : n ≤ 9223372036854775807) (hnb : nb ≤ 9223372036854775807) (hnc : nc ≤ 9223372036854775807) (hnl : nl ≤ 9223372036854775807) (hla : 0 ≤ la ∧ la ≤ 255) (hlb : 0 ≤ lb ∧ lb ≤ 255) (hw : 0 ≤ wow ∧ wow ≤ 255) :
    Calls Try.prog 8 #[.agg #[.slice Af nf cf], .slice A n k, .slice Ab nb kb, .slice Ac nc kc, .agg #[.int .u8 la, .int .u8 lb], .int .u8 wow, .slice Al nl kl] w fun e w' => e = .returned (.bool true) ∧ Below w.heap.size w w' := by
  have HN := Lib.hid h0.1
  have HNL := Lib.hid hV.1.1
  have H := Lib.hid h0
  have HL := Lib.hid hL
  have HU := Lib.hid hU
  have HU2 := Lib.hid hU2
  have HLT := Lib.hid hV
  clear h0 hL hU hU2 hV
  cases hv : vdL s l 40
  · have HV := Lib.hid hv
    clear hv
    go_enter Try.func8, Try.ntmps8
    go_upto_region 1 with fail
    obtain ⟨w2, hW⟩ : ∃ W, (w.alloc (.cells #[.slice Af nf cf] 24)).alloc (.cells #[.int .u8 la, .int .u8 lb] 61) = W := ⟨_, rfl⟩
    have hb : Below w.heap.size w w2 := by rw [← hW]; exact ((Below.refl _ _).alloc (Nat.le_refl _) _).alloc (by simp) _
    have HK : Hid (Blk w2 w.heap.size 24 #[.slice Af nf cf]) := Lib.hid (by rw [← hW]; exact (Blk.new _ _ _).alloc _)
    have KL : Hid (Blk w2 (w.heap.size + 1) 61 #[.int .u8 la, .int .u8 lb]) := Lib.hid (by rw [← hW]; exact blk_al (by simp))
    have HB := Lib.hid hb
    have hsz2 := hb.size
    rw [hW]
    clear hW
    replace H := Lib.hid (H.out.below hb (by omega))
    replace HL := Lib.hid (HL.out.below hb (by omega))
    replace HU := Lib.hid (HU.out.below hb (by omega))
    replace HU2 := Lib.hid (HU2.out.below hb (by omega))
    replace HLT := Lib.hid (HLT.out.below hb (by omega))
    clear hb
    have t0 := HK.out.one.1
    obtain ⟨b0, b1, b2, b3, b4⟩ := KL.out.two
    go_wp2_with fail
    have CALL := valid_any w2.heap.size Af A nf cf n k s l 40 w2 (HL.out.more (by omega)) (H.out.more (by omega)) (Nat.le_refl _) hf hl
    rw [HV.out] at CALL
    refine CALL.mono ?_
    rintro e w3 ⟨rfl, hb⟩
    clear CALL
    have hsz3 := hb.size
    replace H := Lib.hid (H.out.below hb (by omega))
    replace HL := Lib.hid (HL.out.below hb (by omega))
    replace HU := Lib.hid (HU.out.below hb (by omega))
    replace HU2 := Lib.hid (HU2.out.below hb (by omega))
    replace HLT := Lib.hid (HLT.out.below hb (by omega))
    replace HK := Lib.hid (HK.out.below hb HK.out.lt)
    replace KL := Lib.hid (KL.out.below hb KL.out.lt)
    replace HB := Lib.hid (HB.out.trans (hb.mono (by omega)))
    clear hb
    have t0 := HK.out.one.1
    obtain ⟨b0, b1, b2, b3, b4⟩ := KL.out.two
    go_wp2_with fail
    have CALL := works6_any w3
    refine CALL.mono ?_
    rintro e w4 ⟨rfl, hb⟩
    clear CALL
    have hsz4 := hb.size
    replace H := Lib.hid (H.out.below hb (by omega))
    replace HL := Lib.hid (HL.out.below hb (by omega))
    replace HU := Lib.hid (HU.out.below hb (by omega))
    replace HU2 := Lib.hid (HU2.out.below hb (by omega))
    replace HLT := Lib.hid (HLT.out.below hb (by omega))
    replace HK := Lib.hid (HK.out.below hb HK.out.lt)
    replace KL := Lib.hid (KL.out.below hb KL.out.lt)
    replace HB := Lib.hid (HB.out.trans (hb.mono (by omega)))
    clear hb
    have t0 := HK.out.one.1
    obtain ⟨b0, b1, b2, b3, b4⟩ := KL.out.two
    go_wp2
    go_ret
    exact ⟨rfl, HB.out⟩
  · have hok := vdL_t hv
    have HS := Lib.hid (ckTip_ok hok.1)
    have HG := Lib.hid hok.2.2
    have HE := Lib.hid (ckG_edg hok.2.2).2
    have hn40 : n ≤ 40 := by have := hok.2.1; have := HN.out; omega
    have hl4 : l.length ≤ 4096 := by have := HN.out; omega
    have HP1 := Lib.hid (shL_shp (by_ := bs) (less := la) HS.out HU.out.bd)
    obtain ⟨s1, hs1⟩ : ∃ x, shL s bs la = x := ⟨_, rfl⟩
    have HX1 := Lib.hid hs1
    rw [hs1] at HP1
    have HP2 := Lib.hid (shL_shp (by_ := cs) (less := lb) HP1.out.1 HU2.out.bd)
    obtain ⟨s2, hs2⟩ : ∃ x, shL s1 cs lb = x := ⟨_, rfl⟩
    have HX2 := Lib.hid hs2
    rw [hs2] at HP2
    obtain ⟨far, hfar⟩ : ∃ far : Nat, wow.toNat % 11 = far := ⟨_, rfl⟩
    have hf10 : far ≤ 10 := by omega
    have r1 : IntKind.i64.wrap wow = wow := IntWalk.i64_in _ (by omega)
    have r2 : wow.tmod 11 = (far : Int) := by rw [Int.tmod_eq_emod_of_nonneg (by omega)]; omega
    have r3 : IntKind.i64.wrap (far : Int) = (far : Int) := IntWalk.i64_in _ (by omega)
    have r4 : IntKind.i64.wrap ((far : Int) + 1) = (far : Int) + 1 := IntWalk.i64_in _ (by omega)
    have hall := heard_ok HS.out HP1.out.1 HP2.out.1 HP1.out.2.1 HP2.out.2.1 HP1.out.2.2 HP2.out.2.2 hok.2.2 hf10
    have hN := HN.out
    have HR4 : Hid (hrEr s s2 l far = 0 ∧ hrRes s s2 l far = hrL (rdL s l) (rdL s2 l) far n) := Lib.hid ⟨hall.1, by rw [hrRes_eq hall.1, hN]⟩
    have HR6 : Hid (hrEr s s2 l ((far : Int) + 1) = 0 ∧ hrRes s s2 l ((far : Int) + 1) = hrL (rdL s l) (rdL s2 l) (far + 1) n) := Lib.hid ⟨hall.2.1, by
      have := hall.2.1
      rw [show (far : Int) + 1 = ((far + 1 : Nat) : Int) by omega] at this ⊢
      rw [hrRes_eq this, hN]⟩
    have HR7 : Hid (hrEr s1 s1 l 0 = 0 ∧ hrRes s1 s1 l 0 = hrL (rdL s1 l) (rdL s1 l) 0 n) := Lib.hid ⟨hall.2.2, by
      have := hrRes_eq (far := 0) (b := s1) (s := s1) (l := l) hall.2.2
      rw [hN]; exact this⟩
    have HR5 := Lib.hid (rd_ok HP1.out.1 hl4 HE.out)
    have hs64 : s1.length ≤ 64 ∧ s2.length ≤ 64 := ⟨HP1.out.1.many, HP2.out.1.many⟩
    have HALL := Lib.hid (fun (t u : Nat) (ht : t < n) (hu : u < n) (hd : dst u t ≤ far) => heard_all HS.out HP1.out.1 HP2.out.1 HP1.out.2.1 HP2.out.2.1 HP1.out.2.2 HP2.out.2.2 HE.out hN ht hu hd)
    clear hok hs1 hs2 hfar hall hN
    have HV := Lib.hid hv
    clear hv
    go_enter Try.func8, Try.ntmps8
    go_upto_region 1 with fail
    obtain ⟨w2, hW⟩ : ∃ W, (w.alloc (.cells #[.slice Af nf cf] 24)).alloc (.cells #[.int .u8 la, .int .u8 lb] 61) = W := ⟨_, rfl⟩
    have hb : Below w.heap.size w w2 := by rw [← hW]; exact ((Below.refl _ _).alloc (Nat.le_refl _) _).alloc (by simp) _
    have HK : Hid (Blk w2 w.heap.size 24 #[.slice Af nf cf]) := Lib.hid (by rw [← hW]; exact (Blk.new _ _ _).alloc _)
    have KL : Hid (Blk w2 (w.heap.size + 1) 61 #[.int .u8 la, .int .u8 lb]) := Lib.hid (by rw [← hW]; exact blk_al (by simp))
    have HB := Lib.hid hb
    have hsz2 := hb.size
    rw [hW]
    clear hW
    replace H := Lib.hid (H.out.below hb (by omega))
    replace HL := Lib.hid (HL.out.below hb (by omega))
    replace HU := Lib.hid (HU.out.below hb (by omega))
    replace HU2 := Lib.hid (HU2.out.below hb (by omega))
    replace HLT := Lib.hid (HLT.out.below hb (by omega))
    clear hb
    have t0 := HK.out.one.1
    obtain ⟨b0, b1, b2, b3, b4⟩ := KL.out.two
    go_wp2_with fail
    have CALL := valid_any w2.heap.size Af A nf cf n k s l 40 w2 (HL.out.more (by omega)) (H.out.more (by omega)) (Nat.le_refl _) hf hl
    rw [HV.out] at CALL
    refine CALL.mono ?_
    rintro e w3 ⟨rfl, hb⟩
    clear CALL
    have hsz3 := hb.size
    replace H := Lib.hid (H.out.below hb (by omega))
    replace HL := Lib.hid (HL.out.below hb (by omega))
    replace HU := Lib.hid (HU.out.below hb (by omega))
    replace HU2 := Lib.hid (HU2.out.below hb (by omega))
    replace HLT := Lib.hid (HLT.out.below hb (by omega))
    replace HK := Lib.hid (HK.out.below hb HK.out.lt)
    replace KL := Lib.hid (KL.out.below hb KL.out.lt)
    replace HB := Lib.hid (HB.out.trans (hb.mono (by omega)))
    clear hb
    have t0 := HK.out.one.1
    obtain ⟨b0, b1, b2, b3, b4⟩ := KL.out.two
    go_wp2_with fail
    have CALL := sharper_any w3.heap.size Af Ab nf cf nb kb s bs la w3 (HL.out.more (by omega)) (HU.out.more (by omega)) (Nat.le_refl _) HS.out (by omega) (by omega) (by omega)
    rw [HX1.out] at CALL
    refine CALL.mono ?_
    rintro e w4 ⟨A1, n1, k1, rfl, hr, hc1, hb⟩
    clear CALL
    have hsz4 := hb.size
    replace H := Lib.hid (H.out.below hb (by omega))
    replace HL := Lib.hid (HL.out.below hb (by omega))
    replace HU := Lib.hid (HU.out.below hb (by omega))
    replace HU2 := Lib.hid (HU2.out.below hb (by omega))
    replace HLT := Lib.hid (HLT.out.below hb (by omega))
    replace HK := Lib.hid (HK.out.below hb HK.out.lt)
    replace KL := Lib.hid (KL.out.below hb KL.out.lt)
    replace HB := Lib.hid (HB.out.trans (hb.mono (by omega)))
    have H1 := Lib.hid hr
    have hle1 : n1 ≤ 64 := by have := hr.1; omega
    clear hr
    clear hb
    have t0 := HK.out.one.1
    obtain ⟨b0, b1, b2, b3, b4⟩ := KL.out.two
    go_upto_region 4 with fail
    obtain ⟨w5, hW⟩ : ∃ W, w4.alloc (.cells #[.slice A1 n1 k1] 24) = W := ⟨_, rfl⟩
    have hb : Below w4.heap.size w4 w5 := by rw [← hW]; exact (Below.refl _ _).alloc (Nat.le_refl _) _
    have hsz5 := hb.size
    replace H := Lib.hid (H.out.below hb (by omega))
    replace HL := Lib.hid (HL.out.below hb (by omega))
    replace HU := Lib.hid (HU.out.below hb (by omega))
    replace HU2 := Lib.hid (HU2.out.below hb (by omega))
    replace HLT := Lib.hid (HLT.out.below hb (by omega))
    replace H1 := Lib.hid (H1.out.below hb (by omega))
    replace HK := Lib.hid (HK.out.below hb HK.out.lt)
    replace KL := Lib.hid (KL.out.below hb KL.out.lt)
    replace HB := Lib.hid (HB.out.trans (hb.mono (by omega)))
    have HK1 : Hid (Blk w5 w4.heap.size 24 #[.slice A1 n1 k1]) := Lib.hid (by rw [← hW]; exact Blk.new _ _ _)
    try rw [hW]
    clear hW hb
    have t0 := HK.out.one.1
    obtain ⟨b0, b1, b2, b3, b4⟩ := KL.out.two
    have t1 := HK1.out.one.1
    go_wp2_with fail
    have CALL := sharper_any w5.heap.size A1 Ac n1 k1 nc kc s1 cs lb w5 (H1.out.more (by omega)) (HU2.out.more (by omega)) (Nat.le_refl _) HP1.out.1 (by omega) (by omega) (by omega)
    rw [HX2.out] at CALL
    refine CALL.mono ?_
    rintro e w6 ⟨A2, n2, k2, rfl, hr, hc2, hb⟩
    clear CALL
    have hsz6 := hb.size
    replace H := Lib.hid (H.out.below hb (by omega))
    replace HL := Lib.hid (HL.out.below hb (by omega))
    replace HU := Lib.hid (HU.out.below hb (by omega))
    replace HU2 := Lib.hid (HU2.out.below hb (by omega))
    replace HLT := Lib.hid (HLT.out.below hb (by omega))
    replace H1 := Lib.hid (H1.out.below hb (by omega))
    replace HK := Lib.hid (HK.out.below hb HK.out.lt)
    replace KL := Lib.hid (KL.out.below hb KL.out.lt)
    replace HK1 := Lib.hid (HK1.out.below hb HK1.out.lt)
    replace HB := Lib.hid (HB.out.trans (hb.mono (by omega)))
    have H2 := Lib.hid hr
    have hle2 : n2 ≤ 64 := by have := hr.1; omega
    clear hr
    clear hb
    have t0 := HK.out.one.1
    obtain ⟨b0, b1, b2, b3, b4⟩ := KL.out.two
    have t1 := HK1.out.one.1
    go_upto_region 5 with fail
    obtain ⟨w7, hW⟩ : ∃ W, w6.alloc (.cells #[.slice A2 n2 k2] 24) = W := ⟨_, rfl⟩
    have hb : Below w6.heap.size w6 w7 := by rw [← hW]; exact (Below.refl _ _).alloc (Nat.le_refl _) _
    have hsz7 := hb.size
    replace H := Lib.hid (H.out.below hb (by omega))
    replace HL := Lib.hid (HL.out.below hb (by omega))
    replace HU := Lib.hid (HU.out.below hb (by omega))
    replace HU2 := Lib.hid (HU2.out.below hb (by omega))
    replace HLT := Lib.hid (HLT.out.below hb (by omega))
    replace H1 := Lib.hid (H1.out.below hb (by omega))
    replace H2 := Lib.hid (H2.out.below hb (by omega))
    replace HK := Lib.hid (HK.out.below hb HK.out.lt)
    replace KL := Lib.hid (KL.out.below hb KL.out.lt)
    replace HK1 := Lib.hid (HK1.out.below hb HK1.out.lt)
    replace HB := Lib.hid (HB.out.trans (hb.mono (by omega)))
    have HK2 : Hid (Blk w7 w6.heap.size 24 #[.slice A2 n2 k2]) := Lib.hid (by rw [← hW]; exact Blk.new _ _ _)
    try rw [hW]
    clear hW hb
    have t0 := HK.out.one.1
    obtain ⟨b0, b1, b2, b3, b4⟩ := KL.out.two
    have t1 := HK1.out.one.1
    have t2 := HK2.out.one.1
    go_wp2_with fail
    have CALL := Hear_any w7.heap.size Af A2 A nf cf n2 k2 n k s s2 l far w7 (HL.out.more (by omega)) (H2.out.more (by omega)) (H.out.more (by omega)) (Nat.le_refl _) (by omega) (by omega) hl
    rw [HR4.out.1, HR4.out.2] at CALL
    refine CALL.mono ?_
    rintro e w8 ⟨A4, n4, k4, rfl, hr, hc4, hb⟩
    clear CALL
    have hsz8 := hb.size
    replace H := Lib.hid (H.out.below hb (by omega))
    replace HL := Lib.hid (HL.out.below hb (by omega))
    replace HU := Lib.hid (HU.out.below hb (by omega))
    replace HU2 := Lib.hid (HU2.out.below hb (by omega))
    replace HLT := Lib.hid (HLT.out.below hb (by omega))
    replace H1 := Lib.hid (H1.out.below hb (by omega))
    replace H2 := Lib.hid (H2.out.below hb (by omega))
    replace HK := Lib.hid (HK.out.below hb HK.out.lt)
    replace KL := Lib.hid (KL.out.below hb KL.out.lt)
    replace HK1 := Lib.hid (HK1.out.below hb HK1.out.lt)
    replace HK2 := Lib.hid (HK2.out.below hb HK2.out.lt)
    replace HB := Lib.hid (HB.out.trans (hb.mono (by omega)))
    have hn4 : n4 = n := by have := hr.1; rw [hrL_len] at this; exact this
    subst n4
    have H4 := Lib.hid hr
    clear hr
    clear hb
    have t0 := HK.out.one.1
    obtain ⟨b0, b1, b2, b3, b4⟩ := KL.out.two
    have t1 := HK1.out.one.1
    have t2 := HK2.out.one.1
    go_wp2_with fail
    have CALL := Read_any w8.heap.size A1 A n1 k1 n k s1 l w8 (H1.out.more (by omega)) (H.out.more (by omega)) (Nat.le_refl _) (by omega) (by omega)
    rw [HR5.out, rdRes_ok HR5.out] at CALL
    refine CALL.mono ?_
    rintro e w9 ⟨A5, n5, k5, rfl, hr, hc5, hb⟩
    clear CALL
    have hsz9 := hb.size
    replace H := Lib.hid (H.out.below hb (by omega))
    replace HL := Lib.hid (HL.out.below hb (by omega))
    replace HU := Lib.hid (HU.out.below hb (by omega))
    replace HU2 := Lib.hid (HU2.out.below hb (by omega))
    replace HLT := Lib.hid (HLT.out.below hb (by omega))
    replace H1 := Lib.hid (H1.out.below hb (by omega))
    replace H2 := Lib.hid (H2.out.below hb (by omega))
    replace H4 := Lib.hid (H4.out.below hb (by omega))
    replace HK := Lib.hid (HK.out.below hb HK.out.lt)
    replace KL := Lib.hid (KL.out.below hb KL.out.lt)
    replace HK1 := Lib.hid (HK1.out.below hb HK1.out.lt)
    replace HK2 := Lib.hid (HK2.out.below hb HK2.out.lt)
    replace HB := Lib.hid (HB.out.trans (hb.mono (by omega)))
    have hle5 : n5 ≤ 4096 := by have h1 := hr.1; have h2 : (rdL s1 l).length ≤ 4096 := (by rw [rdL_len]; exact hl4); omega
    have H5 := Lib.hid hr
    clear hr
    clear hb
    have t0 := HK.out.one.1
    obtain ⟨b0, b1, b2, b3, b4⟩ := KL.out.two
    have t1 := HK1.out.one.1
    have t2 := HK2.out.one.1
    have hn5 : n5 = n := by have := H5.out.1; rw [rdL_len] at this; have := HN.out; omega
    subst n5
    go_wp2_with fail
    have CALL := Hear_any w9.heap.size Af A2 A nf cf n2 k2 n k s s2 l ((far : Int) + 1) w9 (HL.out.more (by omega)) (H2.out.more (by omega)) (H.out.more (by omega)) (Nat.le_refl _) (by omega) (by omega) hl
    rw [HR6.out.1, HR6.out.2] at CALL
    refine CALL.mono ?_
    rintro e w10 ⟨A6, n6, k6, rfl, hr, hc6, hb⟩
    clear CALL
    have hsz10 := hb.size
    replace H := Lib.hid (H.out.below hb (by omega))
    replace HL := Lib.hid (HL.out.below hb (by omega))
    replace HU := Lib.hid (HU.out.below hb (by omega))
    replace HU2 := Lib.hid (HU2.out.below hb (by omega))
    replace HLT := Lib.hid (HLT.out.below hb (by omega))
    replace H1 := Lib.hid (H1.out.below hb (by omega))
    replace H2 := Lib.hid (H2.out.below hb (by omega))
    replace H4 := Lib.hid (H4.out.below hb (by omega))
    replace H5 := Lib.hid (H5.out.below hb (by omega))
    replace HK := Lib.hid (HK.out.below hb HK.out.lt)
    replace KL := Lib.hid (KL.out.below hb KL.out.lt)
    replace HK1 := Lib.hid (HK1.out.below hb HK1.out.lt)
    replace HK2 := Lib.hid (HK2.out.below hb HK2.out.lt)
    replace HB := Lib.hid (HB.out.trans (hb.mono (by omega)))
    have hn6 : n6 = n := by have := hr.1; rw [hrL_len] at this; exact this
    subst n6
    have H6 := Lib.hid hr
    clear hr
    clear hb
    have t0 := HK.out.one.1
    obtain ⟨b0, b1, b2, b3, b4⟩ := KL.out.two
    have t1 := HK1.out.one.1
    have t2 := HK2.out.one.1
    go_wp2_with fail
    have CALL := Hear_any w10.heap.size A1 A1 A n1 k1 n1 k1 n k s1 s1 l 0 w10 (H1.out.more (by omega)) (H1.out.more (by omega)) (H.out.more (by omega)) (Nat.le_refl _) (by omega) (by omega) hl
    rw [HR7.out.1, HR7.out.2] at CALL
    refine CALL.mono ?_
    rintro e w11 ⟨A7, n7, k7, rfl, hr, hc7, hb⟩
    clear CALL
    have hsz11 := hb.size
    replace H := Lib.hid (H.out.below hb (by omega))
    replace HL := Lib.hid (HL.out.below hb (by omega))
    replace HU := Lib.hid (HU.out.below hb (by omega))
    replace HU2 := Lib.hid (HU2.out.below hb (by omega))
    replace HLT := Lib.hid (HLT.out.below hb (by omega))
    replace H1 := Lib.hid (H1.out.below hb (by omega))
    replace H2 := Lib.hid (H2.out.below hb (by omega))
    replace H4 := Lib.hid (H4.out.below hb (by omega))
    replace H5 := Lib.hid (H5.out.below hb (by omega))
    replace H6 := Lib.hid (H6.out.below hb (by omega))
    replace HK := Lib.hid (HK.out.below hb HK.out.lt)
    replace KL := Lib.hid (KL.out.below hb KL.out.lt)
    replace HK1 := Lib.hid (HK1.out.below hb HK1.out.lt)
    replace HK2 := Lib.hid (HK2.out.below hb HK2.out.lt)
    replace HB := Lib.hid (HB.out.trans (hb.mono (by omega)))
    have hn7 : n7 = n := by have := hr.1; rw [hrL_len] at this; exact this
    subst n7
    have H7 := Lib.hid hr
    clear hr
    clear hb
    have t0 := HK.out.one.1
    obtain ⟨b0, b1, b2, b3, b4⟩ := KL.out.two
    have t1 := HK1.out.one.1
    have t2 := HK2.out.one.1
    clear HL
    clear HU
    clear HU2
    clear H1
    clear H2
    clear t0 t1 t2 b0 b1 b2 b3 b4 HK KL HK1 HK2 r1 r2 HX1 HX2 HP1 HP2 HR4 HR5 HR6 HR7 HS HG
    go_wp2_with fail
    have HC : Hid (Below w11.heap.size w11 w11) := Lib.hid (Below.refl _ _)
    go_loopw [24, 25, 26] (fun z _ _ wr => ∃ j : Nat, j ≤ n ∧ z = .int .i64 j ∧ Hid (Below w11.heap.size w11 wr)) (fun z _ _ wr => n - (intOf z).toNat)
    case atStart => exact ⟨0, Nat.zero_le _, rfl, HC⟩
    case round =>
      clear HC
      obtain ⟨j, hj, rfl, HC⟩ := hrel
      by_cases hlt : j < n
      · have hjl : j < l.length := by have := HN.out; omega
        have hj1 : (j : Int) < (n : Int) := by omega
        by_cases cl : j < nl
        · have hjs : j < ls.length := by have := HNL.out; omega
          obtain ⟨aL, hAL, _, z1, z2, z3⟩ := (HLT.out.below HC.out (by omega)).at_ hjs
          obtain rfl := hAL
          obtain ⟨x, hx⟩ : ∃ x, atI ls j = x := ⟨_, rfl⟩
          rw [hx] at z1 z2 z3
          have cl1 : (j : Int) < (nl : Int) := by omega
          have e1 : IntKind.i64.wrap x = x := IntWalk.i64_in _ (by omega)
          obtain ⟨d, hd⟩ : ∃ d, x.tmod ((far : Int) + 1) = d := ⟨_, rfl⟩
          have hdb := tmod_bd (x := x) (m := (far : Int) + 1) (by omega)
          rw [hd] at hdb
          have e2 : IntKind.i64.wrap d = d := IntWalk.i64_in _ (by omega)
          have e3 : IntKind.i64.wrap ((j : Int) + d) = (j : Int) + d := IntWalk.i64_in _ (by omega)
          have e4 : IntKind.i64.wrap ((n : Int) - 1) = (n : Int) - 1 := IntWalk.i64_in _ (by omega)
          have e5 : ¬ (far : Int) + 1 = 0 := by omega
          have e6 : ((far : Int) + 1 == 0) = false := beq_eq_false_iff_ne.2 e5
          obtain ⟨m, hm⟩ : ∃ m, (if 0 < (j : Int) + d then (j : Int) + d else 0) = m := ⟨_, rfl⟩
          have hmb : 0 ≤ m ∧ (m = (j : Int) + d ∨ (m = 0 ∧ (j : Int) + d ≤ 0)) := by rw [← hm]; split <;> omega
          obtain ⟨u, hu⟩ : ∃ u : Nat, (if (n : Int) - 1 < m then (n : Int) - 1 else m) = (u : Int) := ⟨_, (Int.toNat_of_nonneg (show 0 ≤ (if (n : Int) - 1 < m then (n : Int) - 1 else m) by split <;> omega)).symm⟩
          have hu0 : ((u : Int) = m ∧ m ≤ (n : Int) - 1) ∨ ((u : Int) = (n : Int) - 1 ∧ (n : Int) - 1 < m) := by rw [← hu]; split <;> omega
          have hu1 : u < n := by omega
          have hu2 : dst u j ≤ far := by unfold dst; omega
          have hui : (u : Int) < (n : Int) := by omega
          clear hmb hu0 hdb hx
          as_aux_lemma =>
            have hal := HALL.out j u hlt hu1 hu2
            have hul : u < l.length := by have := HN.out; omega
            obtain ⟨a5, hA5, _, p1, p2⟩ := (H5.out.below HC.out (by omega)).at_ (k := u) (by rw [rdL_len]; exact hul)
            obtain ⟨a5', hA5', _, v1, v2⟩ := (H5.out.below HC.out (by omega)).at_ (k := j) (by rw [rdL_len]; exact hjl)
            obtain ⟨a4, hA4, _, y1, y2, y3, y4⟩ := (H4.out.below HC.out (by omega)).at_ (k := j) (by rw [hrL_len]; exact hlt)
            obtain ⟨a6, hA6, _, x1, x2, x3, x4⟩ := (H6.out.below HC.out (by omega)).at_ (k := j) (by rw [hrL_len]; exact hlt)
            obtain ⟨a7, hA7, _, q1, q2, q3, q4⟩ := (H7.out.below HC.out (by omega)).at_ (k := j) (by rw [hrL_len]; exact hlt)
            rw [hrL_at] at y1 y2 y3 y4 x1 x2 x3 x4 q1 q2 q3 q4
            rw [hal.2.2] at q1 q2 q3 q4
            dsimp only at q1 q2 q3 q4
            have k1 : (rdL s1 l)[u]'(by rw [rdL_len]; exact hul) = (-innW (rdL s1 l) u, outW (rdL s1 l) u) := by rw [innW_eq (by rw [rdL_len]; exact hul), outW_eq (by rw [rdL_len]; exact hul), Int.neg_neg]
            have k2 : (rdL s1 l)[j]'(by rw [rdL_len]; exact hjl) = (-innW (rdL s1 l) j, outW (rdL s1 l) j) := by rw [innW_eq (by rw [rdL_len]; exact hjl), outW_eq (by rw [rdL_len]; exact hjl), Int.neg_neg]
            rw [k1] at p1 p2
            rw [k2] at v1 v2
            dsimp only at p1 p2 v1 v2
            clear k1 k2
            obtain ⟨h, hh⟩ : ∃ h, hdL (rdL s l) (rdL s2 l) (nbr j far n) = h := ⟨_, rfl⟩
            obtain ⟨g, hg⟩ : ∃ g, hdL (rdL s l) (rdL s2 l) (nbr j (far + 1) n) = g := ⟨_, rfl⟩
            rw [hh] at hal y1 y2 y3 y4
            rw [hg] at hal x1 x2 x3 x4
            have hl1 := hal.1
            have hl2 := hal.2.1
            clear hal hh hg
            obtain ⟨pu, hpu⟩ : ∃ x, -innW (rdL s1 l) u = x := ⟨_, rfl⟩
            obtain ⟨qu, hqu⟩ : ∃ x, outW (rdL s1 l) u = x := ⟨_, rfl⟩
            obtain ⟨pj, hpj⟩ : ∃ x, -innW (rdL s1 l) j = x := ⟨_, rfl⟩
            obtain ⟨qj, hqj⟩ : ∃ x, outW (rdL s1 l) j = x := ⟨_, rfl⟩
            rw [hpu] at hl1 p1
            rw [hqu] at hl1 p2
            rw [hpj] at v1 q1 q2
            rw [hqj] at v2 q3 q4
            obtain ⟨ha, hb_, hc_, hd_⟩ := h
            obtain ⟨ga, gb, gc, gd⟩ := g
            dsimp only at hl1 hl2 x1 x2 x3 x4 y1 y2 y3 y4
            obtain ⟨c1, c2, c3, c4⟩ := hl1
            obtain ⟨c5, c6, c7, c8⟩ := hl2
            have d1 : ¬ pu < ha := by omega
            have d2 : ¬ hb_ < pu := by omega
            have d3 : ¬ qu < hc_ := by omega
            have d4 : ¬ hd_ < qu := by omega
            have d5 : ¬ ha < ga := by omega
            have d6 : ¬ gb < hb_ := by omega
            have d7 : ¬ hc_ < gc := by omega
            have d8 : ¬ gd < hd_ := by omega
            clear hpu hqu hpj hqj c1 c2 c3 c4 c5 c6 c7 c8
            obtain rfl := hA5
            cases hA5'
            obtain rfl := hA4
            obtain rfl := hA6
            obtain rfl := hA7
            have HYX := Lib.hid (And.intro (And.intro y1 (And.intro y2 (And.intro y3 y4))) (And.intro (And.intro x1 (And.intro x2 (And.intro x3 x4))) (And.intro (And.intro q1 (And.intro q2 (And.intro q3 q4))) (And.intro v1 v2))))

            go_upto_region 21 with fail
            obtain ⟨W9, hW⟩ : ∃ W, wr.alloc (.cells #[.int .i64 pu, .int .i64 qu] 69) = W := ⟨_, rfl⟩
            have hb9 : Below wr.heap.size wr W9 := by rw [← hW]; exact (Below.refl _ _).alloc (Nat.le_refl _) _
            have KP : Blk W9 wr.heap.size 69 #[.int .i64 pu, .int .i64 qu] := by rw [← hW]; exact Blk.new _ _ _
            obtain ⟨o0, o1, -, -, -⟩ := KP.two
            have hsr := HC.out.size
            replace HC := Lib.hid (HC.out.trans (hb9.mono hsr))
            replace y1 := cell_bl hb9 y1
            replace y2 := cell_bl hb9 y2
            replace y3 := cell_bl hb9 y3
            replace y4 := cell_bl hb9 y4
            rw [hW]
            clear hW KP p1 p2 x1 x2 x3 x4 q1 q2 q3 q4 v1 v2
            go_wp2_with fail
            go_quiet (fail)
            as_aux_lemma =>
              clear y1 y2 y3 y4 o0 o1
              obtain ⟨W10, hW⟩ : ∃ W, W9.drewN nq = W := ⟨_, rfl⟩
              replace hb9 : Below wr.heap.size wr W10 := by rw [← hW]; exact below_drewN_ hb9 _
              replace HC : Hid (Below w11.heap.size w11 W10) := Lib.hid (by rw [← hW]; exact below_drewN_ HC.out _)
              rw [hW]
              clear hW
              have y1 := cell_bl hb9 HYX.out.1.1
              have y2 := cell_bl hb9 HYX.out.1.2.1
              have y3 := cell_bl hb9 HYX.out.1.2.2.1
              have y4 := cell_bl hb9 HYX.out.1.2.2.2
              have x1 := cell_bl hb9 HYX.out.2.1.1
              have x2 := cell_bl hb9 HYX.out.2.1.2.1
              have x3 := cell_bl hb9 HYX.out.2.1.2.2.1
              have x4 := cell_bl hb9 HYX.out.2.1.2.2.2
              go_wp2_with fail
              go_quiet (fail)
              as_aux_lemma =>
                clear y1 y2 y3 y4 x1 x2 x3 x4
                obtain ⟨W11, hW⟩ : ∃ W, W10.drewN nq = W := ⟨_, rfl⟩
                replace hb9 : Below wr.heap.size wr W11 := by rw [← hW]; exact below_drewN_ hb9 _
                replace HC : Hid (Below w11.heap.size w11 W11) := Lib.hid (by rw [← hW]; exact below_drewN_ HC.out _)
                rw [hW]
                clear hW
                have q1 := cell_bl hb9 HYX.out.2.2.1.1
                have q2 := cell_bl hb9 HYX.out.2.2.1.2.1
                have q3 := cell_bl hb9 HYX.out.2.2.1.2.2.1
                have q4 := cell_bl hb9 HYX.out.2.2.1.2.2.2
                have v1 := cell_bl hb9 HYX.out.2.2.2.1
                have v2 := cell_bl hb9 HYX.out.2.2.2.2
                go_wp2_with fail
                go_quiet (fail)
                as_aux_lemma =>
                  go_wp2
                  go_roundw
                  case rel => exact ⟨j + 1, by omega, by go_num, Lib.hid (below_drewN_ HC.out _)⟩
                  case measure => simp [intOf] <;> omega
        · have cl1 : ¬ (j : Int) < (nl : Int) := by omega
          as_aux_lemma =>
            have hal := HALL.out j j hlt hlt (by rw [dst_self]; omega)
            have hul : j < l.length := by have := HN.out; omega
            obtain ⟨a5, hA5, _, p1, p2⟩ := (H5.out.below HC.out (by omega)).at_ (k := j) (by rw [rdL_len]; exact hul)
            obtain ⟨a5', hA5', _, v1, v2⟩ := (H5.out.below HC.out (by omega)).at_ (k := j) (by rw [rdL_len]; exact hjl)
            obtain ⟨a4, hA4, _, y1, y2, y3, y4⟩ := (H4.out.below HC.out (by omega)).at_ (k := j) (by rw [hrL_len]; exact hlt)
            obtain ⟨a6, hA6, _, x1, x2, x3, x4⟩ := (H6.out.below HC.out (by omega)).at_ (k := j) (by rw [hrL_len]; exact hlt)
            obtain ⟨a7, hA7, _, q1, q2, q3, q4⟩ := (H7.out.below HC.out (by omega)).at_ (k := j) (by rw [hrL_len]; exact hlt)
            rw [hrL_at] at y1 y2 y3 y4 x1 x2 x3 x4 q1 q2 q3 q4
            rw [hal.2.2] at q1 q2 q3 q4
            dsimp only at q1 q2 q3 q4
            have k1 : (rdL s1 l)[j]'(by rw [rdL_len]; exact hul) = (-innW (rdL s1 l) j, outW (rdL s1 l) j) := by rw [innW_eq (by rw [rdL_len]; exact hul), outW_eq (by rw [rdL_len]; exact hul), Int.neg_neg]
            have k2 : (rdL s1 l)[j]'(by rw [rdL_len]; exact hjl) = (-innW (rdL s1 l) j, outW (rdL s1 l) j) := by rw [innW_eq (by rw [rdL_len]; exact hjl), outW_eq (by rw [rdL_len]; exact hjl), Int.neg_neg]
            rw [k1] at p1 p2
            rw [k2] at v1 v2
            dsimp only at p1 p2 v1 v2
            clear k1 k2
            obtain ⟨h, hh⟩ : ∃ h, hdL (rdL s l) (rdL s2 l) (nbr j far n) = h := ⟨_, rfl⟩
            obtain ⟨g, hg⟩ : ∃ g, hdL (rdL s l) (rdL s2 l) (nbr j (far + 1) n) = g := ⟨_, rfl⟩
            rw [hh] at hal y1 y2 y3 y4
            rw [hg] at hal x1 x2 x3 x4
            have hl1 := hal.1
            have hl2 := hal.2.1
            clear hal hh hg
            obtain ⟨pu, hpu⟩ : ∃ x, -innW (rdL s1 l) j = x := ⟨_, rfl⟩
            obtain ⟨qu, hqu⟩ : ∃ x, outW (rdL s1 l) j = x := ⟨_, rfl⟩
            obtain ⟨pj, hpj⟩ : ∃ x, -innW (rdL s1 l) j = x := ⟨_, rfl⟩
            obtain ⟨qj, hqj⟩ : ∃ x, outW (rdL s1 l) j = x := ⟨_, rfl⟩
            rw [hpu] at hl1 p1
            rw [hqu] at hl1 p2
            rw [hpj] at v1 q1 q2
            rw [hqj] at v2 q3 q4
            obtain ⟨ha, hb_, hc_, hd_⟩ := h
            obtain ⟨ga, gb, gc, gd⟩ := g
            dsimp only at hl1 hl2 x1 x2 x3 x4 y1 y2 y3 y4
            obtain ⟨c1, c2, c3, c4⟩ := hl1
            obtain ⟨c5, c6, c7, c8⟩ := hl2
            have d1 : ¬ pu < ha := by omega
            have d2 : ¬ hb_ < pu := by omega
            have d3 : ¬ qu < hc_ := by omega
            have d4 : ¬ hd_ < qu := by omega
            have d5 : ¬ ha < ga := by omega
            have d6 : ¬ gb < hb_ := by omega
            have d7 : ¬ hc_ < gc := by omega
            have d8 : ¬ gd < hd_ := by omega
            clear hpu hqu hpj hqj c1 c2 c3 c4 c5 c6 c7 c8
            obtain rfl := hA5
            cases hA5'
            obtain rfl := hA4
            obtain rfl := hA6
            obtain rfl := hA7
            have HYX := Lib.hid (And.intro (And.intro y1 (And.intro y2 (And.intro y3 y4))) (And.intro (And.intro x1 (And.intro x2 (And.intro x3 x4))) (And.intro (And.intro q1 (And.intro q2 (And.intro q3 q4))) (And.intro v1 v2))))

            go_upto_region 21 with fail
            obtain ⟨W9, hW⟩ : ∃ W, wr.alloc (.cells #[.int .i64 pu, .int .i64 qu] 69) = W := ⟨_, rfl⟩
            have hb9 : Below wr.heap.size wr W9 := by rw [← hW]; exact (Below.refl _ _).alloc (Nat.le_refl _) _
            have KP : Blk W9 wr.heap.size 69 #[.int .i64 pu, .int .i64 qu] := by rw [← hW]; exact Blk.new _ _ _
            obtain ⟨o0, o1, -, -, -⟩ := KP.two
            have hsr := HC.out.size
            replace HC := Lib.hid (HC.out.trans (hb9.mono hsr))
            replace y1 := cell_bl hb9 y1
            replace y2 := cell_bl hb9 y2
            replace y3 := cell_bl hb9 y3
            replace y4 := cell_bl hb9 y4
            rw [hW]
            clear hW KP p1 p2 x1 x2 x3 x4 q1 q2 q3 q4 v1 v2
            go_wp2_with fail
            go_quiet (fail)
            as_aux_lemma =>
              clear y1 y2 y3 y4 o0 o1
              obtain ⟨W10, hW⟩ : ∃ W, W9.drewN nq = W := ⟨_, rfl⟩
              replace hb9 : Below wr.heap.size wr W10 := by rw [← hW]; exact below_drewN_ hb9 _
              replace HC : Hid (Below w11.heap.size w11 W10) := Lib.hid (by rw [← hW]; exact below_drewN_ HC.out _)
              rw [hW]
              clear hW
              have y1 := cell_bl hb9 HYX.out.1.1
              have y2 := cell_bl hb9 HYX.out.1.2.1
              have y3 := cell_bl hb9 HYX.out.1.2.2.1
              have y4 := cell_bl hb9 HYX.out.1.2.2.2
              have x1 := cell_bl hb9 HYX.out.2.1.1
              have x2 := cell_bl hb9 HYX.out.2.1.2.1
              have x3 := cell_bl hb9 HYX.out.2.1.2.2.1
              have x4 := cell_bl hb9 HYX.out.2.1.2.2.2
              go_wp2_with fail
              go_quiet (fail)
              as_aux_lemma =>
                clear y1 y2 y3 y4 x1 x2 x3 x4
                obtain ⟨W11, hW⟩ : ∃ W, W10.drewN nq = W := ⟨_, rfl⟩
                replace hb9 : Below wr.heap.size wr W11 := by rw [← hW]; exact below_drewN_ hb9 _
                replace HC : Hid (Below w11.heap.size w11 W11) := Lib.hid (by rw [← hW]; exact below_drewN_ HC.out _)
                rw [hW]
                clear hW
                have q1 := cell_bl hb9 HYX.out.2.2.1.1
                have q2 := cell_bl hb9 HYX.out.2.2.1.2.1
                have q3 := cell_bl hb9 HYX.out.2.2.1.2.2.1
                have q4 := cell_bl hb9 HYX.out.2.2.1.2.2.2
                have v1 := cell_bl hb9 HYX.out.2.2.2.1
                have v2 := cell_bl hb9 HYX.out.2.2.2.2
                go_wp2_with fail
                go_quiet (fail)
                as_aux_lemma =>
                  go_wp2
                  go_roundw
                  case rel => exact ⟨j + 1, by omega, by go_num, Lib.hid (below_drewN_ HC.out _)⟩
                  case measure => simp [intOf] <;> omega
      · obtain rfl : j = n := by omega
        have hsr := HC.out.size
        go_wp2_with fail
        have CALL := works6_any wr
        refine CALL.mono ?_
        rintro e w12 ⟨rfl, hb⟩
        clear CALL
        have hsz12 := hb.size
        replace HC := Lib.hid (HC.out.trans (hb.mono (by omega)))
        clear hb
        go_wp2
        go_ret
        exact ⟨rfl, HB.out.trans (HC.out.mono HB.out.size)⟩
end Go.Proofs.Ytjdnpgilinfkgaa
