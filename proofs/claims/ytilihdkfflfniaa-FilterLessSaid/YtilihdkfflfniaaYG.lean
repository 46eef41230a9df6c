/-
  The walk of FilterLess.
-/
import Derived.Test.YtilihdkfflfniaaYD
import Derived.Test.YtilihdkfflfniaaYE
import Derived.Test.YtilihdkfflfniaaUF
namespace Go.Proofs.Ytilihdkfflfniaa
open Go.RowKit

theorem limQ_facts {xs : List Smp} {ce st : Int} (h : limQ xs ce st = true) : xs.length ≤ 100 ∧ ckQ xs = 0 ∧ (1 ≤ ce ∧ ce ≤ 32767) ∧ 0 ≤ st ∧ st ≤ 256 ∧ vss xs = true := by
  unfold limQ at h
  simp only [Bool.and_eq_true, decide_eq_true_eq] at h
  obtain ⟨⟨⟨⟨⟨h1, h2⟩, h3⟩, h4⟩, h5⟩, h6⟩ := h
  refine ⟨h1, h2, ⟨h3, h4⟩, h5, h6, ?_⟩
  unfold ckQ at h2
  rw [if_neg (by omega)] at h2
  cases hv : vss xs
  · rw [hv] at h2; simp at h2
  · rfl
theorem gn_of {xs : List Smp} {ce st : Int} (h0 : ckQ xs = 0) (h1 : 1 ≤ ce) (h2 : ce ≤ 32767) (h3 : 0 ≤ st) (h4 : st ≤ 256) : ckLi xs ce st = 0 ∧ gnRes xs ce st = gainsL (xs.map (need1 · ce)) st := by
  have h := (ckLi_of h0 h1 h2 h3 h4).1
  exact ⟨h, by unfold gnRes; rw [if_pos h]⟩
theorem gainsL_len (ns : List Int) (st : Int) : (gainsL ns st).length = ns.length := by
  unfold gainsL; exact relaxes_len _ _ _

set_option maxRecDepth 100000 in
set_option maxHeartbeats 8000000 in
theorem less_walk (B : Nat) (A : Option Addr) (n k : Nat) (xs : List Smp) (ce st : Int) (hi wi : Int) (w : World) (h0 : RS w B A n xs) (hB : B ≤ w.heap.size) (hl : n ≤ 9223372036854775807) (g1 : 0 ≤ hi) (g2 : hi ≤ 65535) (g3 : 0 ≤ wi) (g4 : wi ≤ 255) :
    Calls Try.prog 11 #[.slice A n k, .int .i64 ce, .int .i64 st, .int .u16 hi, .int .u8 wi] w fun e w' => e = .returned (.bool true) ∧ Below w.heap.size w w' := by
  have HX := Lib.hid (h0.more hB)
  have HN := Lib.hid h0.1
  clear h0 hB
  cases hv1 : limQ xs ce st
  · have HV1 := Lib.hid hv1
    clear hv1
    go_enter Try.func11, Try.ntmps11
    go_wp2_with fail
    have CALL := limits_any w.heap.size A n k xs ce st w HX.out hl
    rw [HV1.out] at CALL
    refine CALL.mono ?_
    rintro e w_ ⟨rfl, rfl⟩
    clear CALL
    go_wp2_with fail
    refine (works_any _).mono ?_
    rintro e w1 ⟨rfl, hb⟩
    go_wp2
    go_ret
    exact ⟨rfl, hb⟩
  · have HV1 := Lib.hid hv1
    obtain ⟨f1, f2, f3, f4, f5, f6⟩ := limQ_facts hv1
    have F6 := Lib.hid f6
    have hn1 : n ≤ 100 := by have := HN.out; omega
    have F2 := Lib.hid f2
    obtain ⟨c2, hc2⟩ : ∃ x, (if ce + hi < 32767 then ce + hi else 32767) = x := ⟨_, rfl⟩
    obtain ⟨s2, hs2⟩ : ∃ x, (if st + wi < 256 then st + wi else 256) = x := ⟨_, rfl⟩
    have b1 : ce ≤ c2 ∧ c2 ≤ 32767 := by rw [← hc2]; split <;> omega
    have b2 : st ≤ s2 ∧ s2 ≤ 256 := by rw [← hs2]; split <;> omega
    obtain ⟨r1, q1⟩ := gn_of f2 f3.1 f3.2 f4 f5
    obtain ⟨r2, q2⟩ := gn_of (ce := c2) (st := s2) f2 (by omega) (by omega) (by omega) (by omega)
    obtain ⟨r3, q3⟩ := gn_of (ce := ce) (st := 256) f2 f3.1 f3.2 (by omega) (by omega)
    have hfull := gainsL_full (needs_lim f6 f3.1)
    rw [hfull] at q3
    have hmo := gainsL_mono (needs_le f6 f3.1 b1.1) b2.1
    have hle := fun i => gainsL_le (xs.map (need1 · ce)) st i
    have hg1 : (gainsL (xs.map (need1 · ce)) st).length = n := by rw [gainsL_len, List.length_map]; exact HN.out.symm
    have hg2 : (gainsL (xs.map (need1 · c2)) s2).length = n := by rw [gainsL_len, List.length_map]; exact HN.out.symm
    have hg3 : (xs.map (need1 · ce)).length = n := by rw [List.length_map]; exact HN.out.symm
    obtain ⟨Ga, hGa⟩ : ∃ G, gainsL (xs.map (need1 · ce)) st = G := ⟨_, rfl⟩
    obtain ⟨Gb, hGb⟩ : ∃ G, gainsL (xs.map (need1 · c2)) s2 = G := ⟨_, rfl⟩
    obtain ⟨Gd, hGd⟩ : ∃ G, xs.map (need1 · ce) = G := ⟨_, rfl⟩
    have HCK := Lib.hid (ckLi_of f2 f3.1 f3.2 f4 f5).2
    have HGD := Lib.hid hGd
    rw [hGa] at q1 hmo hle hg1
    rw [hGb] at q2 hmo hg2
    rw [hGd] at q3 hle hg3
    have Q1 := Lib.hid (And.intro q1 r1)
    have Q2 := Lib.hid (And.intro q2 r2)
    have Q3 := Lib.hid (And.intro q3 r3)
    have HMO := Lib.hid hmo.2
    have HLE := Lib.hid hle
    have L1 := Lib.hid hg1
    have L2 := Lib.hid hg2
    have L3 := Lib.hid hg3
    have e1 : IntKind.i64.wrap hi = hi := IntWalk.i64_in _ (by omega)
    have e2 : IntKind.i64.wrap wi = wi := IntWalk.i64_in _ (by omega)
    have e3 : IntKind.i64.wrap (ce + hi) = ce + hi := IntWalk.i64_in _ (by omega)
    have e4 : IntKind.i64.wrap (st + wi) = st + wi := IntWalk.i64_in _ (by omega)
    clear hv1 f2 f6 q1 q2 q3 r1 r2 r3 hmo hle hg1 hg2 hg3 hGa hGb hGd hfull
    go_enter Try.func11, Try.ntmps11
    go_wp2_with fail
    have CALL := limits_any w.heap.size A n k xs ce st w HX.out hl
    rw [HV1.out] at CALL
    refine CALL.mono ?_
    rintro e w_ ⟨rfl, rfl⟩
    clear CALL
    go_wp2_with fail
    have CALL := Gains_any w.heap.size A n k xs ce st w HX.out (Nat.le_refl _) hl
    rw [Q1.out.1, Q1.out.2] at CALL
    refine CALL.mono ?_
    rintro e w1 ⟨v, rfl, ho, hb⟩
    clear CALL
    rw [L1.out] at ho
    have hz1 := hb.size
    obtain ⟨Aa, ca, rfl, hL⟩ := li_own ho
    have HA := Lib.hid hL
    replace HX := Lib.hid ((HX.out.below hb (Nat.le_refl _)).more hz1)
    have HB := Lib.hid hb
    clear ho hL hb
    go_wp2_with fail
    have CALL := Gains_any w1.heap.size A n k xs c2 s2 w1 HX.out (Nat.le_refl _) hl
    rw [Q2.out.1, Q2.out.2] at CALL
    refine CALL.mono ?_
    rintro e w2 ⟨v, rfl, ho, hb⟩
    clear CALL
    rw [L2.out] at ho
    have hz2 := hb.size
    obtain ⟨Ab, cb, rfl, hL⟩ := li_own ho
    have HBb := Lib.hid hL
    replace HX := Lib.hid ((HX.out.below hb (Nat.le_refl _)).more hz2)
    replace HA := Lib.hid ((HA.out.below hb (Nat.le_refl _)).more hz2)
    replace HB := Lib.hid (HB.out.trans (hb.mono hz1))
    clear ho hL hb
    go_wp2_with fail
    have CALL := Gains_any w2.heap.size A n k xs ce 256 w2 HX.out (Nat.le_refl _) hl
    rw [Q3.out.1, Q3.out.2] at CALL
    refine CALL.mono ?_
    rintro e w3 ⟨v, rfl, ho, hb⟩
    clear CALL
    rw [L3.out] at ho
    have hz3 := hb.size
    obtain ⟨Ac, cc, rfl, hL⟩ := li_own ho
    have HC := Lib.hid hL
    replace HX := Lib.hid ((HX.out.below hb (Nat.le_refl _)).more hz3)
    replace HA := Lib.hid ((HA.out.below hb (Nat.le_refl _)).more hz3)
    replace HBb := Lib.hid ((HBb.out.below hb (Nat.le_refl _)).more hz3)
    replace HB := Lib.hid (HB.out.trans (hb.mono (by omega)))
    clear ho hL hb
    go_wp2_with fail
    have CALL := Needs_ok w3.heap.size A n k xs ce w3 HX.out (Nat.le_refl _) hl (by omega) F6.out f3.1 f3.2 HCK.out
    rw [HGD.out] at CALL
    refine CALL.mono ?_
    rintro e w4 ⟨v, rfl, ho, hb⟩
    clear CALL
    rw [L3.out] at ho
    have hz4 := hb.size
    obtain ⟨Ad, cd, rfl, hL⟩ := li_own ho
    have HD := Lib.hid hL
    replace HX := Lib.hid ((HX.out.below hb (Nat.le_refl _)).more hz4)
    replace HA := Lib.hid ((HA.out.below hb (Nat.le_refl _)).more hz4)
    replace HBb := Lib.hid ((HBb.out.below hb (Nat.le_refl _)).more hz4)
    replace HC := Lib.hid ((HC.out.below hb (Nat.le_refl _)).more hz4)
    replace HB := Lib.hid (HB.out.trans (hb.mono (by omega)))
    clear ho hL hb
    go_wp2_with fail
    have CALL := refSame_any w4.heap.size Ac Ad n cc n cd Gd Gd w4 HC.out HD.out (Nat.le_refl _) (by omega) (by omega)
    rw [sameI_self] at CALL
    refine CALL.mono ?_
    rintro e w5 ⟨rfl, hb⟩
    clear CALL
    have hz5 := hb.size
    replace HX := Lib.hid ((HX.out.below hb (Nat.le_refl _)).more hz5)
    replace HA := Lib.hid ((HA.out.below hb (Nat.le_refl _)).more hz5)
    replace HBb := Lib.hid ((HBb.out.below hb (Nat.le_refl _)).more hz5)
    replace HD := Lib.hid ((HD.out.below hb (Nat.le_refl _)).more hz5)
    replace HB := Lib.hid (HB.out.trans (hb.mono (by omega)))
    clear hb HC
    go_wp2_with fail
    go_loopw [19, 20] (fun lv z wr => ∃ j : Nat, j ≤ n ∧ z = .int .i64 j ∧ lv = .int .i64 (lmx xs j) ∧ Hid (Below w5.heap.size w5 wr)) (fun _ z _ => n - (intOf z).toNat)
    case atStart => exact ⟨0, Nat.zero_le _, rfl, rfl, Lib.hid (Below.refl _ _)⟩
    case round =>
      obtain ⟨j, hj, rfl, rfl, HB2⟩ := hrel
      by_cases hlt : j < n
      · have hjx : j < xs.length := by have := HN.out; omega
        have hja : j < Ga.length := by have := L1.out; omega
        have hjb : j < Gb.length := by have := L2.out; omega
        have hjd : j < Gd.length := by have := L3.out; omega
        obtain ⟨aa, hA1, -, y1⟩ := (HA.out.below HB2.out (Nat.le_refl _)).at_ (k := j) hja
        obtain ⟨ab, hA2, -, y2⟩ := (HBb.out.below HB2.out (Nat.le_refl _)).at_ (k := j) hjb
        obtain ⟨ad, hA3, -, y3⟩ := (HD.out.below HB2.out (Nat.le_refl _)).at_ (k := j) hjd
        obtain ⟨ax, hA4, -, y4, y5⟩ := (HX.out.below HB2.out (Nat.le_refl _)).at_ (k := j) hjx
        obtain rfl := hA1
        obtain rfl := hA2
        obtain rfl := hA3
        obtain rfl := hA4
        have m1 := HMO.out j
        have m2 := HLE.out j
        unfold gd at m1 m2
        rw [List.getElem?_eq_getElem hja, List.getElem?_eq_getElem hjb, Option.getD_some, Option.getD_some] at m1
        rw [List.getElem?_eq_getElem hja, List.getElem?_eq_getElem hjd, Option.getD_some, Option.getD_some] at m2
        obtain ⟨va, hva⟩ : ∃ x, Ga[j] = x := ⟨_, rfl⟩
        obtain ⟨vb, hvb⟩ : ∃ x, Gb[j] = x := ⟨_, rfl⟩
        obtain ⟨vd, hvd⟩ : ∃ x, Gd[j] = x := ⟨_, rfl⟩
        rw [hva] at y1 m1 m2
        rw [hvb] at y2 m1
        rw [hvd] at y3 m2
        have bx := vs_bdE (vss_at F6.out hjx)
        have hlm : lmx xs (j + 1) = max (lmx xs j) (loud xs[j]) := by
          rw [lmx, List.getD_eq_getElem?_getD, List.getElem?_eq_getElem hjx, Option.getD_some]
        obtain ⟨x, hx⟩ : ∃ x, xs[j] = x := ⟨_, rfl⟩
        rw [hx] at y4 y5 bx hlm
        unfold loud at hlm
        have ax1 : ∀ W : World, Calls Try.prog 43 #[.int .i64 x.1] W fun e w' => e = .returned (.int .i64 (am x.1)) ∧ w' = W := fun W => (refAbs_any x.1 W (by omega) (by omega)).mono fun e w' ⟨he, hw⟩ => ⟨he, hw.symm⟩
        have ax2 : ∀ W : World, Calls Try.prog 43 #[.int .i64 x.2] W fun e w' => e = .returned (.int .i64 (am x.2)) ∧ w' = W := fun W => (refAbs_any x.2 W (by omega) (by omega)).mono fun e w' ⟨he, hw⟩ => ⟨he, hw.symm⟩
        obtain ⟨p1, hp1⟩ : ∃ z, am x.1 = z := ⟨_, rfl⟩
        obtain ⟨p2, hp2⟩ : ∃ z, am x.2 = z := ⟨_, rfl⟩
        obtain ⟨lo, hlo⟩ : ∃ z, lmx xs j = z := ⟨_, rfl⟩
        rw [hp1] at ax1 hlm
        rw [hp2] at ax2 hlm
        rw [hlo] at hlm
        rw [hlo]
        obtain ⟨s, hs⟩ : ∃ z, (if lo < p1 then p1 else lo) = z := ⟨_, rfl⟩
        obtain ⟨t, ht⟩ : ∃ z, (if s < p2 then p2 else s) = z := ⟨_, rfl⟩
        have HT : Hid (lmx xs (j + 1) = t) := Lib.hid (by rw [hlm, ← ht, ← hs]; split <;> split <;> omega)
        have AX := Lib.hid ax1
        have AY := Lib.hid ax2
        have n1 : ¬ vb < va := by omega
        have n2 : ¬ vd < va := by omega
        clear hva hvb hvd hx hp1 hp2 hlo hlm ax1 ax2 bx m1 m2
        go_wp2_with fail
        go_quiet (fail)
        go_upto_region 15 with fail
        obtain ⟨W7, hW7⟩ : ∃ W, wr.drewN nq = W := ⟨_, rfl⟩
        have y6 : W7.cell? (ax.add (j * 2)) = some (.int .i64 x.1) := by rw [← hW7]; exact y4
        have y7 : W7.cell? ⟨(ax.add (j * 2)).block, (ax.add (j * 2)).off + 1, none⟩ = some (.int .i64 x.2) := by rw [← hW7]; exact y5
        replace HB2 : Hid (Below w5.heap.size w5 W7) := Lib.hid (by rw [← hW7]; exact below_drewN_ HB2.out _)
        rw [hW7]
        clear hW7 y1 y2 y3 y4 y5
        go_quiet (first | (go_at_call 43; with_reducible exact Calls.quiet_of_same (AX.out _)) | (go_at_call 43; with_reducible exact Calls.quiet_of_same (AY.out _)))
        go_wp2_with fail
        go_roundw
        case rel => exact ⟨j + 1, by omega, by go_num, by rw [HT.out], Lib.hid (by first | exact below_drewN_ HB2.out _ | exact below_drewN_ (below_drewN_ HB2.out _) _)⟩
        case measure => simp [intOf]; omega
      · obtain rfl : j = n := by omega
        have hlb := lmx_bd F6.out xs.length (Nat.le_refl _)
        have hx := HN.out
        rw [← hx] at hlb
        have hq := fun c (h : lmx xs j ≤ c) => needs_quiet (xs := xs) (ce := c) (by rw [← hx]; exact h)
        obtain ⟨lo, hlo⟩ : ∃ z, lmx xs j = z := ⟨_, rfl⟩
        rw [hlo] at hlb hq
        rw [hlo]
        obtain ⟨mc, hmc⟩ : ∃ z, (if 1 < lo then lo else 1) = z := ⟨_, rfl⟩
        have bm : 1 ≤ mc ∧ mc ≤ 32767 ∧ lo ≤ mc := by rw [← hmc]; split <;> omega
        have hqc := hq mc bm.2.2
        obtain ⟨r, q⟩ := gn_of (ce := mc) (st := st) F2.out bm.1 bm.2.1 f4 f5
        rw [gainsL_quiet hqc f4] at q
        have HQ : Hid (ckLi xs mc st = 0 ∧ (gnRes xs mc st).length = j ∧ ∀ x ∈ gnRes xs mc st, x = 256) := Lib.hid ⟨r, by rw [q, List.length_map]; exact hx.symm, by rw [q]; exact hqc⟩
        have hz6 := HB2.out.size
        clear hq hqc r q hlb hlo hx
        replace HX := Lib.hid ((HX.out.below HB2.out (Nat.le_refl _)).more hz6)
        replace HB := Lib.hid (HB.out.trans (HB2.out.mono (by omega)))
        go_wp2_with fail
        have CALL := Limit_full wr.heap.size A j k xs mc st wr HX.out (Nat.le_refl _) (by omega) F6.out HQ.out.1 HQ.out.2.1 HQ.out.2.2
        refine CALL.mono ?_
        rintro e w6 ⟨Al, kl, rfl, hL, hb⟩
        clear CALL
        have HL := Lib.hid hL
        have hz7 := hb.size
        replace HX := Lib.hid ((HX.out.below hb (Nat.le_refl _)).more hz7)
        replace HB := Lib.hid (HB.out.trans (hb.mono (by omega)))
        clear hL hb
        go_wp2_with fail
        have CALL := SamePrograms_any w6.heap.size A Al j k j kl xs w6 HX.out HL.out (Nat.le_refl _) hl
        refine CALL.mono ?_
        rintro e w7 ⟨rfl, hb⟩
        clear CALL
        have hz8 := hb.size
        replace HB := Lib.hid (HB.out.trans (hb.mono (by omega)))
        clear hb
        go_wp2_with fail
        refine (works_any _).mono ?_
        rintro e w8 ⟨rfl, hb⟩
        replace HB := Lib.hid (HB.out.trans (hb.mono (by omega)))
        go_wp2
        go_ret
        exact ⟨rfl, HB.out⟩
end Go.Proofs.Ytilihdkfflfniaa
