/-
  Contract of follow: the outermost cut of the first points, how many fit, and a proof that the next one doesn't.
-/
import Derived.Test.YtgdkcbnpgpjnbaaLR
import Derived.Test.YtgdkcbnpgpjnbaaLQ
import Derived.Test.YtgdkcbnpgpjnbaaLW
import Derived.WalkMore
namespace Go.Proofs.Ytgdkcbnpgpjnbaa
open Go.RowKit

theorem fin10 {W : World} {g : Nat} {t : TypeId} {u0 u1 u2 u3 u4 u5 u6 u7 u8 u9 u10 v0 v1 v2 v3 v4 v5 v6 v7 v8 v9 : Value} (hk : Blk W g t #[u0, u1, u2, u3, u4, u5, u6, u7, u8, u9, u10]) :
    ∃ V, V = ((((((((((W.setCell ⟨g, 0, none⟩ v0).setCell ⟨g, 1, none⟩ v1).setCell ⟨g, 2, none⟩ v2).setCell ⟨g, 3, none⟩ v3).setCell ⟨g, 4, none⟩ v4).setCell ⟨g, 5, none⟩ v5).setCell ⟨g, 6, none⟩ v6).setCell ⟨g, 7, none⟩ v7).setCell ⟨g, 8, none⟩ v8).setCell ⟨g, 9, none⟩ v9) ∧ Blk V g t #[v0, v1, v2, v3, v4, v5, v6, v7, v8, v9, u10] ∧ W.grownBy V (some g) :=
  ⟨_, rfl, ((((((((((hk.set_ 0 v0).set_ 1 v1).set_ 2 v2).set_ 3 v3).set_ 4 v4).set_ 5 v5).set_ 6 v6).set_ 7 v7).set_ 8 v8).set_ 9 v9).cast (by simp), grown_setCellS (grown_setCellS (grown_setCellS (grown_setCellS (grown_setCellS (grown_setCellS (grown_setCellS (grown_setCellS (grown_setCellS (grown_setCellS (World.grownBy.refl W _) 0 v0) 1 v1) 2 v2) 3 v3) 4 v4) 5 v5) 6 v6) 7 v7) 8 v8) 9 v9⟩

theorem fin11 {W : World} {g : Nat} {t : TypeId} {u0 u1 u2 u3 u4 u5 u6 u7 u8 u9 u10 v0 v1 v2 v3 v4 v5 v6 v7 v8 v9 v10 : Value} (hk : Blk W g t #[u0, u1, u2, u3, u4, u5, u6, u7, u8, u9, u10]) :
    ∃ V, V = (((((((((((W.setCell ⟨g, 0, none⟩ v0).setCell ⟨g, 1, none⟩ v1).setCell ⟨g, 2, none⟩ v2).setCell ⟨g, 3, none⟩ v3).setCell ⟨g, 4, none⟩ v4).setCell ⟨g, 5, none⟩ v5).setCell ⟨g, 6, none⟩ v6).setCell ⟨g, 7, none⟩ v7).setCell ⟨g, 8, none⟩ v8).setCell ⟨g, 9, none⟩ v9).setCell ⟨g, 10, none⟩ v10) ∧ Blk V g t #[v0, v1, v2, v3, v4, v5, v6, v7, v8, v9, v10] ∧ W.grownBy V (some g) :=
  ⟨_, rfl, (((((((((((hk.set_ 0 v0).set_ 1 v1).set_ 2 v2).set_ 3 v3).set_ 4 v4).set_ 5 v5).set_ 6 v6).set_ 7 v7).set_ 8 v8).set_ 9 v9).set_ 10 v10).cast (by simp), grown_setCellS (grown_setCellS (grown_setCellS (grown_setCellS (grown_setCellS (grown_setCellS (grown_setCellS (grown_setCellS (grown_setCellS (grown_setCellS (grown_setCellS (World.grownBy.refl W _) 0 v0) 1 v1) 2 v2) 3 v3) 4 v4) 5 v5) 6 v6) 7 v7) 8 v8) 9 v9) 10 v10⟩

/-- What follow finds. -/
structure Fol (w' : World) (base : Nat) (b : Bk) (P : List Smp) (n : Nat) (vr vp : Value) (F : Int) : Prop where
  fit : F = (fitN b P n : Nat)
  full : ∀ R, sol b P n = some R → w'.ownsRow base 2 1 vr n (nums R)
  prf : sol b P n = none → ∃ l, PrfOk b P n l ∧ w'.ownsRow base 52 2 vp l.length (smpCells l)

set_option maxRecDepth 100000 in
set_option maxHeartbeats 32000000 in
theorem follow_any (n c B : Nat) (A : Option Addr) (b : Bk) (P : List Smp) (w : World) (hP : RS w B A n P) (hB : B ≤ w.heap.size) (hn : n ≤ 4096) (hb : BkOk b) (hOk : PsOk P) :
    Calls Try.prog 40 #[.agg #[.int .i64 b.per, .int .i64 b.rim, .int .i64 b.core, .int .i64 b.land, .int .i64 b.slow, .int .i64 b.fast, .slice A n c]] w fun e w' => ∃ (Ar : Option Addr) (nr cr : Nat) (Ah : Option Addr) (nh ch : Nat) (Ap : Option Addr) (np cp : Nat) (F : Int), e = .returned (.agg #[.int .i64 b.per, .int .i64 b.rim, .int .i64 b.core, .int .i64 b.land, .int .i64 b.slow, .int .i64 b.fast, .slice A n c, .slice Ar nr cr, .slice Ah nh ch, .int .i64 F, .slice Ap np cp]) ∧ Fol w' w.heap.size b P n (.slice Ar nr cr) (.slice Ap np cp) F ∧ Below w.heap.size w w' := by
  have HP := Lib.hid hP
  have HBB := Lib.hid hb
  have HOK := Lib.hid hOk
  have HPL : Hid (n = P.length) := Lib.hid hP.1
  have HBN := Lib.hid hB
  have CE := Lib.hid (fun (r i : Int) (X : World) (h : Below w.heap.size w X) => edge_any B A n c b P r i X (hP.below h hB) (by have := h.size; omega) (by omega) hb hOk)
  clear hP hb hOk hB
  go_enter Try.func40, Try.ntmps40
  go_wp2
  go_step3
  go_wp2
  go_step3
  go_wp2
  have HNC : Hid ((n : Int) = (n : Int)) := Lib.hid rfl
  go_loopw [18] (fun i wr => ∃ (k : Nat) (vr vh : Value) (R : List Int) (H : List Smp), k ≤ n ∧ i = .int .i64 k ∧ Hid (CO wr (w.heap.size + 1 + 1) b A n c vr vh k k R H n (.slice none 0 0)) ∧ Hid (sol b P k = some R) ∧ Hid (Leds b P k (fx R) (hy H)) ∧ Hid (Below w.heap.size w wr) ∧ Hid (Blk wr (w.heap.size + 1) 71 #[.int .i64 0, .int .i64 0, .int .i64 0, .int .i64 0, .int .i64 0, .int .i64 0, .slice none 0 0, .slice none 0 0, .slice none 0 0, .int .i64 0, .slice none 0 0])) (fun i wr => n - (intOf i).toNat)
  case atStart =>
    refine ⟨0, .slice none 0 0, .slice none 0 0, [], [], Nat.zero_le _, rfl, Lib.hid ⟨blk_al (by simp), World.ownsRow_nil _ _ _ _, World.ownsRow_nil _ _ _ _, fun g hg => by cases hg⟩, Lib.hid rfl, Lib.hid (fun j hj => by omega), Lib.hid ?_, Lib.hid ((blk_al (by simp)).alloc _)⟩
    exact (((Below.refl _ _).alloc (Nat.le_refl _) _).alloc (by simp) _).alloc (by simp; omega) _
  case round =>
    obtain ⟨k, vr, vh, R, H, hk, rfl, HC, HS, HL, HBW, HRB⟩ := hrel
    have hsz := HBW.out.size
    obtain ⟨Ar, cr, rfl, -⟩ := own_reads HC.out.rr
    obtain ⟨Ah, ch, rfl, -⟩ := own_reads HC.out.hh
    by_cases hlt : k < n
    · have hkn : (k : Int) < (n : Int) := by omega
      obtain ⟨htop, hnc⟩ := sol_some HBB.out HS.out
      have CC := Lib.hid (circles_any (w.heap.size + 1 + 1) n c k B A b P _ _ n (.slice none 0 0) wr HC.out.blk (HP.out.below HBW.out HBN.out) (by have := HBN.out; omega) hlt (by omega) HBB.out HOK.out)
      have HTOP := Lib.hid htop
      have HNCI := Lib.hid hnc
      obtain ⟨q, hq⟩ : ∃ q, circ b P k = q := ⟨_, rfl⟩
      rw [hq] at CC
      have HQ := Lib.hid hq
      clear htop hnc hq
      cases q
      · go_wp2_with (refine CC.out.mono ?_; rintro e w1 ⟨rfl, hb1⟩; have HB1 := Lib.hid hb1; clear hb1)
      -- MAIN
        replace HC := Lib.hid (HC.out.below HB1.out)
        replace HRB := Lib.hid (HRB.out.below HB1.out HRB.out.lt)
        replace HBW := Lib.hid (HBW.out.trans (HB1.out.mono hsz))
        have HNN := Lib.hid (nocirc_succ HNCI.out HQ.out)
        have HRD : Hid (∀ j, j < k → -33554432 ≤ fx R j ∧ fx R j ≤ 33554432) := Lib.hid (fun j hj => by
          have h1 := (HTOP.out.keeps j hj).1
          have h2 := HTOP.out.cores j hj
          have h3 := HOK.out.at_ j
          have h4 := HBB.out.rim
          have h5 := HBB.out.core
          omega)
        have AD := add_any (w.heap.size + 1 + 1) n c k B A b P _ _ R H n (.slice none 0 0) w1 HC.out (HP.out.below HBW.out HBN.out) (by have := HBN.out; omega) hlt hn HBB.out HOK.out HRD.out
        obtain ⟨r, hr⟩ : ∃ r, rk b P k (fx R) = r := ⟨_, rfl⟩
        obtain ⟨h, hh⟩ : ∃ h, hkS b P k (fx R) = h := ⟨_, rfl⟩
        have HLR : Hid (R.length = k) := Lib.hid HTOP.out.len
        have HLH : Hid (H.length = k) := Lib.hid (by have := HC.out.hh.1; rw [smpCells_length] at this; omega)
        rw [hr, hh, ← updL_start (b := b) HLR.out, ← hupL_start HLH.out] at AD
        have HRR := Lib.hid hr
        have HHH := Lib.hid hh
        clear hr hh CC HB1
        have HRK : Hid (-50331648 ≤ r ∧ r ≤ 8388608) := Lib.hid (by
          have h := rk_bd (P := P) HBB.out (fun j => HOK.out.at_ j) HRD.out
          rw [HRR.out] at h
          exact h)
        refine AD.mono ?_
        rintro e w2 ⟨⟨v0, rfl⟩, gr, gh, kr, kh, hC2, hb2⟩
        replace HC := Lib.hid hC2
        replace HRB := Lib.hid (HRB.out.below hb2 (by omega))
        replace HBW := Lib.hid (HBW.out.trans (hb2.mono (by omega)))
        clear hC2 hb2 AD hsz
        have HN1 : Hid (gr ≠ gh) := Lib.hid (fun e => HC.out.ap gr rfl (by rw [e]; rfl))
        go_wp2
        go_loopw [5] (fun z wr => ∃ ii : Nat, ii ≤ k ∧ z = .int .i64 ii ∧ Hid (CO wr (w.heap.size + 1 + 1) b A n c (.slice (some ⟨gr, 0, none⟩) (k + 1) kr) (.slice (some ⟨gh, 0, none⟩) (k + 1) kh) (k + 1) (k + 1) (updL b k r ii R) (hupL k h ii H) n (.slice none 0 0)) ∧ Hid (∀ j, ii ≤ j → j < k → r + (k - j : Int) * b.fast < fx R j) ∧ Hid (∀ j, ii < j → j ≤ k → b.core ≤ r + (k - j : Int) * b.fast + pin P j) ∧ Hid (Below w.heap.size w wr) ∧ Hid (Blk wr (w.heap.size + 1) 71 #[.int .i64 0, .int .i64 0, .int .i64 0, .int .i64 0, .int .i64 0, .int .i64 0, .slice none 0 0, .slice none 0 0, .slice none 0 0, .int .i64 0, .slice none 0 0])) (fun z _ => (intOf z).toNat)
        case atStart => exact ⟨k, Nat.le_refl _, rfl, HC, Lib.hid (fun j h1 h2 => by omega), Lib.hid (fun j h1 h2 => by omega), HBW, HRB⟩
        case round =>
          clear HC HBW HRB
          obtain ⟨ii, hii, rfl, HC, HLO, HCO, HBW, HRB⟩ := hrel
          have hiP : ii < P.length := by have := HPL.out; omega
          have E1 := CE.out 2 (ii : Int) wr HBW.out
          rw [edgO_core hiP] at E1
          simp only [edgV, Option.isSome_some] at E1
          obtain ⟨wc, hwc⟩ : ∃ wc, pin P ii - b.core = wc := ⟨_, rfl⟩
          rw [hwc] at E1
          have HWC := Lib.hid hwc
          have hwb : -1073741824 ≤ wc ∧ wc ≤ 1073741824 := by have := HOK.out.at_ ii; have := HBB.out.core; have := HBB.out.corim; have := HBB.out.rim; omega
          obtain ⟨rv, hrv⟩ : ∃ rv, fx (updL b k r ii R) ii = rv := ⟨_, rfl⟩
          have HRV := Lib.hid hrv
          have HRE : Hid (rv = r + (k - ii : Int) * b.fast) := Lib.hid (by rw [← hrv, updL_at b k r ii R hii]; unfold upd; rw [if_pos (Nat.le_refl _)])
          have hrb : -1152921504606846976 ≤ rv ∧ rv ≤ 1152921504606846976 := by
            have h1 := HRE.out
            have h2 := HRK.out
            have h3 := HBB.out.fast
            have h4 := HBB.out.slow
            have h5 := HBB.out.slowfast
            have h6 : 0 ≤ (k - ii : Int) * b.fast := Int.mul_nonneg (by omega) (by omega)
            have h7 : (k - ii : Int) * b.fast ≤ 4096 * 65536 := Int.mul_le_mul (by omega) h3 (by omega) (by omega)
            omega
          have hkq : kpt (updL b k r ii R) (ii : Int) (-1) wc = decide (0 ≤ rv + wc) := by unfold kpt; rw [rad_nat, rad_none, hrv]
          clear hwc hrv
          obtain ⟨c0, c1, c2, c3, c4, c5, c6, c7, c8, c9, c10⟩ := HC.out.blk.eleven
          go_wp2_with fail
          refine E1.mono ?_
          rintro e w3 ⟨rfl, hb3⟩
          go_upto_region 12 with fail
          obtain ⟨W3, hW3⟩ : ∃ W, w3.alloc (.cells #[.int .i64 2, .int .i64 ii, .int .i64 ii, .int .i64 (-1), .int .i64 wc] 78) = W := ⟨_, rfl⟩
          have hb4 : Below wr.heap.size wr W3 := by rw [← hW3]; exact hb3.alloc hb3.size _
          have ke : Blk W3 w3.heap.size 78 #[.int .i64 2, .int .i64 ii, .int .i64 ii, .int .i64 (-1), .int .i64 wc] := by rw [← hW3]; exact Blk.new _ _ _
          rw [hW3]
          have HKE := Lib.hid ke
          replace HC := Lib.hid (HC.out.below hb4)
          replace HRB := Lib.hid (HRB.out.below hb4 HRB.out.lt)
          replace HBW := Lib.hid (HBW.out.trans (hb4.mono HBW.out.size))
          clear hW3 hb4 hb3 c0 c1 c2 c3 c4 c5 c6 c7 c8 c9 c10 E1 ke
          obtain ⟨c0, c1, c2, c3, c4, c5, c6, c7, c8, c9, c10⟩ := HC.out.blk.eleven
          obtain ⟨y0, y1, y2, y3, y4, -⟩ := HKE.out.five
          have KB := keptBy_any W3.heap.size (some ⟨gr, 0, none⟩) (k + 1) kr (updL b k r ii R) 2 ii ii (-1) wc W3 (own_li HC.out.rr) (Nat.le_refl _) (.inr ⟨by omega, by omega⟩) (.inl rfl) hwb (by rw [rad_nat, HRV.out]; exact hrb)
          rw [hkq] at KB
          have HKB := Lib.hid KB
          clear KB hkq
          by_cases hck : 0 ≤ rv + wc
          · rw [decide_eq_true hck] at HKB
            have HCJ : Hid (∀ j, ii ≤ j → j ≤ k → b.core ≤ r + (k - j : Int) * b.fast + pin P j) := Lib.hid (fun j h1 h2 => by
              by_cases e : j = ii
              · subst e; have := HWC.out; have := HRE.out; omega
              · exact HCO.out j (by omega) h2)
            go_wp2_with fail
            refine HKB.out.mono ?_
            rintro e w4 ⟨rfl, hb4⟩
            replace HC := Lib.hid (HC.out.below hb4)
            replace HRB := Lib.hid (HRB.out.below hb4 HRB.out.lt)
            replace HBW := Lib.hid (HBW.out.trans (hb4.mono HBW.out.size))
            clear hb4 HKB c0 c1 c2 c3 c4 c5 c6 c7 c8 c9 c10 y0 y1 y2 y3 y4 HKE hck
            obtain ⟨c0, c1, c2, c3, c4, c5, c6, c7, c8, c9, c10⟩ := HC.out.blk.eleven
            by_cases h0 : ii = 0
            · subst h0
              have E4 := CE.out 4 (((0 : Nat) : Int)) w4 HBW.out
              rw [show edgO b P (4, ((0 : Nat) : Int)) = none from edgO_fast0] at E4
              simp only [edgV, Option.isSome_none] at E4
              have HEN : Hid (Ends b P k (fx R) 0) := Lib.hid ⟨Nat.zero_le _, fun j h1 h2 => by rw [HRR.out]; exact HLO.out j h1 h2, fun h => by omega⟩
              go_wp2_with fail
              refine E4.mono ?_
              rintro e w5 ⟨rfl, hb5⟩
              replace HC := Lib.hid (HC.out.below hb5)
              replace HRB := Lib.hid (HRB.out.below hb5 HRB.out.lt)
              replace HBW := Lib.hid (HBW.out.trans (hb5.mono HBW.out.size))
              clear hb5 E4 c0 c1 c2 c3 c4 c5 c6 c7 c8 c9 c10
              go_upto_region 16 with fail
              obtain ⟨W5, hW5⟩ : ∃ W, w5.alloc (.cells #[.int .i64 0, .int .i64 0, .int .i64 0, .int .i64 0, .int .i64 0] 78) = W := ⟨_, rfl⟩
              have hb6 : Below w5.heap.size w5 W5 := by rw [← hW5]; exact below_a _ _
              rw [hW5]
              clear hW5
              replace HC := Lib.hid (HC.out.below hb6)
              replace HRB := Lib.hid (HRB.out.below hb6 HRB.out.lt)
              replace HBW := Lib.hid (HBW.out.trans (hb6.mono HBW.out.size))
              clear hb6
              go_wp2
              go_roundw
              case rel => exact ⟨k + 1, _, _, _, _, by omega, by go_num, HC, Lib.hid (by rw [← HRR.out]; exact fol_next HS.out HTOP.out HQ.out HEN.out (by rw [HRR.out]; exact HCJ.out)), Lib.hid (by have h := leds_updL HBB.out HTOP.out.keeps HNN.out HL.out HEN.out; rw [HRR.out, HHH.out] at h; exact h), HBW, HRB⟩
              case measure => simp [intOf]; omega
            · obtain ⟨m, hm⟩ : ∃ m, ii = m + 1 := ⟨ii - 1, by omega⟩
              subst hm
              have E4 := CE.out 4 (((m + 1 : Nat) : Int)) w4 HBW.out
              rw [edgO_fast hiP (by omega), show ((m + 1 : Nat) : Int) - 1 = (m : Int) by omega] at E4
              simp only [edgV, Option.isSome_some] at E4
              have hst := updL_step (b := b) (r := r) (R := R) (i := m + 1) (by omega) hii
              have hsh := hupL_step (h := h) (H := H) (i := m + 1) (by omega) hii
              rw [show m + 1 - 1 = m by omega] at hst hsh
              have HST := Lib.hid hst
              have HSH := Lib.hid hsh
              have hcm : ((m + 1 : Nat) : Int) = (m : Int) + 1 := by omega
              have hkp : kpt (updL b k r (m + 1) R) ((m + 1 : Nat) : Int) (m : Int) b.fast = decide (fx R m ≤ rv + b.fast) := by
                unfold kpt
                rw [rad_nat, rad_nat, HRV.out, updL_at b k r (m + 1) R (by omega)]
                unfold upd
                rw [if_neg (by omega)]
              have HKP := Lib.hid hkp
              have HFB : Hid (-1073741824 ≤ b.fast ∧ b.fast ≤ 1073741824) := Lib.hid (by have := HBB.out.fast; have := HBB.out.slow; have := HBB.out.slowfast; omega)
              clear hst hsh hkp
              go_wp2_with fail
              refine E4.mono ?_
              rintro e w5 ⟨rfl, hb5⟩
              replace HC := Lib.hid (HC.out.below hb5)
              replace HRB := Lib.hid (HRB.out.below hb5 HRB.out.lt)
              replace HBW := Lib.hid (HBW.out.trans (hb5.mono HBW.out.size))
              clear hb5 E4 c0 c1 c2 c3 c4 c5 c6 c7 c8 c9 c10
              go_upto_region 16 with fail
              obtain ⟨W5, hW5⟩ : ∃ W, w5.alloc (.cells #[.int .i64 4, .int .i64 ((m : Int) + 1), .int .i64 ((m : Int) + 1), .int .i64 m, .int .i64 b.fast] 78) = W := ⟨_, rfl⟩
              have hb6 : Below w5.heap.size w5 W5 := by rw [← hW5]; exact below_a _ _
              have ke : Blk W5 w5.heap.size 78 #[.int .i64 4, .int .i64 ((m : Int) + 1), .int .i64 ((m : Int) + 1), .int .i64 m, .int .i64 b.fast] := by rw [← hW5]; exact Blk.new _ _ _
              rw [hW5]
              obtain ⟨y0, y1, y2, y3, y4, -⟩ := ke.five
              replace HC := Lib.hid (HC.out.below hb6)
              replace HRB := Lib.hid (HRB.out.below hb6 HRB.out.lt)
              replace HBW := Lib.hid (HBW.out.trans (hb6.mono HBW.out.size))
              clear hb6 ke hW5
              have LW := lower_any (w.heap.size + 1 + 1 + 1) (w.heap.size + 1 + 1) gr gh (k + 1) kr kh n c m A b n (.slice none 0 0) (updL b k r (m + 1) R) (hupL k h (m + 1) H) 4 ((m + 1 : Nat) : Int) ((m + 1 : Nat) : Int) b.fast W5 HC.out.blk HC.out.rr HC.out.hh HN1.out (by have := (own_ge HC.out.rr).1; omega) (by have := HBW.out.size; have := HC.out.blk.lt; omega) (.inr ⟨by omega, by omega⟩) (by omega) HFB.out (by rw [rad_nat, HRV.out]; exact hrb)
              rw [HKP.out, rad_nat, HRV.out, hcm] at LW
              by_cases hlw : fx R m ≤ rv + b.fast
              · rw [decide_eq_true hlw] at LW
                have HEN : Hid (Ends b P k (fx R) (m + 1)) := Lib.hid ⟨hii, fun j h1 h2 => by rw [HRR.out]; exact HLO.out j h1 h2, fun _ => by
                  rw [HRR.out, show m + 1 - 1 = m by omega]
                  have := HRE.out
                  rw [show (k - m : Int) = (k - (m + 1 : Nat) : Int) + 1 by omega, Int.add_mul]; omega⟩
                go_wp2_with fail
                refine LW.mono ?_
                rintro e w6 ⟨rfl, hp1, -⟩
                have hb7 := hp1 trivial
                replace HC := Lib.hid (HC.out.below hb7)
                replace HRB := Lib.hid (HRB.out.below hb7 HRB.out.lt)
                replace HBW := Lib.hid (HBW.out.trans (hb7.mono HBW.out.size))
                clear hb7 hp1 LW y0 y1 y2 y3 y4
                go_wp2
                go_roundw
                case rel => exact ⟨k + 1, _, _, _, _, by omega, by go_num, HC, Lib.hid (by rw [← HRR.out]; exact fol_next HS.out HTOP.out HQ.out HEN.out (by rw [HRR.out]; exact HCJ.out)), Lib.hid (by have h := leds_updL HBB.out HTOP.out.keeps HNN.out HL.out HEN.out; rw [HRR.out, HHH.out] at h; exact h), HBW, HRB⟩
                case measure => simp [intOf]; omega
              · rw [decide_eq_false hlw] at LW
                go_wp2_with fail
                refine LW.mono ?_
                rintro e w6 ⟨rfl, -, hp2⟩
                have hl := hp2 trivial
                have hrr := hl.rr
                have hhh := hl.hh
                have HST2 := HST.out
                rw [HRV.out] at HST2
                rw [HST2] at hrr
                rw [← hcm, HSH.out] at hhh
                have HC6 : Hid (CO w6 (w.heap.size + 1 + 1) b A n c (.slice (some ⟨gr, 0, none⟩) (k + 1) kr) (.slice (some ⟨gh, 0, none⟩) (k + 1) kh) (k + 1) (k + 1) (updL b k r m R) (hupL k h m H) n (.slice none 0 0)) := Lib.hid ⟨HC.out.blk.below hl.below (by omega), hrr, hhh, HC.out.ap⟩
                replace HRB := Lib.hid (HRB.out.below hl.below (by omega))
                replace HBW := Lib.hid (HBW.out.trans (hl.below.mono (by omega)))
                have HLO2 : Hid (∀ j, m ≤ j → j < k → r + (k - j : Int) * b.fast < fx R j) := Lib.hid (fun j h1 h2 => by
                  by_cases e : j = m
                  · subst e
                    have := HRE.out
                    rw [show (k - j : Int) = (k - (j + 1 : Nat) : Int) + 1 by omega, Int.add_mul]; omega
                  · exact HLO.out j (by omega) h2)
                have HCO2 : Hid (∀ j, m < j → j ≤ k → b.core ≤ r + (k - j : Int) * b.fast + pin P j) := Lib.hid (fun j h1 h2 => HCJ.out j (by omega) h2)
                have w9 : IntKind.i64.wrap ((m : Int) + 1 - 1) = (m : Int) := by rw [show (m : Int) + 1 - 1 = m by omega]; exact IntWalk.i64_in _ (by omega)
                clear hl hp2 hrr hhh HST2 LW y0 y1 y2 y3 y4 HC
                go_wp2
                go_roundw
                case rel => exact ⟨m, by omega, by first | rfl | go_num | (simp; done), HC6, HLO2, HCO2, HBW, HRB⟩
                case measure => simp [intOf] <;> omega
          · rw [decide_eq_false hck] at HKB
            go_wp2_with fail
            refine HKB.out.mono ?_
            rintro e w4 ⟨rfl, hb4⟩
            replace HC := Lib.hid (HC.out.below hb4)
            replace HRB := Lib.hid (HRB.out.below hb4 HRB.out.lt)
            replace HBW := Lib.hid (HBW.out.trans (hb4.mono HBW.out.size))
            replace HKE := Lib.hid (HKE.out.below hb4 HKE.out.lt)
            clear hb4 HKB c0 c1 c2 c3 c4 c5 c6 c7 c8 c9 c10 y0 y1 y2 y3 y4
            obtain ⟨cc, l, hled⟩ := back_prf HBB.out HNN.out HL.out hii (fun j h1 h2 => by rw [HRR.out]; exact HLO.out j h1 h2)
            rw [HRR.out, HHH.out, HRV.out] at hled
            have hll := led_len hled
            have hbr : rv + pin P ii < b.core := by have := HWC.out; omega
            have HNS : Hid (sol b P (k + 1) = none) := Lib.hid (fol_none HBB.out HTOP.out hii (by rw [HRR.out]; have := HRE.out; omega))
            have HPRF : Hid (PrfOk b P n (l.reverse ++ [(2, (ii : Int))])) := Lib.hid (.way (k + 1) ii _ cc rv l (by omega) hled hbr)
            obtain ⟨A9, c9', hv9, hrd9⟩ := own_reads HC.out.hh
            cases hv9
            have PA := path_any (w.heap.size + 1 + 1) n c (k + 1) kh B w4.heap.size ii A ⟨gh, 0, none⟩ b P (hupL k h ii H) l (.slice (some ⟨gr, 0, none⟩) (k + 1) kr) (.slice none 0 0) n wc rv cc w4 HC.out.blk (HP.out.below HBW.out HBN.out) (by have := HBW.out.size; have := HBN.out; omega) ⟨by rw [hupL_len], hrd9⟩ (Nat.le_refl _) (by omega) (by omega) HBB.out HOK.out hled (by omega)
            have HPA := Lib.hid PA
            have HGW : Hid (w.heap.size + 1 + 1 < w4.heap.size) := Lib.hid HC.out.blk.lt
            have HCL : Hid (l.length + 1 = (l.reverse ++ [((2 : Int), (ii : Int))]).length) := Lib.hid (by simp)
            obtain ⟨pn, hpn⟩ : ∃ pn, l.length + 1 = pn := ⟨_, rfl⟩
            rw [hpn] at HPA HCL
            clear hled hll hbr hrd9 PA hpn
            obtain ⟨y0, y1, y2, y3, y4, -⟩ := HKE.out.five
            go_wp2_with fail
            refine HPA.out.mono ?_
            rintro e w2 ⟨v, rfl, hown, hb2⟩
            obtain ⟨Av, cv, rfl, -⟩ := own_reads hown
            have HPR := Lib.hid hown
            replace HC := Lib.hid (HC.out.below hb2)
            replace HRB := Lib.hid (HRB.out.below hb2 HRB.out.lt)
            replace HBW := Lib.hid (HBW.out.trans (hb2.mono HBW.out.size))
            clear hown hb2 HPA y0 y1 y2 y3 y4
            have g9 := HC.out.blk.cell 9
            have g9f := HC.out.blk.frozen 9
            have g10 := HC.out.blk.cell 10
            have g10f := HC.out.blk.frozen 10
            have g9 := g9.trans rfl
            have g10 := g10.trans rfl
            go_upto_region 14 with fail
            obtain ⟨W5, hW5⟩ : ∃ W, (w2.setCell ⟨w.heap.size + 1 + 1, 9, none⟩ (.int .i64 k)).setCell ⟨w.heap.size + 1 + 1, 10, none⟩ (.slice Av pn cv) = W := ⟨_, rfl⟩
            have kGB : Blk W5 (w.heap.size + 1 + 1) 71 #[.int .i64 b.per, .int .i64 b.rim, .int .i64 b.core, .int .i64 b.land, .int .i64 b.slow, .int .i64 b.fast, .slice A n c, .slice (some ⟨gr, 0, none⟩) (k + 1) kr, .slice (some ⟨gh, 0, none⟩) (k + 1) kh, .int .i64 k, .slice Av pn cv] := by rw [← hW5]; exact ((HC.out.blk.set_ 9 (.int .i64 k)).set_ 10 (.slice Av pn cv)).cast (by simp)
            have kRB : Blk W5 (w.heap.size + 1) 71 #[.int .i64 0, .int .i64 0, .int .i64 0, .int .i64 0, .int .i64 0, .int .i64 0, .slice none 0 0, .slice none 0 0, .slice none 0 0, .int .i64 0, .slice none 0 0] := by rw [← hW5]; exact (HRB.out.far (p := ⟨w.heap.size + 1 + 1, 9, none⟩) (by show w.heap.size + 1 ≠ w.heap.size + 1 + 1; omega) _).far (p := ⟨w.heap.size + 1 + 1, 10, none⟩) (by show w.heap.size + 1 ≠ w.heap.size + 1 + 1; omega) _
            have bg : Below w.heap.size w W5 := by rw [← hW5]; exact (HBW.out.setCell (p := ⟨w.heap.size + 1 + 1, 9, none⟩) (by show w.heap.size ≤ w.heap.size + 1 + 1; omega) _).setCell (p := ⟨w.heap.size + 1 + 1, 10, none⟩) (by show w.heap.size ≤ w.heap.size + 1 + 1; omega) _
            have hpr5 : W5.ownsRow w.heap.size 52 2 (.slice Av pn cv) pn (smpCells (l.reverse ++ [((2 : Int), (ii : Int))])) := by
              rw [← hW5]
              have e0 : (Value.slice Av pn cv).ownBlock ≠ some (w.heap.size + 1 + 1) := fun e => by have := (HPR.out.lt _ e).1; have := HGW.out; omega
              exact own_base_ (ownsRow_setCell_other (ownsRow_setCell_other HPR.out (a := ⟨w.heap.size + 1 + 1, 9, none⟩) e0 _) (a := ⟨w.heap.size + 1 + 1, 10, none⟩) e0 _) (by have := HGW.out; omega)
            have HPR5 := Lib.hid hpr5
            have HBG := Lib.hid bg
            rw [hW5]
            clear hW5 hpr5 bg g9 g9f g10 g10f
            obtain ⟨c0, c1, c2, c3, c4, c5, c6, c7, c8, c9, c10⟩ := (kGB).eleven
            obtain ⟨r0, r1, r2, r3, r4, r5, r6, r7, r8, r9, r10⟩ := (kRB).eleven
            have f0 := (kRB).frozen 0
            have f1 := (kRB).frozen 1
            have f2 := (kRB).frozen 2
            have f3 := (kRB).frozen 3
            have f4 := (kRB).frozen 4
            have f5 := (kRB).frozen 5
            have f6 := (kRB).frozen 6
            have f7 := (kRB).frozen 7
            have f8 := (kRB).frozen 8
            have f9 := (kRB).frozen 9
            have f10 := (kRB).frozen 10
            go_wp2
            obtain ⟨V, hV, KV, GV⟩ := fin11 (v0 := .int .i64 b.per) (v1 := .int .i64 b.rim) (v2 := .int .i64 b.core) (v3 := .int .i64 b.land) (v4 := .int .i64 b.slow) (v5 := .int .i64 b.fast) (v6 := .slice A n c) (v7 := .slice (some ⟨gr, 0, none⟩) (k + 1) kr) (v8 := .slice (some ⟨gh, 0, none⟩) (k + 1) kh) (v9 := .int .i64 k) (v10 := .slice Av pn cv) (hk := kRB)
            try rw [← hV]
            clear hV
            obtain ⟨q0, q1, q2, q3, q4, q5, q6, q7, q8, q9, q10⟩ := KV.eleven
            try rw [Exit.noGoto_ret]
            refine bodyPost_ret (v := .agg #[.int .i64 b.per, .int .i64 b.rim, .int .i64 b.core, .int .i64 b.land, .int .i64 b.slow, .int .i64 b.fast, .slice A n c, .slice (some ⟨gr, 0, none⟩) (k + 1) kr, .slice (some ⟨gh, 0, none⟩) (k + 1) kh, .int .i64 k, .slice Av pn cv]) ?_ rfl ⟨_, _, _, _, _, _, _, _, _, _, rfl, ⟨by rw [fitN_eq (by rw [HS.out]; rfl) HNS.out n hlt], fun R2 h2 => (by rw [sol_none_le HNS.out n (by omega)] at h2; cases h2), fun _ => ⟨_, HPRF.out, by rw [← HCL.out]; exact HPR5.out.kept GV (.inr (fun e => by have := (HPR5.out.lt (w.heap.size + 1) e).1; have := (HPR.out.lt _ e).1; have := HGW.out; omega))⟩⟩, (HBG.out).grown GV (HBG.out).size (fun q e => by have := Option.some.inj e; omega)⟩
            simp [results, Try.results40, go_sem, q0, q1, q2, q3, q4, q5, q6, q7, q8, q9, q10]
      -- ENDMAIN
      · go_wp2_with (refine CC.out.mono ?_; rintro e w1 ⟨rfl, hb1⟩; have HB1 := Lib.hid hb1; clear hb1)
      -- CIR
        have hper : b.per ≤ (k : Int) := by
          have h := HQ.out
          simp only [circ, Bool.and_eq_true, decide_eq_true_eq] at h
          have := HBB.out.per1
          omega
        have HNS : Hid (sol b P (k + 1) = none) := Lib.hid (by rw [sol_succ b P HS.out, if_pos HQ.out])
        replace HC := Lib.hid (HC.out.below HB1.out)
        replace HRB := Lib.hid (HRB.out.below HB1.out HRB.out.lt)
        replace HBW := Lib.hid (HBW.out.trans (HB1.out.mono hsz))
        refine (circle_any (w.heap.size + 1 + 1) n c k A b _ _ n (.slice none 0 0) w1 HC.out.blk (by omega) HBB.out hper).mono ?_
        rintro e w2 ⟨v, rfl, hown, hb2⟩
        obtain ⟨Av, cv, rfl, -⟩ := own_reads hown
        have HPR := Lib.hid hown
        have HGW : Hid (w.heap.size + 1 + 1 < w1.heap.size) := Lib.hid HC.out.blk.lt
        replace HC := Lib.hid (HC.out.below hb2)
        replace HRB := Lib.hid (HRB.out.below hb2 HRB.out.lt)
        replace HBW := Lib.hid (HBW.out.trans (hb2.mono HBW.out.size))
        have HCL : Hid (1 + b.per.toNat = (cirL b k).length) := Lib.hid (by simp [cirL]; omega)
        obtain ⟨pn, hpn⟩ : ∃ pn, 1 + b.per.toNat = pn := ⟨_, rfl⟩
        rw [hpn] at HPR HCL ⊢
        clear hown hb2 hper hpn CC HB1
        have g9 := HC.out.blk.cell 9
        have g9f := HC.out.blk.frozen 9
        have g10 := HC.out.blk.cell 10
        have g10f := HC.out.blk.frozen 10
        have g9 := g9.trans rfl
        have g10 := g10.trans rfl
        go_upto_region 7 with fail
        obtain ⟨W5, hW5⟩ : ∃ W, (w2.setCell ⟨w.heap.size + 1 + 1, 9, none⟩ (.int .i64 k)).setCell ⟨w.heap.size + 1 + 1, 10, none⟩ (.slice Av pn cv) = W := ⟨_, rfl⟩
        have kGB : Blk W5 (w.heap.size + 1 + 1) 71 #[.int .i64 b.per, .int .i64 b.rim, .int .i64 b.core, .int .i64 b.land, .int .i64 b.slow, .int .i64 b.fast, .slice A n c, .slice Ar k cr, .slice Ah k ch, .int .i64 k, .slice Av pn cv] := by rw [← hW5]; exact ((HC.out.blk.set_ 9 (.int .i64 k)).set_ 10 (.slice Av pn cv)).cast (by simp)
        have kRB : Blk W5 (w.heap.size + 1) 71 #[.int .i64 0, .int .i64 0, .int .i64 0, .int .i64 0, .int .i64 0, .int .i64 0, .slice none 0 0, .slice none 0 0, .slice none 0 0, .int .i64 0, .slice none 0 0] := by rw [← hW5]; exact (HRB.out.far (p := ⟨w.heap.size + 1 + 1, 9, none⟩) (by show w.heap.size + 1 ≠ w.heap.size + 1 + 1; omega) _).far (p := ⟨w.heap.size + 1 + 1, 10, none⟩) (by show w.heap.size + 1 ≠ w.heap.size + 1 + 1; omega) _
        have bg : Below w.heap.size w W5 := by rw [← hW5]; exact (HBW.out.setCell (p := ⟨w.heap.size + 1 + 1, 9, none⟩) (by show w.heap.size ≤ w.heap.size + 1 + 1; omega) _).setCell (p := ⟨w.heap.size + 1 + 1, 10, none⟩) (by show w.heap.size ≤ w.heap.size + 1 + 1; omega) _
        have hpr5 : W5.ownsRow w.heap.size 52 2 (.slice Av pn cv) pn (smpCells (cirL b k)) := by
          rw [← hW5]
          have e0 : (Value.slice Av pn cv).ownBlock ≠ some (w.heap.size + 1 + 1) := fun e => by have := (HPR.out.lt _ e).1; have := HGW.out; omega
          exact own_base_ (ownsRow_setCell_other (ownsRow_setCell_other HPR.out (a := ⟨w.heap.size + 1 + 1, 9, none⟩) e0 _) (a := ⟨w.heap.size + 1 + 1, 10, none⟩) e0 _) (by have := HGW.out; omega)
        have HPR5 := Lib.hid hpr5
        have HBG := Lib.hid bg
        rw [hW5]
        clear hW5 hpr5 bg g9 g9f g10 g10f
        obtain ⟨c0, c1, c2, c3, c4, c5, c6, c7, c8, c9, c10⟩ := (kGB).eleven
        obtain ⟨r0, r1, r2, r3, r4, r5, r6, r7, r8, r9, r10⟩ := (kRB).eleven
        have f0 := (kRB).frozen 0
        have f1 := (kRB).frozen 1
        have f2 := (kRB).frozen 2
        have f3 := (kRB).frozen 3
        have f4 := (kRB).frozen 4
        have f5 := (kRB).frozen 5
        have f6 := (kRB).frozen 6
        have f7 := (kRB).frozen 7
        have f8 := (kRB).frozen 8
        have f9 := (kRB).frozen 9
        have f10 := (kRB).frozen 10
        go_wp2
        obtain ⟨V, hV, KV, GV⟩ := fin11 (v0 := .int .i64 b.per) (v1 := .int .i64 b.rim) (v2 := .int .i64 b.core) (v3 := .int .i64 b.land) (v4 := .int .i64 b.slow) (v5 := .int .i64 b.fast) (v6 := .slice A n c) (v7 := .slice Ar k cr) (v8 := .slice Ah k ch) (v9 := .int .i64 k) (v10 := .slice Av pn cv) (hk := kRB)
        try rw [← hV]
        clear hV
        obtain ⟨q0, q1, q2, q3, q4, q5, q6, q7, q8, q9, q10⟩ := KV.eleven
        try rw [Exit.noGoto_ret]
        refine bodyPost_ret (v := .agg #[.int .i64 b.per, .int .i64 b.rim, .int .i64 b.core, .int .i64 b.land, .int .i64 b.slow, .int .i64 b.fast, .slice A n c, .slice Ar k cr, .slice Ah k ch, .int .i64 k, .slice Av pn cv]) ?_ rfl ⟨_, _, _, _, _, _, _, _, _, _, rfl, ⟨by rw [fitN_eq (by rw [HS.out]; rfl) HNS.out n hlt], fun R2 h2 => (by rw [sol_none_le HNS.out n (by omega)] at h2; cases h2), fun _ => ⟨_, .cir k hlt HQ.out, by rw [← HCL.out]; exact HPR5.out.kept GV (.inr (fun e => by have := (HPR5.out.lt (w.heap.size + 1) e).1; have := (HPR.out.lt _ e).1; have := HGW.out; omega))⟩⟩, (HBG.out).grown GV (HBG.out).size (fun q e => by have := Option.some.inj e; omega)⟩
        simp [results, Try.results40, go_sem, q0, q1, q2, q3, q4, q5, q6, q7, q8, q9, q10]
      -- ENDCIR
    · obtain rfl : n = k := by omega
      obtain ⟨c0, c1, c2, c3, c4, c5, c6, c7, c8, c9, c10⟩ := (HC.out.blk).eleven
      obtain ⟨r0, r1, r2, r3, r4, r5, r6, r7, r8, r9, r10⟩ := (HRB.out).eleven
      have f0 := (HRB.out).frozen 0
      have f1 := (HRB.out).frozen 1
      have f2 := (HRB.out).frozen 2
      have f3 := (HRB.out).frozen 3
      have f4 := (HRB.out).frozen 4
      have f5 := (HRB.out).frozen 5
      have f6 := (HRB.out).frozen 6
      have f7 := (HRB.out).frozen 7
      have f8 := (HRB.out).frozen 8
      have f9 := (HRB.out).frozen 9
      have f10 := (HRB.out).frozen 10
      go_wp2
      obtain ⟨V, hV, KV, GV⟩ := fin11 (v0 := .int .i64 b.per) (v1 := .int .i64 b.rim) (v2 := .int .i64 b.core) (v3 := .int .i64 b.land) (v4 := .int .i64 b.slow) (v5 := .int .i64 b.fast) (v6 := .slice A n c) (v7 := .slice Ar n cr) (v8 := .slice Ah n ch) (v9 := .int .i64 n) (v10 := .slice none 0 0) (hk := HRB.out)
      try rw [← hV]
      clear hV
      obtain ⟨q0, q1, q2, q3, q4, q5, q6, q7, q8, q9, q10⟩ := KV.eleven
      try rw [Exit.noGoto_ret]
      refine bodyPost_ret (v := .agg #[.int .i64 b.per, .int .i64 b.rim, .int .i64 b.core, .int .i64 b.land, .int .i64 b.slow, .int .i64 b.fast, .slice A n c, .slice Ar n cr, .slice Ah n ch, .int .i64 n, .slice none 0 0]) ?_ rfl ⟨_, _, _, _, _, _, _, _, _, _, rfl, ⟨by rw [fitN_full (by rw [HS.out]; rfl)], fun R2 h2 => (by rw [HS.out] at h2; cases h2; exact (own_base_ HC.out.rr (by omega)).kept GV (.inr (fun e => by have := (HC.out.rr.lt (w.heap.size + 1) e).1; omega))), fun h2 => (by rw [HS.out] at h2; cases h2)⟩, (HBW.out).grown GV (HBW.out).size (fun q e => by have := Option.some.inj e; omega)⟩
      simp [results, Try.results40, go_sem, q0, q1, q2, q3, q4, q5, q6, q7, q8, q9, q10]
end Go.Proofs.Ytgdkcbnpgpjnbaa
