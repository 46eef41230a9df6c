/-
  The document's Tightest.
-/
import Derived.Test.YtgdkcbnpgpjnbaaL8
import Derived.Test.YtgdkcbnpgpjnbaaL11
namespace Go.Proofs.Ytgdkcbnpgpjnbaa
open Go.RowKit

theorem tgT_step (b : Bk) (P : List Smp) (R : List Int) (p k : Nat) (hk : p ≤ k) : tgT b P R p (k + 1 - 1 - p) = if lndI b P R k < lndI b P R (tgT b P R p (k - 1 - p)) then k else tgT b P R p (k - 1 - p) := by
  rcases Nat.eq_or_lt_of_le hk with rfl | h
  · rw [show p + 1 - 1 - p = 0 by omega, show p - 1 - p = 0 by omega]
    unfold tgT
    rw [if_neg (by omega)]
  · obtain ⟨j, hj⟩ : ∃ j, k - 1 - p = j := ⟨_, rfl⟩
    rw [hj, show k + 1 - 1 - p = j + 1 by omega, show k = p + 1 + j by omega]
    rfl

set_option maxRecDepth 100000 in
set_option maxHeartbeats 8000000 in
theorem refTightest_any (B : Nat) (A AR : Option Addr) (n c m d : Nat) (b : Bk) (P : List Smp) (R : List Int) (w : World) (h0 : RS w B A n P) (h1 : LI w B AR m R) (hB : B ≤ w.heap.size) (hl : n ≤ 9223372036854775807) (hl' : m ≤ 9223372036854775807) :
    Calls Try.prog 30 #[.agg #[.int .i64 b.per, .int .i64 b.rim, .int .i64 b.core, .int .i64 b.land, .int .i64 b.slow, .int .i64 b.fast], .slice A n c, .slice AR m d] w fun e w' => e = .returned (.tuple #[.int .i64 (tigA b P R), .int .i64 (tigV b P R), .int .i64 (tigE b P R)]) ∧ Below w.heap.size w w' := by
  have HP := Lib.hid (h0.more hB)
  have HR := Lib.hid (h1.more hB)
  have HN := Lib.hid h0.1
  have C1 := Lib.hid (fun (W : World) (h : Below w.heap.size w W) => refcut_any w.heap.size A AR n c m d b P R W (HP.out.below h (Nat.le_refl _)) (HR.out.below h (Nat.le_refl _)) h.size hl hl')
  clear h0 h1 hB
  obtain ⟨q, hq⟩ : ∃ q, erC b P R = q := ⟨_, rfl⟩
  rw [hq] at C1
  replace C1 := Lib.hid C1.out
  have HQ := Lib.hid hq
  clear hq
  go_enter Try.func30, Try.ntmps30
  go_upto_region 1 with fail
  obtain ⟨W, hW⟩ : ∃ W, w.alloc (.cells #[.int .i64 b.per, .int .i64 b.rim, .int .i64 b.core, .int .i64 b.land, .int .i64 b.slow, .int .i64 b.fast] 23) = W := ⟨_, rfl⟩
  have hb0 : Below w.heap.size w W := by rw [← hW]; exact below_a _ _
  have k0 : Blk W w.heap.size 23 #[.int .i64 b.per, .int .i64 b.rim, .int .i64 b.core, .int .i64 b.land, .int .i64 b.slow, .int .i64 b.fast] := by rw [← hW]; exact Blk.new _ _ _
  rw [hW]
  have HBW := Lib.hid hb0
  have HK := Lib.hid k0
  obtain ⟨c0, c1, c2, c3, c4, c5⟩ := k0.six
  clear hW hb0 k0
  go_wp2_with fail
  refine (C1.out _ HBW.out).mono ?_
  rintro e w5 ⟨rfl, hb1⟩
  replace HK := Lib.hid (HK.out.below hb1 HK.out.lt)
  replace HBW := Lib.hid (HBW.out.trans (hb1.mono HBW.out.size))
  clear hb1 c0 c1 c2 c3 c4 c5
  obtain ⟨c0, c1, c2, c3, c4, c5⟩ := HK.out.six
  by_cases h0 : q = 0
  · subst h0
    have CI := Lib.hid (erC_ok HQ.out)
    have p1 := CI.out.bk.per1
    have p2 := CI.out.bk.per2
    have hn6 : n ≤ 1000000 := by have := CI.out.n; rw [← HN.out] at this; omega
    have hm : m = n := by rw [HR.out.1, CI.out.len, ← HN.out]
    by_cases hi2 : (n : Int) ≤ b.per
    · have hi3 : (P.length : Int) ≤ b.per := by rw [← HN.out]; exact hi2
      have E1 : Hid (tigE b P R = 5) := Lib.hid (by unfold tigE; rw [if_pos HQ.out, if_pos hi3])
      have E2 : Hid (tigA b P R = 0) := Lib.hid (by unfold tigA; rw [if_pos HQ.out, if_pos hi3])
      have E3 : Hid (tigV b P R = 0) := Lib.hid (by unfold tigV; rw [if_pos HQ.out, if_pos hi3])
      clear hi3 hm
      go_wp2
      go_ret3
      rw [E1.out, E2.out, E3.out]
      exact ⟨rfl, HBW.out⟩
    · have hi3 : ¬ (P.length : Int) ≤ b.per := by rw [← HN.out]; exact hi2
      have E1 : Hid (tigE b P R = 0) := Lib.hid (by unfold tigE; rw [if_pos HQ.out, if_neg hi3])
      have E2 : Hid (tigA b P R = tgA b P R) := Lib.hid (by unfold tigA; rw [if_pos HQ.out, if_neg hi3])
      have E3 : Hid (tigV b P R = lndI b P R (tgA b P R)) := Lib.hid (by unfold tigV; rw [if_pos HQ.out, if_neg hi3])
      obtain ⟨p, hp⟩ : ∃ p : Nat, b.per = (p : Int) := ⟨b.per.toNat, by omega⟩
      have HPP := Lib.hid hp
      have hla := (fun (i : Nat) (hi : i < n) (hpi : p ≤ i) (X : World) (hX : Below w.heap.size w X) => refland_any w.heap.size A AR n c m d b P R i X (HP.out.below hX (Nat.le_refl _)) (HR.out.below hX (Nat.le_refl _)) hX.size hn6 hi (by omega) CI.out.bk CI.out.ps CI.out.rs (by rw [hp]; omega))
      simp only [hp] at hla
      have HLA := Lib.hid hla
      have hpn : p < n := by omega
      have hA1 : tgA b P R = tgT b P R p (n - 1 - p) := by unfold tgA; rw [← HN.out, hp]; rfl
      have HA1 := Lib.hid hA1
      have hK := HK.out
      rw [hp] at hK c0
      replace HK := Lib.hid hK
      clear hi3 hm hla hA1 hK
      go_wp2_with fail
      go_loopw [9, 10] (fun u z wr => ∃ k : Nat, p ≤ k ∧ k ≤ n ∧ u = .int .i64 (tgT b P R p (k - 1 - p) : Nat) ∧ z = .int .i64 (k : Nat) ∧ Hid (Blk wr w.heap.size 23 #[.int .i64 (p : Nat), .int .i64 b.rim, .int .i64 b.core, .int .i64 b.land, .int .i64 b.slow, .int .i64 b.fast]) ∧ Hid (Below w.heap.size w wr)) (fun _ z _ => n - (intOf z).toNat)
      case atStart => exact ⟨p, Nat.le_refl _, by omega, by rw [show p - 1 - p = 0 by omega]; rfl, rfl, HK, HBW⟩
      case round =>
        obtain ⟨k, hk1, hk2, rfl, rfl, HK2, HB2⟩ := hrel
        clear c0 c1 c2 c3 c4 c5 HK HBW
        obtain ⟨c0, c1, c2, c3, c4, c5⟩ := HK2.out.six
        have hbd := tgT_bd b P R p (k - 1 - p)
        have HT := Lib.hid (tgT_step b P R p k hk1)
        obtain ⟨t, ht⟩ : ∃ t, tgT b P R p (k - 1 - p) = t := ⟨_, rfl⟩
        rw [ht] at hbd HT ⊢
        replace HT := Lib.hid HT.out
        by_cases hlt : k < n
        · have htn : t < n := by omega
          have hsz := HB2.out.size
          have CF : Hid (∀ z : Lat wr, Calls Try.prog 55 #[.agg #[.int .i64 (p : Nat), .int .i64 b.rim, .int .i64 b.core, .int .i64 b.land, .int .i64 b.slow, .int .i64 b.fast], .slice A n c, .slice AR m d, .int .i64 (k : Nat)] z.w (fun e w'' => e = .returned (.int .i64 (lndI b P R k)) ∧ ∃ y : Lat wr, w'' = y.w)) := Lib.hid (fun z => Calls.lat (HLA.out k hlt hk1 z.w (HB2.out.trans (z.below.mono hsz))))
          have CT : Hid (∀ z : Lat wr, Calls Try.prog 55 #[.agg #[.int .i64 (p : Nat), .int .i64 b.rim, .int .i64 b.core, .int .i64 b.land, .int .i64 b.slow, .int .i64 b.fast], .slice A n c, .slice AR m d, .int .i64 (t : Nat)] z.w (fun e w'' => e = .returned (.int .i64 (lndI b P R t)) ∧ ∃ y : Lat wr, w'' = y.w)) := Lib.hid (fun z => Calls.lat (HLA.out t htn hbd.1 z.w (HB2.out.trans (z.below.mono hsz))))
          obtain ⟨x, hx⟩ : ∃ x, lndI b P R k = x := ⟨_, rfl⟩
          obtain ⟨y, hy⟩ : ∃ y, lndI b P R t = y := ⟨_, rfl⟩
          rw [hx] at CF HT
          rw [hy] at CT HT
          replace HT := Lib.hid HT.out
          replace CF := Lib.hid CF.out
          replace CT := Lib.hid CT.out
          have l0 := Lat.cell c0
          have l1 := Lat.cell c1
          have l2 := Lat.cell c2
          have l3 := Lat.cell c3
          have l4 := Lat.cell c4
          have l5 := Lat.cell c5
          clear hx hy ht hbd htn c0 c1 c2 c3 c4 c5
          by_cases hxy : x < y
          · have HT1 : Hid (tgT b P R p (k + 1 - 1 - p) = k) := Lib.hid (by rw [HT.out, if_pos hxy])
            go_upto_region 9 with fail
            refine wp_region_lat (by kernel_rfl) (by kernel_rfl) ?_
            repeat (go_big_quiet_step ((first | (with_reducible exact CF.out _) | (with_reducible exact CT.out _))))
            refine wpQuiet_nil ?_
            intro w7 hw'
            have hb7 := lat_out hw'
            have HB7 := Lib.hid hb7
            clear hw' hb7 l0 l1 l2 l3 l4 l5
            go_wp2
            go_roundw
            case rel => exact ⟨k + 1, by omega, by omega, by rw [HT1.out], by go_num, Lib.hid (HK2.out.below HB7.out HK2.out.lt), Lib.hid (HB2.out.trans (HB7.out.mono HB2.out.size))⟩
            case measure => simp [intOf]; omega
          · have HT1 : Hid (tgT b P R p (k + 1 - 1 - p) = t) := Lib.hid (by rw [HT.out, if_neg hxy])
            go_upto_region 9 with fail
            refine wp_region_lat (by kernel_rfl) (by kernel_rfl) ?_
            repeat (go_big_quiet_step ((first | (with_reducible exact CF.out _) | (with_reducible exact CT.out _))))
            refine wpQuiet_nil ?_
            intro w7 hw'
            have hb7 := lat_out hw'
            have HB7 := Lib.hid hb7
            clear hw' hb7 l0 l1 l2 l3 l4 l5
            go_wp2
            go_roundw
            case rel => exact ⟨k + 1, by omega, by omega, by rw [HT1.out], by go_num, Lib.hid (HK2.out.below HB7.out HK2.out.lt), Lib.hid (HB2.out.trans (HB7.out.mono HB2.out.size))⟩
            case measure => simp [intOf]; omega
        · obtain rfl : k = n := by omega
          have hA : tgA b P R = t := by rw [HA1.out, ← ht]
          have HAA := Lib.hid hA
          have CL := HLA.out t (by omega) hbd.1 wr HB2.out
          have CL := Lib.hid CL
          clear hA ht hbd
          go_wp2_with fail
          refine CL.out.mono ?_
          rintro e w7 ⟨rfl, hb7⟩
          have HB7 := Lib.hid hb7
          clear hb7
          go_wp2
          go_ret3
          rw [E1.out, E2.out, E3.out, HAA.out]
          exact ⟨rfl, HB2.out.trans (HB7.out.mono HB2.out.size)⟩
  · have h1 : (q != 0) = true := by simpa using h0
    have h2 : (q == 0) = false := by simpa using h0
    have H0 := Lib.hid h0
    clear h0
    go_wp2_with fail
    refine (C1.out _ HBW.out).mono ?_
    rintro e w6 ⟨rfl, hb6⟩
    replace HBW := Lib.hid (HBW.out.trans (hb6.mono HBW.out.size))
    clear hb6
    go_wp2
    go_ret3
    have hne : ¬ erC b P R = 0 := by rw [HQ.out]; exact H0.out
    have e1 : tigE b P R = q := by unfold tigE; rw [if_neg hne]; exact HQ.out
    have e2 : tigA b P R = 0 := by unfold tigA; rw [if_neg hne]
    have e3 : tigV b P R = 0 := by unfold tigV; rw [if_neg hne]
    rw [e1, e2, e3]
    exact ⟨rfl, HBW.out⟩
end Go.Proofs.Ytgdkcbnpgpjnbaa
