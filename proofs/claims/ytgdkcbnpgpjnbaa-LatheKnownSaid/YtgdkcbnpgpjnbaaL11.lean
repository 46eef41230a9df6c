/-
  Tightest of package lathe.
-/
import Derived.Test.YtgdkcbnpgpjnbaaLZ
namespace Go.Proofs.Ytgdkcbnpgpjnbaa
open Go.RowKit

/-- The first sample with the least land, from s on. -/
def tgT (b : Bk) (P : List Smp) (R : List Int) (s : Nat) : Nat → Nat
  | 0 => s
  | j + 1 => if lndI b P R (s + 1 + j) < lndI b P R (tgT b P R s j) then s + 1 + j else tgT b P R s j
theorem tgT_bd (b : Bk) (P : List Smp) (R : List Int) (s j : Nat) : s ≤ tgT b P R s j ∧ tgT b P R s j ≤ s + j := by
  induction j with
  | zero => unfold tgT; omega
  | succ j ih => unfold tgT; split <;> omega
def tgA (b : Bk) (P : List Smp) (R : List Int) : Nat := tgT b P R b.per.toNat (P.length - 1 - b.per.toNat)
def tigE (b : Bk) (P : List Smp) (R : List Int) : Int := if erC b P R = 0 then (if (P.length : Int) ≤ b.per then 5 else 0) else erC b P R
def tigA (b : Bk) (P : List Smp) (R : List Int) : Int := if erC b P R = 0 then (if (P.length : Int) ≤ b.per then 0 else tgA b P R) else 0
def tigV (b : Bk) (P : List Smp) (R : List Int) : Int := if erC b P R = 0 then (if (P.length : Int) ≤ b.per then 0 else lndI b P R (tgA b P R)) else 0

set_option maxRecDepth 100000 in
set_option maxHeartbeats 8000000 in
theorem Tightest_any (B : Nat) (A AR : Option Addr) (n c m d : Nat) (b : Bk) (P : List Smp) (R : List Int) (w : World) (h0 : RS w B A n P) (h1 : LI w B AR m R) (hB : B ≤ w.heap.size) (hl : n ≤ 9223372036854775807) (hl' : m ≤ 9223372036854775807) :
    Calls Try.prog 29 #[.agg #[.int .i64 b.per, .int .i64 b.rim, .int .i64 b.core, .int .i64 b.land, .int .i64 b.slow, .int .i64 b.fast], .slice A n c, .slice AR m d] w fun e w' => e = .returned (.tuple #[.int .i64 (tigA b P R), .int .i64 (tigV b P R), .int .i64 (tigE b P R)]) ∧ Below w.heap.size w w' := by
  have HP := Lib.hid (h0.more hB)
  have HR := Lib.hid (h1.more hB)
  have HN := Lib.hid h0.1
  have C1 := Lib.hid (fun W => CheckL_any b W)
  have C2 := Lib.hid (fun (W : World) (h : Below w.heap.size w W) => CheckPoints_any w.heap.size A n c P W (HP.out.below h (Nat.le_refl _)) h.size hl)
  have C3 := Lib.hid (fun (W : World) (h : Below w.heap.size w W) => checkCut_any A AR n c m d R W ((HR.out.below h (Nat.le_refl _)).more h.size) hl hl')
  clear h0 h1 hB
  go_enter Try.func29, Try.ntmps29
  go_upto_region 1 with fail
  obtain ⟨W, hW⟩ : ∃ W, w.alloc (.cells #[.int .i64 b.per, .int .i64 b.rim, .int .i64 b.core, .int .i64 b.land, .int .i64 b.slow, .int .i64 b.fast] 23) = W := ⟨_, rfl⟩
  have hb0 : Below w.heap.size w W := by rw [← hW]; exact below_a _ _
  have k0 : Blk W w.heap.size 23 #[.int .i64 b.per, .int .i64 b.rim, .int .i64 b.core, .int .i64 b.land, .int .i64 b.slow, .int .i64 b.fast] := by rw [← hW]; exact Blk.new _ _ _
  rw [hW]
  have HBW := Lib.hid hb0
  have HK := Lib.hid k0
  obtain ⟨c0, c1, c2, c3, c4, c5⟩ := k0.six
  clear hW hb0 k0
  go_wp2_with fail
  refine (C1.out _).mono ?_
  rintro e w1 ⟨rfl, hb1⟩
  replace HK := Lib.hid (HK.out.below hb1 HK.out.lt)
  replace HBW := Lib.hid (HBW.out.trans (hb1.mono HBW.out.size))
  clear hb1 c0 c1 c2 c3 c4 c5
  go_wp2_with fail
  refine (C2.out _ HBW.out).mono ?_
  rintro e w2 ⟨rfl, hb1⟩
  replace HK := Lib.hid (HK.out.below hb1 HK.out.lt)
  replace HBW := Lib.hid (HBW.out.trans (hb1.mono HBW.out.size))
  clear hb1
  go_wp2_with fail
  refine (C3.out _ HBW.out).mono ?_
  rintro e w3 ⟨rfl, hb1⟩
  replace HK := Lib.hid (HK.out.below hb1 HK.out.lt)
  replace HBW := Lib.hid (HBW.out.trans (hb1.mono HBW.out.size))
  clear hb1
  go_wp2_with fail
  refine (cmpOr_any (w3.heap.size + 1) _ 3 3 [ckB b, ckG P, ckR n R] _ rfl (reads_cells (Blk.new _ _ _) (by omega) rfl rfl) (by simp) (by omega)).mono ?_
  rintro e w' ⟨rfl, hw'⟩
  obtain ⟨w5, hw5⟩ : ∃ w5, w' = w5 := ⟨_, rfl⟩
  have hb3 : Below w3.heap.size w3 w5 := by rw [← hw5, ← hw']; exact below_a _ _
  replace HK := Lib.hid (HK.out.below hb3 HK.out.lt)
  replace HBW := Lib.hid (HBW.out.trans (hb3.mono HBW.out.size))
  rw [hw5]
  clear hb3 hw' hw5 C1 C2 C3
  obtain ⟨q, hq⟩ : ∃ q, orL [ckB b, ckG P, ckR n R] = q := ⟨_, rfl⟩
  have HQ : Hid (erC b P R = q) := Lib.hid (by rw [← hq, HN.out]; rfl)
  rw [hq]
  clear hq
  obtain ⟨c0, c1, c2, c3, c4, c5⟩ := HK.out.six
  by_cases h0 : q = 0
  · subst h0
    have CI := Lib.hid (erC_ok HQ.out)
    have p1 := CI.out.bk.per1
    have p2 := CI.out.bk.per2
    have hn6 : n ≤ 1000000 := by have := CI.out.n; rw [← HN.out] at this; omega
    have hm : m = n := by rw [HR.out.1, CI.out.len, ← HN.out]
    by_cases hi2 : (n : Int) ≤ b.per
    · have hi3 : (P.length : Int) ≤ b.per := by rw [← HN.out]; exact hi2
      have E1 : Hid (tigE b P R = 5) := Lib.hid (by unfold tigE; rw [if_pos HQ.out, if_pos hi3])
      have E2 : Hid (tigA b P R = 0) := Lib.hid (by unfold tigA; rw [if_pos HQ.out, if_pos hi3])
      have E3 : Hid (tigV b P R = 0) := Lib.hid (by unfold tigV; rw [if_pos HQ.out, if_pos hi3])
      clear hi3 hm
      go_wp2
      go_ret3
      rw [E1.out, E2.out, E3.out]
      exact ⟨rfl, HBW.out⟩
    · have hi3 : ¬ (P.length : Int) ≤ b.per := by rw [← HN.out]; exact hi2
      have E1 : Hid (tigE b P R = 0) := Lib.hid (by unfold tigE; rw [if_pos HQ.out, if_neg hi3])
      have E2 : Hid (tigA b P R = tgA b P R) := Lib.hid (by unfold tigA; rw [if_pos HQ.out, if_neg hi3])
      have E3 : Hid (tigV b P R = lndI b P R (tgA b P R)) := Lib.hid (by unfold tigV; rw [if_pos HQ.out, if_neg hi3])
      obtain ⟨p, hp⟩ : ∃ p : Nat, b.per = (p : Int) := ⟨b.per.toNat, by omega⟩
      have HPP := Lib.hid hp
      have hla := (fun (i : Nat) (hi : i < n) (hpi : p ≤ i) (X : World) (hX : Below w.heap.size w X) => land_any w.heap.size A AR n c m d b P R i X (HP.out.below hX (Nat.le_refl _)) (HR.out.below hX (Nat.le_refl _)) hX.size hn6 hi (by omega) CI.out.bk CI.out.ps CI.out.rs (by rw [hp]; omega))
      simp only [hp] at hla
      have HLA := Lib.hid hla
      have hpn : p < n := by omega
      have hA1 : tgA b P R = tgT b P R p (n - 1 - p) := by unfold tgA; rw [← HN.out, hp]; rfl
      have HA1 := Lib.hid hA1
      clear hi3 hm hla hA1
      go_upto_region 8 with fail
      obtain ⟨V, hV⟩ : ∃ V, w5.alloc (.cells #[.int .i64 (p : Nat), .int .i64 b.rim, .int .i64 b.core, .int .i64 b.land, .int .i64 b.slow, .int .i64 b.fast, .slice A n c] 69) = V := ⟨_, rfl⟩
      have kv : Blk V w5.heap.size 69 #[.int .i64 (p : Nat), .int .i64 b.rim, .int .i64 b.core, .int .i64 b.land, .int .i64 b.slow, .int .i64 b.fast, .slice A n c] := by rw [← hV]; exact Blk.new _ _ _
      have HBV : Hid (Below w.heap.size w V) := Lib.hid (by rw [← hV]; exact HBW.out.alloc HBW.out.size _)
      rw [hV]
      have HKV := Lib.hid kv
      obtain ⟨s0, s1, s2, s3, s4, s5, s6⟩ := kv.seven
      clear hV kv c0 c1 c2 c3 c4 c5
      go_wp2_with fail
      refine (HLA.out p hpn (Nat.le_refl _) V HBV.out).mono ?_
      rintro e w6 ⟨rfl, hb6⟩
      replace HKV := Lib.hid (HKV.out.below hb6 HKV.out.lt)
      replace HBV := Lib.hid (HBV.out.trans (hb6.mono HBV.out.size))
      clear hb6 s0 s1 s2 s3 s4 s5 s6
      go_wp2_with fail
      go_loopw [10, 12, 13] (fun u v z wr => ∃ j : Nat, p + 1 + j ≤ n ∧ u = .int .i64 (tgT b P R p j : Nat) ∧ v = .int .i64 (lndI b P R (tgT b P R p j)) ∧ z = .int .i64 ((p + 1 + j : Nat) : Int) ∧ Hid (Blk wr w5.heap.size 69 #[.int .i64 (p : Nat), .int .i64 b.rim, .int .i64 b.core, .int .i64 b.land, .int .i64 b.slow, .int .i64 b.fast, .slice A n c]) ∧ Hid (Below w.heap.size w wr)) (fun _ _ z _ => n - (intOf z).toNat)
      case atStart => exact ⟨0, by omega, rfl, rfl, by go_num, HKV, HBV⟩
      case round =>
        obtain ⟨j, hj, rfl, rfl, rfl, HK2, HB2⟩ := hrel
        obtain ⟨s0, s1, s2, s3, s4, s5, s6⟩ := HK2.out.seven
        have hbd := tgT_bd b P R p j
        have hT : tgT b P R p (j + 1) = if lndI b P R (p + 1 + j) < lndI b P R (tgT b P R p j) then p + 1 + j else tgT b P R p j := rfl
        have HT := Lib.hid hT
        obtain ⟨t, ht⟩ : ∃ t, tgT b P R p j = t := ⟨_, rfl⟩
        rw [ht] at hbd HT ⊢
        replace HT := Lib.hid HT.out
        clear hT
        by_cases hlt : p + 1 + j < n
        · have CL := HLA.out (p + 1 + j) hlt (by omega) wr HB2.out
          obtain ⟨k, hk⟩ : ∃ k, p + 1 + j = k := ⟨_, rfl⟩
          have HKJ : Hid (p + 1 + (j + 1) = k + 1) := Lib.hid (by omega)
          rw [hk] at hlt CL HT ⊢
          obtain ⟨x, hx⟩ : ∃ x, lndI b P R k = x := ⟨_, rfl⟩
          obtain ⟨y, hy⟩ : ∃ y, lndI b P R t = y := ⟨_, rfl⟩
          rw [hx] at CL HT
          rw [hy] at HT ⊢
          replace HT := Lib.hid HT.out
          have CL := Lib.hid CL
          have HX := Lib.hid hx
          have HY := Lib.hid hy
          have HKK := Lib.hid hk
          clear hj hk hx hy ht hbd
          by_cases hxy : x < y
          · have HT1 : Hid (tgT b P R p (j + 1) = k) := Lib.hid (by rw [HT.out, if_pos hxy])
            go_wp2_with fail
            refine CL.out.mono ?_
            rintro e w7 ⟨rfl, hb7⟩
            have HB7 := Lib.hid hb7
            clear hb7
            go_wp2
            go_roundw
            case rel => exact ⟨j + 1, by have := HKJ.out; omega, by rw [HT1.out], by rw [HT1.out, HX.out], by rw [HKJ.out]; go_num, Lib.hid (HK2.out.below HB7.out HK2.out.lt), Lib.hid (HB2.out.trans (HB7.out.mono HB2.out.size))⟩
            case measure => simp [intOf]; omega
          · have HT1 : Hid (tgT b P R p (j + 1) = t) := Lib.hid (by rw [HT.out, if_neg hxy])
            go_wp2_with fail
            refine CL.out.mono ?_
            rintro e w7 ⟨rfl, hb7⟩
            have HB7 := Lib.hid hb7
            clear hb7
            go_wp2
            go_roundw
            case rel => exact ⟨j + 1, by have := HKJ.out; omega, by rw [HT1.out], by rw [HT1.out, HY.out], by rw [HKJ.out]; go_num, Lib.hid (HK2.out.below HB7.out HK2.out.lt), Lib.hid (HB2.out.trans (HB7.out.mono HB2.out.size))⟩
            case measure => simp [intOf]; omega
        · have hA : tgA b P R = t := by rw [HA1.out, ← ht]; congr 1; omega
          have HAA := Lib.hid hA
          obtain rfl : n = p + 1 + j := by omega
          clear hA ht
          go_wp2
          go_ret3
          rw [E1.out, E2.out, E3.out, HAA.out]
          exact ⟨rfl, HB2.out⟩
  · have h1 : (q != 0) = true := by simpa using h0
    have h2 : (q == 0) = false := by simpa using h0
    have H0 := Lib.hid h0
    clear h0
    go_wp2
    go_ret3
    have hne : ¬ erC b P R = 0 := by rw [HQ.out]; exact H0.out
    have e1 : tigE b P R = q := by unfold tigE; rw [if_neg hne]; exact HQ.out
    have e2 : tigA b P R = 0 := by unfold tigA; rw [if_neg hne]
    have e3 : tigV b P R = 0 := by unfold tigV; rw [if_neg hne]
    rw [e1, e2, e3]
    exact ⟨rfl, HBW.out⟩
end Go.Proofs.Ytgdkcbnpgpjnbaa
