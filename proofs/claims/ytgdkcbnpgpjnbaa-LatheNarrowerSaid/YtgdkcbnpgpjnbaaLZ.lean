/-
  Contracts of Land, Locked and Tightest.
-/
import Derived.Test.YtgdkcbnpgpjnbaaLX
import Derived.Test.YtgdkcbnpgpjnbaaLY
namespace Go.Proofs.Ytgdkcbnpgpjnbaa
open Go.RowKit

/-- The errors of a blank, a groove and a cut. -/
def erC (b : Bk) (P : List Smp) (R : List Int) : Int := orL [ckB b, ckG P, ckR P.length R]
def erH (b : Bk) (P : List Smp) (R : List Int) (half : Int) : Int := orL [ckB b, ckG P, ckR P.length R, ckHf half]
theorem orL_cons {x : Int} {l : List Int} (h : orL (x :: l) = 0) : x = 0 ∧ orL l = 0 := by
  unfold orL at h
  split at h
  · rename_i e; exact ⟨e, h⟩
  · rename_i e; exact absurd h e
theorem orL_of {x : Int} {l : List Int} (h : x = 0) : orL (x :: l) = orL l := by
  rw [orL, if_pos h]
structure CutIs (b : Bk) (P : List Smp) (R : List Int) : Prop where
  bk : BkOk b
  ps : PsOk P
  n : P.length ≤ 4096
  len : R.length = P.length
  rs : RsOk R
  in_ : ∀ r ∈ R, -16777216 ≤ r ∧ r ≤ 16777216
theorem erC_ok {b : Bk} {P : List Smp} {R : List Int} (h : erC b P R = 0) : CutIs b P R := by
  unfold erC at h
  obtain ⟨h1, h⟩ := orL_cons h
  obtain ⟨h2, h⟩ := orL_cons h
  obtain ⟨h3, h⟩ := orL_cons h
  obtain ⟨k1, k2, k3⟩ := erL_ok (b := b) (P := P) (by unfold erL; rw [orL_of h1, orL_of h2]; rfl)
  obtain ⟨r1, r2⟩ := ckR_ok h3
  exact ⟨k1, k2, k3, r1, fun x hx => by have := r2 x hx; omega, r2⟩
theorem erH_ok {b : Bk} {P : List Smp} {R : List Int} {half : Int} (h : erH b P R half = 0) : CutIs b P R ∧ 1 ≤ half ∧ half ≤ 4096 := by
  unfold erH at h
  obtain ⟨h1, h⟩ := orL_cons h
  obtain ⟨h2, h⟩ := orL_cons h
  obtain ⟨h3, h⟩ := orL_cons h
  obtain ⟨h4, h⟩ := orL_cons h
  refine ⟨erC_ok (by unfold erC; rw [orL_of h1, orL_of h2, orL_of h3]; rfl), ?_⟩
  unfold ckHf at h4
  split at h4
  · rename_i hv
    unfold win at hv
    simp only [Bool.and_eq_true, decide_eq_true_eq] at hv
    exact hv
  · omega
def lanE (b : Bk) (P : List Smp) (R : List Int) (i : Int) : Int := if erC b P R = 0 then (if i < b.per ∨ (P.length : Int) ≤ i then 3 else 0) else erC b P R
def lanV (b : Bk) (P : List Smp) (R : List Int) (i : Int) : Int := if erC b P R = 0 then (if i < b.per ∨ (P.length : Int) ≤ i then 0 else lndI b P R i.toNat) else 0

set_option maxRecDepth 100000 in
set_option maxHeartbeats 8000000 in
theorem Land_any (B : Nat) (A AR : Option Addr) (n c m d : Nat) (b : Bk) (P : List Smp) (R : List Int) (i : Int) (w : World) (h0 : RS w B A n P) (h1 : LI w B AR m R) (hB : B ≤ w.heap.size) (hl : n ≤ 9223372036854775807) (hl' : m ≤ 9223372036854775807) :
    Calls Try.prog 27 #[.agg #[.int .i64 b.per, .int .i64 b.rim, .int .i64 b.core, .int .i64 b.land, .int .i64 b.slow, .int .i64 b.fast], .slice A n c, .slice AR m d, .int .i64 i] w fun e w' => e = .returned (.tuple #[.int .i64 (lanV b P R i), .int .i64 (lanE b P R i)]) ∧ Below w.heap.size w w' := by
  have HP := Lib.hid (h0.more hB)
  have HR := Lib.hid (h1.more hB)
  have HN := Lib.hid h0.1
  have C1 := Lib.hid (fun W => CheckL_any b W)
  have C2 := Lib.hid (fun (W : World) (h : Below w.heap.size w W) => CheckPoints_any w.heap.size A n c P W (HP.out.below h (Nat.le_refl _)) h.size hl)
  have C3 := Lib.hid (fun (W : World) (h : Below w.heap.size w W) => checkCut_any A AR n c m d R W ((HR.out.below h (Nat.le_refl _)).more h.size) hl hl')
  clear h0 h1 hB
  go_enter Try.func27, Try.ntmps27
  go_upto_region 1 with fail
  obtain ⟨W, hW⟩ : ∃ W, w.alloc (.cells #[.int .i64 b.per, .int .i64 b.rim, .int .i64 b.core, .int .i64 b.land, .int .i64 b.slow, .int .i64 b.fast] 23) = W := ⟨_, rfl⟩
  have hb0 : Below w.heap.size w W := by rw [← hW]; exact below_a _ _
  have k0 : Blk W w.heap.size 23 #[.int .i64 b.per, .int .i64 b.rim, .int .i64 b.core, .int .i64 b.land, .int .i64 b.slow, .int .i64 b.fast] := by rw [← hW]; exact Blk.new _ _ _
  rw [hW]
  have HBW := Lib.hid hb0
  have HK := Lib.hid k0
  obtain ⟨c0, c1, c2, c3, c4, c5⟩ := k0.six
  clear hW hb0 k0
  go_wp2_with fail
  refine (C1.out _).mono ?_
  rintro e w1 ⟨rfl, hb1⟩
  replace HK := Lib.hid (HK.out.below hb1 HK.out.lt)
  replace HBW := Lib.hid (HBW.out.trans (hb1.mono HBW.out.size))
  clear hb1 c0 c1 c2 c3 c4 c5
  go_wp2_with fail
  refine (C2.out _ HBW.out).mono ?_
  rintro e w2 ⟨rfl, hb1⟩
  replace HK := Lib.hid (HK.out.below hb1 HK.out.lt)
  replace HBW := Lib.hid (HBW.out.trans (hb1.mono HBW.out.size))
  clear hb1
  go_wp2_with fail
  refine (C3.out _ HBW.out).mono ?_
  rintro e w3 ⟨rfl, hb1⟩
  replace HK := Lib.hid (HK.out.below hb1 HK.out.lt)
  replace HBW := Lib.hid (HBW.out.trans (hb1.mono HBW.out.size))
  clear hb1
  go_wp2_with fail
  refine (cmpOr_any (w3.heap.size + 1) _ 3 3 [ckB b, ckG P, ckR n R] _ rfl (reads_cells (Blk.new _ _ _) (by omega) rfl rfl) (by simp) (by omega)).mono ?_
  rintro e w' ⟨rfl, hw'⟩
  obtain ⟨w5, hw5⟩ : ∃ w5, w' = w5 := ⟨_, rfl⟩
  have hb3 : Below w3.heap.size w3 w5 := by rw [← hw5, ← hw']; exact below_a _ _
  replace HK := Lib.hid (HK.out.below hb3 HK.out.lt)
  replace HBW := Lib.hid (HBW.out.trans (hb3.mono HBW.out.size))
  rw [hw5]
  clear hb3 hw' hw5 C1 C2 C3
  obtain ⟨q, hq⟩ : ∃ q, orL [ckB b, ckG P, ckR n R] = q := ⟨_, rfl⟩
  have HQ : Hid (erC b P R = q) := Lib.hid (by rw [← hq, HN.out]; rfl)
  rw [hq]
  clear hq
  obtain ⟨c0, c1, c2, c3, c4, c5⟩ := HK.out.six
  by_cases h0 : q = 0
  · subst h0
    have CI := Lib.hid (erC_ok HQ.out)
    have p1 := CI.out.bk.per1
    have p2 := CI.out.bk.per2
    by_cases hi1 : i < b.per
    · have e1 : lanE b P R i = 3 := by unfold lanE; rw [if_pos HQ.out, if_pos (.inl hi1)]
      have e2 : lanV b P R i = 0 := by unfold lanV; rw [if_pos HQ.out, if_pos (.inl hi1)]
      have E1 := Lib.hid e1
      have E2 := Lib.hid e2
      clear e1 e2
      go_wp2
      go_ret2
      rw [E1.out, E2.out]
      exact ⟨rfl, HBW.out⟩
    · by_cases hi2 : (n : Int) ≤ i
      · have hi3 : (P.length : Int) ≤ i := by rw [← HN.out]; exact hi2
        have e1 : lanE b P R i = 3 := by unfold lanE; rw [if_pos HQ.out, if_pos (.inr hi3)]
        have e2 : lanV b P R i = 0 := by unfold lanV; rw [if_pos HQ.out, if_pos (.inr hi3)]
        have E1 := Lib.hid e1
        have E2 := Lib.hid e2
        clear e1 e2
        go_wp2
        go_ret2
        rw [E1.out, E2.out]
        exact ⟨rfl, HBW.out⟩
      · have hi3 : ¬ (P.length : Int) ≤ i := by rw [← HN.out]; exact hi2
        have e1 : lanE b P R i = 0 := by unfold lanE; rw [if_pos HQ.out, if_neg (by omega)]
        have e2 : lanV b P R i = lndI b P R i.toNat := by unfold lanV; rw [if_pos HQ.out, if_neg (by omega)]
        have E1 := Lib.hid e1
        have E2 := Lib.hid e2
        obtain ⟨j, rfl⟩ : ∃ j : Nat, i = (j : Int) := ⟨i.toNat, by omega⟩
        have hm : m = n := by rw [HR.out.1, CI.out.len, ← HN.out]
        have hn : n ≤ 1000000 := by have := CI.out.n; rw [← HN.out] at this; omega
        have CL := land_any w.heap.size A AR n c m d b P R j w5 (HP.out.below HBW.out (Nat.le_refl _)) (HR.out.below HBW.out (Nat.le_refl _)) HBW.out.size hn (by omega) (by omega) CI.out.bk CI.out.ps CI.out.rs (by omega)
        have CL := Lib.hid CL
        clear e1 e2 hi3 hm hn
        go_wp2_with fail
        refine CL.out.mono ?_
        rintro e w6 ⟨rfl, hb6⟩
        have HB6 := Lib.hid hb6
        clear hb6
        go_wp2
        go_ret2
        rw [E1.out, E2.out, show (j : Int).toNat = j from rfl]
        exact ⟨rfl, HBW.out.trans (HB6.out.mono HBW.out.size)⟩
  · have h1 : (q != 0) = true := by simpa using h0
    have h2 : (q == 0) = false := by simpa using h0
    have H0 := Lib.hid h0
    clear h0
    go_wp2
    go_ret2
    have e1 : lanE b P R i = q := by unfold lanE; rw [if_neg (by rw [HQ.out]; exact H0.out)]; exact HQ.out
    have e2 : lanV b P R i = 0 := by unfold lanV; rw [if_neg (by rw [HQ.out]; exact H0.out)]
    rw [e1, e2]
    exact ⟨rfl, HBW.out⟩

/-- The least outer edge of the last turn, as the search finds it from a sample on. -/
def lkTo (b : Bk) (P : List Smp) (R : List Int) (s : Nat) : Nat → Int
  | 0 => b.rim
  | j + 1 => min (lkTo b P R s j) (fx R (s + j) + pin P (s + j) - b.land)
def lkS (b : Bk) (n : Nat) : Nat := n - b.per.toNat
def lkM (b : Bk) (P : List Smp) (R : List Int) : Int := lkTo b P R (lkS b P.length) (P.length - lkS b P.length)
theorem lkTo_bd {b : Bk} {P : List Smp} {R : List Int} (hb : BkOk b) (hP : PsOk P) (hR : RsOk R) (s j : Nat) : -100000000 ≤ lkTo b P R s j ∧ lkTo b P R s j ≤ 4194304 := by
  induction j with
  | zero => have := hb.rim; have := hb.core; have := hb.corim; unfold lkTo; omega
  | succ j ih =>
    have := hP.at_ (s + j)
    have := hR.fx (s + j)
    have := hb.land1; have := hb.land2
    unfold lkTo; omega
def locE (b : Bk) (P : List Smp) (R : List Int) (half : Int) : Int := if erH b P R half = 0 then (if P.length = 0 then 5 else if lkM b P R - 2 * half < 0 then 15 else 0) else erH b P R half
def locV (b : Bk) (P : List Smp) (R : List Int) (half : Int) : Int := if erH b P R half = 0 then (if P.length = 0 then 0 else if lkM b P R - 2 * half < 0 then 0 else lkM b P R - half) else 0

set_option maxRecDepth 100000 in
set_option maxHeartbeats 8000000 in
theorem Locked_any (B : Nat) (A AR : Option Addr) (n c m d : Nat) (b : Bk) (P : List Smp) (R : List Int) (half : Int) (w : World) (h0 : RS w B A n P) (h1 : LI w B AR m R) (hB : B ≤ w.heap.size) (hl : n ≤ 9223372036854775807) (hl' : m ≤ 9223372036854775807) :
    Calls Try.prog 33 #[.agg #[.int .i64 b.per, .int .i64 b.rim, .int .i64 b.core, .int .i64 b.land, .int .i64 b.slow, .int .i64 b.fast], .slice A n c, .slice AR m d, .int .i64 half] w fun e w' => e = .returned (.tuple #[.int .i64 (locV b P R half), .int .i64 (locE b P R half)]) ∧ Below w.heap.size w w' := by
  have HP := Lib.hid (h0.more hB)
  have HR := Lib.hid (h1.more hB)
  have HN := Lib.hid h0.1
  have C1 := Lib.hid (fun W => CheckL_any b W)
  have C2 := Lib.hid (fun (W : World) (h : Below w.heap.size w W) => CheckPoints_any w.heap.size A n c P W (HP.out.below h (Nat.le_refl _)) h.size hl)
  have C3 := Lib.hid (fun (W : World) (h : Below w.heap.size w W) => checkCut_any A AR n c m d R W ((HR.out.below h (Nat.le_refl _)).more h.size) hl hl')
  clear h0 h1 hB
  go_enter Try.func33, Try.ntmps33
  go_upto_region 1 with fail
  obtain ⟨W, hW⟩ : ∃ W, w.alloc (.cells #[.int .i64 b.per, .int .i64 b.rim, .int .i64 b.core, .int .i64 b.land, .int .i64 b.slow, .int .i64 b.fast] 23) = W := ⟨_, rfl⟩
  have hb0 : Below w.heap.size w W := by rw [← hW]; exact below_a _ _
  have k0 : Blk W w.heap.size 23 #[.int .i64 b.per, .int .i64 b.rim, .int .i64 b.core, .int .i64 b.land, .int .i64 b.slow, .int .i64 b.fast] := by rw [← hW]; exact Blk.new _ _ _
  rw [hW]
  have HBW := Lib.hid hb0
  have HK := Lib.hid k0
  obtain ⟨c0, c1, c2, c3, c4, c5⟩ := k0.six
  clear hW hb0 k0
  go_wp2_with fail
  refine (C1.out _).mono ?_
  rintro e w1 ⟨rfl, hb1⟩
  replace HK := Lib.hid (HK.out.below hb1 HK.out.lt)
  replace HBW := Lib.hid (HBW.out.trans (hb1.mono HBW.out.size))
  clear hb1 c0 c1 c2 c3 c4 c5
  go_wp2_with fail
  refine (C2.out _ HBW.out).mono ?_
  rintro e w2 ⟨rfl, hb1⟩
  replace HK := Lib.hid (HK.out.below hb1 HK.out.lt)
  replace HBW := Lib.hid (HBW.out.trans (hb1.mono HBW.out.size))
  clear hb1
  go_wp2_with fail
  refine (C3.out _ HBW.out).mono ?_
  rintro e w3 ⟨rfl, hb1⟩
  replace HK := Lib.hid (HK.out.below hb1 HK.out.lt)
  replace HBW := Lib.hid (HBW.out.trans (hb1.mono HBW.out.size))
  clear hb1
  go_wp2_with fail
  refine (checkHalf_any half _).mono ?_
  rintro e w4 ⟨rfl, rfl⟩
  go_wp2_with fail
  refine (cmpOr_any (w3.heap.size + 1) _ 4 4 [ckB b, ckG P, ckR n R, ckHf half] _ rfl (reads_cells (Blk.new _ _ _) (by omega) rfl rfl) (by simp) (by omega)).mono ?_
  rintro e w' ⟨rfl, hw'⟩
  obtain ⟨w5, hw5⟩ : ∃ w5, w' = w5 := ⟨_, rfl⟩
  have hb3 : Below w3.heap.size w3 w5 := by rw [← hw5, ← hw']; exact below_a _ _
  replace HK := Lib.hid (HK.out.below hb3 HK.out.lt)
  replace HBW := Lib.hid (HBW.out.trans (hb3.mono HBW.out.size))
  rw [hw5]
  clear hb3 hw' hw5 C1 C2 C3
  obtain ⟨q, hq⟩ : ∃ q, orL [ckB b, ckG P, ckR n R, ckHf half] = q := ⟨_, rfl⟩
  have HQ : Hid (erH b P R half = q) := Lib.hid (by rw [← hq, HN.out]; rfl)
  rw [hq]
  clear hq
  obtain ⟨c0, c1, c2, c3, c4, c5⟩ := HK.out.six
  by_cases h0 : q = 0
  · subst h0
    have CI := Lib.hid (erH_ok HQ.out)
    have p1 := CI.out.1.bk.per1
    have p2 := CI.out.1.bk.per2
    by_cases hn0 : n = 0
    · have hi3 : P.length = 0 := by rw [← HN.out]; exact hn0
      have E1 : Hid (locE b P R half = 5) := Lib.hid (by unfold locE; rw [if_pos HQ.out, if_pos hi3])
      have E2 : Hid (locV b P R half = 0) := Lib.hid (by unfold locV; rw [if_pos HQ.out, if_pos hi3])
      subst hn0
      clear hi3
      go_wp2
      go_ret2
      rw [E1.out, E2.out]
      exact ⟨rfl, HBW.out⟩
    · have hn1 : ((n : Int) == 0) = false := by simp; omega
      have hn4 : n ≤ 4096 := by have := CI.out.1.n; rw [← HN.out] at this; exact this
      obtain ⟨s, hs⟩ : ∃ s, lkS b n = s := ⟨_, rfl⟩
      have hsm : IntKind.i64.wrap ((n : Int) - b.per) = (n : Int) - b.per := IntWalk.i64_in _ (by omega)
      have hsx : max (0 : Int) ((n : Int) - b.per) = (s : Int) := by rw [← hs]; unfold lkS; omega
      have hsn : s ≤ n := by rw [← hs]; unfold lkS; omega
      have HS := Lib.hid hs
      clear hs
      have CI2 := Lib.hid CI.out.1
      obtain ⟨hh1, hh2⟩ := CI.out.2
      go_wp2_with fail
      all_goals
        clear hsm
        go_loopw [11, 12] (fun v z wr => ∃ j : Nat, s + j ≤ n ∧ v = .int .i64 (lkTo b P R s j) ∧ z = .int .i64 ((s + j : Nat) : Int) ∧ Hid (Blk wr w.heap.size 23 #[.int .i64 b.per, .int .i64 b.rim, .int .i64 b.core, .int .i64 b.land, .int .i64 b.slow, .int .i64 b.fast]) ∧ Hid (Below w.heap.size w wr)) (fun _ z _ => n - (intOf z).toNat)
        case atStart => exact ⟨0, by omega, rfl, by congr 1; omega, HK, HBW⟩
        case round =>
          obtain ⟨j, hj, rfl, rfl, HK2, HB2⟩ := hrel
          clear c0 c1 c2 c3 c4 c5 HK HBW
          obtain ⟨c0, c1, c2, c3, c4, c5⟩ := HK2.out.six
          have hbd := lkTo_bd CI2.out.bk CI2.out.ps CI2.out.rs s j
          have hsz := HB2.out.size
          by_cases hlt : s + j < n
          · obtain ⟨v0, hv0⟩ : ∃ v0, lkTo b P R s j = v0 := ⟨_, rfl⟩
            have HV : Hid (lkTo b P R s (j + 1) = min v0 (fx R (s + j) + pin P (s + j) - b.land)) := Lib.hid (by rw [← hv0]; rfl)
            rw [hv0] at hbd ⊢
            have hm : m = n := by rw [HR.out.1, CI2.out.len, ← HN.out]
            obtain ⟨ad, hA, -, g1, g2⟩ := (HP.out.below HB2.out (Nat.le_refl _)).pt hlt
            obtain ⟨ad', hA', -, g3⟩ := (HR.out.below HB2.out (Nat.le_refl _)).fx (k := s + j) (by omega)
            subst hA hA'
            have HSJ := Lib.hid hj
            obtain ⟨q5, q6⟩ := CI2.out.rs.fx (s + j)
            obtain ⟨q1, q2, -, -⟩ := CI2.out.ps.at_ (s + j)
            have q7 := CI2.out.bk.land1
            have q8 := CI2.out.bk.land2
            obtain ⟨k, hk⟩ : ∃ k, s + j = k := ⟨_, rfl⟩
            rw [hk] at hlt g1 g2 g3 HV q1 q2 q5 q6 ⊢
            have hk1 : s + (j + 1) = k + 1 := by omega
            have HJ := Lib.hid hk1
            have hkm : k < m := by omega
            clear hj hv0 hm hk hk1 hsx hsz hsn hn0 hn1
            go_wp2_with fail
            go_quiet (fail)
            obtain ⟨v1, hv1⟩ : ∃ v1, (if fx R k + pin P k - b.land < v0 then fx R k + pin P k - b.land else v0) = v1 := ⟨_, rfl⟩
            have HV1 : Hid (lkTo b P R s (j + 1) = v1) := Lib.hid (by rw [HV.out, ← hv1]; split <;> omega)
            rw [hv1]
            clear hv1
            go_wp2
            go_roundw
            case rel => exact ⟨j + 1, by have := HJ.out; omega, by rw [HV1.out], by rw [HJ.out]; go_num, Lib.hid (HK2.out.below (below_drewN_ (Below.refl wr.heap.size wr) nq) HK2.out.lt), Lib.hid (below_drewN_ HB2.out nq)⟩
            case measure => simp [intOf]; omega
          · obtain rfl : n = s + j := by omega
            have hm : lkM b P R = lkTo b P R s j := by
              unfold lkM
              rw [← HN.out, HS.out]
              congr 1; omega
            obtain ⟨v0, hv0⟩ : ∃ v0, lkTo b P R s j = v0 := ⟨_, rfl⟩
            rw [hv0] at hbd hm ⊢
            have hP0 : ¬ P.length = 0 := by rw [← HN.out]; exact hn0
            have HM := Lib.hid hm
            clear hm hv0
            by_cases hneg : v0 - 2 * half < 0
            · have E1 : Hid (locE b P R half = 15) := Lib.hid (by unfold locE; rw [if_pos HQ.out, if_neg hP0, HM.out, if_pos hneg])
              have E2 : Hid (locV b P R half = 0) := Lib.hid (by unfold locV; rw [if_pos HQ.out, if_neg hP0, HM.out, if_pos hneg])
              go_wp2
              go_ret2
              rw [E1.out, E2.out]
              exact ⟨rfl, HB2.out⟩
            · have E1 : Hid (locE b P R half = 0) := Lib.hid (by unfold locE; rw [if_pos HQ.out, if_neg hP0, HM.out, if_neg hneg])
              have E2 : Hid (locV b P R half = v0 - half) := Lib.hid (by unfold locV; rw [if_pos HQ.out, if_neg hP0, HM.out, if_neg hneg])
              go_wp2
              go_ret2
              rw [E1.out, E2.out]
              exact ⟨rfl, HB2.out⟩
  · have h1 : (q != 0) = true := by simpa using h0
    have h2 : (q == 0) = false := by simpa using h0
    have H0 := Lib.hid h0
    clear h0
    go_wp2
    go_ret2
    have e1 : locE b P R half = q := by unfold locE; rw [if_neg (by rw [HQ.out]; exact H0.out)]; exact HQ.out
    have e2 : locV b P R half = 0 := by unfold locV; rw [if_neg (by rw [HQ.out]; exact H0.out)]
    rw [e1, e2]
    exact ⟨rfl, HBW.out⟩
end Go.Proofs.Ytgdkcbnpgpjnbaa
