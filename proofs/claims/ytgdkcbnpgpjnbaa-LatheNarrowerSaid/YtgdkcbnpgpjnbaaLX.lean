/-
  Contracts of Outermost, Refuse and Fits.
-/
import Derived.Test.YtgdkcbnpgpjnbaaLV
import Derived.Test.YtgdkcbnpgpjnbaaJG
import Derived.Test.YtgdkcbnpgpjnbaaLJ
namespace Go.Proofs.Ytgdkcbnpgpjnbaa
open Go.RowKit

/-- The errors of a blank and a groove. -/
def erL (b : Bk) (P : List Smp) : Int := orL [ckB b, ckG P]
theorem erL_ok {b : Bk} {P : List Smp} (h : erL b P = 0) : BkOk b ∧ PsOk P ∧ P.length ≤ 4096 := by
  have h1 : ckB b = 0 ∧ ckG P = 0 := by
    unfold erL orL at h
    split at h
    · rename_i e
      refine ⟨e, ?_⟩
      unfold orL at h
      split at h
      · assumption
      · exact h
    · rename_i e; exact absurd h e
  refine ⟨bkOk_of (vB_of h1.1), fun p hp => ?_, ?_⟩
  · have h2 := h1.2
    unfold ckG at h2
    split at h2
    · omega
    · split at h2
      · rename_i hv
        unfold vPs at hv
        rw [List.all_eq_true] at hv
        have := hv p hp
        unfold vE win at this
        simp only [Bool.and_eq_true, decide_eq_true_eq] at this
        unfold PtOk; omega
      · omega
  · have h2 := h1.2
    unfold ckG at h2
    split at h2
    · omega
    · omega
def outE (b : Bk) (P : List Smp) : Int := if erL b P = 0 then (match sol b P P.length with | none => 15 | some _ => 0) else erL b P
def outR (b : Bk) (P : List Smp) : List Int := if erL b P = 0 then (match sol b P P.length with | none => [] | some R => R) else []
def refE (b : Bk) (P : List Smp) : Int := if erL b P = 0 then (match sol b P P.length with | none => 0 | some _ => 5) else erL b P
def fitE (b : Bk) (P : List Smp) : Int := erL b P
def fitV (b : Bk) (P : List Smp) : Nat := if erL b P = 0 then fitN b P P.length else 0

set_option maxRecDepth 100000 in
set_option maxHeartbeats 8000000 in
theorem Outermost_any (B : Nat) (A : Option Addr) (n c : Nat) (b : Bk) (P : List Smp) (w : World) (h0 : RS w B A n P) (hB : B ≤ w.heap.size) (hl : n ≤ 9223372036854775807) :
    Calls Try.prog 17 #[.agg #[.int .i64 b.per, .int .i64 b.rim, .int .i64 b.core, .int .i64 b.land, .int .i64 b.slow, .int .i64 b.fast], .slice A n c] w fun e w' => ∃ v E, e = .returned (.tuple #[v, .int .i64 E]) ∧ E = outE b P ∧ w'.ownsRow w.heap.size 2 1 v (outR b P).length (nums (outR b P)) ∧ Below w.heap.size w w' := by
  have HP := Lib.hid (h0.more hB)
  have HN : Hid (n = P.length) := Lib.hid h0.1
  have C1 := Lib.hid (fun W => CheckL_any b W)
  have C2 := Lib.hid (fun (W : World) (h : Below w.heap.size w W) => CheckPoints_any w.heap.size A n c P W (HP.out.below h (Nat.le_refl _)) h.size hl)
  clear h0 hB
  go_enter Try.func17, Try.ntmps17
  go_upto_region 1 with fail
  obtain ⟨W, hW⟩ : ∃ W, w.alloc (.cells #[.int .i64 b.per, .int .i64 b.rim, .int .i64 b.core, .int .i64 b.land, .int .i64 b.slow, .int .i64 b.fast] 23) = W := ⟨_, rfl⟩
  have hb0 : Below w.heap.size w W := by rw [← hW]; exact below_a _ _
  have k0 : Blk W w.heap.size 23 #[.int .i64 b.per, .int .i64 b.rim, .int .i64 b.core, .int .i64 b.land, .int .i64 b.slow, .int .i64 b.fast] := by rw [← hW]; exact Blk.new _ _ _
  rw [hW]
  have HBW := Lib.hid hb0
  have HK := Lib.hid k0
  obtain ⟨c0, c1, c2, c3, c4, c5⟩ := k0.six
  clear hW hb0 k0
  go_wp2_with fail
  refine (C1.out _).mono ?_
  rintro e w1 ⟨rfl, hb1⟩
  replace HK := Lib.hid (HK.out.below hb1 HK.out.lt)
  replace HBW := Lib.hid (HBW.out.trans (hb1.mono HBW.out.size))
  clear hb1 c0 c1 c2 c3 c4 c5
  go_wp2_with fail
  refine (C2.out _ HBW.out).mono ?_
  rintro e w2 ⟨rfl, hb2⟩
  replace HK := Lib.hid (HK.out.below hb2 HK.out.lt)
  replace HBW := Lib.hid (HBW.out.trans (hb2.mono HBW.out.size))
  clear hb2
  go_wp2_with fail
  refine (cmpOr_any (w2.heap.size + 1) _ 2 2 [ckB b, ckG P] _ rfl (reads_cells (Blk.new _ _ _) (by omega) rfl rfl) (by simp) (by omega)).mono ?_
  rintro e w' ⟨rfl, hw'⟩
  obtain ⟨w3, hw3⟩ : ∃ w3, w' = w3 := ⟨_, rfl⟩
  have hb3 : Below w2.heap.size w2 w3 := by rw [← hw3, ← hw']; exact below_a _ _
  replace HK := Lib.hid (HK.out.below hb3 HK.out.lt)
  replace HBW := Lib.hid (HBW.out.trans (hb3.mono HBW.out.size))
  rw [hw3]
  clear hb3 hw' hw3 C1 C2
  obtain ⟨q, hq⟩ : ∃ q, orL [ckB b, ckG P] = q := ⟨_, rfl⟩
  have HQ : Hid (erL b P = q) := Lib.hid hq
  rw [hq]
  clear hq
  obtain ⟨c0, c1, c2, c3, c4, c5⟩ := HK.out.six
  by_cases h0 : q = 0
  · subst h0
    obtain ⟨hb, hOk, hn⟩ := erL_ok HQ.out
    rw [← HN.out] at hn
    have FL := follow_any n c w.heap.size A b P w3 (HP.out.below HBW.out (Nat.le_refl _)) HBW.out.size hn hb hOk
    have HFL := Lib.hid FL
    clear FL hb hOk hn
    go_wp2_with fail
    refine HFL.out.mono ?_
    rintro e w4 ⟨Ar, nr, cr, Ah, nh, ch, Ap, np, cp, F, rfl, hF, hb4⟩
    have HF := Lib.hid hF
    have HBL : Hid (w.heap.size ≤ w3.heap.size) := Lib.hid HBW.out.size
    replace HBW := Lib.hid (HBW.out.trans (hb4.mono HBW.out.size))
    clear hF hb4 HFL c0 c1 c2 c3 c4 c5 HK
    go_upto_region 5 with fail
    obtain ⟨W5, hW5⟩ : ∃ W, w4.alloc (.cells #[.int .i64 b.per, .int .i64 b.rim, .int .i64 b.core, .int .i64 b.land, .int .i64 b.slow, .int .i64 b.fast, .slice A n c, .slice Ar nr cr, .slice Ah nh ch, .int .i64 F, .slice Ap np cp] 71) = W := ⟨_, rfl⟩
    have hb5 : Below w4.heap.size w4 W5 := by rw [← hW5]; exact below_a _ _
    have ke : Blk W5 w4.heap.size 71 #[.int .i64 b.per, .int .i64 b.rim, .int .i64 b.core, .int .i64 b.land, .int .i64 b.slow, .int .i64 b.fast, .slice A n c, .slice Ar nr cr, .slice Ah nh ch, .int .i64 F, .slice Ap np cp] := by rw [← hW5]; exact Blk.new _ _ _
    rw [hW5]
    replace HBW := Lib.hid (HBW.out.trans (hb5.mono HBW.out.size))
    have HB5 := Lib.hid hb5
    obtain ⟨y0, y1, y2, y3, y4, y5, y6, y7, y8, y9, y10⟩ := ke.eleven
    clear hb5 ke hW5
    obtain ⟨S, hS⟩ : ∃ S, sol b P P.length = S := ⟨_, rfl⟩
    have HS := Lib.hid hS
    have hfit := HF.out.fit
    have hsz3 := HBW.out.size
    cases S with
    | none =>
      have hlt : F < (n : Int) := by
        rw [hfit]
        have h1 := fitN_le b P n
        have h2 : fitN b P n ≠ n := fun e => by have h3 := fitN_some b P n; rw [e, HN.out, hS] at h3; cases h3
        omega
      clear hS hfit
      go_wp2
      go_ret2
      exact ⟨_, 15, rfl, by simp [outE, HQ.out, HS.out], by rw [show outR b P = [] by simp [outR, HQ.out, HS.out]]; exact World.ownsRow_nil _ _ _ _, HBW.out⟩
    | some R =>
      have hlt : ¬ F < (n : Int) := by
        rw [hfit, fitN_full (by rw [HN.out, hS]; rfl)]; omega
      clear hS hfit
      go_wp2
      go_ret2
      have hoR : outR b P = R := by simp [outR, HQ.out, HS.out]
      have h := HF.out.full R (by rw [HN.out]; exact HS.out)
      have hl := (sol_some (erL_ok HQ.out).1 HS.out).1.len
      refine ⟨.slice Ar nr cr, 0, rfl, by simp [outE, HQ.out, HS.out], ?_, HBW.out⟩
      rw [hoR, hl, ← HN.out]
      exact own_base_ (own_below h HB5.out) HBL.out
  · have h1 : (q != 0) = true := by simpa using h0
    have h2 : (q == 0) = false := by simpa using h0
    have H0 := Lib.hid h0
    clear h0
    go_wp2
    go_ret2
    exact ⟨_, q, rfl, by simp [outE, HQ.out, H0.out], by rw [show outR b P = [] by simp [outR, HQ.out, H0.out]]; exact World.ownsRow_nil _ _ _ _, HBW.out⟩

set_option maxRecDepth 100000 in
set_option maxHeartbeats 8000000 in
theorem Refuse_any (B : Nat) (A : Option Addr) (n c : Nat) (b : Bk) (P : List Smp) (w : World) (h0 : RS w B A n P) (hB : B ≤ w.heap.size) (hl : n ≤ 9223372036854775807) :
    Calls Try.prog 24 #[.agg #[.int .i64 b.per, .int .i64 b.rim, .int .i64 b.core, .int .i64 b.land, .int .i64 b.slow, .int .i64 b.fast], .slice A n c] w fun e w' => ∃ v E l, e = .returned (.tuple #[v, .int .i64 E]) ∧ E = refE b P ∧ (E = 0 → PrfOk b P n l) ∧ (E ≠ 0 → l = []) ∧ w'.ownsRow w.heap.size 52 2 v l.length (smpCells l) ∧ Below w.heap.size w w' := by
  have HP := Lib.hid (h0.more hB)
  have HN : Hid (n = P.length) := Lib.hid h0.1
  have C1 := Lib.hid (fun W => CheckL_any b W)
  have C2 := Lib.hid (fun (W : World) (h : Below w.heap.size w W) => CheckPoints_any w.heap.size A n c P W (HP.out.below h (Nat.le_refl _)) h.size hl)
  clear h0 hB
  go_enter Try.func24, Try.ntmps24
  go_upto_region 1 with fail
  obtain ⟨W, hW⟩ : ∃ W, w.alloc (.cells #[.int .i64 b.per, .int .i64 b.rim, .int .i64 b.core, .int .i64 b.land, .int .i64 b.slow, .int .i64 b.fast] 23) = W := ⟨_, rfl⟩
  have hb0 : Below w.heap.size w W := by rw [← hW]; exact below_a _ _
  have k0 : Blk W w.heap.size 23 #[.int .i64 b.per, .int .i64 b.rim, .int .i64 b.core, .int .i64 b.land, .int .i64 b.slow, .int .i64 b.fast] := by rw [← hW]; exact Blk.new _ _ _
  rw [hW]
  have HBW := Lib.hid hb0
  have HK := Lib.hid k0
  obtain ⟨c0, c1, c2, c3, c4, c5⟩ := k0.six
  clear hW hb0 k0
  go_wp2_with fail
  refine (C1.out _).mono ?_
  rintro e w1 ⟨rfl, hb1⟩
  replace HK := Lib.hid (HK.out.below hb1 HK.out.lt)
  replace HBW := Lib.hid (HBW.out.trans (hb1.mono HBW.out.size))
  clear hb1 c0 c1 c2 c3 c4 c5
  go_wp2_with fail
  refine (C2.out _ HBW.out).mono ?_
  rintro e w2 ⟨rfl, hb2⟩
  replace HK := Lib.hid (HK.out.below hb2 HK.out.lt)
  replace HBW := Lib.hid (HBW.out.trans (hb2.mono HBW.out.size))
  clear hb2
  go_wp2_with fail
  refine (cmpOr_any (w2.heap.size + 1) _ 2 2 [ckB b, ckG P] _ rfl (reads_cells (Blk.new _ _ _) (by omega) rfl rfl) (by simp) (by omega)).mono ?_
  rintro e w' ⟨rfl, hw'⟩
  obtain ⟨w3, hw3⟩ : ∃ w3, w' = w3 := ⟨_, rfl⟩
  have hb3 : Below w2.heap.size w2 w3 := by rw [← hw3, ← hw']; exact below_a _ _
  replace HK := Lib.hid (HK.out.below hb3 HK.out.lt)
  replace HBW := Lib.hid (HBW.out.trans (hb3.mono HBW.out.size))
  rw [hw3]
  clear hb3 hw' hw3 C1 C2
  obtain ⟨q, hq⟩ : ∃ q, orL [ckB b, ckG P] = q := ⟨_, rfl⟩
  have HQ : Hid (erL b P = q) := Lib.hid hq
  rw [hq]
  clear hq
  obtain ⟨c0, c1, c2, c3, c4, c5⟩ := HK.out.six
  by_cases h0 : q = 0
  · subst h0
    obtain ⟨hb, hOk, hn⟩ := erL_ok HQ.out
    rw [← HN.out] at hn
    have FL := follow_any n c w.heap.size A b P w3 (HP.out.below HBW.out (Nat.le_refl _)) HBW.out.size hn hb hOk
    have HFL := Lib.hid FL
    clear FL hb hOk hn
    go_wp2_with fail
    refine HFL.out.mono ?_
    rintro e w4 ⟨Ar, nr, cr, Ah, nh, ch, Ap, np, cp, F, rfl, hF, hb4⟩
    have HF := Lib.hid hF
    have HBL : Hid (w.heap.size ≤ w3.heap.size) := Lib.hid HBW.out.size
    replace HBW := Lib.hid (HBW.out.trans (hb4.mono HBW.out.size))
    clear hF hb4 HFL c0 c1 c2 c3 c4 c5 HK
    go_upto_region 5 with fail
    obtain ⟨W5, hW5⟩ : ∃ W, w4.alloc (.cells #[.int .i64 b.per, .int .i64 b.rim, .int .i64 b.core, .int .i64 b.land, .int .i64 b.slow, .int .i64 b.fast, .slice A n c, .slice Ar nr cr, .slice Ah nh ch, .int .i64 F, .slice Ap np cp] 71) = W := ⟨_, rfl⟩
    have hb5 : Below w4.heap.size w4 W5 := by rw [← hW5]; exact below_a _ _
    have ke : Blk W5 w4.heap.size 71 #[.int .i64 b.per, .int .i64 b.rim, .int .i64 b.core, .int .i64 b.land, .int .i64 b.slow, .int .i64 b.fast, .slice A n c, .slice Ar nr cr, .slice Ah nh ch, .int .i64 F, .slice Ap np cp] := by rw [← hW5]; exact Blk.new _ _ _
    rw [hW5]
    replace HBW := Lib.hid (HBW.out.trans (hb5.mono HBW.out.size))
    have HB5 := Lib.hid hb5
    obtain ⟨y0, y1, y2, y3, y4, y5, y6, y7, y8, y9, y10⟩ := ke.eleven
    clear hb5 ke hW5
    obtain ⟨S, hS⟩ : ∃ S, sol b P P.length = S := ⟨_, rfl⟩
    have HS := Lib.hid hS
    have hfit := HF.out.fit
    have hsz3 := HBW.out.size
    cases S with
    | none =>
      have hne : (F == (n : Int)) = false := by
        have h1 : F < (n : Int) := by
          rw [hfit]
          have h1 := fitN_le b P n
          have h2 : fitN b P n ≠ n := fun e => by have h3 := fitN_some b P n; rw [e, HN.out, hS] at h3; cases h3
          omega
        simp; omega
      have hlt : F < (n : Int) := by
        rw [hfit]
        have h1 := fitN_le b P n
        have h2 : fitN b P n ≠ n := fun e => by have h3 := fitN_some b P n; rw [e, HN.out, hS] at h3; cases h3
        omega
      clear hS hfit
      go_wp2
      go_ret2
      obtain ⟨l, hpr, ho⟩ := HF.out.prf (by rw [HN.out]; exact HS.out)
      refine ⟨.slice Ap np cp, 0, l, rfl, by simp [refE, HQ.out, HS.out], fun _ => hpr, fun h => ?_, ?_, HBW.out⟩
      · exact absurd rfl h
      · exact own_base_ (own_below ho HB5.out) HBL.out
    | some R =>
      have hfn : F = (n : Int) := by rw [hfit, fitN_full (by rw [HN.out, hS]; rfl)]
      have hne : (F == (n : Int)) = true := by simp [hfn]
      subst hfn
      clear hS hfit
      go_wp2
      go_ret2
      exact ⟨.slice none 0 0, 5, [], rfl, by simp [refE, HQ.out, HS.out], fun h => absurd h (by decide), fun _ => rfl, World.ownsRow_nil _ _ _ _, HBW.out⟩
  · have h1 : (q != 0) = true := by simpa using h0
    have h2 : (q == 0) = false := by simpa using h0
    have H0 := Lib.hid h0
    clear h0
    go_wp2
    go_ret2
    exact ⟨.slice none 0 0, q, [], rfl, by simp [refE, HQ.out, H0.out], fun h => absurd h H0.out, fun _ => rfl, World.ownsRow_nil _ _ _ _, HBW.out⟩

theorem field_four (x0 x1 x2 x3 x4 x5 x6 x7 x8 x9 x10 : Value) (w : World) : Sem.run Try.prog (Instr.field 71 (.agg #[x0, x1, x2, x3, x4, x5, x6, x7, x8, x9, x10]) 3) w = .ok x9 w := by
  simp [Instr.field, go_sem, asAgg]

set_option maxRecDepth 100000 in
set_option maxHeartbeats 8000000 in
theorem Fits_any (B : Nat) (A : Option Addr) (n c : Nat) (b : Bk) (P : List Smp) (w : World) (h0 : RS w B A n P) (hB : B ≤ w.heap.size) (hl : n ≤ 9223372036854775807) :
    Calls Try.prog 31 #[.agg #[.int .i64 b.per, .int .i64 b.rim, .int .i64 b.core, .int .i64 b.land, .int .i64 b.slow, .int .i64 b.fast], .slice A n c] w fun e w' => e = .returned (.tuple #[.int .i64 (fitV b P : Nat), .int .i64 (fitE b P)]) ∧ Below w.heap.size w w' := by
  have HP := Lib.hid (h0.more hB)
  have HN : Hid (n = P.length) := Lib.hid h0.1
  have C1 := Lib.hid (fun W => CheckL_any b W)
  have C2 := Lib.hid (fun (W : World) (h : Below w.heap.size w W) => CheckPoints_any w.heap.size A n c P W (HP.out.below h (Nat.le_refl _)) h.size hl)
  clear h0 hB
  go_enter Try.func31, Try.ntmps31
  go_upto_region 1 with fail
  obtain ⟨W, hW⟩ : ∃ W, w.alloc (.cells #[.int .i64 b.per, .int .i64 b.rim, .int .i64 b.core, .int .i64 b.land, .int .i64 b.slow, .int .i64 b.fast] 23) = W := ⟨_, rfl⟩
  have hb0 : Below w.heap.size w W := by rw [← hW]; exact below_a _ _
  have k0 : Blk W w.heap.size 23 #[.int .i64 b.per, .int .i64 b.rim, .int .i64 b.core, .int .i64 b.land, .int .i64 b.slow, .int .i64 b.fast] := by rw [← hW]; exact Blk.new _ _ _
  rw [hW]
  have HBW := Lib.hid hb0
  have HK := Lib.hid k0
  obtain ⟨c0, c1, c2, c3, c4, c5⟩ := k0.six
  clear hW hb0 k0
  go_wp2_with fail
  refine (C1.out _).mono ?_
  rintro e w1 ⟨rfl, hb1⟩
  replace HK := Lib.hid (HK.out.below hb1 HK.out.lt)
  replace HBW := Lib.hid (HBW.out.trans (hb1.mono HBW.out.size))
  clear hb1 c0 c1 c2 c3 c4 c5
  go_wp2_with fail
  refine (C2.out _ HBW.out).mono ?_
  rintro e w2 ⟨rfl, hb2⟩
  replace HK := Lib.hid (HK.out.below hb2 HK.out.lt)
  replace HBW := Lib.hid (HBW.out.trans (hb2.mono HBW.out.size))
  clear hb2
  go_wp2_with fail
  refine (cmpOr_any (w2.heap.size + 1) _ 2 2 [ckB b, ckG P] _ rfl (reads_cells (Blk.new _ _ _) (by omega) rfl rfl) (by simp) (by omega)).mono ?_
  rintro e w' ⟨rfl, hw'⟩
  obtain ⟨w3, hw3⟩ : ∃ w3, w' = w3 := ⟨_, rfl⟩
  have hb3 : Below w2.heap.size w2 w3 := by rw [← hw3, ← hw']; exact below_a _ _
  replace HK := Lib.hid (HK.out.below hb3 HK.out.lt)
  replace HBW := Lib.hid (HBW.out.trans (hb3.mono HBW.out.size))
  rw [hw3]
  clear hb3 hw' hw3 C1 C2
  obtain ⟨q, hq⟩ : ∃ q, orL [ckB b, ckG P] = q := ⟨_, rfl⟩
  have HQ : Hid (erL b P = q) := Lib.hid hq
  rw [hq]
  clear hq
  obtain ⟨c0, c1, c2, c3, c4, c5⟩ := HK.out.six
  by_cases h0 : q = 0
  · subst h0
    obtain ⟨hb, hOk, hn⟩ := erL_ok HQ.out
    rw [← HN.out] at hn
    have FL := follow_any n c w.heap.size A b P w3 (HP.out.below HBW.out (Nat.le_refl _)) HBW.out.size hn hb hOk
    have HFL := Lib.hid FL
    clear FL hb hOk hn
    go_wp2_with fail
    refine HFL.out.mono ?_
    rintro e w4 ⟨Ar, nr, cr, Ah, nh, ch, Ap, np, cp, F, rfl, hF, hb4⟩
    have HF := Lib.hid hF
    have HBL : Hid (w.heap.size ≤ w3.heap.size) := Lib.hid HBW.out.size
    replace HBW := Lib.hid (HBW.out.trans (hb4.mono HBW.out.size))
    clear hF hb4 HFL c0 c1 c2 c3 c4 c5 HK
    have hfit := HF.out.fit
    have HFT := Lib.hid hfit
    clear hfit
    go_wp2_with fail
    rw [field_four]
    go_wp2
    go_ret2
    have e1 : fitV b P = fitN b P n := by
      unfold fitV; rw [if_pos HQ.out, HN.out]
    have e2 : fitE b P = 0 := HQ.out
    rw [e1, e2, ← HFT.out]
    exact ⟨rfl, HBW.out⟩
  · have h1 : (q != 0) = true := by simpa using h0
    have h2 : (q == 0) = false := by simpa using h0
    have H0 := Lib.hid h0
    clear h0
    go_wp2
    go_ret2
    exact ⟨by rw [show fitV b P = 0 by simp [fitV, HQ.out, H0.out], show fitE b P = q from HQ.out]; rfl, HBW.out⟩
end Go.Proofs.Ytgdkcbnpgpjnbaa
