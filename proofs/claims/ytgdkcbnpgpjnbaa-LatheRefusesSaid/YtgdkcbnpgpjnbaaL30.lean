/-
  Contracts of the document's outermost, Outermost and Fits.
-/
import Derived.Test.YtgdkcbnpgpjnbaaL29
import Derived.Test.YtgdkcbnpgpjnbaaL26
import Derived.Test.YtgdkcbnpgpjnbaaL8
namespace Go.Proofs.Ytgdkcbnpgpjnbaa
open Go.RowKit

def lnK (n : Nat) : Bool := decide (40 < n ∧ n ≤ 4096 ∨ 4100 < n)
set_option maxHeartbeats 1000000 in
theorem long5K_any (n : Nat) (w : World) : Calls Try.prog 15 #[.int .i64 n] w fun e w' => e = .returned (.bool (lnK n)) ∧ w = w' := by
  by_cases h1 : 40 < n <;> by_cases h2 : n ≤ 4096 <;> by_cases h3 : 4100 < n
  all_goals
    have k1 : (n : Int) > 40 ↔ 40 < n := by omega
    have k2 : (n : Int) ≤ 4096 ↔ n ≤ 4096 := by omega
    have k3 : (n : Int) > 4100 ↔ 4100 < n := by omega
    go_enter Try.func15, Try.ntmps15
    go_wp2
    go_ret
    exact ⟨ret_b (by simp [lnK, h1, h2, h3]), rfl⟩
theorem gbd_mono {n q q' : Nat} {S : List Int} (h : GBd n q S) (hq : q ≤ q') : GBd n q' S := fun j hj => by have := h j hj; omega
theorem grt_bd {b : Bk} {P : List Smp} {n : Nat} (hb : BkOk b) (hP : PsOk P) : ∀ (m q : Nat) (R S : List Int), R.length = n → GBd n q R → grt b P n m R = some S → GBd n (q + m * n) S
  | 0, _, _, _, _, _, h => by cases h
  | m + 1, q, R, S, hl, hg, h => by
    rw [grt] at h
    have hs := gbd_swp hb hP hl hg n (Nat.le_refl _)
    have he : (m + 1) * n = m * n + n := Nat.succ_mul m n
    split at h
    · exact gbd_mono (grt_bd hb hP m (q + n) _ S (by rw [swp_len]; exact hl) hs h) (by omega)
    · cases h
      exact gbd_mono hs (by omega)
set_option maxHeartbeats 4000000 in
theorem KeptCore_any (B : Nat) (A A' : Option Addr) (n c n' c' : Nat) (b : Bk) (P : List Smp) (R : List Int) (i : Nat) (w : World) (h0 : RS w B A n P) (h1 : LI w B A' n' R) (hB : B ≤ w.heap.size) (hi : i < n) (hi' : i < n') (hb : BkOk b) (hP : PsOk P) (hr1 : -1000000000000000 ≤ fx R i) (hr2 : fx R i ≤ 1000000000000000) :
    Calls Try.prog 49 #[.agg #[.int .i64 b.per, .int .i64 b.rim, .int .i64 b.core, .int .i64 b.land, .int .i64 b.slow, .int .i64 b.fast], .slice A n c, .slice A' n' c', .int .i64 i, .int .i64 2] w fun e w' => e = .returned (.bool (decide (b.core ≤ fx R i + pin P i))) ∧ Below w.heap.size w w' := by
  have H := Lib.hid (h0.more hB)
  have H' := Lib.hid (h1.more hB)
  have p1 := hb.per1
  have p2 := hb.per2
  have p3 := hb.core
  have p4 := hb.corim
  have p5 := hb.rim
  obtain ⟨ad, hA, -, -, -⟩ := H.out.pt hi
  obtain ⟨ad', hA', -, -⟩ := H'.out.fx hi'
  obtain ⟨q1, q2, q3, q4⟩ := hP.at_ i
  subst hA hA'
  clear h0 h1 hB hb
  go_enter Try.func49, Try.ntmps49
  go_upto_region 1 with fail
  obtain ⟨W, hW⟩ : ∃ W, w.alloc (.cells #[.int .i64 b.per, .int .i64 b.rim, .int .i64 b.core, .int .i64 b.land, .int .i64 b.slow, .int .i64 b.fast] 23) = W := ⟨_, rfl⟩
  have hb0 : Below w.heap.size w W := by rw [← hW]; exact (Below.refl _ _).alloc (Nat.le_refl _) _
  have k0 : Blk W w.heap.size 23 #[.int .i64 b.per, .int .i64 b.rim, .int .i64 b.core, .int .i64 b.land, .int .i64 b.slow, .int .i64 b.fast] := by rw [← hW]; exact Blk.new _ _ _
  rw [hW]
  clear hW
  have HBW := Lib.hid hb0
  replace H := Lib.hid (H.out.below hb0 (Nat.le_refl _))
  replace H' := Lib.hid (H'.out.below hb0 (Nat.le_refl _))
  obtain ⟨s0, s1, s2, s3, s4, s5⟩ := k0.six
  clear k0 hb0
  obtain ⟨adA, hA, -, g1, g2⟩ := H.out.pt hi
  cases hA
  obtain ⟨adB, hA', -, g3⟩ := H'.out.fx hi'
  cases hA'
  go_wp2_with fail
  go_quiet (fail)
  go_wp2
  go_ret
  exact ⟨rfl, by first | exact HBW.out | exact HBW.out.drew | exact below_drewN_ HBW.out _⟩

set_option maxRecDepth 100000 in
set_option maxHeartbeats 8000000 in
theorem refoutermost_any (B : Nat) (A : Option Addr) (n c : Nat) (b : Bk) (P : List Smp) (w : World) (h0 : RS w B A n P) (hB : B ≤ w.heap.size) (hn : n ≤ 4096) (hb : BkOk b) (hP : PsOk P) :
    Calls Try.prog 42 #[.agg #[.int .i64 b.per, .int .i64 b.rim, .int .i64 b.core, .int .i64 b.land, .int .i64 b.slow, .int .i64 b.fast], .slice A n c] w fun e w' => ∃ v, e = .returned (.tuple #[v, .bool (sol b P n).isSome]) ∧ w'.ownsRow w.heap.size 2 1 v ((sol b P n).getD []).length (nums ((sol b P n).getD [])) ∧ Below w.heap.size w w' := by
  have HP := Lib.hid (h0.more hB)
  have HN := Lib.hid h0.1
  clear h0 hB
  go_enter Try.func42, Try.ntmps42
  go_upto_region 1 with fail
  obtain ⟨w0, hW⟩ : ∃ W, w.alloc (.cells #[.int .i64 b.per, .int .i64 b.rim, .int .i64 b.core, .int .i64 b.land, .int .i64 b.slow, .int .i64 b.fast] 23) = W := ⟨_, rfl⟩
  have hb0 : Below w.heap.size w w0 := by rw [← hW]; exact below_a _ _
  have k0 : Blk w0 w.heap.size 23 #[.int .i64 b.per, .int .i64 b.rim, .int .i64 b.core, .int .i64 b.land, .int .i64 b.slow, .int .i64 b.fast] := by rw [← hW]; exact Blk.new _ _ _
  rw [hW]
  have HB := Lib.hid hb0
  have HSZ := Lib.hid hb0.size
  have HK := Lib.hid k0
  obtain ⟨c0, c1, c2, c3, c4, c5⟩ := k0.six
  clear hW hb0 k0
  have HOK := Lib.hid (And.intro hb hP)
  have HRO : Hid ((match grtO b P n with | none => none | some R => if coresB b P R then some R else none) = sol b P n) := Lib.hid (refOut_eq hb n)
  have HGB : Hid (∀ R, grtO b P n = some R → GBd n 16785408 R) := Lib.hid (fun R h => gbd_mono (grt_bd hb hP (n + 2) 0 _ R (rim0_len b P n) (gbd_rim hb hP n) h) (by
    have : (n + 2) * n ≤ 4098 * 4096 := Nat.mul_le_mul (by omega) hn
    omega))
  have HRL : Hid (∀ R, grtO b P n = some R → R.length = n) := Lib.hid (fun R h => ((grt_spec hb n).1 R h).2.2)
  clear hb hP
  go_wp2_with fail
  have CALL := greatest_any w.heap.size A n c b P w0 (HP.out.below HB.out (Nat.le_refl _)) HB.out.size hn HOK.out.1 HOK.out.2
  refine CALL.mono ?_
  rintro e w1 ⟨v, rfl, ho, hb⟩
  clear CALL
  replace HK := Lib.hid (HK.out.below hb HK.out.lt)
  replace HB := Lib.hid (HB.out.trans (hb.mono HB.out.size))
  clear hb c0 c1 c2 c3 c4 c5
  obtain ⟨c0, c1, c2, c3, c4, c5⟩ := HK.out.six
  cases hg : grtO b P n with
  | none =>
    rw [hg] at HRO
    have HS : Hid (sol b P n = none) := Lib.hid HRO.out.symm
    clear hg ho HRO HRL HGB
    go_wp2_with fail
    go_ret2
    rw [HS.out]
    exact ⟨_, rfl, World.ownsRow_nil _ _ _ _, HB.out⟩
  | some R =>
    have hl := HRL.out R hg
    have HBD := Lib.hid (HGB.out R hg)
    rw [hg] at HRO ho
    have ho' : w1.ownsRow w0.heap.size 2 1 v n (nums R) := by have h : ((some R : Option (List Int)).getD []).length = n := hl; rw [h] at ho; exact ho
    obtain ⟨Ar, kr, rfl, hR⟩ := li_own ho'
    have HR := Lib.hid hR
    have HO := Lib.hid ho'
    have HL := Lib.hid hl
    clear hg ho ho' hR hl HRL HGB
    have HRO : Hid ((if coresB b P R then some R else none) = sol b P n) := Lib.hid HRO.out
    go_wp2_with fail
    go_loopw [8] (fun z wr => ∃ i : Nat, i ≤ n ∧ z = .int .i64 i ∧ Hid (Below w1.heap.size w1 wr) ∧ Hid (∀ j, j < i → b.core ≤ fx R j + pin P j)) (fun z _ => n - (intOf z).toNat)
    case atStart => exact ⟨0, Nat.zero_le _, rfl, Lib.hid (Below.refl _ _), Lib.hid (fun j hj => by omega)⟩
    case round =>
      obtain ⟨i, hi, rfl, HB2, HA⟩ := hrel
      clear c0 c1 c2 c3 c4 c5
      obtain ⟨c0, c1, c2, c3, c4, c5⟩ := (HK.out.below HB2.out HK.out.lt).six
      have HB3 := Lib.hid (HB.out.trans (HB2.out.mono HB.out.size))
      by_cases hlt : i < n
      · have hip : i < P.length := by rw [← HN.out]; exact hlt
        have HKB := Lib.hid (keptB_core (b := b) (R := R) hip)
        have hbd := HBD.out i hlt
        have KEPT := KeptCore_any wr.heap.size A Ar n c n kr b P R i wr ((HP.out.below HB3.out (Nat.le_refl _)).more HB3.out.size) ((HR.out.below HB2.out (Nat.le_refl _)).more HB2.out.size) (Nat.le_refl _) hlt hlt HOK.out.1 HOK.out.2 (by omega) (by omega)
        have HKP := Lib.hid KEPT
        clear KEPT HKB hip hbd
        by_cases hc : b.core ≤ fx R i + pin P i
        · rw [decide_eq_true hc] at HKP
          have HA2 : Hid (∀ j, j < i + 1 → b.core ≤ fx R j + pin P j) := Lib.hid (fun j hj => by
            rcases Nat.lt_or_ge j i with h | h
            · exact HA.out j h
            · rw [show j = i by omega]; exact hc)
          clear hc
          go_wp2_with fail
          refine HKP.out.mono ?_
          rintro e w2 ⟨rfl, hb⟩
          replace HB2 := Lib.hid (HB2.out.trans (hb.mono HB2.out.size))
          go_wp2_with fail
          go_roundw
          case rel => exact ⟨i + 1, by omega, by go_num, HB2, HA2⟩
          case measure => simp [intOf]; omega
        · rw [decide_eq_false hc] at HKP
          have HS : Hid (sol b P n = none) := Lib.hid (by
            rw [← HRO.out, if_neg]
            intro h
            unfold coresB at h
            rw [List.all_eq_true] at h
            have := h i (List.mem_range.2 (by rw [HL.out]; exact hlt))
            exact hc (by simpa using this))
          clear hc
          go_wp2_with fail
          refine HKP.out.mono ?_
          rintro e w2 ⟨rfl, hb⟩
          replace HB3 := Lib.hid (HB3.out.trans (hb.mono HB3.out.size))
          go_wp2_with fail
          go_ret2
          rw [HS.out]
          exact ⟨_, rfl, World.ownsRow_nil _ _ _ _, HB3.out⟩
      · obtain rfl : n = i := by omega
        have HS : Hid (sol b P n = some R) := Lib.hid (by
          rw [← HRO.out, if_pos]
          unfold coresB
          rw [List.all_eq_true]
          intro j hj
          rw [List.mem_range, HL.out] at hj
          simpa using HA.out j hj)
        go_wp2_with fail
        go_ret2
        rw [HS.out]
        exact ⟨_, rfl, by rw [show ((some R : Option (List Int)).getD []).length = n from HL.out]; exact own_base_ (own_below HO.out HB2.out) (by have := HB.out; exact HSZ.out), HB3.out⟩

set_option maxRecDepth 100000 in
set_option maxHeartbeats 8000000 in
theorem refOutermost_any (B : Nat) (A : Option Addr) (n c : Nat) (b : Bk) (P : List Smp) (w : World) (h0 : RS w B A n P) (hB : B ≤ w.heap.size) (hl : n ≤ 9223372036854775807) :
    Calls Try.prog 18 #[.agg #[.int .i64 b.per, .int .i64 b.rim, .int .i64 b.core, .int .i64 b.land, .int .i64 b.slow, .int .i64 b.fast], .slice A n c] w fun e w' => ∃ v E, e = .returned (.tuple #[v, .int .i64 E]) ∧ E = outE b P ∧ w'.ownsRow w.heap.size 2 1 v (outR b P).length (nums (outR b P)) ∧ Below w.heap.size w w' := by
  have HP := Lib.hid (h0.more hB)
  have HN := Lib.hid h0.1
  clear h0 hB
  go_enter Try.func18, Try.ntmps18
  go_upto_region 1 with fail
  obtain ⟨w0, hW⟩ : ∃ W, w.alloc (.cells #[.int .i64 b.per, .int .i64 b.rim, .int .i64 b.core, .int .i64 b.land, .int .i64 b.slow, .int .i64 b.fast] 23) = W := ⟨_, rfl⟩
  have hb0 : Below w.heap.size w w0 := by rw [← hW]; exact below_a _ _
  have k0 : Blk w0 w.heap.size 23 #[.int .i64 b.per, .int .i64 b.rim, .int .i64 b.core, .int .i64 b.land, .int .i64 b.slow, .int .i64 b.fast] := by rw [← hW]; exact Blk.new _ _ _
  rw [hW]
  have HB := Lib.hid hb0
  have HSZ := Lib.hid hb0.size
  have HK := Lib.hid k0
  obtain ⟨c0, c1, c2, c3, c4, c5⟩ := k0.six
  clear hW hb0 k0
  have CB := Lib.hid (fun (W : World) (h : Below w.heap.size w W) => refboth_any w.heap.size A n c b P W (HP.out.below h (Nat.le_refl _)) h.size hl)
  obtain ⟨q, hq⟩ : ∃ q, erL b P = q := ⟨_, rfl⟩
  rw [hq] at CB
  have HQ := Lib.hid hq
  replace CB := Lib.hid CB.out
  clear hq
  by_cases h0 : q = 0
  · subst h0
    obtain ⟨hb, hOk, hn⟩ := erL_ok HQ.out
    have HX := Lib.hid (And.intro hb hOk)
    have hn' : n ≤ 4096 := by rw [HN.out]; exact hn
    clear hb hOk hn
    go_wp2_with fail
    refine (CB.out _ HB.out).mono ?_
    rintro e w1 ⟨rfl, hb⟩
    replace HK := Lib.hid (HK.out.below hb HK.out.lt)
    replace HB := Lib.hid (HB.out.trans (hb.mono HB.out.size))
    clear hb c0 c1 c2 c3 c4 c5
    obtain ⟨c0, c1, c2, c3, c4, c5⟩ := HK.out.six
    go_wp2_with fail
    have CALL := refoutermost_any w.heap.size A n c b P w1 (HP.out.below HB.out (Nat.le_refl _)) HB.out.size hn' HX.out.1 HX.out.2
    refine CALL.mono ?_
    rintro e w2 ⟨v, rfl, ho, hb⟩
    clear CALL
    have hbs := HB.out.size
    replace HK := Lib.hid (HK.out.below hb HK.out.lt)
    replace HB := Lib.hid (HB.out.trans (hb.mono HB.out.size))
    clear hb c0 c1 c2 c3 c4 c5
    obtain ⟨c0, c1, c2, c3, c4, c5⟩ := HK.out.six
    cases hs : sol b P n with
    | none =>
      have HS : Hid (outE b P = 15 ∧ outR b P = []) := Lib.hid (by unfold outE outR; rw [if_pos HQ.out, if_pos HQ.out, ← HN.out, hs]; exact ⟨rfl, rfl⟩)
      clear hs ho
      go_wp2_with fail
      go_ret2
      exact ⟨_, _, rfl, HS.out.1.symm, by rw [HS.out.2]; exact World.ownsRow_nil _ _ _ _, HB.out⟩
    | some R =>
      have HS : Hid (outE b P = 0 ∧ outR b P = R) := Lib.hid (by unfold outE outR; rw [if_pos HQ.out, if_pos HQ.out, ← HN.out, hs]; exact ⟨rfl, rfl⟩)
      rw [hs] at ho
      have HO : Hid (w2.ownsRow w1.heap.size 2 1 v R.length (nums R)) := Lib.hid ho
      clear hs ho
      go_wp2_with fail
      go_ret2
      exact ⟨_, _, rfl, HS.out.1.symm, by rw [HS.out.2]; exact own_base_ HO.out hbs, HB.out⟩
  · have h1 : (q != 0) = true := by simpa using h0
    have HS : Hid (outE b P = q ∧ outR b P = []) := Lib.hid (by unfold outE outR; rw [if_neg (by rw [HQ.out]; exact h0), if_neg (by rw [HQ.out]; exact h0)]; exact ⟨HQ.out, rfl⟩)
    clear h0
    go_wp2_with fail
    refine (CB.out _ HB.out).mono ?_
    rintro e w1 ⟨rfl, hb⟩
    replace HK := Lib.hid (HK.out.below hb HK.out.lt)
    replace HB := Lib.hid (HB.out.trans (hb.mono HB.out.size))
    clear hb c0 c1 c2 c3 c4 c5
    obtain ⟨c0, c1, c2, c3, c4, c5⟩ := HK.out.six
    go_wp2_with fail
    refine (CB.out _ HB.out).mono ?_
    rintro e w2 ⟨rfl, hb⟩
    replace HK := Lib.hid (HK.out.below hb HK.out.lt)
    replace HB := Lib.hid (HB.out.trans (hb.mono HB.out.size))
    clear hb c0 c1 c2 c3 c4 c5
    obtain ⟨c0, c1, c2, c3, c4, c5⟩ := HK.out.six
    go_wp2
    go_ret2
    exact ⟨_, _, rfl, HS.out.1.symm, by rw [HS.out.2]; exact World.ownsRow_nil _ _ _ _, HB.out⟩

set_option maxRecDepth 100000 in
set_option maxHeartbeats 8000000 in
theorem refFits_any (B : Nat) (A : Option Addr) (n c : Nat) (b : Bk) (P : List Smp) (w : World) (h0 : RS w B A n P) (hB : B ≤ w.heap.size) (hl : n ≤ 9223372036854775807) (hnc : n ≤ c) :
    Calls Try.prog 32 #[.agg #[.int .i64 b.per, .int .i64 b.rim, .int .i64 b.core, .int .i64 b.land, .int .i64 b.slow, .int .i64 b.fast], .slice A n c] w fun e w' => e = .returned (.tuple #[.int .i64 (fitV b P : Nat), .int .i64 (fitE b P)]) ∧ Below w.heap.size w w' := by
  have HP := Lib.hid (h0.more hB)
  have HN := Lib.hid h0.1
  clear h0 hB
  go_enter Try.func32, Try.ntmps32
  go_upto_region 1 with fail
  obtain ⟨w0, hW⟩ : ∃ W, w.alloc (.cells #[.int .i64 b.per, .int .i64 b.rim, .int .i64 b.core, .int .i64 b.land, .int .i64 b.slow, .int .i64 b.fast] 23) = W := ⟨_, rfl⟩
  have hb0 : Below w.heap.size w w0 := by rw [← hW]; exact below_a _ _
  have k0 : Blk w0 w.heap.size 23 #[.int .i64 b.per, .int .i64 b.rim, .int .i64 b.core, .int .i64 b.land, .int .i64 b.slow, .int .i64 b.fast] := by rw [← hW]; exact Blk.new _ _ _
  rw [hW]
  have HB := Lib.hid hb0
  have HSZ := Lib.hid hb0.size
  have HK := Lib.hid k0
  obtain ⟨c0, c1, c2, c3, c4, c5⟩ := k0.six
  clear hW hb0 k0
  have CB := Lib.hid (fun (W : World) (h : Below w.heap.size w W) => refboth_any w.heap.size A n c b P W (HP.out.below h (Nat.le_refl _)) h.size hl)
  obtain ⟨q, hq⟩ : ∃ q, erL b P = q := ⟨_, rfl⟩
  rw [hq] at CB
  have HQ := Lib.hid hq
  replace CB := Lib.hid CB.out
  clear hq
  by_cases h0 : q = 0
  · subst h0
    obtain ⟨hb, hOk, hn⟩ := erL_ok HQ.out
    have HX := Lib.hid (And.intro hb hOk)
    have hn' : n ≤ 4096 := by rw [HN.out]; exact hn
    have HE : Hid (fitE b P = 0 ∧ fitV b P = fitN b P n) := Lib.hid ⟨HQ.out, by unfold fitV; rw [if_pos HQ.out, HN.out]⟩
    clear hb hOk hn
    go_wp2_with fail
    refine (CB.out _ HB.out).mono ?_
    rintro e w1 ⟨rfl, hb⟩
    replace HK := Lib.hid (HK.out.below hb HK.out.lt)
    replace HB := Lib.hid (HB.out.trans (hb.mono HB.out.size))
    clear hb c0 c1 c2 c3 c4 c5
    obtain ⟨c0, c1, c2, c3, c4, c5⟩ := HK.out.six
    go_wp2_with fail
    obtain ⟨ws, hws⟩ : ∃ W, w1 = W := ⟨_, rfl⟩
    rw [hws] at HK HB c0 c1 c2 c3 c4 c5 ⊢
    clear hws
    go_loopw [6] (fun z wr => ∃ k : Nat, k ≤ n ∧ z = .int .i64 k ∧ Hid ((sol b P k).isSome = true) ∧ Hid (Blk wr w.heap.size 23 #[.int .i64 b.per, .int .i64 b.rim, .int .i64 b.core, .int .i64 b.land, .int .i64 b.slow, .int .i64 b.fast]) ∧ Hid (Below w.heap.size w wr)) (fun z _ => n - (intOf z).toNat)
    case atStart => exact ⟨0, Nat.zero_le _, rfl, Lib.hid rfl, HK, HB⟩
    case round =>
      clear c0 c1 c2 c3 c4 c5 HK HB
      obtain ⟨k, hk, rfl, HSK, HK, HB⟩ := hrel
      obtain ⟨c0, c1, c2, c3, c4, c5⟩ := HK.out.six
      by_cases hlt : k < n
      · obtain ⟨k1, hk1⟩ : ∃ x, k + 1 = x := ⟨_, rfl⟩
        have HK1 := Lib.hid hk1
        have hk1n : k1 ≤ n := by omega
        have f1 : IntKind.i64.wrap ((k : Int) + 1) = (k1 : Int) := by rw [show (k : Int) + 1 = (k1 : Int) by omega]; exact IntWalk.i64_in _ (by omega)
        have sk := fun W => pts_to A k1 n c (by omega) W
        have HPT : Hid (PsOk (P.take k1) ∧ sol b (P.take k1) k1 = sol b P k1) := Lib.hid ⟨fun p hp => HX.out.2 p (List.mem_of_mem_take hp), sol_take HX.out.1⟩
        clear hk1
        go_wp2_with fail
        refine wp_region_held_drew (S := fun w' => w'.cell? ⟨w.heap.size, 0, none⟩ = some (.int .i64 b.per) ∧ w'.cell? ⟨w.heap.size, 1, none⟩ = some (.int .i64 b.rim) ∧ w'.cell? ⟨w.heap.size, 2, none⟩ = some (.int .i64 b.core) ∧ w'.cell? ⟨w.heap.size, 3, none⟩ = some (.int .i64 b.land) ∧ w'.cell? ⟨w.heap.size, 4, none⟩ = some (.int .i64 b.slow) ∧ w'.cell? ⟨w.heap.size, 5, none⟩ = some (.int .i64 b.fast)) (by kernel_rfl) ⟨c0, c1, c2, c3, c4, c5⟩ (fun hHeld => ?_)
        obtain ⟨wd, hwd⟩ : ∃ wd, wr.drew = wd := ⟨_, rfl⟩
        have hb : Below wr.heap.size wr wd := by rw [← hwd]; exact (Below.refl _ _).drew
        rw [hwd] at hHeld ⊢
        clear hwd
        replace HK := Lib.hid (HK.out.below hb HK.out.lt)
        replace HB := Lib.hid (HB.out.trans (hb.mono HB.out.size))
        clear hb c0 c1 c2 c3 c4 c5
        obtain ⟨c0, c1, c2, c3, c4, c5⟩ := HK.out.six
        refine wpAnyH_take (i := 0) (oi := { dst := some 21, op := Go.Op.load 23 (Go.Operand.tmp 2), type := 23, pos := "ref.go:229", after := #[], guard := none }) (v := ?vt1001) rfl (by kernel_rfl) (by kernel_rfl) (by kernel_rfl) (fun _ _ _ h => h) (Or.inl ⟨by rfl, ?ht1001⟩) hHeld ?_
        case ht1001 => intro w hSw; obtain ⟨s1, s2, s3, s4, s5, s6⟩ := hSw; go_simp; try with_reducible rfl
        simp only [Act.put, List.setIfInBounds_toArray, List.set_cons_zero, List.set_cons_succ]
        refine wpAnyH_take (i := 1) (oi := { dst := some 22, op := Go.Op.move (Go.Operand.tmp 1), type := 24, pos := "ref.go:229", after := #[], guard := none }) (v := ?vt1002) rfl (by kernel_rfl) (by kernel_rfl) (by kernel_rfl) (fun _ _ _ h => h) (Or.inl ⟨by rfl, ?ht1002⟩) hHeld ?_
        case ht1002 => intro w hSw; obtain ⟨s1, s2, s3, s4, s5, s6⟩ := hSw; go_simp; try with_reducible rfl
        simp only [Act.put, List.setIfInBounds_toArray, List.set_cons_zero, List.set_cons_succ]
        refine wpAnyH_take (i := 2) (oi := { dst := some 23, op := Go.Op.move (Go.Operand.tmp 6), type := 3, pos := "ref.go:229", after := #[], guard := none }) (v := ?vt1003) rfl (by kernel_rfl) (by kernel_rfl) (by kernel_rfl) (fun _ _ _ h => h) (Or.inl ⟨by rfl, ?ht1003⟩) hHeld ?_
        case ht1003 => intro w hSw; obtain ⟨s1, s2, s3, s4, s5, s6⟩ := hSw; go_simp; try with_reducible rfl
        simp only [Act.put, List.setIfInBounds_toArray, List.set_cons_zero, List.set_cons_succ]
        refine wpAnyH_take (i := 3) (oi := { dst := some 24, op := Go.Op.binOp Go.BinOp.add 3 (Go.Operand.tmp 23) (Go.Operand.const (Go.Value.int Go.IntKind.i64 1)) 3, type := 3, pos := "ref.go:229", after := #[{ on := 2, ground := Go.Ground.data }], guard := none }) (v := ?vt1004) rfl (by kernel_rfl) (by kernel_rfl) (by kernel_rfl) (fun _ _ _ h => h) (Or.inl ⟨by rfl, ?ht1004⟩) hHeld ?_
        case ht1004 => intro w hSw; obtain ⟨s1, s2, s3, s4, s5, s6⟩ := hSw; go_simp; try with_reducible rfl
        simp only [Act.put, List.setIfInBounds_toArray, List.set_cons_zero, List.set_cons_succ]
        refine wpAnyH_take (i := 4) (oi := { dst := some 25, op := Go.Op.slice 24 (Go.Operand.tmp 22) none (some (Go.Operand.tmp 24)) none, type := 24, pos := "ref.go:229", after := #[{ on := 1, ground := Go.Ground.data }, { on := 3, ground := Go.Ground.data }], guard := none }) (v := ?vt1005) rfl (by kernel_rfl) (by kernel_rfl) (by kernel_rfl) (fun _ _ _ h => h) (Or.inl ⟨by rfl, ?ht1005⟩) hHeld ?_
        case ht1005 => intro w hSw; obtain ⟨s1, s2, s3, s4, s5, s6⟩ := hSw; go_simp; try with_reducible rfl
        simp only [Act.put, List.setIfInBounds_toArray, List.set_cons_zero, List.set_cons_succ]
        refine wpAnyH_ready (rs := [5]) (by kernel_rfl) (by simp) ?_
        refine AllReadyH.cons rfl (fun K hK => ?_) AllReadyH.nil
        go_simp
        have CALL := refoutermost_any w.heap.size A k1 c b (P.take k1) wd ((HP.out.below HB.out (Nat.le_refl _)).take k1 hk1n) HB.out.size (by omega) HX.out.1 HPT.out.1
        rw [HPT.out.2] at CALL
        refine CALL.mono ?_
        rintro e w4 ⟨v, rfl, -, hb⟩
        clear CALL
        replace HK := Lib.hid (HK.out.below hb HK.out.lt)
        replace HB := Lib.hid (HB.out.trans (hb.mono HB.out.size))
        clear hb c0 c1 c2 c3 c4 c5
        obtain ⟨c0, c1, c2, c3, c4, c5⟩ := HK.out.six
        refine hK.out _ _ ?_ (fun hH1006 => ?_)
        · exact ⟨c0, c1, c2, c3, c4, c5⟩
        clear hK K
        refine wpAnyH_take (i := 6) (oi := { dst := some 20, op := Go.Op.move (Go.Operand.tmp 26), type := 74, pos := "ref.go:229", after := #[{ on := 5, ground := Go.Ground.data }], guard := none }) (v := ?vt1007) rfl (by kernel_rfl) (by kernel_rfl) (by kernel_rfl) (fun _ _ _ h => h) (Or.inl ⟨by rfl, ?ht1007⟩) hH1006 ?_
        case ht1007 => intro w hSw; obtain ⟨s1, s2, s3, s4, s5, s6⟩ := hSw; go_simp; try with_reducible rfl
        simp only [Act.put, List.setIfInBounds_toArray, List.set_cons_zero, List.set_cons_succ]
        refine wpAnyH_take (i := 7) (oi := { dst := some 27, op := Go.Op.extract (Go.Operand.tmp 20) 0, type := 25, pos := "ref.go:229", after := #[{ on := 6, ground := Go.Ground.data }], guard := none }) (v := ?vt1008) rfl (by kernel_rfl) (by kernel_rfl) (by kernel_rfl) (fun _ _ _ h => h) (Or.inl ⟨by rfl, ?ht1008⟩) hH1006 ?_
        case ht1008 => intro w hSw; obtain ⟨s1, s2, s3, s4, s5, s6⟩ := hSw; go_simp; try with_reducible rfl
        simp only [Act.put, List.setIfInBounds_toArray, List.set_cons_zero, List.set_cons_succ]
        refine wpAnyH_take (i := 8) (oi := { dst := some 28, op := Go.Op.extract (Go.Operand.tmp 20) 1, type := 4, pos := "ref.go:229", after := #[{ on := 6, ground := Go.Ground.data }, { on := 9, ground := Go.Ground.gcOnly Go.Departure.lateStores }], guard := none }) (v := ?vt1009) rfl (by kernel_rfl) (by kernel_rfl) (by kernel_rfl) (fun _ _ _ h => h) (Or.inl ⟨by rfl, ?ht1009⟩) hH1006 ?_
        case ht1009 => intro w hSw; obtain ⟨s1, s2, s3, s4, s5, s6⟩ := hSw; go_simp; try with_reducible rfl
        simp only [Act.put, List.setIfInBounds_toArray, List.set_cons_zero, List.set_cons_succ]
        refine wpAnyH_take (i := 9) (oi := { dst := some 7, op := Go.Op.assign (Go.Operand.tmp 27), type := 25, pos := "ref.go:229", after := #[{ on := 7, ground := Go.Ground.data }, { on := 5, ground := Go.Ground.chain }, { on := 0, ground := Go.Ground.phase }, { on := 1, ground := Go.Ground.phase }, { on := 2, ground := Go.Ground.phase }, { on := 3, ground := Go.Ground.phase }, { on := 4, ground := Go.Ground.phase }, { on := 5, ground := Go.Ground.phase }, { on := 6, ground := Go.Ground.phase }, { on := 7, ground := Go.Ground.phase }, { on := 8, ground := Go.Ground.textOnly Go.Departure.lateStores }], guard := none }) (v := ?vt1010) rfl (by kernel_rfl) (by kernel_rfl) (by kernel_rfl) (fun _ _ _ h => h) (Or.inl ⟨by rfl, ?ht1010⟩) hH1006 ?_
        case ht1010 => intro w hSw; obtain ⟨s1, s2, s3, s4, s5, s6⟩ := hSw; go_simp; try with_reducible rfl
        simp only [Act.put, List.setIfInBounds_toArray, List.set_cons_zero, List.set_cons_succ]
        refine wpAnyH_take (i := 10) (oi := { dst := some 8, op := Go.Op.assign (Go.Operand.tmp 28), type := 4, pos := "ref.go:229", after := #[{ on := 8, ground := Go.Ground.data }, { on := 9, ground := Go.Ground.chain }, { on := 0, ground := Go.Ground.phase }, { on := 1, ground := Go.Ground.phase }, { on := 2, ground := Go.Ground.phase }, { on := 3, ground := Go.Ground.phase }, { on := 4, ground := Go.Ground.phase }, { on := 5, ground := Go.Ground.phase }, { on := 6, ground := Go.Ground.phase }, { on := 7, ground := Go.Ground.phase }, { on := 8, ground := Go.Ground.phase }, { on := 9, ground := Go.Ground.phase }], guard := none }) (v := ?vt1011) rfl (by kernel_rfl) (by kernel_rfl) (by kernel_rfl) (fun _ _ _ h => h) (Or.inl ⟨by rfl, ?ht1011⟩) hH1006 ?_
        case ht1011 => intro w hSw; obtain ⟨s1, s2, s3, s4, s5, s6⟩ := hSw; go_simp; try with_reducible rfl
        simp only [Act.put, List.setIfInBounds_toArray, List.set_cons_zero, List.set_cons_succ]
        refine wpAnyH_done (by kernel_rfl) ?_ _
        cases hs : sol b P k1 with
        | none =>
          have HF : Hid (fitN b P n = k) := Lib.hid (fitN_eq HSK.out (by rw [HK1.out]; exact hs) n hlt)
          clear hs
          go_wp2_with fail
          go_ret2
          rw [HE.out.1, HE.out.2, HF.out]
          exact ⟨rfl, HB.out⟩
        | some Y =>
          have HS1 : Hid ((sol b P k1).isSome = true) := Lib.hid (by rw [hs]; rfl)
          clear hs
          go_wp2_with fail
          go_roundw
          case rel => exact ⟨k1, hk1n, rfl, HS1, HK, HB⟩
          case measure => have := HK1.out; simp [intOf]; omega
      · obtain rfl : n = k := by omega
        have HF : Hid (fitN b P n = n) := Lib.hid (fitN_full HSK.out)
        go_wp2_with fail
        go_ret2
        rw [HE.out.1, HE.out.2, HF.out]
        exact ⟨rfl, HB.out⟩
  · have h1 : (q != 0) = true := by simpa using h0
    have HS : Hid (fitE b P = q ∧ fitV b P = 0) := Lib.hid ⟨HQ.out, by unfold fitV; rw [if_neg (by rw [HQ.out]; exact h0)]⟩
    clear h0
    go_wp2_with fail
    refine (CB.out _ HB.out).mono ?_
    rintro e w1 ⟨rfl, hb⟩
    replace HK := Lib.hid (HK.out.below hb HK.out.lt)
    replace HB := Lib.hid (HB.out.trans (hb.mono HB.out.size))
    clear hb c0 c1 c2 c3 c4 c5
    obtain ⟨c0, c1, c2, c3, c4, c5⟩ := HK.out.six
    go_wp2_with fail
    refine (CB.out _ HB.out).mono ?_
    rintro e w2 ⟨rfl, hb⟩
    replace HK := Lib.hid (HK.out.below hb HK.out.lt)
    replace HB := Lib.hid (HB.out.trans (hb.mono HB.out.size))
    clear hb c0 c1 c2 c3 c4 c5
    obtain ⟨c0, c1, c2, c3, c4, c5⟩ := HK.out.six
    go_wp2
    go_ret2
    rw [HS.out.1, HS.out.2]
    exact ⟨rfl, HB.out⟩
end Go.Proofs.Ytgdkcbnpgpjnbaa
