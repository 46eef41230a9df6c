/-
  The walk of LatheLocked.
-/
import Derived.Test.YtgdkcbnpgpjnbaaL16
import Derived.Test.YtgdkcbnpgpjnbaaL18
import Derived.Test.YtgdkcbnpgpjnbaaL21
namespace Go.Proofs.Ytgdkcbnpgpjnbaa
open Go.RowKit

theorem orL_in {l : List Int} (h : ∀ x ∈ l, x = 0 ∨ x = 2 ∨ x = 3 ∨ x = 6 ∨ x = 17) : orL l = 0 ∨ orL l = 2 ∨ orL l = 3 ∨ orL l = 6 ∨ orL l = 17 := by
  induction l with
  | nil => exact .inl rfl
  | cons x l ih =>
    unfold orL
    split
    · exact ih (fun y hy => h y (List.mem_cons_of_mem _ hy))
    · exact h x (by simp)
theorem erH_in (b : Bk) (P : List Smp) (R : List Int) (half : Int) : erH b P R half = 0 ∨ erH b P R half = 2 ∨ erH b P R half = 3 ∨ erH b P R half = 6 ∨ erH b P R half = 17 := by
  unfold erH
  refine orL_in (fun x hx => ?_)
  simp only [List.mem_cons, List.not_mem_nil, or_false] at hx
  rcases hx with rfl | rfl | rfl | rfl
  · unfold ckB; split <;> omega
  · unfold ckG; split
    · omega
    · split <;> omega
  · unfold ckR; split
    · omega
    · split <;> omega
  · unfold ckHf; split <;> omega
theorem loc_cases (b : Bk) (P : List Smp) (R : List Int) (half : Int) : (locE b P R half ≠ 0 ∧ locE b P R half ≠ 15 ∧ locV b P R half = 0) ∨ (erH b P R half = 0 ∧ P.length ≠ 0 ∧ lkM b P R - 2 * half < 0 ∧ locE b P R half = 15 ∧ locV b P R half = 0) ∨ (erH b P R half = 0 ∧ P.length ≠ 0 ∧ 0 ≤ lkM b P R - 2 * half ∧ locE b P R half = 0 ∧ locV b P R half = lkM b P R - half) := by
  by_cases h0 : erH b P R half = 0
  · by_cases h1 : P.length = 0
    · exact .inl (by unfold locE locV; rw [if_pos h0, if_pos h0, if_pos h1, if_pos h1]; omega)
    · by_cases h2 : lkM b P R - 2 * half < 0
      · exact .inr (.inl (by unfold locE locV; rw [if_pos h0, if_pos h0, if_neg h1, if_neg h1, if_pos h2, if_pos h2]; exact ⟨h0, h1, h2, rfl, rfl⟩))
      · exact .inr (.inr (by unfold locE locV; rw [if_pos h0, if_pos h0, if_neg h1, if_neg h1, if_neg h2, if_neg h2]; exact ⟨h0, h1, by omega, rfl, rfl⟩))
  · have := erH_in b P R half
    exact .inl (by unfold locE locV; rw [if_neg h0, if_neg h0]; omega)
theorem rgt_none {b : Bk} {P : List Smp} {R : List Int} {half x : Int} (h : lkM b P R - 2 * half < 0) : rgtB b P R half x = false := by
  unfold rgtB; simp only [Bool.and_eq_false_iff, decide_eq_false_iff_not]; omega
theorem rgt_iff {b : Bk} {P : List Smp} {R : List Int} {half x : Int} : rgtB b P R half x = true ↔ x + half ≤ lkM b P R ∧ half ≤ x := by
  unfold rgtB; simp only [Bool.and_eq_true, decide_eq_true_eq]

set_option maxRecDepth 100000 in
set_option maxHeartbeats 8000000 in
theorem locked_walk (B : Nat) (A AR : Option Addr) (n c m d : Nat) (b : Bk) (P : List Smp) (R : List Int) (half x : Int) (w : World) (h0 : RS w B A n P) (h1 : LI w B AR m R) (hB : B ≤ w.heap.size) (hl : n ≤ 9223372036854775807) (hl' : m ≤ 9223372036854775807) :
    Calls Try.prog 13 #[.agg #[.int .i64 b.per, .int .i64 b.rim, .int .i64 b.core, .int .i64 b.land, .int .i64 b.slow, .int .i64 b.fast], .slice A n c, .slice AR m d, .int .i64 half, .int .i64 x] w fun e w' => e = .returned (.bool true) ∧ Below w.heap.size w w' := by
  have HP := Lib.hid (h0.more hB)
  have HR := Lib.hid (h1.more hB)
  have HN := Lib.hid h0.1
  have HM := Lib.hid h1.1
  clear h0 h1 hB
  go_enter Try.func13, Try.ntmps13
  go_upto_region 1 with fail
  obtain ⟨w0, hW⟩ : ∃ W, w.alloc (.cells #[.int .i64 b.per, .int .i64 b.rim, .int .i64 b.core, .int .i64 b.land, .int .i64 b.slow, .int .i64 b.fast] 23) = W := ⟨_, rfl⟩
  have hb0 : Below w.heap.size w w0 := by rw [← hW]; exact below_a _ _
  have k0 : Blk w0 w.heap.size 23 #[.int .i64 b.per, .int .i64 b.rim, .int .i64 b.core, .int .i64 b.land, .int .i64 b.slow, .int .i64 b.fast] := by rw [← hW]; exact Blk.new _ _ _
  rw [hW]
  have HB := Lib.hid hb0
  have HK := Lib.hid k0
  obtain ⟨c0, c1, c2, c3, c4, c5⟩ := k0.six
  clear hW hb0 k0
  cases hv : vldG b P with
  | false =>
    have HV := Lib.hid hv
    clear hv
    go_wp2_with fail
    have CALL := valid5_any w.heap.size A n c b P w0 (HP.out.below HB.out (Nat.le_refl _)) HB.out.size hl
    refine CALL.mono ?_
    rintro e w1 ⟨rfl, hb⟩
    clear CALL
    replace HK := Lib.hid (HK.out.below hb HK.out.lt)
    replace HB := Lib.hid (HB.out.trans (hb.mono HB.out.size))
    clear hb c0 c1 c2 c3 c4 c5
    obtain ⟨c0, c1, c2, c3, c4, c5⟩ := HK.out.six
    rw [HV.out]
    go_wp2_with fail
    refine (works5_any _).mono ?_
    rintro e w2 ⟨rfl, hb⟩
    replace HB := Lib.hid (HB.out.trans (hb.mono HB.out.size))
    clear hb
    go_wp2
    go_ret
    exact ⟨rfl, HB.out⟩
  | true =>
    have HV := Lib.hid hv
    clear hv
    by_cases hm : 100 < m
    · have hm1 : ((m : Int) > 100) := by omega
      go_wp2_with fail
      have CALL := valid5_any w.heap.size A n c b P w0 (HP.out.below HB.out (Nat.le_refl _)) HB.out.size hl
      refine CALL.mono ?_
      rintro e w3 ⟨rfl, hb⟩
      clear CALL
      replace HK := Lib.hid (HK.out.below hb HK.out.lt)
      replace HB := Lib.hid (HB.out.trans (hb.mono HB.out.size))
      clear hb c0 c1 c2 c3 c4 c5
      obtain ⟨c0, c1, c2, c3, c4, c5⟩ := HK.out.six
      rw [HV.out]
      go_wp2_with fail
      refine (works5_any _).mono ?_
      rintro e w4 ⟨rfl, hb⟩
      replace HB := Lib.hid (HB.out.trans (hb.mono HB.out.size))
      clear hb
      go_wp2
      go_ret
      exact ⟨rfl, HB.out⟩
    · have hm1 : ¬ ((m : Int) > 100) := by omega
      have HLC := Lib.hid (loc_cases b P R half)
      obtain ⟨le, hle⟩ : ∃ x, locE b P R half = x := ⟨_, rfl⟩
      obtain ⟨lv, hlv⟩ : ∃ x, locV b P R half = x := ⟨_, rfl⟩
      rw [hle, hlv] at HLC
      have HL := Lib.hid (show locE b P R half = le ∧ locV b P R half = lv from ⟨hle, hlv⟩)
      clear hle hlv
      rcases HLC.out with ⟨q1, q2, q3⟩ | ⟨q1, q2, q3, q4, q5⟩ | ⟨q1, q2, q3, q4, q5⟩
      · subst q3
        have q1' : (le != 0) = true := by simpa using q1
        have q2' : (le != 15) = true := by simpa using q2
        clear HLC
        go_wp2_with fail
        have CALL := valid5_any w.heap.size A n c b P w0 (HP.out.below HB.out (Nat.le_refl _)) HB.out.size hl
        refine CALL.mono ?_
        rintro e w5 ⟨rfl, hb⟩
        clear CALL
        replace HK := Lib.hid (HK.out.below hb HK.out.lt)
        replace HB := Lib.hid (HB.out.trans (hb.mono HB.out.size))
        clear hb c0 c1 c2 c3 c4 c5
        obtain ⟨c0, c1, c2, c3, c4, c5⟩ := HK.out.six
        rw [HV.out]
        go_wp2_with fail
        have CALL := Locked_any w.heap.size A AR n c m d b P R half w5 (HP.out.below HB.out (Nat.le_refl _)) (HR.out.below HB.out (Nat.le_refl _)) HB.out.size hl hl'
        refine CALL.mono ?_
        rintro e w6 ⟨rfl, hb⟩
        clear CALL
        replace HK := Lib.hid (HK.out.below hb HK.out.lt)
        replace HB := Lib.hid (HB.out.trans (hb.mono HB.out.size))
        clear hb c0 c1 c2 c3 c4 c5
        obtain ⟨c0, c1, c2, c3, c4, c5⟩ := HK.out.six
        rw [HL.out.1, HL.out.2]
        go_wp2_with fail
        refine (works5_any _).mono ?_
        rintro e w7 ⟨rfl, hb⟩
        replace HB := Lib.hid (HB.out.trans (hb.mono HB.out.size))
        clear hb
        go_wp2
        go_ret
        exact ⟨rfl, HB.out⟩
      · subst q4 q5
        have CI := Lib.hid (erH_ok q1)
        have hmn : m = n := by rw [HM.out, CI.out.1.len, ← HN.out]
        have hmn' : ((m : Int) != (n : Int)) = false := by rw [hmn]; simp
        have hm0 : ((n : Int) == 0) = false := by have := HN.out; simp; omega
        clear hmn
        obtain ⟨hh1, hh2⟩ := CI.out.2
        clear HLC q1 q2
        have HQ := Lib.hid (fun x => rgt_none (x := x) q3)
        clear q3
        by_cases hx1 : x < -16777216
        · skip
          go_wp2_with fail
          have CALL := valid5_any w.heap.size A n c b P w0 (HP.out.below HB.out (Nat.le_refl _)) HB.out.size hl
          refine CALL.mono ?_
          rintro e w8 ⟨rfl, hb⟩
          clear CALL
          replace HK := Lib.hid (HK.out.below hb HK.out.lt)
          replace HB := Lib.hid (HB.out.trans (hb.mono HB.out.size))
          clear hb c0 c1 c2 c3 c4 c5
          obtain ⟨c0, c1, c2, c3, c4, c5⟩ := HK.out.six
          rw [HV.out]
          go_wp2_with fail
          have CALL := Locked_any w.heap.size A AR n c m d b P R half w8 (HP.out.below HB.out (Nat.le_refl _)) (HR.out.below HB.out (Nat.le_refl _)) HB.out.size hl hl'
          refine CALL.mono ?_
          rintro e w9 ⟨rfl, hb⟩
          clear CALL
          replace HK := Lib.hid (HK.out.below hb HK.out.lt)
          replace HB := Lib.hid (HB.out.trans (hb.mono HB.out.size))
          clear hb c0 c1 c2 c3 c4 c5
          obtain ⟨c0, c1, c2, c3, c4, c5⟩ := HK.out.six
          rw [HL.out.1, HL.out.2]
          go_wp2_with fail
          refine (works5_any _).mono ?_
          rintro e w10 ⟨rfl, hb⟩
          replace HB := Lib.hid (HB.out.trans (hb.mono HB.out.size))
          clear hb
          go_wp2
          go_ret
          exact ⟨rfl, HB.out⟩
        · by_cases hx2 : x > 16777216
          · skip
            go_wp2_with fail
            have CALL := valid5_any w.heap.size A n c b P w0 (HP.out.below HB.out (Nat.le_refl _)) HB.out.size hl
            refine CALL.mono ?_
            rintro e w11 ⟨rfl, hb⟩
            clear CALL
            replace HK := Lib.hid (HK.out.below hb HK.out.lt)
            replace HB := Lib.hid (HB.out.trans (hb.mono HB.out.size))
            clear hb c0 c1 c2 c3 c4 c5
            obtain ⟨c0, c1, c2, c3, c4, c5⟩ := HK.out.six
            rw [HV.out]
            go_wp2_with fail
            have CALL := Locked_any w.heap.size A AR n c m d b P R half w11 (HP.out.below HB.out (Nat.le_refl _)) (HR.out.below HB.out (Nat.le_refl _)) HB.out.size hl hl'
            refine CALL.mono ?_
            rintro e w12 ⟨rfl, hb⟩
            clear CALL
            replace HK := Lib.hid (HK.out.below hb HK.out.lt)
            replace HB := Lib.hid (HB.out.trans (hb.mono HB.out.size))
            clear hb c0 c1 c2 c3 c4 c5
            obtain ⟨c0, c1, c2, c3, c4, c5⟩ := HK.out.six
            rw [HL.out.1, HL.out.2]
            go_wp2_with fail
            refine (works5_any _).mono ?_
            rintro e w13 ⟨rfl, hb⟩
            replace HB := Lib.hid (HB.out.trans (hb.mono HB.out.size))
            clear hb
            go_wp2
            go_ret
            exact ⟨rfl, HB.out⟩
          · skip
            go_wp2_with fail
            have CALL := valid5_any w.heap.size A n c b P w0 (HP.out.below HB.out (Nat.le_refl _)) HB.out.size hl
            refine CALL.mono ?_
            rintro e w14 ⟨rfl, hb⟩
            clear CALL
            replace HK := Lib.hid (HK.out.below hb HK.out.lt)
            replace HB := Lib.hid (HB.out.trans (hb.mono HB.out.size))
            clear hb c0 c1 c2 c3 c4 c5
            obtain ⟨c0, c1, c2, c3, c4, c5⟩ := HK.out.six
            rw [HV.out]
            go_wp2_with fail
            have CALL := Locked_any w.heap.size A AR n c m d b P R half w14 (HP.out.below HB.out (Nat.le_refl _)) (HR.out.below HB.out (Nat.le_refl _)) HB.out.size hl hl'
            refine CALL.mono ?_
            rintro e w15 ⟨rfl, hb⟩
            clear CALL
            replace HK := Lib.hid (HK.out.below hb HK.out.lt)
            replace HB := Lib.hid (HB.out.trans (hb.mono HB.out.size))
            clear hb c0 c1 c2 c3 c4 c5
            obtain ⟨c0, c1, c2, c3, c4, c5⟩ := HK.out.six
            rw [HL.out.1, HL.out.2]
            go_wp2_with fail
            have CALL := right5_any w.heap.size A AR n c m d b P R half x w15 (HP.out.below HB.out (Nat.le_refl _)) (HR.out.below HB.out (Nat.le_refl _)) HB.out.size hl CI.out.1 CI.out.2.1 CI.out.2.2 (by omega) (by omega)
            refine CALL.mono ?_
            rintro e w16 ⟨rfl, hb⟩
            clear CALL
            replace HK := Lib.hid (HK.out.below hb HK.out.lt)
            replace HB := Lib.hid (HB.out.trans (hb.mono HB.out.size))
            clear hb c0 c1 c2 c3 c4 c5
            obtain ⟨c0, c1, c2, c3, c4, c5⟩ := HK.out.six
            rw [HQ.out]
            go_wp2_with fail
            refine (works5_any _).mono ?_
            rintro e w17 ⟨rfl, hb⟩
            replace HB := Lib.hid (HB.out.trans (hb.mono HB.out.size))
            clear hb
            go_wp2
            go_ret
            exact ⟨rfl, HB.out⟩
      · subst q4
        have CI := Lib.hid (erH_ok q1)
        have hmn : m = n := by rw [HM.out, CI.out.1.len, ← HN.out]
        have hmn' : ((m : Int) != (n : Int)) = false := by rw [hmn]; simp
        have hm0 : ((n : Int) == 0) = false := by have := HN.out; simp; omega
        clear hmn
        obtain ⟨hh1, hh2⟩ := CI.out.2
        have hlv : 0 ≤ lv ∧ lv ≤ 4194304 := by
          have h1 := lkTo_anti b P R (lkS b P.length) 0 (P.length - lkS b P.length)
          rw [Nat.zero_add, lkTo] at h1
          have h2 := CI.out.1.bk.rim
          have h3 : lkM b P R ≤ b.rim := h1
          omega
        have HR1 : Hid (rgtB b P R half lv = true) := Lib.hid (rgt_iff.2 (by omega))
        have HR2 : Hid (rgtB b P R half (lv + 1) = false) := Lib.hid (by rw [Bool.eq_false_iff]; intro e; have := rgt_iff.1 e; omega)
        have HR3 : Hid (rgtB b P R half x = true → x ≤ lv) := Lib.hid (fun e => by have := rgt_iff.1 e; omega)
        clear HLC q1 q2 q3 q5
        have hlv1 := hlv.1
        have hlv2 := hlv.2
        clear hlv
        by_cases hx1 : x < -16777216
        · skip
          go_wp2_with fail
          have CALL := valid5_any w.heap.size A n c b P w0 (HP.out.below HB.out (Nat.le_refl _)) HB.out.size hl
          refine CALL.mono ?_
          rintro e w18 ⟨rfl, hb⟩
          clear CALL
          replace HK := Lib.hid (HK.out.below hb HK.out.lt)
          replace HB := Lib.hid (HB.out.trans (hb.mono HB.out.size))
          clear hb c0 c1 c2 c3 c4 c5
          obtain ⟨c0, c1, c2, c3, c4, c5⟩ := HK.out.six
          rw [HV.out]
          go_wp2_with fail
          have CALL := Locked_any w.heap.size A AR n c m d b P R half w18 (HP.out.below HB.out (Nat.le_refl _)) (HR.out.below HB.out (Nat.le_refl _)) HB.out.size hl hl'
          refine CALL.mono ?_
          rintro e w19 ⟨rfl, hb⟩
          clear CALL
          replace HK := Lib.hid (HK.out.below hb HK.out.lt)
          replace HB := Lib.hid (HB.out.trans (hb.mono HB.out.size))
          clear hb c0 c1 c2 c3 c4 c5
          obtain ⟨c0, c1, c2, c3, c4, c5⟩ := HK.out.six
          rw [HL.out.1, HL.out.2]
          go_wp2_with fail
          have CALL := right5_any w.heap.size A AR n c m d b P R half lv w19 (HP.out.below HB.out (Nat.le_refl _)) (HR.out.below HB.out (Nat.le_refl _)) HB.out.size hl CI.out.1 CI.out.2.1 CI.out.2.2 (by omega) (by omega)
          refine CALL.mono ?_
          rintro e w20 ⟨rfl, hb⟩
          clear CALL
          replace HK := Lib.hid (HK.out.below hb HK.out.lt)
          replace HB := Lib.hid (HB.out.trans (hb.mono HB.out.size))
          clear hb c0 c1 c2 c3 c4 c5
          obtain ⟨c0, c1, c2, c3, c4, c5⟩ := HK.out.six
          rw [HR1.out]
          go_wp2_with fail
          have CALL := right5_any w.heap.size A AR n c m d b P R half (lv + 1) w20 (HP.out.below HB.out (Nat.le_refl _)) (HR.out.below HB.out (Nat.le_refl _)) HB.out.size hl CI.out.1 CI.out.2.1 CI.out.2.2 (by omega) (by omega)
          refine CALL.mono ?_
          rintro e w21 ⟨rfl, hb⟩
          clear CALL
          replace HK := Lib.hid (HK.out.below hb HK.out.lt)
          replace HB := Lib.hid (HB.out.trans (hb.mono HB.out.size))
          clear hb c0 c1 c2 c3 c4 c5
          obtain ⟨c0, c1, c2, c3, c4, c5⟩ := HK.out.six
          rw [HR2.out]
          go_wp2_with fail
          refine (works5_any _).mono ?_
          rintro e w22 ⟨rfl, hb⟩
          replace HB := Lib.hid (HB.out.trans (hb.mono HB.out.size))
          clear hb
          go_wp2
          go_ret
          exact ⟨rfl, HB.out⟩
        · by_cases hx2 : x > 16777216
          · skip
            go_wp2_with fail
            have CALL := valid5_any w.heap.size A n c b P w0 (HP.out.below HB.out (Nat.le_refl _)) HB.out.size hl
            refine CALL.mono ?_
            rintro e w23 ⟨rfl, hb⟩
            clear CALL
            replace HK := Lib.hid (HK.out.below hb HK.out.lt)
            replace HB := Lib.hid (HB.out.trans (hb.mono HB.out.size))
            clear hb c0 c1 c2 c3 c4 c5
            obtain ⟨c0, c1, c2, c3, c4, c5⟩ := HK.out.six
            rw [HV.out]
            go_wp2_with fail
            have CALL := Locked_any w.heap.size A AR n c m d b P R half w23 (HP.out.below HB.out (Nat.le_refl _)) (HR.out.below HB.out (Nat.le_refl _)) HB.out.size hl hl'
            refine CALL.mono ?_
            rintro e w24 ⟨rfl, hb⟩
            clear CALL
            replace HK := Lib.hid (HK.out.below hb HK.out.lt)
            replace HB := Lib.hid (HB.out.trans (hb.mono HB.out.size))
            clear hb c0 c1 c2 c3 c4 c5
            obtain ⟨c0, c1, c2, c3, c4, c5⟩ := HK.out.six
            rw [HL.out.1, HL.out.2]
            go_wp2_with fail
            have CALL := right5_any w.heap.size A AR n c m d b P R half lv w24 (HP.out.below HB.out (Nat.le_refl _)) (HR.out.below HB.out (Nat.le_refl _)) HB.out.size hl CI.out.1 CI.out.2.1 CI.out.2.2 (by omega) (by omega)
            refine CALL.mono ?_
            rintro e w25 ⟨rfl, hb⟩
            clear CALL
            replace HK := Lib.hid (HK.out.below hb HK.out.lt)
            replace HB := Lib.hid (HB.out.trans (hb.mono HB.out.size))
            clear hb c0 c1 c2 c3 c4 c5
            obtain ⟨c0, c1, c2, c3, c4, c5⟩ := HK.out.six
            rw [HR1.out]
            go_wp2_with fail
            have CALL := right5_any w.heap.size A AR n c m d b P R half (lv + 1) w25 (HP.out.below HB.out (Nat.le_refl _)) (HR.out.below HB.out (Nat.le_refl _)) HB.out.size hl CI.out.1 CI.out.2.1 CI.out.2.2 (by omega) (by omega)
            refine CALL.mono ?_
            rintro e w26 ⟨rfl, hb⟩
            clear CALL
            replace HK := Lib.hid (HK.out.below hb HK.out.lt)
            replace HB := Lib.hid (HB.out.trans (hb.mono HB.out.size))
            clear hb c0 c1 c2 c3 c4 c5
            obtain ⟨c0, c1, c2, c3, c4, c5⟩ := HK.out.six
            rw [HR2.out]
            go_wp2_with fail
            refine (works5_any _).mono ?_
            rintro e w27 ⟨rfl, hb⟩
            replace HB := Lib.hid (HB.out.trans (hb.mono HB.out.size))
            clear hb
            go_wp2
            go_ret
            exact ⟨rfl, HB.out⟩
          · cases hr : rgtB b P R half x with
            | false =>
              have HR4 := Lib.hid hr
              clear hr HR3
              go_wp2_with fail
              have CALL := valid5_any w.heap.size A n c b P w0 (HP.out.below HB.out (Nat.le_refl _)) HB.out.size hl
              refine CALL.mono ?_
              rintro e w28 ⟨rfl, hb⟩
              clear CALL
              replace HK := Lib.hid (HK.out.below hb HK.out.lt)
              replace HB := Lib.hid (HB.out.trans (hb.mono HB.out.size))
              clear hb c0 c1 c2 c3 c4 c5
              obtain ⟨c0, c1, c2, c3, c4, c5⟩ := HK.out.six
              rw [HV.out]
              go_wp2_with fail
              have CALL := Locked_any w.heap.size A AR n c m d b P R half w28 (HP.out.below HB.out (Nat.le_refl _)) (HR.out.below HB.out (Nat.le_refl _)) HB.out.size hl hl'
              refine CALL.mono ?_
              rintro e w29 ⟨rfl, hb⟩
              clear CALL
              replace HK := Lib.hid (HK.out.below hb HK.out.lt)
              replace HB := Lib.hid (HB.out.trans (hb.mono HB.out.size))
              clear hb c0 c1 c2 c3 c4 c5
              obtain ⟨c0, c1, c2, c3, c4, c5⟩ := HK.out.six
              rw [HL.out.1, HL.out.2]
              go_wp2_with fail
              have CALL := right5_any w.heap.size A AR n c m d b P R half lv w29 (HP.out.below HB.out (Nat.le_refl _)) (HR.out.below HB.out (Nat.le_refl _)) HB.out.size hl CI.out.1 CI.out.2.1 CI.out.2.2 (by omega) (by omega)
              refine CALL.mono ?_
              rintro e w30 ⟨rfl, hb⟩
              clear CALL
              replace HK := Lib.hid (HK.out.below hb HK.out.lt)
              replace HB := Lib.hid (HB.out.trans (hb.mono HB.out.size))
              clear hb c0 c1 c2 c3 c4 c5
              obtain ⟨c0, c1, c2, c3, c4, c5⟩ := HK.out.six
              rw [HR1.out]
              go_wp2_with fail
              have CALL := right5_any w.heap.size A AR n c m d b P R half (lv + 1) w30 (HP.out.below HB.out (Nat.le_refl _)) (HR.out.below HB.out (Nat.le_refl _)) HB.out.size hl CI.out.1 CI.out.2.1 CI.out.2.2 (by omega) (by omega)
              refine CALL.mono ?_
              rintro e w31 ⟨rfl, hb⟩
              clear CALL
              replace HK := Lib.hid (HK.out.below hb HK.out.lt)
              replace HB := Lib.hid (HB.out.trans (hb.mono HB.out.size))
              clear hb c0 c1 c2 c3 c4 c5
              obtain ⟨c0, c1, c2, c3, c4, c5⟩ := HK.out.six
              rw [HR2.out]
              go_wp2_with fail
              have CALL := right5_any w.heap.size A AR n c m d b P R half x w31 (HP.out.below HB.out (Nat.le_refl _)) (HR.out.below HB.out (Nat.le_refl _)) HB.out.size hl CI.out.1 CI.out.2.1 CI.out.2.2 (by omega) (by omega)
              refine CALL.mono ?_
              rintro e w32 ⟨rfl, hb⟩
              clear CALL
              replace HK := Lib.hid (HK.out.below hb HK.out.lt)
              replace HB := Lib.hid (HB.out.trans (hb.mono HB.out.size))
              clear hb c0 c1 c2 c3 c4 c5
              obtain ⟨c0, c1, c2, c3, c4, c5⟩ := HK.out.six
              rw [HR4.out]
              go_wp2_with fail
              refine (works5_any _).mono ?_
              rintro e w33 ⟨rfl, hb⟩
              replace HB := Lib.hid (HB.out.trans (hb.mono HB.out.size))
              clear hb
              go_wp2
              go_ret
              exact ⟨rfl, HB.out⟩
            | true =>
              have HR4 := Lib.hid hr
              have hxv := HR3.out hr
              clear hr HR3
              go_wp2_with fail
              have CALL := valid5_any w.heap.size A n c b P w0 (HP.out.below HB.out (Nat.le_refl _)) HB.out.size hl
              refine CALL.mono ?_
              rintro e w34 ⟨rfl, hb⟩
              clear CALL
              replace HK := Lib.hid (HK.out.below hb HK.out.lt)
              replace HB := Lib.hid (HB.out.trans (hb.mono HB.out.size))
              clear hb c0 c1 c2 c3 c4 c5
              obtain ⟨c0, c1, c2, c3, c4, c5⟩ := HK.out.six
              rw [HV.out]
              go_wp2_with fail
              have CALL := Locked_any w.heap.size A AR n c m d b P R half w34 (HP.out.below HB.out (Nat.le_refl _)) (HR.out.below HB.out (Nat.le_refl _)) HB.out.size hl hl'
              refine CALL.mono ?_
              rintro e w35 ⟨rfl, hb⟩
              clear CALL
              replace HK := Lib.hid (HK.out.below hb HK.out.lt)
              replace HB := Lib.hid (HB.out.trans (hb.mono HB.out.size))
              clear hb c0 c1 c2 c3 c4 c5
              obtain ⟨c0, c1, c2, c3, c4, c5⟩ := HK.out.six
              rw [HL.out.1, HL.out.2]
              go_wp2_with fail
              have CALL := right5_any w.heap.size A AR n c m d b P R half lv w35 (HP.out.below HB.out (Nat.le_refl _)) (HR.out.below HB.out (Nat.le_refl _)) HB.out.size hl CI.out.1 CI.out.2.1 CI.out.2.2 (by omega) (by omega)
              refine CALL.mono ?_
              rintro e w36 ⟨rfl, hb⟩
              clear CALL
              replace HK := Lib.hid (HK.out.below hb HK.out.lt)
              replace HB := Lib.hid (HB.out.trans (hb.mono HB.out.size))
              clear hb c0 c1 c2 c3 c4 c5
              obtain ⟨c0, c1, c2, c3, c4, c5⟩ := HK.out.six
              rw [HR1.out]
              go_wp2_with fail
              have CALL := right5_any w.heap.size A AR n c m d b P R half (lv + 1) w36 (HP.out.below HB.out (Nat.le_refl _)) (HR.out.below HB.out (Nat.le_refl _)) HB.out.size hl CI.out.1 CI.out.2.1 CI.out.2.2 (by omega) (by omega)
              refine CALL.mono ?_
              rintro e w37 ⟨rfl, hb⟩
              clear CALL
              replace HK := Lib.hid (HK.out.below hb HK.out.lt)
              replace HB := Lib.hid (HB.out.trans (hb.mono HB.out.size))
              clear hb c0 c1 c2 c3 c4 c5
              obtain ⟨c0, c1, c2, c3, c4, c5⟩ := HK.out.six
              rw [HR2.out]
              go_wp2_with fail
              have CALL := right5_any w.heap.size A AR n c m d b P R half x w37 (HP.out.below HB.out (Nat.le_refl _)) (HR.out.below HB.out (Nat.le_refl _)) HB.out.size hl CI.out.1 CI.out.2.1 CI.out.2.2 (by omega) (by omega)
              refine CALL.mono ?_
              rintro e w38 ⟨rfl, hb⟩
              clear CALL
              replace HK := Lib.hid (HK.out.below hb HK.out.lt)
              replace HB := Lib.hid (HB.out.trans (hb.mono HB.out.size))
              clear hb c0 c1 c2 c3 c4 c5
              obtain ⟨c0, c1, c2, c3, c4, c5⟩ := HK.out.six
              rw [HR4.out]
              go_wp2_with fail
              refine (works5_any _).mono ?_
              rintro e w39 ⟨rfl, hb⟩
              replace HB := Lib.hid (HB.out.trans (hb.mono HB.out.size))
              clear hb
              go_wp2
              go_ret
              exact ⟨rfl, HB.out⟩
end Go.Proofs.Ytgdkcbnpgpjnbaa
