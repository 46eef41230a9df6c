/-
  Needs; which programmes are limited in the law.
-/
import Derived.Test.YtilihdkfflfniaaYC
import Derived.Test.YtilihdkfflfniaaQF
namespace Go.Proofs.Ytilihdkfflfniaa
open Go.RowKit

set_option maxRecDepth 100000 in
set_option maxHeartbeats 4000000 in
theorem Needs_ok (B : Nat) (A : Option Addr) (n c : Nat) (xs : List Smp) (ce : Int) (w : World) (h0 : RS w B A n xs) (hB : B ≤ w.heap.size) (hl : n ≤ 9223372036854775807) (h4 : n ≤ 4096) (hv : vss xs = true) (h1 : 1 ≤ ce) (h2 : ce ≤ 32767) (hok : ckCe xs ce = 0) :
    Calls Try.prog 35 #[.slice A n c, .int .i64 ce] w (OutPost w.heap.size w (xs.map (need1 · ce)) 0) := by
  have HP := Lib.hid (h0.more hB)
  have HV := Lib.hid hv
  have HK := Lib.hid hok
  clear h0 hB hv hok
  go_enter Try.func35, Try.ntmps35
  go_wp2_with fail
  have CALL := checkCeiling_any w.heap.size A n c xs ce w HP.out (Nat.le_refl _) hl
  rw [HK.out] at CALL
  refine CALL.mono ?_
  rintro e w1 ⟨rfl, hb⟩
  clear CALL
  have HB := Lib.hid hb
  clear hb
  go_wp2_with fail
  have CALL := needs_any w.heap.size A n c xs ce w1 (HP.out.below HB.out (Nat.le_refl _)) HB.out.size h4 HV.out h1 h2
  refine CALL.mono ?_
  rintro e w2 ⟨v, rfl, ho, hb⟩
  clear CALL
  have HO := Lib.hid ho
  have HB2 := Lib.hid hb
  clear ho hb
  go_wp2
  go_ret2
  exact ⟨v, rfl, own_base_ HO.out HB.out.size, HB.out.trans (HB2.out.mono HB.out.size)⟩

set_option maxHeartbeats 400000 in
theorem refAbs_any (x : Int) (w : World) (h1 : -9223372036854775807 ≤ x) (h2 : x ≤ 9223372036854775807) :
    Calls Try.prog 43 #[.int .i64 x] w fun e w' => e = .returned (.int .i64 (am x)) ∧ w = w' := by
  have e0 : IntKind.i64.wrap (-x) = -x := IntWalk.i64_in _ (by omega)
  go_enter Try.func43, Try.ntmps43
  go_wp2
  all_goals
    go_ret
    exact ⟨ret_i (by unfold am; omega), rfl⟩

def limQ (xs : List Smp) (ce st : Int) : Bool := decide (xs.length ≤ 100) && decide (ckQ xs = 0) && decide (1 ≤ ce) && decide (ce ≤ 32767) && decide (0 ≤ st) && decide (st ≤ 256)
set_option maxRecDepth 100000 in
set_option maxHeartbeats 4000000 in
theorem limits_any (B : Nat) (A : Option Addr) (n c : Nat) (xs : List Smp) (ce st : Int) (w : World) (h0 : RS w B A n xs) (hl : n ≤ 9223372036854775807) :
    Calls Try.prog 44 #[.slice A n c, .int .i64 ce, .int .i64 st] w fun e w' => e = .returned (.bool (limQ xs ce st)) ∧ w = w' := by
  have HQ : Hid (limQ xs ce st = (decide (n ≤ 100) && decide (ckQ xs = 0) && decide (1 ≤ ce) && decide (ce ≤ 32767) && decide (0 ≤ st) && decide (st ≤ 256))) := Lib.hid (by rw [h0.1]; rfl)
  have C1 := Lib.hid (refProgramme_any B A n c xs w h0 hl)
  obtain ⟨q, hq⟩ : ∃ x, ckQ xs = x := ⟨_, rfl⟩
  rw [hq] at C1 HQ
  replace C1 := Lib.hid C1.out
  clear hq h0
  by_cases h1 : n ≤ 100
  · have k1 : (n : Int) ≤ 100 := by omega
    by_cases h2 : q = 0
    · subst h2
      by_cases h3 : 1 ≤ ce <;> by_cases h4 : ce ≤ 32767 <;> by_cases h5 : 0 ≤ st <;> by_cases h6 : st ≤ 256
      all_goals
        go_enter Try.func44, Try.ntmps44
        go_wp2_with fail
        refine C1.out.mono ?_
        rintro e w' ⟨rfl, rfl⟩
        go_wp2
        try (go_ret; exact ⟨ret_b (by rw [HQ.out]; simp [h1, h3, h4, h5, h6]), rfl⟩)
    · have k2 : (q == 0) = false := by simpa using h2
      go_enter Try.func44, Try.ntmps44
      go_wp2_with fail
      refine C1.out.mono ?_
      rintro e w' ⟨rfl, rfl⟩
      go_wp2
      go_ret
      exact ⟨ret_b (by rw [HQ.out]; simp [h2]), rfl⟩
  · have k1 : ¬ (n : Int) ≤ 100 := by omega
    go_enter Try.func44, Try.ntmps44
    go_wp2
    go_ret
    exact ⟨ret_b (by rw [HQ.out]; simp [h1]), rfl⟩
end Go.Proofs.Ytilihdkfflfniaa
