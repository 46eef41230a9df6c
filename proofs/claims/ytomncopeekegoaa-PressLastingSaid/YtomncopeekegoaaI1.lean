/-
  Contracts of between, validMachine, Check, checkTemp, after, Tick of package press, and of the document's.
-/
import Derived.Test.YtomncopeekegoaaI0
import Derived.Test.YtomncopeekegoaaLt
namespace Go.Proofs.Ytomncopeekegoaa
open Go.RowKit

set_option maxHeartbeats 400000 in
theorem between64_any (lo x hi : Int) (w : World) :
    Calls Try.prog 63 #[.int .i64 lo, .int .i64 x, .int .i64 hi] w fun e w' => e = .returned (.bool (win x lo hi)) ∧ w = w' := by
  by_cases h1 : lo ≤ x <;> by_cases h2 : x ≤ hi
  all_goals
    go_enter Try.func63, Try.ntmps63
    go_wp2
    go_ret
    exact ⟨by simp [win, h1, h2], rfl⟩
set_option maxHeartbeats 400000 in
theorem betweenI_any (lo x hi : Int) (w : World) :
    Calls Try.prog 47 #[.int .i64 lo, .int .i64 x, .int .i64 hi] w fun e w' => e = .returned (.bool (win x lo hi)) ∧ w = w' := by
  by_cases h1 : lo ≤ x <;> by_cases h2 : x ≤ hi
  all_goals
    go_enter Try.func47, Try.ntmps47
    go_wp2
    go_ret
    exact ⟨by simp [win, h1, h2], rfl⟩
set_option maxHeartbeats 400000 in
theorem within_any (x lo hi : Int) (w : World) :
    Calls Try.prog 49 #[.int .i64 x, .int .i64 lo, .int .i64 hi] w fun e w' => e = .returned (.bool (win x lo hi)) ∧ w = w' := by
  by_cases h1 : lo ≤ x <;> by_cases h2 : x ≤ hi
  all_goals
    have h1' : x ≥ lo ↔ lo ≤ x := Iff.rfl
    go_enter Try.func49, Try.ntmps49
    go_wp2
    go_ret
    exact ⟨by simp [win, h1, h2], rfl⟩

set_option maxHeartbeats 4000000 in
theorem validMachine_any (m : Mac) (w : World) :
    Calls Try.prog 51 #[.agg #[.int .i64 m.room, .int .i64 m.melt, .int .i64 m.cool, .int .i64 m.top, .int .i64 m.heat, .int .i64 m.chill, .int .i64 m.drift, .int .i64 m.hold, .int .i64 m.life]] w fun e w' => e = .returned (.bool (vM m)) ∧ Below w.heap.size w w' := by
  rcases bool10 (decide (0 ≤ m.room)) (decide (m.room ≤ m.cool)) (decide (m.cool < m.melt)) (decide (m.melt ≤ m.top)) (decide (m.top ≤ 400)) (win m.heat 1 400) (win m.chill 1 400) (win m.drift 0 400) (win m.hold 1 64) (win m.life 1 65536) with
    h1 | ⟨h1, h2⟩ | ⟨h1, h2, h3⟩ | ⟨h1, h2, h3, h4⟩ | ⟨h1, h2, h3, h4, h5⟩ | ⟨h1, h2, h3, h4, h5, h6⟩ | ⟨h1, h2, h3, h4, h5, h6, h7⟩ | ⟨h1, h2, h3, h4, h5, h6, h7, h8⟩ | ⟨h1, h2, h3, h4, h5, h6, h7, h8, h9⟩ | ⟨h1, h2, h3, h4, h5, h6, h7, h8, h9, h10⟩ | ⟨h1, h2, h3, h4, h5, h6, h7, h8, h9, h10⟩
  all_goals
    have hr : vM m = vM m := rfl
    conv at hr => { rhs; unfold vM }
    simp only [*, Bool.and_true, Bool.and_false, Bool.false_and] at hr
    have HR := Lib.hid hr
    clear hr
    (try have H6 := Lib.hid h6); (try have H7 := Lib.hid h7); (try have H8 := Lib.hid h8); (try have H9 := Lib.hid h9); (try have H10 := Lib.hid h10)
    (try clear h6); (try clear h7); (try clear h8); (try clear h9); (try clear h10)
    go_enter Try.func51, Try.ntmps51
    go_wp2_with ((with_reducible refine (between64_any _ _ _ _).mono ?_); rintro e w' ⟨rfl, rfl⟩; (try rw [H6.out]); (try rw [H7.out]); (try rw [H8.out]); (try rw [H9.out]); (try rw [H10.out]))
    go_ret
    exact ⟨ret_b HR.out.symm, (Below.refl _ _).alloc (Nat.le_refl _) _⟩
set_option maxHeartbeats 4000000 in
theorem Check_any (m : Mac) (w : World) :
    Calls Try.prog 17 #[.agg #[.int .i64 m.room, .int .i64 m.melt, .int .i64 m.cool, .int .i64 m.top, .int .i64 m.heat, .int .i64 m.chill, .int .i64 m.drift, .int .i64 m.hold, .int .i64 m.life]] w fun e w' => e = .returned (.int .i64 (ckM m)) ∧ Below w.heap.size w w' := by
  cases hv : vM m
  all_goals
    have HV := Lib.hid hv
    clear hv
    go_enter Try.func17, Try.ntmps17
    go_wp2_with ((with_reducible refine (validMachine_any _ _).mono ?_); rintro e w' ⟨rfl, hb⟩; rw [HV.out])
    go_ret
    exact ⟨ret_i (by simp [ckM, HV.out]), (below_a _ _).trans (hb.mono (by simp))⟩
set_option maxHeartbeats 4000000 in
theorem checkTemp_any (m : Mac) (t : Int) (w : World) :
    Calls Try.prog 46 #[.agg #[.int .i64 m.room, .int .i64 m.melt, .int .i64 m.cool, .int .i64 m.top, .int .i64 m.heat, .int .i64 m.chill, .int .i64 m.drift, .int .i64 m.hold, .int .i64 m.life], .int .i64 t] w fun e w' => e = .returned (.int .i64 (ckMT m t)) ∧ Below w.heap.size w w' := by
  cases hv : vM m
  · have HV := Lib.hid hv
    clear hv
    go_enter Try.func46, Try.ntmps46
    go_wp2_with ((with_reducible refine (Check_any _ _).mono ?_); rintro e w' ⟨rfl, hb⟩; unfold ckM; rw [HV.out])
    go_ret
    exact ⟨ret_i (by simp [ckMT, HV.out]), (below_a _ _).trans (hb.mono (by simp))⟩
  · cases hw : win t m.room m.top
    all_goals
      have HV := Lib.hid hv
      have HW := Lib.hid hw
      clear hv hw
      go_enter Try.func46, Try.ntmps46
      go_wp2_with fail
      refine (Check_any _ _).mono ?_
      rintro e w' ⟨rfl, hb⟩
      have K := (Blk.new w 23 #[.int .i64 m.room, .int .i64 m.melt, .int .i64 m.cool, .int .i64 m.top, .int .i64 m.heat, .int .i64 m.chill, .int .i64 m.drift, .int .i64 m.hold, .int .i64 m.life]).below hb (by simp)
      obtain ⟨c0, c1, c2, c3, c4, c5, c6, c7, c8⟩ := K.nine
      have e0 : ckM m = 0 := by simp [ckM, HV.out]
      rw [e0]
      go_wp2_with ((with_reducible refine (between64_any _ _ _ _).mono ?_); rintro e w' ⟨rfl, rfl⟩; rw [HW.out])
      go_ret
      exact ⟨ret_i (by simp [ckMT, HV.out, HW.out]), (below_a _ _).trans (hb.mono (by simp))⟩

set_option maxHeartbeats 4000000 in
theorem after_any (m : Mac) (t v : Int) (w : World) (hm : VM m) (h1 : m.room ≤ t) (h2 : t ≤ m.top) :
    Calls Try.prog 48 #[.agg #[.int .i64 m.room, .int .i64 m.melt, .int .i64 m.cool, .int .i64 m.top, .int .i64 m.heat, .int .i64 m.chill, .int .i64 m.drift, .int .i64 m.hold, .int .i64 m.life], .int .i64 t, .int .i64 v] w fun e w' => e = .returned (.int .i64 (aft m t v)) ∧ Below w.heap.size w w' := by
  have a1 := hm.room; have a2 := hm.top4; have a3 := hm.heat1; have a4 := hm.heat4; have a5 := hm.chill1; have a6 := hm.chill4; have a7 := hm.drift0; have a8 := hm.drift4
  have e1 : IntKind.i64.wrap (t + m.heat) = t + m.heat := IntWalk.i64_in _ (by omega)
  have e2 : IntKind.i64.wrap (t - m.chill) = t - m.chill := IntWalk.i64_in _ (by omega)
  have e3 : IntKind.i64.wrap (t - m.drift) = t - m.drift := IntWalk.i64_in _ (by omega)
  clear a1 a2 a3 a4 a5 a6 a7 a8 hm h1 h2
  by_cases q1 : v = 1
  · subst q1
    obtain ⟨r, hr⟩ : ∃ r, aft m t 1 = r := ⟨_, rfl⟩
    have m1 : (if m.top < t + m.heat then m.top else t + m.heat) = r := by rw [← hr]; unfold aft; split <;> omega
    rw [hr]
    clear hr
    go_enter Try.func48, Try.ntmps48
    go_wp2
    go_ret
    exact ⟨rfl, below_a _ _⟩
  · by_cases q2 : v = 2
    · subst q2
      obtain ⟨r, hr⟩ : ∃ r, aft m t 2 = r := ⟨_, rfl⟩
      have m1 : (if t - m.chill < m.room then m.room else t - m.chill) = r := by rw [← hr]; unfold aft; split <;> omega
      rw [hr]
      clear hr
      go_enter Try.func48, Try.ntmps48
      go_wp2
      go_ret
      exact ⟨rfl, below_a _ _⟩
    · obtain ⟨r, hr⟩ : ∃ r, aft m t v = r := ⟨_, rfl⟩
      have m1 : (if t - m.drift < m.room then m.room else t - m.drift) = r := by rw [← hr]; unfold aft; rw [if_neg q1, if_neg q2]; split <;> omega
      rw [hr]
      clear hr
      go_enter Try.func48, Try.ntmps48
      go_wp2
      go_ret
      exact ⟨rfl, below_a _ _⟩
end Go.Proofs.Ytomncopeekegoaa
