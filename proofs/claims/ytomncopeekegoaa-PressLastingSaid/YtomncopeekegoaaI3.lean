/-
  Presses at a boiler: the house and its checks; the ends that a disc has to wait for; the earliest time.
-/
import Derived.Test.YtomncopeekegoaaI2
import Derived.Test.YtomncopeekegoaaLi
import Derived.Test.YtomncopeekegoaaL1
import Derived.RangeFuncNested
import Derived.RangeFuncLeaves
import Derived.RangeFuncBound
import Derived.RangeFuncCalls
import Derived.RangeFuncKeeps
import Derived.Shelf.Abstract
import Derived.Shelf.RegionOpen
import Derived.OwnWalkIn
import Derived.TacticsInMore
import Derived.LoopNIn
import Derived.LoopIn
namespace Go.Proofs.Ytomncopeekegoaa
open Go.RowKit Go.Shelf
attribute [local go_sem] Oper.semAt_some

set_option maxHeartbeats 4000000 in
theorem refTick_any (m : Mac) (t v : Int) (w : World) :
    Calls Try.prog 16 #[.agg #[.int .i64 m.room, .int .i64 m.melt, .int .i64 m.cool, .int .i64 m.top, .int .i64 m.heat, .int .i64 m.chill, .int .i64 m.drift, .int .i64 m.hold, .int .i64 m.life], .int .i64 t, .int .i64 v] w fun e w' => e = .returned (.tuple #[.int .i64 (tkT m t v), .int .i64 (tkE m t v)]) ∧ Below w.heap.size w w' := by
  cases hv : vM m
  · have HE : Hid (tkE m t v = 2 ∧ tkT m t v = 0) := Lib.hid (by simp [tkE, tkT, hv])
    have HC : Hid (ckM m = 2) := Lib.hid (by simp [ckM, hv])
    clear hv
    go_enter Try.func16, Try.ntmps16
    go_wp2_with fail
    refine (refCheck_any _ _).mono ?_
    rintro e w' ⟨rfl, hb⟩
    rw [HC.out]
    go_wp2
    go_ret2
    rw [HE.out.1, HE.out.2]
    exact ⟨rfl, (below_a _ _).trans (hb.mono (by simp))⟩
  · have hm := vM_iff.1 hv
    have HC : Hid (ckM m = 0) := Lib.hid (by simp [ckM, hv])
    by_cases hg : win t m.room m.top = true ∧ win v 0 2 = true
    · obtain ⟨hw, hx⟩ := hg
      have ht := win_iff.1 hw
      have hvv := win_iff.1 hx
      have HE : Hid (tkE m t v = 0 ∧ tkT m t v = aft m t v) := Lib.hid (by simp [tkE, tkT, hv, hw, hx])
      have HW := Lib.hid hw
      have HM := Lib.hid hm
      have HT := Lib.hid ht
      have q1 : ¬ (v < 0) := by omega
      have q2 : ¬ (2 < v) := by omega
      clear hv hw hx hm ht hvv
      go_enter Try.func16, Try.ntmps16
      go_wp2_with fail
      refine (refCheck_any _ _).mono ?_
      rintro e w' ⟨rfl, hb⟩
      have K := (Blk.new w 23 #[.int .i64 m.room, .int .i64 m.melt, .int .i64 m.cool, .int .i64 m.top, .int .i64 m.heat, .int .i64 m.chill, .int .i64 m.drift, .int .i64 m.hold, .int .i64 m.life]).below hb (by simp)
      obtain ⟨c0, c1, c2, c3, c4, c5, c6, c7, c8⟩ := K.nine
      rw [HC.out]
      go_wp2_with fail
      refine (within_any _ _ _ _).mono ?_
      rintro e w' ⟨rfl, rfl⟩
      rw [HW.out]
      go_wp2_with fail
      refine (tick_any _ _ _ _ HM.out HT.out.1 HT.out.2).mono ?_
      rintro e w2 ⟨rfl, hb2⟩
      go_wp2
      go_ret2
      rw [HE.out.1, HE.out.2]
      exact ⟨rfl, ((below_a _ _).trans (hb.mono (by simp))).trans (hb2.mono (by have := hb.size; simp at this; omega))⟩
    · have HE : Hid (tkE m t v = 3 ∧ tkT m t v = 0) := Lib.hid (by
        have : tkE m t v = 3 := by
          unfold tkE; rw [if_pos hv]; split
          · rename_i h1; rw [if_neg (fun h2 => hg ⟨h1, h2⟩)]
          · rfl
        exact ⟨this, by simp [tkT, this]⟩)
      have hg2 : win t m.room m.top = false ∨ (win t m.room m.top = true ∧ (v < 0 ∨ ¬ v < 0 ∧ 2 < v)) := by
        cases hw : win t m.room m.top
        · exact .inl rfl
        · refine .inr ⟨rfl, ?_⟩
          have hx : win v 0 2 = false := by cases hx : win v 0 2; rfl; exact absurd ⟨hw, hx⟩ hg
          have := win_not.1 hx; omega
      clear hg hv hm
      go_enter Try.func16, Try.ntmps16
      go_wp2_with fail
      refine (refCheck_any _ _).mono ?_
      rintro e w' ⟨rfl, hb⟩
      have K := (Blk.new w 23 #[.int .i64 m.room, .int .i64 m.melt, .int .i64 m.cool, .int .i64 m.top, .int .i64 m.heat, .int .i64 m.chill, .int .i64 m.drift, .int .i64 m.hold, .int .i64 m.life]).below hb (by simp)
      obtain ⟨c0, c1, c2, c3, c4, c5, c6, c7, c8⟩ := K.nine
      rw [HC.out]
      go_wp2_with fail
      refine (within_any _ _ _ _).mono ?_
      rintro e w' ⟨rfl, rfl⟩
      rcases hg2 with h | ⟨h, h' | ⟨h', h''⟩⟩
      all_goals
        rw [h]
        clear h
        go_wp2
        go_ret2
        rw [HE.out.1, HE.out.2]
        exact ⟨rfl, (below_a _ _).trans (hb.mono (by simp))⟩

/-- The error of a house. -/
def ckH (p b st rs n : Int) : Int := if win p 1 64 && win b 1 64 && win st 1 65536 && win rs 1 65536 then (if win n 0 1000 = true then 0 else 6) else 3
theorem bool5 : ∀ a b c d e : Bool, a = false ∨ (a = true ∧ b = false) ∨ (a = true ∧ b = true ∧ c = false) ∨ (a = true ∧ b = true ∧ c = true ∧ d = false) ∨ (a = true ∧ b = true ∧ c = true ∧ d = true ∧ e = false) ∨ (a = true ∧ b = true ∧ c = true ∧ d = true ∧ e = true) := by
  intro a b c d e
  cases a <;> cases b <;> cases c <;> cases d <;> cases e <;> simp
set_option maxHeartbeats 4000000 in
theorem checkHouse_any (p b st rs n : Int) (w : World) :
    Calls Try.prog 58 #[.agg #[.int .i64 p, .int .i64 b, .int .i64 st, .int .i64 rs], .int .i64 n] w fun e w' => e = .returned (.int .i64 (ckH p b st rs n)) ∧ Below w.heap.size w w' := by
  rcases bool5 (win p 1 64) (win b 1 64) (win st 1 65536) (win rs 1 65536) (win n 0 1000) with
    h1 | ⟨h1, h2⟩ | ⟨h1, h2, h3⟩ | ⟨h1, h2, h3, h4⟩ | ⟨h1, h2, h3, h4, h5⟩ | ⟨h1, h2, h3, h4, h5⟩
  all_goals
    have hr : ckH p b st rs n = ckH p b st rs n := rfl
    conv at hr => { rhs; unfold ckH }
    simp only [*, Bool.and_true, Bool.and_false, Bool.false_and, if_true, if_false, Bool.false_eq_true] at hr
    have HR := Lib.hid hr
    have H1 := Lib.hid h1
    clear hr h1
    (try have H2 := Lib.hid h2); (try have H3 := Lib.hid h3); (try have H4 := Lib.hid h4); (try have H5 := Lib.hid h5)
    (try clear h2); (try clear h3); (try clear h4); (try clear h5)
    go_enter Try.func58, Try.ntmps58
    go_wp2_with (first | ((with_reducible refine (between64_any _ _ _ _).mono ?_); rintro e w' ⟨rfl, rfl⟩; (try rw [H3.out]); (try rw [H4.out])) | ((with_reducible refine (betweenI_any _ _ _ _).mono ?_); rintro e w' ⟨rfl, rfl⟩; (try rw [H1.out]); (try rw [H2.out]); (try rw [H5.out])))
    go_ret
    exact ⟨ret_i HR.out.symm, below_a _ _⟩
end Go.Proofs.Ytomncopeekegoaa
