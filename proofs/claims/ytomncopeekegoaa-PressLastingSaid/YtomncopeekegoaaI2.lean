/-
  Contracts of Tick of package press and of the document; the document's Check and tick.
-/
import Derived.Test.YtomncopeekegoaaI1
namespace Go.Proofs.Ytomncopeekegoaa
open Go.RowKit

theorem tkE_0 {m : Mac} {t v : Int} (h1 : vM m = true) (h2 : win t m.room m.top = true) (h3 : win v 0 2 = true) : tkE m t v = 0 := by simp [tkE, h1, h2, h3]
set_option maxHeartbeats 4000000 in
theorem Tick_any (m : Mac) (t v : Int) (w : World) :
    Calls Try.prog 15 #[.agg #[.int .i64 m.room, .int .i64 m.melt, .int .i64 m.cool, .int .i64 m.top, .int .i64 m.heat, .int .i64 m.chill, .int .i64 m.drift, .int .i64 m.hold, .int .i64 m.life], .int .i64 t, .int .i64 v] w fun e w' => e = .returned (.tuple #[.int .i64 (tkT m t v), .int .i64 (tkE m t v)]) ∧ Below w.heap.size w w' := by
  obtain ⟨er, her⟩ : ∃ er, ckMT m t = er := ⟨_, rfl⟩
  by_cases h0 : er = 0
  · subst h0
    have hv : vM m = true := by cases h : vM m <;> simp_all [ckMT]
    have hw : win t m.room m.top = true := by cases h : win t m.room m.top <;> simp_all [ckMT]
    have hm := vM_iff.1 hv
    have ht := win_iff.1 hw
    cases hx : win v 0 2
    · have HE : Hid (tkE m t v = 3 ∧ tkT m t v = 0) := Lib.hid (by simp [tkE, tkT, hv, hw, hx])
      have HX := Lib.hid hx
      have HER := Lib.hid her
      clear hx her hv hw
      go_enter Try.func15, Try.ntmps15
      go_wp2_with fail
      refine (checkTemp_any _ _ _).mono ?_
      rintro e w' ⟨rfl, hb⟩
      rw [HER.out]
      go_wp2_with fail
      refine (betweenI_any _ _ _ _).mono ?_
      rintro e w' ⟨rfl, rfl⟩
      rw [HX.out]
      go_wp2
      go_ret2
      rw [HE.out.1, HE.out.2]
      exact ⟨rfl, (below_a _ _).trans (hb.mono (by simp))⟩
    · have HE : Hid (tkE m t v = 0 ∧ tkT m t v = aft m t v) := Lib.hid (by simp [tkE, tkT, hv, hw, hx])
      have HX := Lib.hid hx
      have HER := Lib.hid her
      have HM := Lib.hid hm
      have HT := Lib.hid ht
      clear hx her hv hw hm ht
      go_enter Try.func15, Try.ntmps15
      go_wp2_with fail
      refine (checkTemp_any _ _ _).mono ?_
      rintro e w' ⟨rfl, hb⟩
      have K := (Blk.new w 23 #[.int .i64 m.room, .int .i64 m.melt, .int .i64 m.cool, .int .i64 m.top, .int .i64 m.heat, .int .i64 m.chill, .int .i64 m.drift, .int .i64 m.hold, .int .i64 m.life]).below hb (by simp)
      obtain ⟨c0, c1, c2, c3, c4, c5, c6, c7, c8⟩ := K.nine
      rw [HER.out]
      go_wp2_with fail
      refine (betweenI_any _ _ _ _).mono ?_
      rintro e w' ⟨rfl, rfl⟩
      rw [HX.out]
      go_wp2_with fail
      refine (after_any _ _ _ _ HM.out HT.out.1 HT.out.2).mono ?_
      rintro e w2 ⟨rfl, hb2⟩
      go_wp2
      go_ret2
      rw [HE.out.1, HE.out.2]
      exact ⟨rfl, ((below_a _ _).trans (hb.mono (by simp))).trans (hb2.mono (by have := hb.size; simp at this; omega))⟩
  · have HE : Hid (tkE m t v = er ∧ tkT m t v = 0) := Lib.hid (by
      have : tkE m t v = er := by rw [← her]; unfold ckMT at her ⊢; unfold tkE; split <;> (try split) <;> simp_all
      exact ⟨this, by simp [tkT, this, h0]⟩)
    have HER := Lib.hid her
    have h0' : (er != 0) = true := by rw [bne_iff_ne]; exact h0
    have h0'' : (er == 0) = false := beq_eq_false_iff_ne.2 h0
    clear her
    go_enter Try.func15, Try.ntmps15
    go_wp2_with fail
    refine (checkTemp_any _ _ _).mono ?_
    rintro e w' ⟨rfl, hb⟩
    rw [HER.out]
    go_wp2
    go_ret2
    rw [HE.out.1, HE.out.2]
    exact ⟨rfl, (below_a _ _).trans (hb.mono (by simp))⟩

set_option maxHeartbeats 4000000 in
theorem refCheck_any (m : Mac) (w : World) :
    Calls Try.prog 18 #[.agg #[.int .i64 m.room, .int .i64 m.melt, .int .i64 m.cool, .int .i64 m.top, .int .i64 m.heat, .int .i64 m.chill, .int .i64 m.drift, .int .i64 m.hold, .int .i64 m.life]] w fun e w' => e = .returned (.int .i64 (ckM m)) ∧ Below w.heap.size w w' := by
  rcases bool10 (decide (0 ≤ m.room)) (decide (m.room ≤ m.cool)) (decide (m.cool < m.melt)) (decide (m.melt ≤ m.top)) (decide (m.top ≤ 400)) (win m.heat 1 400) (win m.chill 1 400) (win m.drift 0 400) (win m.hold 1 64) (win m.life 1 65536) with
    h1 | ⟨h1, h2⟩ | ⟨h1, h2, h3⟩ | ⟨h1, h2, h3, h4⟩ | ⟨h1, h2, h3, h4, h5⟩ | ⟨h1, h2, h3, h4, h5, h6⟩ | ⟨h1, h2, h3, h4, h5, h6, h7⟩ | ⟨h1, h2, h3, h4, h5, h6, h7, h8⟩ | ⟨h1, h2, h3, h4, h5, h6, h7, h8, h9⟩ | ⟨h1, h2, h3, h4, h5, h6, h7, h8, h9, h10⟩ | ⟨h1, h2, h3, h4, h5, h6, h7, h8, h9, h10⟩
  all_goals
    have hr : vM m = vM m := rfl
    conv at hr => { rhs; unfold vM }
    simp only [*, Bool.and_true, Bool.and_false, Bool.false_and] at hr
    have HR := Lib.hid hr
    clear hr
    simp only [decide_eq_true_eq, decide_eq_false_iff_not] at h1
    (try simp only [decide_eq_true_eq, decide_eq_false_iff_not] at h2); (try simp only [decide_eq_true_eq, decide_eq_false_iff_not] at h3); (try simp only [decide_eq_true_eq, decide_eq_false_iff_not] at h4); (try simp only [decide_eq_true_eq, decide_eq_false_iff_not] at h5)
    (try have H6 := Lib.hid h6); (try have H7 := Lib.hid h7); (try have H8 := Lib.hid h8); (try have H9 := Lib.hid h9); (try have H10 := Lib.hid h10)
    (try clear h6); (try clear h7); (try clear h8); (try clear h9); (try clear h10)
    have g1 : (m.room < 0) = ¬ (0 ≤ m.room) := by simp
    have g2 : (m.cool < m.room) = ¬ (m.room ≤ m.cool) := by simp
    have g3 : (m.melt ≤ m.cool) = ¬ (m.cool < m.melt) := by simp
    have g4 : (m.top < m.melt) = ¬ (m.melt ≤ m.top) := by simp
    have g5 : (400 < m.top) = ¬ (m.top ≤ 400) := by simp
    go_enter Try.func18, Try.ntmps18
    go_wp2_with ((with_reducible refine (within_any _ _ _ _).mono ?_); rintro e w' ⟨rfl, rfl⟩; (try rw [H6.out]); (try rw [H7.out]); (try rw [H8.out]); (try rw [H9.out]); (try rw [H10.out]))
    go_ret
    exact ⟨ret_i (by simp [ckM, HR.out]), below_a _ _⟩

set_option maxHeartbeats 4000000 in
theorem tick_any (m : Mac) (t v : Int) (w : World) (hm : VM m) (h1 : m.room ≤ t) (h2 : t ≤ m.top) :
    Calls Try.prog 50 #[.agg #[.int .i64 m.room, .int .i64 m.melt, .int .i64 m.cool, .int .i64 m.top, .int .i64 m.heat, .int .i64 m.chill, .int .i64 m.drift, .int .i64 m.hold, .int .i64 m.life], .int .i64 t, .int .i64 v] w fun e w' => e = .returned (.int .i64 (aft m t v)) ∧ Below w.heap.size w w' := by
  have a1 := hm.room; have a2 := hm.top4; have a3 := hm.heat1; have a4 := hm.heat4; have a5 := hm.chill1; have a6 := hm.chill4; have a7 := hm.drift0; have a8 := hm.drift4
  have e1 : IntKind.i64.wrap (t + m.heat) = t + m.heat := IntWalk.i64_in _ (by omega)
  have e2 : IntKind.i64.wrap (t - m.chill) = t - m.chill := IntWalk.i64_in _ (by omega)
  have e3 : IntKind.i64.wrap (t - m.drift) = t - m.drift := IntWalk.i64_in _ (by omega)
  clear a1 a2 a3 a4 a5 a6 a7 a8 hm h1 h2
  by_cases q1 : v = 1
  · subst q1
    obtain ⟨r, hr⟩ : ∃ r, aft m t 1 = r := ⟨_, rfl⟩
    have m1 : (if t + m.heat < m.top then t + m.heat else m.top) = r := by rw [← hr]; unfold aft; split <;> omega
    rw [hr]
    clear hr
    go_enter Try.func50, Try.ntmps50
    go_wp2
    go_ret
    exact ⟨rfl, below_a _ _⟩
  · by_cases q2 : v = 2
    · subst q2
      obtain ⟨r, hr⟩ : ∃ r, aft m t 2 = r := ⟨_, rfl⟩
      have m1 : (if m.room < t - m.chill then t - m.chill else m.room) = r := by rw [← hr]; unfold aft; split <;> omega
      rw [hr]
      clear hr
      go_enter Try.func50, Try.ntmps50
      go_wp2
      go_ret
      exact ⟨rfl, below_a _ _⟩
    · obtain ⟨r, hr⟩ : ∃ r, aft m t v = r := ⟨_, rfl⟩
      have m1 : (if m.room < t - m.drift then t - m.drift else m.room) = r := by rw [← hr]; unfold aft; rw [if_neg q1, if_neg q2]; split <;> omega
      rw [hr]
      clear hr
      go_enter Try.func50, Try.ntmps50
      go_wp2
      go_ret
      exact ⟨rfl, below_a _ _⟩
end Go.Proofs.Ytomncopeekegoaa
