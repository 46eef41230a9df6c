/-
  Contracts of between, Check, checkHalf, tooFar, radius, keptBy, edge and land of package lathe, and of within, Check, Weigh, Kept and land of the document.
-/
import Derived.Test.YtgdkcbnpgpjnbaaLE
import Derived.Test.YtgdkcbnpgpjnbaaLt
import Derived.Test.YtgdkcbnpgpjnbaaLi
namespace Go.Proofs.Ytgdkcbnpgpjnbaa
open Go.RowKit

set_option maxHeartbeats 400000 in
theorem betweenL_any (lo x hi : Int) (w : World) :
    Calls Try.prog 50 #[.int .i64 lo, .int .i64 x, .int .i64 hi] w fun e w' => e = .returned (.bool (win x lo hi)) ∧ w = w' := by
  by_cases h1 : lo ≤ x <;> by_cases h2 : x ≤ hi
  all_goals
    go_enter Try.func50, Try.ntmps50
    go_wp2
    go_ret
    exact ⟨by simp [win, h1, h2], rfl⟩
set_option maxHeartbeats 400000 in
theorem within5_any (x lo hi : Int) (w : World) :
    Calls Try.prog 51 #[.int .i64 x, .int .i64 lo, .int .i64 hi] w fun e w' => e = .returned (.bool (win x lo hi)) ∧ w = w' := by
  by_cases h1 : lo ≤ x <;> by_cases h2 : x ≤ hi
  all_goals
    have h1' : x ≥ lo ↔ lo ≤ x := Iff.rfl
    go_enter Try.func51, Try.ntmps51
    go_wp2
    go_ret
    exact ⟨by simp [win, h1, h2], rfl⟩

/-- The points of a groove that is valid. -/
def PtOk (p : Smp) : Prop := -4194304 ≤ p.1 ∧ p.1 ≤ 4194304 ∧ -4194304 ≤ p.2 ∧ p.2 ≤ 4194304
def PsOk (P : List Smp) : Prop := ∀ p ∈ P, PtOk p
theorem pin_eq {P : List Smp} {i : Nat} (h : i < P.length) : pin P i = P[i].1 := by unfold pin; rw [List.getD_eq_getElem?_getD, List.getElem?_eq_getElem h]; rfl
theorem pout_eq {P : List Smp} {i : Nat} (h : i < P.length) : pout P i = P[i].2 := by unfold pout; rw [List.getD_eq_getElem?_getD, List.getElem?_eq_getElem h]; rfl
theorem PsOk.at_ {P : List Smp} (h : PsOk P) (i : Nat) : -4194304 ≤ pin P i ∧ pin P i ≤ 4194304 ∧ -4194304 ≤ pout P i ∧ pout P i ≤ 4194304 := by
  by_cases hi : i < P.length
  · rw [pin_eq hi, pout_eq hi]; exact h _ (List.getElem_mem hi)
  · unfold pin pout; rw [List.getD_eq_getElem?_getD, List.getElem?_eq_none (by omega)]; simp
theorem RS.pt {w : World} {B : Nat} {A : Option Addr} {n : Nat} {P : List Smp} (h : RS w B A n P) {k : Nat} (hk : k < n) :
    ∃ ad, A = some ad ∧ ad.block < B ∧ w.cell? (ad.add (k * 2)) = some (.int .i64 (pin P k)) ∧ w.cell? ⟨(ad.add (k * 2)).block, (ad.add (k * 2)).off + 1, none⟩ = some (.int .i64 (pout P k)) := by
  have hk' : k < P.length := h.1 ▸ hk
  rw [pin_eq hk', pout_eq hk']; exact h.at_ hk'

def vB (b : Bk) : Bool := win b.per 1 65536 && win b.core 0 b.rim && win b.rim 0 4194304 && win b.land 0 65536 && win b.slow 0 b.fast && win b.fast 0 65536
def ckB (b : Bk) : Int := if vB b = true then 0 else 2
theorem bkOk_of {b : Bk} (h : vB b = true) : BkOk b := by
  unfold vB win at h
  simp only [Bool.and_eq_true, decide_eq_true_eq] at h
  obtain ⟨⟨⟨⟨⟨⟨a1, a2⟩, b1, b2⟩, d1, d2⟩, e1, e2⟩, f1, f2⟩, g1, g2⟩ := h
  exact ⟨a1, a2, b1, b2, d2, e1, e2, f1, f2, g2⟩
theorem vB_of {b : Bk} (h : ckB b = 0) : vB b = true := by unfold ckB at h; split at h <;> first | assumption | omega
theorem bool6 (a b c d e f : Bool) : a = false ∨ (a = true ∧ b = false) ∨ (a = true ∧ b = true ∧ c = false) ∨ (a = true ∧ b = true ∧ c = true ∧ d = false) ∨ (a = true ∧ b = true ∧ c = true ∧ d = true ∧ e = false) ∨ (a = true ∧ b = true ∧ c = true ∧ d = true ∧ e = true ∧ f = false) ∨ (a = true ∧ b = true ∧ c = true ∧ d = true ∧ e = true ∧ f = true) := by
  cases a <;> cases b <;> cases c <;> cases d <;> cases e <;> cases f <;> simp

set_option maxHeartbeats 4000000 in
theorem CheckL_any (b : Bk) (w : World) :
    Calls Try.prog 21 #[.agg #[.int .i64 b.per, .int .i64 b.rim, .int .i64 b.core, .int .i64 b.land, .int .i64 b.slow, .int .i64 b.fast]] w fun e w' => e = .returned (.int .i64 (ckB b)) ∧ Below w.heap.size w w' := by
  rcases bool6 (win b.per 1 65536) (win b.core 0 b.rim) (win b.rim 0 4194304) (win b.land 0 65536) (win b.slow 0 b.fast) (win b.fast 0 65536) with
    h1 | ⟨h1, h2⟩ | ⟨h1, h2, h3⟩ | ⟨h1, h2, h3, h4⟩ | ⟨h1, h2, h3, h4, h5⟩ | ⟨h1, h2, h3, h4, h5, h6⟩ | ⟨h1, h2, h3, h4, h5, h6⟩
  all_goals
    have hr : vB b = vB b := rfl
    conv at hr => { rhs; unfold vB }
    simp only [*, Bool.and_true, Bool.and_false, Bool.false_and] at hr
    have HR := Lib.hid hr
    clear hr
    (try have H1 := Lib.hid h1); (try have H2 := Lib.hid h2); (try have H3 := Lib.hid h3); (try have H4 := Lib.hid h4); (try have H5 := Lib.hid h5); (try have H6 := Lib.hid h6)
    (try clear h1); (try clear h2); (try clear h3); (try clear h4); (try clear h5); (try clear h6)
    go_enter Try.func21, Try.ntmps21
    go_wp2_with ((with_reducible refine (betweenL_any _ _ _ _).mono ?_); rintro e w' ⟨rfl, rfl⟩; (try rw [H1.out]); (try rw [H2.out]); (try rw [H3.out]); (try rw [H4.out]); (try rw [H5.out]); (try rw [H6.out]))
    go_ret
    exact ⟨ret_i (by simp [ckB, HR.out]), (Below.refl _ _).alloc (Nat.le_refl _) _⟩

set_option maxHeartbeats 4000000 in
theorem refCheck5_any (b : Bk) (w : World) :
    Calls Try.prog 22 #[.agg #[.int .i64 b.per, .int .i64 b.rim, .int .i64 b.core, .int .i64 b.land, .int .i64 b.slow, .int .i64 b.fast]] w fun e w' => e = .returned (.int .i64 (ckB b)) ∧ Below w.heap.size w w' := by
  have hg : win b.fast 0 65536 = (decide (0 ≤ b.fast) && decide (b.fast ≤ 65536)) := rfl
  rcases bool6 (win b.per 1 65536) (win b.rim 0 4194304) (win b.core 0 b.rim) (win b.land 0 65536) (win b.slow 0 b.fast) (decide (b.fast ≤ 65536)) with
    h1 | ⟨h1, h2⟩ | ⟨h1, h2, h3⟩ | ⟨h1, h2, h3, h4⟩ | ⟨h1, h2, h3, h4, h5⟩ | ⟨h1, h2, h3, h4, h5, h6⟩ | ⟨h1, h2, h3, h4, h5, h6⟩
  all_goals
    have hr : vB b = vB b := rfl
    conv at hr => { rhs; unfold vB }
    have h0 : win b.slow 0 b.fast = true → decide (0 ≤ b.fast) = true := by intro h; simp only [win, Bool.and_eq_true, decide_eq_true_eq] at h ⊢; omega
    (try have h7 := h0 h5)
    rw [hg] at hr
    simp only [*, Bool.and_true, Bool.and_false, Bool.false_and] at hr
    have HR := Lib.hid hr
    (try have c6 : ¬ b.fast ≤ 65536 := by simpa using h6)
    (try have c6 : b.fast ≤ 65536 := by simpa using h6)
    clear hr h0 hg
    (try clear h7)
    (try have H1 := Lib.hid h1); (try have H2 := Lib.hid h2); (try have H3 := Lib.hid h3); (try have H4 := Lib.hid h4); (try have H5 := Lib.hid h5)
    (try clear h1); (try clear h2); (try clear h3); (try clear h4); (try clear h5); (try clear h6)
    go_enter Try.func22, Try.ntmps22
    go_wp2_with ((with_reducible refine (within5_any _ _ _ _).mono ?_); rintro e w' ⟨rfl, rfl⟩; (try rw [H1.out]); (try rw [H2.out]); (try rw [H3.out]); (try rw [H4.out]); (try rw [H5.out]))
    go_ret
    exact ⟨ret_i (by simp [ckB, HR.out]), (Below.refl _ _).alloc (Nat.le_refl _) _⟩

def ckHf (h : Int) : Int := if win h 1 4096 = true then 0 else 3
set_option maxHeartbeats 1000000 in
theorem checkHalf_any (h : Int) (w : World) :
    Calls Try.prog 56 #[.int .i64 h] w fun e w' => e = .returned (.int .i64 (ckHf h)) ∧ w = w' := by
  cases hv : win h 1 4096
  all_goals
    have HV := Lib.hid hv
    clear hv
    go_enter Try.func56, Try.ntmps56
    go_wp2_with ((with_reducible refine (betweenL_any _ _ _ _).mono ?_); rintro e w' ⟨rfl, rfl⟩; rw [HV.out])
    go_ret
    exact ⟨ret_i (by simp [ckHf, HV.out]), rfl⟩
def far (r : Int) : Bool := !win r (-16777216) 16777216
set_option maxHeartbeats 1000000 in
theorem tooFar_any (r : Int) (w : World) :
    Calls Try.prog 68 #[.int .i64 r] w fun e w' => e = .returned (.bool (far r)) ∧ w = w' := by
  cases hv : win r (-16777216) 16777216
  all_goals
    have HV := Lib.hid hv
    clear hv
    go_enter Try.func68, Try.ntmps68
    go_wp2_with ((with_reducible refine (betweenL_any _ _ _ _).mono ?_); rintro e w' ⟨rfl, rfl⟩; rw [HV.out])
    go_ret
    exact ⟨ret_b (by simp [far, HV.out]), rfl⟩

theorem fx_eq {R : List Int} {i : Nat} (h : i < R.length) : fx R i = R[i] := by unfold fx; rw [List.getD_eq_getElem?_getD, List.getElem?_eq_getElem h]; rfl
theorem LI.fx {w : World} {B : Nat} {A : Option Addr} {n : Nat} {R : List Int} (h : LI w B A n R) {k : Nat} (hk : k < n) : ∃ ad, A = some ad ∧ ad.block < B ∧ w.cell? (ad.add k) = some (.int .i64 (fx R k)) := by
  have hk' : k < R.length := h.1 ▸ hk
  obtain ⟨ad, e, hb, hc⟩ := h.at_ hk'
  rw [fx_eq hk']
  exact ⟨ad, e, hb, hc⟩
set_option maxHeartbeats 1000000 in
theorem radius_any (B : Nat) (A : Option Addr) (n c : Nat) (R : List Int) (i : Int) (w : World) (h0 : LI w B A n R) (hi : i = -1 ∨ (0 ≤ i ∧ i < n)) :
    Calls Try.prog 71 #[.slice A n c, .int .i64 i] w fun e w' => e = .returned (.int .i64 (rad R i)) ∧ w = w' := by
  have H := Lib.hid h0
  clear h0
  by_cases h : i = -1
  · subst h
    go_enter Try.func71, Try.ntmps71
    go_wp2
    go_ret
    exact ⟨rfl, rfl⟩
  · obtain ⟨k, rfl⟩ : ∃ k : Nat, i = (k : Int) := ⟨i.toNat, by omega⟩
    have hk : k < n := by omega
    obtain ⟨ad, rfl, hbl, hc⟩ := H.out.fx hk
    have h1 : ((k : Int) == -1) = false := by simp
    have e : rad R (k : Int) = fx R k := by unfold rad; rw [if_neg (by omega)]; rfl
    have HE := Lib.hid e
    clear hi e
    go_enter Try.func71, Try.ntmps71
    go_wp2
    go_ret
    exact ⟨ret_i HE.out.symm, rfl⟩
end Go.Proofs.Ytgdkcbnpgpjnbaa
