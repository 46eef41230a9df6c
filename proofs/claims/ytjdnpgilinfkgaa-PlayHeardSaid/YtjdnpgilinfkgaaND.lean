/-
  Small contracts of arms: between, checkArm, the document's CheckArm, Bend, Jump and Balance.
-/
import Derived.Test.YtjdnpgilinfkgaaNB
import Derived.Test.YtjdnpgilinfkgaaKG
import Derived.Test.YtjdnpgilinfkgaaMA
namespace Go.Proofs.Ytjdnpgilinfkgaa
open Go.RowKit

set_option maxHeartbeats 400000 in
theorem betweenP_any (lo x hi : Int) (w : World) :
    Calls Try.prog 81 #[.int .i64 lo, .int .i64 x, .int .i64 hi] w fun e w' => e = .returned (.bool (win x lo hi)) ∧ w = w' := by
  by_cases h1 : lo ≤ x <;> by_cases h2 : x ≤ hi
  all_goals
    go_enter Try.func81, Try.ntmps81
    go_wp2
    go_ret
    exact ⟨by simp [win, h1, h2], rfl⟩

set_option maxHeartbeats 1000000 in
theorem checkArm_any (a : Int × Int) (w : World) :
    Calls Try.prog 76 #[.agg #[.int .i64 a.1, .int .i64 a.2]] w fun e w' => e = .returned (.int .i64 (ckA a)) ∧ Below w.heap.size w w' := by
  cases h1 : win a.1 0 67108864 <;> cases h2 : win a.2 (-67108864) 67108864
  all_goals
    have H1 := Lib.hid h1
    have H2 := Lib.hid h2
    have hr : ckA a = if win a.1 0 67108864 && win a.2 (-67108864) 67108864 then 0 else 2 := rfl
    simp only [h1, h2, Bool.and_true, Bool.and_false, if_true, if_false, Bool.false_eq_true] at hr
    have HR := Lib.hid hr
    clear h1 h2 hr
    go_enter Try.func76, Try.ntmps76
    go_wp2_with ((with_reducible refine (betweenP_any _ _ _ _).mono ?_); rintro e w' ⟨rfl, rfl⟩; (try rw [H1.out]); (try rw [H2.out]))
    go_ret
    exact ⟨ret_i HR.out.symm, (Below.refl _ _).alloc (Nat.le_refl _) _⟩

set_option maxHeartbeats 1000000 in
theorem refCheckArm_any (a : Int × Int) (w : World) :
    Calls Try.prog 44 #[.agg #[.int .i64 a.1, .int .i64 a.2]] w fun e w' => e = .returned (.bool (decide (ckA a = 0))) ∧ Below w.heap.size w w' := by
  have hr : decide (ckA a = 0) = (win a.1 0 67108864 && win a.2 (-67108864) 67108864) := by
    unfold ckA
    cases win a.1 0 67108864 && win a.2 (-67108864) 67108864 <;> rfl
  have HR := Lib.hid hr
  clear hr
  cases d1 : decide (0 ≤ a.1) <;> cases d2 : decide (a.1 ≤ 67108864) <;> cases d3 : decide (-67108864 ≤ a.2) <;> cases d4 : decide (a.2 ≤ 67108864)
  all_goals
    have c1 := d1
    have c2 := d2
    have c3 := d3
    have c4 := d4
    simp only [decide_eq_true_eq, decide_eq_false_iff_not] at c1 c2 c3 c4
    first
    | (exfalso; omega)
    | have HX : Hid ((win a.1 0 67108864 && win a.2 (-67108864) 67108864) = _) := Lib.hid (by unfold win; rw [d1, d2, d3, d4])
      go_enter Try.func44, Try.ntmps44
      go_wp2
      go_ret
      exact ⟨ret_b (by rw [HR.out, HX.out]; rfl), (Below.refl _ _).alloc (Nat.le_refl _) _⟩

set_option maxRecDepth 100000 in
set_option maxHeartbeats 2000000 in
theorem refBend_any (B : Nat) (A : Option Addr) (n c i : Nat) (l : List Smp) (w : World) (h0 : RS w B A n l) (he : Edg l) (hn : n ≤ 4096) (h1 : 1 ≤ i) (h2 : i + 1 < n) :
    Calls Try.prog 45 #[.slice A n c, .int .i64 i] w fun e w' => e = .returned (.int .i64 (bdL l i)) ∧ Below w.heap.size w w' := by
  have hnl : n = l.length := h0.1
  obtain ⟨j, hj⟩ : ∃ j, i - 1 = j := ⟨_, rfl⟩
  obtain ⟨i2, hi2⟩ : ∃ j, i + 1 = j := ⟨_, rfl⟩
  have x0 : j < l.length := by omega
  have x1 : i < l.length := by omega
  have x2 : i2 < l.length := by omega
  obtain ⟨ad, hA, _, p0, p1⟩ := h0.at_ x0
  obtain ⟨ad', hA', _, q0, q1⟩ := h0.at_ x1
  obtain ⟨ad2, hA2, _, r0, r1⟩ := h0.at_ x2
  obtain rfl := hA
  obtain rfl := Option.some.inj hA'
  obtain rfl := Option.some.inj hA2
  have bnd : ∀ u (hu : u < l.length), (-4194304 ≤ l[u].1 ∧ l[u].1 ≤ 4194304) ∧ -4194304 ≤ l[u].2 ∧ l[u].2 ≤ 4194304 := fun u hu => by
    have h1 := he.1 u hu
    have h2 := he.2 u hu
    rw [innW_eq hu] at h1
    rw [outW_eq hu] at h2
    omega
  have b0 := bnd j x0
  have b1 := bnd i x1
  have b2 := bnd i2 x2
  have HV : Hid (bdL l i = (l[j].1 + l[j].2) + (l[i2].1 + l[i2].2) - 2 * (l[i].1 + l[i].2)) := Lib.hid (by
    unfold bdL
    rw [hj, hi2, midL_eq x0, midL_eq x1, midL_eq x2])
  obtain ⟨p, hp⟩ : ∃ p, l[j] = p := ⟨_, rfl⟩
  obtain ⟨q, hq⟩ : ∃ q, l[i] = q := ⟨_, rfl⟩
  obtain ⟨r, hr⟩ : ∃ r, l[i2] = r := ⟨_, rfl⟩
  rw [hp] at p0 p1 b0 HV
  rw [hq] at q0 q1 b1 HV
  rw [hr] at r0 r1 b2 HV
  clear hp hq hr bnd
  have e1 : IntKind.i64.wrap ((i : Int) - 1) = (j : Int) := by rw [show (i : Int) - 1 = j by omega]; exact IntWalk.i64_in _ (by omega)
  have e2 : IntKind.i64.wrap ((i : Int) + 1) = (i2 : Int) := by rw [show (i : Int) + 1 = i2 by omega]; exact IntWalk.i64_in _ (by omega)
  have w1 : IntKind.i64.wrap (p.1 + p.2) = p.1 + p.2 := IntWalk.i64_in _ (by omega)
  have w2 : IntKind.i64.wrap (p.1 + p.2 + r.1) = p.1 + p.2 + r.1 := IntWalk.i64_in _ (by omega)
  have w3 : IntKind.i64.wrap (p.1 + p.2 + r.1 + r.2) = p.1 + p.2 + r.1 + r.2 := IntWalk.i64_in _ (by omega)
  have w4 : IntKind.i64.wrap (q.1 + q.2) = q.1 + q.2 := IntWalk.i64_in _ (by omega)
  have w5 : IntKind.i64.wrap (2 * (q.1 + q.2)) = 2 * (q.1 + q.2) := IntWalk.i64_in _ (by omega)
  have w6 : IntKind.i64.wrap (p.1 + p.2 + r.1 + r.2 - 2 * (q.1 + q.2)) = p.1 + p.2 + r.1 + r.2 - 2 * (q.1 + q.2) := IntWalk.i64_in _ (by omega)
  have g0 : (j : Int) < (n : Int) := by omega
  have g1 : (i : Int) < (n : Int) := by omega
  have g2 : (i2 : Int) < (n : Int) := by omega
  clear h0 hnl hj hi2 x0 x1 x2 b0 b1 b2 h1 h2 he
  go_enter Try.func45, Try.ntmps45
  go_wp2_with fail
  try dsimp only [List.append]
  go_quiet (fail)
  go_wp2
  go_ret
  exact ⟨ret_i (by rw [HV.out]; omega), below_drewN_ (Below.refl _ _) _⟩
end Go.Proofs.Ytjdnpgilinfkgaa
