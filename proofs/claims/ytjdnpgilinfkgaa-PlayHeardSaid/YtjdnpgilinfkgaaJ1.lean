/-
  Cutters; the contract of Check of package groove.
-/
import Derived.Test.YtjdnpgilinfkgaaA2
import Derived.Test.YtjdnpgilinfkgaaJG
import Derived.Test.YtjdnpgilinfkgaaOr
namespace Go.Proofs.Ytjdnpgilinfkgaa
open Go.RowKit

structure Ctr where
  half : Int
  gain : Int
  thin : Int
  wide : Int
  slope : Int
  jerk : Int
  stylus : Int

def vC (c : Ctr) : Bool := win c.half 1 4096 && win c.gain 0 100000 && win c.thin 0 c.wide && win c.wide 0 1048576 && win c.slope 0 10000 && win c.jerk 0 1048576 && win c.stylus 0 1024
/-- 0: the cutter is valid · 2: it is not. -/
def ckC (c : Ctr) : Int := if vC c = true then 0 else 2

theorem bool7 : ∀ a b c d e f g : Bool, a = false ∨ (a = true ∧ b = false) ∨ (a = true ∧ b = true ∧ c = false) ∨ (a = true ∧ b = true ∧ c = true ∧ d = false) ∨ (a = true ∧ b = true ∧ c = true ∧ d = true ∧ e = false) ∨
    (a = true ∧ b = true ∧ c = true ∧ d = true ∧ e = true ∧ f = false) ∨ (a = true ∧ b = true ∧ c = true ∧ d = true ∧ e = true ∧ f = true ∧ g = false) ∨ (a = true ∧ b = true ∧ c = true ∧ d = true ∧ e = true ∧ f = true ∧ g = true) := by
  intro a b c d e f g
  cases a <;> cases b <;> cases c <;> cases d <;> cases e <;> cases f <;> cases g <;> simp

set_option maxHeartbeats 1000000 in
theorem Check_any (c : Ctr) (w : World) :
    Calls Try.prog 69 #[.agg #[.int .i64 c.half, .int .i64 c.gain, .int .i64 c.thin, .int .i64 c.wide, .int .i64 c.slope, .int .i64 c.jerk, .int .i64 c.stylus]] w fun e w' => e = .returned (.int .i64 (ckC c)) ∧ Below w.heap.size w w' := by
  rcases bool7 (win c.half 1 4096) (win c.gain 0 100000) (win c.thin 0 c.wide) (win c.wide 0 1048576) (win c.slope 0 10000) (win c.jerk 0 1048576) (win c.stylus 0 1024) with
    h1 | ⟨h1, h2⟩ | ⟨h1, h2, h3⟩ | ⟨h1, h2, h3, h4⟩ | ⟨h1, h2, h3, h4, h5⟩ | ⟨h1, h2, h3, h4, h5, h6⟩ | ⟨h1, h2, h3, h4, h5, h6, h7⟩ | ⟨h1, h2, h3, h4, h5, h6, h7⟩
  all_goals
    have hr : ckC c = if vC c = true then 0 else 2 := rfl
    unfold vC at hr
    simp only [*, Bool.and_true, Bool.and_false, Bool.false_and, if_true, if_false, Bool.false_eq_true] at hr
    have HR := Lib.hid hr
    clear hr
    have H1 := Lib.hid h1
    (try have H2 := Lib.hid h2); (try have H3 := Lib.hid h3); (try have H4 := Lib.hid h4); (try have H5 := Lib.hid h5); (try have H6 := Lib.hid h6); (try have H7 := Lib.hid h7)
    (try clear h1); (try clear h2); (try clear h3); (try clear h4); (try clear h5); (try clear h6); (try clear h7)
    go_enter Try.func69, Try.ntmps69
    go_wp2_with ((with_reducible refine (between_any _ _ _ _).mono ?_); rintro e w' ⟨rfl, rfl⟩; (try rw [H1.out]); (try rw [H2.out]); (try rw [H3.out]); (try rw [H4.out]); (try rw [H5.out]); (try rw [H6.out]); (try rw [H7.out]))
    go_ret
    exact ⟨ret_i HR.out.symm, (Below.refl _ _).alloc (Nat.le_refl _) _⟩

end Go.Proofs.Ytjdnpgilinfkgaa
