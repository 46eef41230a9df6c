/-
  Machines as numbers; temperatures after a tick.
-/
import Derived.Test.YtomncopeekegoaaSm
import Derived.Test.YtomncopeekegoaaOr
import Derived.WalkArith
namespace Go.Proofs.Ytomncopeekegoaa
open Go.RowKit

structure Mac where
  room : Int
  melt : Int
  cool : Int
  top : Int
  heat : Int
  chill : Int
  drift : Int
  hold : Int
  life : Int
structure VM (m : Mac) : Prop where
  room : 0 ≤ m.room
  cool : m.room ≤ m.cool
  melt : m.cool < m.melt
  top : m.melt ≤ m.top
  top4 : m.top ≤ 400
  heat1 : 1 ≤ m.heat
  heat4 : m.heat ≤ 400
  chill1 : 1 ≤ m.chill
  chill4 : m.chill ≤ 400
  drift0 : 0 ≤ m.drift
  drift4 : m.drift ≤ 400
  hold1 : 1 ≤ m.hold
  hold6 : m.hold ≤ 64
  life1 : 1 ≤ m.life
  life6 : m.life ≤ 65536
/-- Whether a machine is valid, as the conditions stand one after another. -/
def vM (m : Mac) : Bool := decide (0 ≤ m.room) && decide (m.room ≤ m.cool) && decide (m.cool < m.melt) && decide (m.melt ≤ m.top) && decide (m.top ≤ 400) && win m.heat 1 400 && win m.chill 1 400 && win m.drift 0 400 && win m.hold 1 64 && win m.life 1 65536
theorem win_iff {x lo hi : Int} : win x lo hi = true ↔ lo ≤ x ∧ x ≤ hi := by simp [win]
theorem win_not {x lo hi : Int} : win x lo hi = false ↔ x < lo ∨ hi < x := by simp [win]; omega
theorem vM_iff {m : Mac} : vM m = true ↔ VM m := by
  unfold vM
  simp only [Bool.and_eq_true, decide_eq_true_eq, win_iff]
  constructor
  · rintro ⟨⟨⟨⟨⟨⟨⟨⟨⟨h1, h2⟩, h3⟩, h4⟩, h5⟩, h6, h7⟩, h8, h9⟩, h10, h11⟩, h12, h13⟩, h14, h15⟩
    exact ⟨h1, h2, h3, h4, h5, h6, h7, h8, h9, h10, h11, h12, h13, h14, h15⟩
  · rintro ⟨h1, h2, h3, h4, h5, h6, h7, h8, h9, h10, h11, h12, h13, h14, h15⟩
    exact ⟨⟨⟨⟨⟨⟨⟨⟨⟨h1, h2⟩, h3⟩, h4⟩, h5⟩, h6, h7⟩, h8, h9⟩, h10, h11⟩, h12, h13⟩, h14, h15⟩
/-- 0: the machine is valid · 2: it is not. -/
def ckM (m : Mac) : Int := if vM m = true then 0 else 2
/-- The temperature after a tick. -/
def aft (m : Mac) (t v : Int) : Int := if v = 1 then min (t + m.heat) m.top else if v = 2 then max (t - m.chill) m.room else max (t - m.drift) m.room
theorem aft_bd {m : Mac} (h : VM m) {t : Int} (h1 : m.room ≤ t) (h2 : t ≤ m.top) (v : Int) : m.room ≤ aft m t v ∧ aft m t v ≤ m.top := by
  have a1 := h.cool; have a2 := h.melt; have a3 := h.top; have a4 := h.heat1; have a5 := h.chill1; have a6 := h.drift0
  unfold aft
  split
  · omega
  · split <;> omega
/-- The error of a machine and a temperature. -/
def ckMT (m : Mac) (t : Int) : Int := if vM m = true then (if win t m.room m.top = true then 0 else 3) else 2
def tkE (m : Mac) (t v : Int) : Int := if vM m = true then (if win t m.room m.top = true then (if win v 0 2 = true then 0 else 3) else 3) else 2
def tkT (m : Mac) (t v : Int) : Int := if tkE m t v = 0 then aft m t v else 0
theorem bool10 : ∀ a b c d e f g h i j : Bool, a = false ∨ (a = true ∧ b = false) ∨ (a = true ∧ b = true ∧ c = false) ∨ (a = true ∧ b = true ∧ c = true ∧ d = false) ∨ (a = true ∧ b = true ∧ c = true ∧ d = true ∧ e = false) ∨
    (a = true ∧ b = true ∧ c = true ∧ d = true ∧ e = true ∧ f = false) ∨ (a = true ∧ b = true ∧ c = true ∧ d = true ∧ e = true ∧ f = true ∧ g = false) ∨ (a = true ∧ b = true ∧ c = true ∧ d = true ∧ e = true ∧ f = true ∧ g = true ∧ h = false) ∨
    (a = true ∧ b = true ∧ c = true ∧ d = true ∧ e = true ∧ f = true ∧ g = true ∧ h = true ∧ i = false) ∨ (a = true ∧ b = true ∧ c = true ∧ d = true ∧ e = true ∧ f = true ∧ g = true ∧ h = true ∧ i = true ∧ j = false) ∨
    (a = true ∧ b = true ∧ c = true ∧ d = true ∧ e = true ∧ f = true ∧ g = true ∧ h = true ∧ i = true ∧ j = true) := by
  intro a b c d e f g h i j
  cases a
  · simp
  cases b
  · simp
  cases c
  · simp
  cases d
  · simp
  cases e
  · simp
  cases f
  · simp
  cases g
  · simp
  cases h
  · simp
  cases i
  · simp
  cases j <;> simp
/-- The cells of a machine. -/
def macC (m : Mac) : Array Value := #[.int .i64 m.room, .int .i64 m.melt, .int .i64 m.cool, .int .i64 m.top, .int .i64 m.heat, .int .i64 m.chill, .int .i64 m.drift, .int .i64 m.hold, .int .i64 m.life]
/-- A machine lies in block g. -/
def MB (w : World) (g : Nat) (m : Mac) : Prop := Blk w g 23 (macC m)
theorem Blk.nine {w : World} {g : Nat} {t : TypeId} {a b c d e f g' h i : Value} (H : Blk w g t #[a, b, c, d, e, f, g', h, i]) :
    w.cell? ⟨g, 0, none⟩ = some a ∧ w.cell? ⟨g, 1, none⟩ = some b ∧ w.cell? ⟨g, 2, none⟩ = some c ∧ w.cell? ⟨g, 3, none⟩ = some d ∧ w.cell? ⟨g, 4, none⟩ = some e ∧ w.cell? ⟨g, 5, none⟩ = some f ∧ w.cell? ⟨g, 6, none⟩ = some g' ∧ w.cell? ⟨g, 7, none⟩ = some h ∧ w.cell? ⟨g, 8, none⟩ = some i :=
  ⟨(H.cell 0).trans rfl, (H.cell 1).trans rfl, (H.cell 2).trans rfl, (H.cell 3).trans rfl, (H.cell 4).trans rfl, (H.cell 5).trans rfl, (H.cell 6).trans rfl, (H.cell 7).trans rfl, (H.cell 8).trans rfl⟩
end Go.Proofs.Ytomncopeekegoaa
