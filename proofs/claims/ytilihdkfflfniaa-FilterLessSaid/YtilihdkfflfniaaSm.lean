/-
  Samples as lists of cells, and which are valid.
-/
import Derived.Test.YtilihdkfflfniaaWords
namespace Go.Proofs.Ytilihdkfflfniaa
open Go.RowKit

def win (x lo hi : Int) : Bool := decide (lo ≤ x) && decide (x ≤ hi)
def vs (l r : Int) : Bool := win l (-32767) 32767 && win r (-32767) 32767

/-- The amount of a number. -/
def am (x : Int) : Int := max x (-x)

abbrev Smp := Int × Int
def smpCells (xs : List Smp) : List Value := xs.flatMap fun s => [.int .i64 s.1, .int .i64 s.2]
theorem smpCells_length (xs : List Smp) : (smpCells xs).length = xs.length * 2 := by
  induction xs with
  | nil => rfl
  | cons x xs ih => simp [smpCells] at ih ⊢; omega
theorem smpCells_at (xs : List Smp) : ∀ (k : Nat) (h : k < xs.length), (smpCells xs)[k * 2]? = some (.int .i64 xs[k].1) ∧ (smpCells xs)[k * 2 + 1]? = some (.int .i64 xs[k].2) := by
  induction xs with
  | nil => intro k h; simp at h
  | cons x xs ih =>
    intro k h
    cases k with
    | zero => exact ⟨rfl, rfl⟩
    | succ k =>
      have := ih k (by simpa using h)
      rw [show (k + 1) * 2 = k * 2 + 2 from by omega]
      simpa [smpCells, List.getElem?_cons] using this

/-- '.slice A n c' reads as the samples xs. -/
def RS (w : World) (B : Nat) (A : Option Addr) (n : Nat) (xs : List Smp) : Prop := n = xs.length ∧ Reads w B 2 A n (smpCells xs)

theorem RS.below {w w' : World} {B B' : Nat} {A : Option Addr} {n : Nat} {xs : List Smp} (h : RS w B A n xs) (hb : Below B' w w') (hB : B ≤ B') : RS w' B A n xs := ⟨h.1, h.2.below hb hB⟩

theorem RS.more {w : World} {B B' : Nat} {A : Option Addr} {n : Nat} {xs : List Smp} (h : RS w B A n xs) (hB : B ≤ B') : RS w B' A n xs := ⟨h.1, h.2.more hB⟩

theorem RS.at_ {w : World} {B : Nat} {A : Option Addr} {n : Nat} {xs : List Smp} (h : RS w B A n xs) {k : Nat} (hk : k < xs.length) :
    ∃ ad, A = some ad ∧ ad.block < B ∧ w.cell? (ad.add (k * 2)) = some (.int .i64 xs[k].1) ∧ w.cell? ⟨(ad.add (k * 2)).block, (ad.add (k * 2)).off + 1, none⟩ = some (.int .i64 xs[k].2) := by
  obtain ⟨rfl, hr⟩ := h
  obtain ⟨ad, e, hb, hc⟩ := hr.2 (by omega)
  obtain ⟨h1, h2⟩ := smpCells_at xs k hk
  exact ⟨ad, e, hb, hc _ _ h1, by have := hc _ _ h2; rw [← add_of_add] at this; exact this⟩

def vss (xs : List Smp) : Bool := xs.all fun s => vs s.1 s.2

theorem vss_take (xs : List Smp) (k : Nat) (h : k < xs.length) : vss (xs.take (k + 1)) = (vss (xs.take k) && vs xs[k].1 xs[k].2) := by
  unfold vss
  rw [List.take_succ_eq_append_getElem h, List.all_append]; simp
theorem vss_false (xs : List Smp) (k : Nat) (h : k < xs.length) (hv : vs xs[k].1 xs[k].2 = false) : vss xs = false := by
  unfold vss
  rw [List.all_eq_false]
  exact ⟨xs[k], List.getElem_mem h, by simp [hv]⟩

/-- A number that an int64 holds. -/
def I64 (x : Int) : Prop := -9223372036854775808 ≤ x ∧ x ≤ 9223372036854775807
def I64s (xs : List Smp) : Prop := ∀ s ∈ xs, I64 s.1 ∧ I64 s.2
end Go.Proofs.Ytilihdkfflfniaa
