/-
  Regions that draw their order and whose operations read, reckon, or call what only makes new memory: one walk of the text's order serves every order.
-/
import Derived.Test.YtilihdkfflfniaaWords
import Derived.Deep.QuietTactic
import Derived.BigQuiet
namespace Go.Proofs.Ytilihdkfflfniaa
open Go.RowKit

/-- The worlds that have grown out of w: all that was there is as it was. -/
def Lat (w : World) : Type := { w' : World // Below w.heap.size w w' }
def Lat.w {w : World} (x : Lat w) : World := x.1
theorem Lat.below {w : World} (x : Lat w) : Below w.heap.size w x.w := x.2
instance Lat.some_ {w : World} : Nonempty (Lat w) := ⟨⟨w, Below.refl _ _⟩⟩

theorem block_lt_of_cell {w : World} {p : Addr} {v : Value} (h : w.cell? p = some v) : p.block < w.heap.size :=
  World.block_lt_of_cell? w p h
/-- A cell that is read in w is read alike in all worlds that have grown out of w. -/
theorem Lat.cell {w : World} {p : Addr} {v : Value} (h : w.cell? p = some v) : ∀ x : Lat w, x.w.cell? p = some v :=
  fun x => (x.below.cell (block_lt_of_cell h)).trans h
theorem Lat.froz {w : World} {p : Addr} (hp : p.block < w.heap.size) (h : w.frozen? p = false) : ∀ x : Lat w, x.w.frozen? p = false :=
  fun x => (x.below.frozen hp).trans h

theorem lat_out {w w' : World} (h : ∃ x : Lat w, w' = x.w) : Below w.heap.size w w' := by
  obtain ⟨x, rfl⟩ := h
  exact x.below
theorem Lat.to_ {w w' : World} {p : Addr} {v : Value} (h : ∀ x : Lat w, x.w.cell? p = some v) (hb : Below w.heap.size w w') : w'.cell? p = some v := h ⟨w', hb⟩

theorem Calls.lat {P : Program} {w : World} {x : Lat w} {f : Nat} {args : Array Value} {v : Value} (h : Calls P f args x.w (fun e w' => e = .returned v ∧ Below x.w.heap.size x.w w')) :
    Calls P f args x.w (fun e w'' => e = .returned v ∧ ∃ y : Lat w, w'' = y.w) :=
  h.mono fun _ w' ⟨he, hb⟩ => ⟨he, ⟨w', x.below.trans (hb.mono x.below.size)⟩, rfl⟩
theorem Calls.lat_ {P : Program} {w : World} {x : Lat w} {f : Nat} {args : Array Value} {v : Value} (h : Calls P f args x.w (fun e w' => e = .returned v ∧ x.w = w')) :
    Calls P f args x.w (fun e w'' => e = .returned v ∧ ∃ y : Lat w, w'' = y.w) :=
  h.mono fun _ _ ⟨he, hb⟩ => ⟨he, x, hb.symm⟩

theorem wp_region_lat {P : Program} {id : Nat} {Q : Exit → Act → World → Prop} {a : Act} {w : World} {l : List Oper} (hm : P.follows .mixedOrders = true) (hB : Region.lexB .any l.toArray = true)
    (h : wpQuiet P l.toArray (fun w' => ∃ x : Lat w, w' = x.w) (fun a' => ∀ w', (∃ x : Lat w, w' = x.w) → Q .normal a' w') l a) : (Code.region id l.toArray true).wp P Q a w :=
  wp_region_quiet (C := fun w' => ∃ x : Lat w, w' = x.w) hm hB ⟨⟨w.drew, (Below.refl _ _).drew⟩, rfl⟩ (by simpa using h)
/-- The same in a world that has grown out of the base. -/
theorem wp_region_lat_ {P : Program} {id : Nat} {Q : Exit → Act → World → Prop} {a : Act} {w b : World} {l : List Oper} (hb : Below b.heap.size b w) (hm : P.follows .mixedOrders = true) (hB : Region.lexB .any l.toArray = true)
    (h : wpQuiet P l.toArray (fun w' => ∃ x : Lat b, w' = x.w) (fun a' => ∀ w', (∃ x : Lat b, w' = x.w) → Q .normal a' w') l a) : (Code.region id l.toArray true).wp P Q a w :=
  wp_region_quiet (C := fun w' => ∃ x : Lat b, w' = x.w) hm hB ⟨⟨w.drew, hb.drew⟩, rfl⟩ (by simpa using h)
end Go.Proofs.Ytilihdkfflfniaa
