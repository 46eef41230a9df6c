/-
  A function that has ranged over functions in a loop: its marks, all of them, on the way out.
-/
import Derived.Test.YtgdkcbnpgpjnbaaL1
import Derived.Laws.AppendOwn
namespace Go
open Go.RowKit

/-- The marks of ranges over functions. -/
def Marks (ds : List Nat) : List Deferred := ds.map fun D => { target := .collected D, args := #[] }

/-- W' is W, with the blocks ds turned. -/
structure ShutM (ds : List Nat) (W W' : World) : Prop where
  os : W'.os = W.os
  tape : W'.tape = W.tape
  output : W'.output = W.output
  size : W'.heap.size = W.heap.size
  block : ∀ k, k ∉ ds → W'.heap[k]? = W.heap[k]?

theorem leaves_marks {F : Fence} {n : Nat} {P : Program} {fn : Func} {tmps : Array Value} {R : Ending → World → Prop} : ∀ (ds : List Nat) (W : World),
    ds.Nodup → (∀ D ∈ ds, W.heap[D]? = some (.deferred (some []))) → (∀ W', ShutM ds W W' → LeavesInM F n P fn tmps R [] .returning W') →
    LeavesInM F n P fn tmps R (Marks ds) .returning W := by
  intro ds
  induction ds with
  | nil => exact fun W _ _ h => h W ⟨rfl, rfl, rfl, rfl, fun _ _ => rfl⟩
  | cons D ds ih =>
    intro W hn hall h
    obtain ⟨h1, h2⟩ := List.nodup_cons.1 hn
    have hD := hall D (by simp)
    refine ⟨by simp, .inl ⟨D, _, rfl, run_takeDeferred hD, ih _ h2 (fun D' hD' => ?_) (fun W' hs => h W' ?_)⟩⟩
    · have hne : D' ≠ D := fun e => h1 (e ▸ hD')
      exact (World.putObj_heap_other hne).trans (hall D' (by simp [hD']))
    · have hg := grownBy_putObj' W D (.deferred none)
      refine ⟨hs.os.trans hg.os, hs.tape.trans hg.tape, hs.output.trans hg.output, hs.size.trans ?_, fun k hk => ?_⟩
      · simp [World.putObj]
      · rw [List.mem_cons, not_or] at hk
        exact (hs.block k hk.2).trans (World.putObj_heap_other hk.1)

section
variable {W W' : World} {ds : List Nat}
theorem below_shut {B : Nat} {a : World} (h : Below B a W) (hs : ShutM ds W W') (hd : ∀ D ∈ ds, B ≤ D) : Below B a W' :=
  ⟨hs.os.trans h.os, hs.tape.trans h.tape, hs.output.trans h.output, by rw [hs.size]; exact h.size, fun k hk => (hs.block k (fun hm => by have := hd k hm; omega)).trans (h.block k hk)⟩
theorem own_shut {base : Nat} {e : TypeId} {size n : Nat} {v : Value} {xs : List Value} (h : W.ownsRow base e size v n xs) (hs : ShutM ds W W') (hd : ∀ D ∈ ds, W.heap[D]? = some (.deferred (some []))) : W'.ownsRow base e size v n xs := by
  refine ⟨h.1, h.2.imp id ?_⟩
  rintro ⟨g, cap, cur, hv, hbg, hg, rest⟩
  exact ⟨g, cap, cur, hv, hbg, (hs.block g (fun hm => by have := hd g hm; rw [hg] at this; cases this)).trans hg, rest⟩
theorem own_base {base base' : Nat} {e : TypeId} {size n : Nat} {v : Value} {xs : List Value} (h : W.ownsRow base e size v n xs) (hb : base' ≤ base) : W.ownsRow base' e size v n xs := by
  refine ⟨h.1, h.2.imp id ?_⟩
  rintro ⟨g, cap, cur, hv, hbg, rest⟩
  exact ⟨g, cap, cur, hv, Nat.le_trans hb hbg, rest⟩
/-- The block that a slice owns is cells. -/
theorem own_cells {base : Nat} {e : TypeId} {size n : Nat} {v : Value} {xs : List Value} (h : W.ownsRow base e size v n xs) {j : Nat} (hj : v.ownBlock = some j) : ∃ o : Obj, W.heap[j]? = some o ∧ o.isCells = true := by
  rcases h.2 with ⟨rfl, _⟩ | ⟨g, cap, cur, rfl, _, hg, _⟩
  · simp [Value.ownBlock] at hj
  · simp [Value.ownBlock] at hj
    subst hj
    exact ⟨_, hg, rfl⟩
theorem grown_then_below {a : World} {row : Option Nat} (h : a.grownBy W row) (hb : Below W.heap.size W W') : a.grownBy W' row :=
  ⟨hb.os.trans h.os, hb.tape.trans h.tape, hb.output.trans h.output, Nat.le_trans h.size hb.size, fun i hi hn => (hb.block i (Nat.lt_of_lt_of_le hi h.size)).trans (h.block i hi hn)⟩
theorem grown_set {a : World} {g : Nat} (h : a.grownBy W (some g)) (i : Nat) (u : Value) : a.grownBy (W.setCell ⟨g, i, none⟩ u) (some g) :=
  ⟨h.os, h.tape, h.output, by simpa [World.setCell] using h.size, fun k hk hn => (Below.heap_setCell _ _ _ _ (fun e => hn (by rw [e]))).trans (h.block k hk hn)⟩
theorem grown_turn {a : World} {g : Nat} {row : Option Nat} (h : a.grownBy W (some g)) (hg : W.grownBy W' row) (hr : ∀ r, row = some r → a.heap.size ≤ r) : a.grownBy W' (some g) :=
  ⟨hg.os.trans h.os, hg.tape.trans h.tape, hg.output.trans h.output, Nat.le_trans h.size hg.size, fun k hk hn => (hg.block k (Nat.lt_of_lt_of_le hk h.size) (fun e => by have := hr k e.symm; omega)).trans (h.block k hk hn)⟩
theorem grown_refl (a : World) (row : Option Nat) : a.grownBy a row := ⟨rfl, rfl, rfl, Nat.le_refl _, fun _ _ _ => rfl⟩
end
end Go
