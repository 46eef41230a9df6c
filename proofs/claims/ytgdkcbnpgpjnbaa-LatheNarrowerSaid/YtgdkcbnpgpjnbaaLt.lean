/-
  Words for rows that lie apart, rows that are written down, blocks.
-/
import Derived.Test.YtgdkcbnpgpjnbaaW3
namespace Go.Proofs.Ytgdkcbnpgpjnbaa
open Go.RowKit

theorem info_pt : (Try.prog.info? 55).map (fun i => (i.zero, i.size, i.bytes)) = some (some (.agg #[.int .i64 0, .int .i64 0]), 2, 16) := by kernel_rfl
/-- Two rows that lie apart. -/
def Apart (a b : Value) : Prop := ∀ g, a.ownBlock = some g → b.ownBlock ≠ some g
theorem Apart.symm {a b : Value} (h : Apart a b) : Apart b a := fun g hb ha => h g ha hb
theorem Apart.ne {a b : Value} (h : Apart a b) : a.ownBlock = none ∨ a.ownBlock ≠ b.ownBlock := by
  cases ha : a.ownBlock with
  | none => exact .inl rfl
  | some g => exact .inr (fun e => h g ha e.symm)
theorem Apart.new {a b b' : Value} {H : Nat} (h : Apart a b) (hl : ∀ g, a.ownBlock = some g → g < H) (hb : b'.ownBlock = b.ownBlock ∨ b'.ownBlock = some H) : Apart a b' := fun g ha e => by
  rcases hb with hb | hb
  · exact h g ha (hb ▸ e)
  · rw [hb] at e; cases e; exact absurd (hl _ ha) (by omega)
theorem own_lit (w : World) (t : TypeId) (base n size : Nat) (cs : Array Value) (hb : base ≤ w.heap.size) (hs : cs.size = n * size) (hn : n ≤ maxLen) : (w.alloc (.cells cs t)).ownsRow base t size (.slice (some ⟨w.heap.size, 0, none⟩) n n) n cs.toList :=
  ⟨by simpa using hs, .inr ⟨w.heap.size, n, cs, rfl, hb, heap_alloc_new w _, Nat.le_refl _, hn, hs, by rw [List.take_of_length_le (by simp [hs])]⟩⟩
theorem smp_one (xs : List Smp) : ∀ u ∈ smpCells xs, u.oneCell' = true := by
  intro u hu
  unfold smpCells at hu
  rw [List.mem_flatMap] at hu
  obtain ⟨s, -, hs⟩ := hu
  simp only [List.mem_cons, List.not_mem_nil, or_false] at hs
  rcases hs with rfl | rfl <;> rfl
theorem below_ad (W : World) (o : Obj) : Below W.heap.size W (W.alloc o).drew := ((Below.refl _ _).alloc (Nat.le_refl _) o).drew
theorem below_a (W : World) (o : Obj) : Below W.heap.size W (W.alloc o) := (Below.refl _ _).alloc (Nat.le_refl _) o
theorem below_da (W : World) (o : Obj) : Below W.heap.size W (W.drew.alloc o) := ((Below.refl _ _).drew).alloc (Nat.le_refl _) o
end Go.Proofs.Ytgdkcbnpgpjnbaa
