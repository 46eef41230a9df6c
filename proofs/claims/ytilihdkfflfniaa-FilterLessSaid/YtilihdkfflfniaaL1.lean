/-
  A law of my own for a range over a function whose rounds always go on: the iterator's contract may ask that the caller's invariant abides the turn of whatever block that is no cells and was laid since the call began.
-/
import Derived.RangeFuncNested
import Derived.RangeFuncLeaves
import Derived.Deep.Draws
namespace Go
open Go.RowKit

/-- Every block of cells that is none of S lies as it lay. -/
structure Bel (S : Nat → Prop) (W W' : World) : Prop where
  os : W'.os = W.os
  tape : W'.tape = W.tape
  output : W'.output = W.output
  size : W.heap.size ≤ W'.heap.size
  block : ∀ k o, W.heap[k]? = some o → o.isCells = true → ¬ S k → W'.heap[k]? = some o
theorem Bel.refl (S : Nat → Prop) (W : World) : Bel S W W := ⟨rfl, rfl, rfl, Nat.le_refl _, fun _ _ h _ _ => h⟩
theorem Bel.trans {S : Nat → Prop} {a b c : World} (h : Bel S a b) (k : Bel S b c) : Bel S a c :=
  ⟨k.os.trans h.os, k.tape.trans h.tape, k.output.trans h.output, Nat.le_trans h.size k.size, fun i o hi ho hn => k.block i o (h.block i o hi ho hn) ho hn⟩
theorem Bel.of_below {S : Nat → Prop} {a b : World} (h : Below a.heap.size a b) : Bel S a b :=
  ⟨h.os, h.tape, h.output, h.size, fun k _ hk _ _ => (h.block k (Array.getElem?_eq_some_iff.1 hk).1).trans hk⟩
theorem Bel.grown {S : Nat → Prop} {a w w' : World} {row : Option Nat} (h : Bel S a w) (hg : w.grownBy w' row) (hr : ∀ k, row = some k → a.heap.size ≤ k ∨ S k ∨ ∃ o, w.heap[k]? = some o ∧ o.isCells = false) : Bel S a w' :=
  ⟨hg.os.trans h.os, hg.tape.trans h.tape, hg.output.trans h.output, Nat.le_trans h.size hg.size, fun k o hk ho hn => by
    have hw := h.block k o hk ho hn
    refine (hg.block k (Array.getElem?_eq_some_iff.1 hw).1 (fun e => ?_)).trans hw
    rcases hr k e.symm with h1 | h1 | ⟨o', h1, h2⟩
    · have := (Array.getElem?_eq_some_iff.1 hk).1; omega
    · exact hn h1
    · rw [hw] at h1; cases h1; rw [ho] at h2; cases h2⟩
theorem Bel.setCell {S : Nat → Prop} {a w : World} (h : Bel S a w) {p : Addr} (hp : a.heap.size ≤ p.block ∨ S p.block) (u : Value) : Bel S a (w.setCell p u) :=
  ⟨h.os, h.tape, h.output, Nat.le_trans h.size (by simp [World.setCell]), fun k o hk ho hn =>
    (Below.heap_setCell _ _ _ _ (by
      have := (Array.getElem?_eq_some_iff.1 hk).1
      rcases hp with h1 | h1
      · omega
      · rintro rfl; exact hn h1)).trans (h.block k o hk ho hn)⟩
theorem Bel.alloc {S : Nat → Prop} {a w : World} (h : Bel S a w) (o : Obj) : Bel S a (w.alloc o) :=
  ⟨h.os, h.tape, h.output, Nat.le_trans h.size (by simp), fun k o' hk ho hn => by
    have hw := h.block k o' hk ho hn
    exact (Below.heap_alloc _ _ _ (Array.getElem?_eq_some_iff.1 hw).1).trans hw⟩
theorem Bel.drew {S : Nat → Prop} {a w : World} (h : Bel S a w) : Bel S a w.drew := ⟨h.os, h.tape, h.output, h.size, h.block⟩
theorem Bel.drewN {S : Nat → Prop} {a w : World} (h : Bel S a w) (n : Nat) : Bel S a (w.drewN n) := ⟨h.os, h.tape, h.output, h.size, h.block⟩
theorem Bel.cell {S : Nat → Prop} {w w' : World} (h : Bel S w w') {p : Addr} {v : Value} (hc : w.cell? p = some v) (hn : ¬ S p.block) : w'.cell? p = some v := by
  have hb : ∃ o, w.heap[p.block]? = some o ∧ o.isCells = true := by
    unfold World.cell? at hc
    cases ho : w.heap[p.block]? with
    | none => simp [ho] at hc
    | some o => exact ⟨o, rfl, by cases o <;> simp_all [Obj.isCells]⟩
  obtain ⟨o, ho, hoc⟩ := hb
  exact (World.cell?_of_block (w := w) ((h.block _ o ho hoc hn).trans ho.symm)).trans hc

/-- THE ITERATOR's CONTRACT, where no round says 'no more': the rounds for just xs, in order. -/
def SeqAll {α : Type} (F : Fence) (n : Nat) (P : Program) (g : Nat) (lb : Array Value) (encs : α → Array Value) (gg : Nat → Prop) (xs : List α) (w : World) : Prop :=
  ∀ (l : Nat) (J : List α → World → Prop) (W : World), Below w.heap.size w W → OwnFrom W.heap.size J →
    (∀ pre x W1, J pre W1 → pre ++ [x] <+: xs → YieldAt F (n - 1) P l (encs x) W1 fun e W' => e = .returned (.bool true) ∧ J (pre ++ [x]) W' ∧ Bel gg W1 W' ∧ KeepsFrom W.heap.size W1 W') →
    J [] W →
    CallsIn F n P g (#[.func (.yield l) #[] #[]] ++ lb) W fun e W' => (∃ v, e = .returned v) ∧ J xs W'

variable {F : Fence} {n : Nat} {P : Program} {w : World}

/-- What a round's body leaves, where it always goes on. -/
def onPost {α : Type} (gg : Nat → Prop) (Bw : Nat) (I : List α → World → Prop) (ys : List α) (W : World) : Exit → Act → World → Prop
  | .normal, _, W' => KeepsFrom Bw W W' ∧ Bel gg W W' ∧ I ys W'
  | _, _, _ => False

theorem wpIn_rangeAll {α : Type} {g : Operand} {ps : Array Tmp} {assign body : Code} {Q : Exit → Act → World → Prop} {a : Act}
    (hro : F.round = none) (h1 : 1 ≤ n) {gf : Nat} {lb : Array Value} (hg : a.eval g = .func (.func gf) #[] lb) (hFg : F.fn gf) (eg : ∀ args w, (callFunc gf args).run P w = .ok (.enter gf args) w)
    {encs : α → Array Value} {gg : Nat → Prop} {xs : List α} {w0 : World} (hseq : SeqAll F (n - 1) P gf lb encs gg xs w0) (hb0 : Below w0.heap.size w0 w) (hps : ∀ x, (encs x).size = ps.size)
    (I : List α → World → Prop) (hI : OwnFrom w.heap.size I) (h0 : I [] w) (Ax : List α → α → Act → World → Prop) (hAx : ∀ pre x a', OwnFrom w.heap.size (fun (_ : Unit) W => Ax pre x a' W))
    (hassign : ∀ (l : Nat) (pre : List α) (x : α) (W : World) (K : Act → World → Prop), I pre W → (∀ a' W', W.grownBy W' none → Ax pre x a' W' → K a' W') →
      assign.wpIn (F.inRound l) (n - 1 - 1) P (Exit.then K (fun _ _ _ => False)) { tmps := (ps.zip (encs x)).foldl (fun t (p, v) => t.setIfInBounds p v) a.tmps, defers := [] } W)
    (hbody : ∀ (l : Nat) (pre : List α) (x : α) (a' : Act) (W : World), w.heap.size ≤ l → Ax pre x a' W → pre ++ [x] <+: xs → body.wpIn (F.inRound l) (n - 1 - 1) P (onPost gg w.heap.size I (pre ++ [x]) W) a' W)
    (hdone : ∀ (D : Nat) (W : World), w.heap.size ≤ D → I xs W → W.heap[D]? = some (.deferred (some [])) → Q .normal { a with defers := { target := .collected D, args := #[] } :: a.defers } W) :
    (Code.rangeFunc g ps assign body).wpIn F n P Q a w := by
  refine wpIn_rangeFunc fun fn hfn => ?_
  rw [hro]
  -- the record, and the two blocks of book-keeping
  let R : LoopState → Loop := fun st => { state := st, pending := none, fn, tmps := a.tmps, params := ps, assign, body, defers := w.heap.size }
  let V : World := (w.alloc (.deferred (some []))).alloc (.loop (R .ready))
  have vsz : V.heap.size = w.heap.size + 2 := by show ((w.alloc _).alloc _).heap.size = _; simp
  have vL : V.heap[w.heap.size + 1]? = some (.loop (R .ready)) := by
    have := World.alloc_heap_new (w.alloc (.deferred (some []))) (.loop (R .ready)); rwa [World.size_alloc] at this
  have vD : V.heap[w.heap.size]? = some (.deferred (some [])) := (Below.heap_alloc _ _ _ (by simp)).trans (World.alloc_heap_new w _)
  have vI : I [] V := hI.alloc _ (hI.alloc _ h0)
  have vB : Below w0.heap.size w0 V := hb0.trans ((((Below.refl _ w).alloc (Nat.le_refl _) _).alloc (by simp) _).mono hb0.size)
  refine ⟨w.heap.size + 1, [{ target := .collected w.heap.size, args := #[] }], V, { target := .fn (.func gf) lb, args := #[.func (.yield (w.heap.size + 1)) #[] #[]] }, V, gf,
    #[.func (.yield (w.heap.size + 1)) #[] #[]] ++ lb, V, run_enterLoop_outer _ _ _ _ _, ?_, ?_, ?_, fun _ => h1, ?_⟩
  · simp only [resolve, hg]; simp [go_sem]
  · intro f' hf'; simp [Target.leads] at hf'; subst hf'; exact hFg
  · simp [invoke, go_sem, eg]
  refine (hseq (w.heap.size + 1) (fun pre W => I pre W ∧ W.heap[w.heap.size + 1]? = some (.loop (R .ready)) ∧ W.heap[w.heap.size]? = some (.deferred (some []))) V vB ?_ ?_ ⟨vI, vL, vD⟩).mono ?_
  · -- the invariant abides: the two blocks lie below V's end, what is turned lies beyond
    rintro s X Y row ⟨i1, i2, i3⟩ hgr hr
    have kept : ∀ (k : Nat) (o : Obj), k < V.heap.size → X.heap[k]? = some o → Y.heap[k]? = some o := fun k o hk ho =>
      (hgr.block k (Array.getElem?_eq_some_iff.1 ho).1 (fun e => by have := (hr k e.symm).1; omega)).trans ho
    exact ⟨hI s X Y row i1 hgr (fun r e => ⟨by have := (hr r e).1; omega, (hr r e).2⟩), kept _ _ (by omega) i2, kept _ _ (by omega) i3⟩
  · -- one round
    rintro pre x W ⟨i1, i2, i3⟩ hpre
    have lt : w.heap.size + 1 < W.heap.size := (Array.getElem?_eq_some_iff.1 i2).1
    have hy := run_yield (P := P) (args := encs x) i2 (hps x)
    refine ⟨_, _, _, _, hy, roundIn_of_wpIn hfn (hassign _ pre x W _ i1 ?_)⟩
    intro a' W1 hg1 hax
    have j2 : W1.heap[w.heap.size + 1]? = some (.loop (R .ready)) := (hg1.block _ lt (by simp)).trans i2
    have j3 : W1.heap[w.heap.size]? = some (.deferred (some [])) := (hg1.block _ (by omega) (by simp)).trans i3
    have b1 : Bel gg W W1 := (Bel.refl gg W).grown hg1 (by simp)
    have lt1 : w.heap.size + 1 < W1.heap.size := (Array.getElem?_eq_some_iff.1 j2).1
    refine ⟨_, run_beginRound j2 rfl, ?_⟩
    have k2 : (W1.putObj (w.heap.size + 1) (.loop (R .busy))).heap[w.heap.size + 1]? = some (.loop (R .busy)) := World.putObj_heap_same lt1
    have k3 : (W1.putObj (w.heap.size + 1) (.loop (R .busy))).heap[w.heap.size]? = some (.deferred (some [])) := (World.putObj_heap_other (by omega)).trans j3
    have b2 : Bel gg W (W1.putObj (w.heap.size + 1) (.loop (R .busy))) := b1.grown (grownBy_putObj' _ _ _) (fun k e => by cases e; exact .inr (.inr ⟨_, j2, rfl⟩))
    refine wpIn_mono (hbody _ pre x a' _ (by omega) ((hAx pre x a').putObj (s := ()) _ hax (by omega) j2 rfl) hpre) ?_
    rintro e a3 W3 hp
    cases e with
    | normal =>
      obtain ⟨q1, q2, q3⟩ := hp
      have m2 := q1.same _ _ (by omega) k2 rfl
      have m3 := q1.same _ _ (Nat.le_refl _) k3 rfl
      have lt3 := (Array.getElem?_eq_some_iff.1 m2).1
      refine ⟨_, _, run_endRound none m2, ⟨rfl, ⟨hI.putObj _ q3 (by omega) m2 rfl, World.putObj_heap_same lt3, (World.putObj_heap_other (by omega)).trans m3⟩, ?_, ?_⟩⟩
      · exact (b2.trans q2).grown (grownBy_putObj' _ _ _) (fun k e => by cases e; exact .inr (.inr ⟨_, m2, rfl⟩))
      · have hV : w.heap.size + 1 < V.heap.size := by omega
        exact (((KeepsFrom.of_grownBy hg1 (by simp)).trans (KeepsFrom.of_grownBy (grownBy_putObj' _ _ _) (fun j e => by cases e; exact hV))).trans ⟨q1.size, fun k o hk => q1.same k o (by omega)⟩).trans (KeepsFrom.of_grownBy (grownBy_putObj' _ _ _) (fun j e => by cases e; exact hV))
    | _ => exact hp.elim
  · rintro e W2 ⟨⟨v, rfl⟩, i1, i2, i3⟩
    exact ⟨none, _, run_endLoop i2 (by show LoopState.ready ≠ LoopState.busy; simp), hdone _ _ (Nat.le_refl _) (hI.putObj _ i1 (by omega) i2 rfl) ((World.putObj_heap_other (by omega)).trans i3)⟩
end Go
