/-
  A law of my own for a range over a function whose rounds may say 'no more' (by a return): the iterator may range over another one itself.
-/
import Derived.Test.YtgdkcbnpgpjnbaaL1
namespace Go
open Go.RowKit

/-- THE ITERATOR's CONTRACT, where a round may say 'no more'. -/
def SeqCut {α : Type} (F : Fence) (n : Nat) (P : Program) (g : Nat) (lb : Array Value) (encs : α → Array Value) (gg : Nat → Prop) (xs : List α) (w : World) : Prop :=
  ∀ (l : Nat) (J Jx : List α → World → Prop) (W : World), Below w.heap.size w W → OwnFrom W.heap.size J → OwnFrom W.heap.size Jx →
    (∀ pre x W1, J pre W1 → pre ++ [x] <+: xs → YieldAt F (n - 1) P l (encs x) W1 fun e W' => KeepsFrom W.heap.size W1 W' ∧ ((e = .returned (.bool true) ∧ J (pre ++ [x]) W' ∧ Bel gg W1 W') ∨ (e = .returned (.bool false) ∧ Jx (pre ++ [x]) W'))) →
    J [] W →
    CallsIn F n P g (#[.func (.yield l) #[] #[]] ++ lb) W fun e W' => (∃ v, e = .returned v) ∧ (J xs W' ∨ ∃ pre x, pre ++ [x] <+: xs ∧ Jx (pre ++ [x]) W')

variable {F : Fence} {n : Nat} {P : Program} {w : World}

/-- How a round's body may be left. -/
def onPostX {α : Type} (gg : Nat → Prop) (Bw : Nat) (I Ix : List α → World → Prop) (ys : List α) (W : World) : Exit → Act → World → Prop
  | .normal, _, W' => KeepsFrom Bw W W' ∧ Bel gg W W' ∧ I ys W'
  | .ret, _, W' => KeepsFrom Bw W W' ∧ Ix ys W'
  | _, _, _ => False

theorem wpIn_rangeCut {α : Type} {g : Operand} {ps : Array Tmp} {assign body : Code} {Q : Exit → Act → World → Prop} {a : Act}
    (hro : F.round = none) (h1 : 1 ≤ n) {gf : Nat} {lb : Array Value} (hg : a.eval g = .func (.func gf) #[] lb) (hFg : F.fn gf) (eg : ∀ args w, (callFunc gf args).run P w = .ok (.enter gf args) w)
    {encs : α → Array Value} {gg : Nat → Prop} {xs : List α} {w0 : World} (hseq : SeqCut F (n - 1) P gf lb encs gg xs w0) (hb0 : Below w0.heap.size w0 w) (hps : ∀ x, (encs x).size = ps.size)
    (I Ix : List α → World → Prop) (hI : OwnFrom w.heap.size I) (hIx : OwnFrom w.heap.size Ix) (h0 : I [] w) (Ax : List α → α → Act → World → Prop) (hAx : ∀ pre x a', OwnFrom w.heap.size (fun (_ : Unit) W => Ax pre x a' W))
    (hassign : ∀ (l : Nat) (pre : List α) (x : α) (W : World) (K : Act → World → Prop), I pre W → (∀ a' W', W.grownBy W' none → Ax pre x a' W' → K a' W') →
      assign.wpIn (F.inRound l) (n - 1 - 1) P (Exit.then K (fun _ _ _ => False)) { tmps := (ps.zip (encs x)).foldl (fun t (p, v) => t.setIfInBounds p v) a.tmps, defers := [] } W)
    (hbody : ∀ (l : Nat) (pre : List α) (x : α) (a' : Act) (W : World), w.heap.size ≤ l → Ax pre x a' W → pre ++ [x] <+: xs → body.wpIn (F.inRound l) (n - 1 - 1) P (onPostX gg w.heap.size I Ix (pre ++ [x]) W) a' W)
    (hdone : ∀ (D : Nat) (W : World), w.heap.size ≤ D → I xs W → W.heap[D]? = some (.deferred (some [])) → Q .normal { a with defers := { target := .collected D, args := #[] } :: a.defers } W)
    (hstop : ∀ (D : Nat) (pre : List α) (x : α) (W : World), w.heap.size ≤ D → pre ++ [x] <+: xs → Ix (pre ++ [x]) W → W.heap[D]? = some (.deferred (some [])) → Code.ret.wpIn F n P Q { a with defers := { target := .collected D, args := #[] } :: a.defers } W) :
    (Code.rangeFunc g ps assign body).wpIn F n P Q a w := by
  refine wpIn_rangeFunc fun fn hfn => ?_
  rw [hro]
  -- the record, and the two blocks of book-keeping
  let R : LoopState → Option Code → Loop := fun st pe => { state := st, pending := pe, fn, tmps := a.tmps, params := ps, assign, body, defers := w.heap.size }
  let V : World := (w.alloc (.deferred (some []))).alloc (.loop (R .ready none))
  have vsz : V.heap.size = w.heap.size + 2 := by show ((w.alloc _).alloc _).heap.size = _; simp
  have vL : V.heap[w.heap.size + 1]? = some (.loop (R .ready none)) := by
    have := World.alloc_heap_new (w.alloc (.deferred (some []))) (.loop (R .ready none)); rwa [World.size_alloc] at this
  have vD : V.heap[w.heap.size]? = some (.deferred (some [])) := (Below.heap_alloc _ _ _ (by simp)).trans (World.alloc_heap_new w _)
  have vI : I [] V := hI.alloc _ (hI.alloc _ h0)
  have vB : Below w0.heap.size w0 V := hb0.trans ((((Below.refl _ w).alloc (Nat.le_refl _) _).alloc (by simp) _).mono hb0.size)
  refine ⟨w.heap.size + 1, [{ target := .collected w.heap.size, args := #[] }], V, { target := .fn (.func gf) lb, args := #[.func (.yield (w.heap.size + 1)) #[] #[]] }, V, gf,
    #[.func (.yield (w.heap.size + 1)) #[] #[]] ++ lb, V, run_enterLoop_outer _ _ _ _ _, ?_, ?_, ?_, fun _ => h1, ?_⟩
  · simp only [resolve, hg]; simp [go_sem]
  · intro f' hf'; simp [Target.leads] at hf'; subst hf'; exact hFg
  · simp [invoke, go_sem, eg]
  refine (hseq (w.heap.size + 1) (fun pre W => I pre W ∧ W.heap[w.heap.size + 1]? = some (.loop (R .ready none)) ∧ W.heap[w.heap.size]? = some (.deferred (some [])))
    (fun pre W => Ix pre W ∧ W.heap[w.heap.size + 1]? = some (.loop (R .done (some .ret))) ∧ W.heap[w.heap.size]? = some (.deferred (some []))) V vB ?_ ?_ ?_ ⟨vI, vL, vD⟩).mono ?_
  · -- the invariant abides: the two blocks lie below V's end, what is turned lies beyond
    rintro s X Y row ⟨i1, i2, i3⟩ hgr hr
    have kept : ∀ (k : Nat) (o : Obj), k < V.heap.size → X.heap[k]? = some o → Y.heap[k]? = some o := fun k o hk ho =>
      (hgr.block k (Array.getElem?_eq_some_iff.1 ho).1 (fun e => by have := (hr k e.symm).1; omega)).trans ho
    exact ⟨hI s X Y row i1 hgr (fun r e => ⟨by have := (hr r e).1; omega, (hr r e).2⟩), kept _ _ (by omega) i2, kept _ _ (by omega) i3⟩
  · -- the invariant abides: the two blocks lie below V's end, what is turned lies beyond
    rintro s X Y row ⟨i1, i2, i3⟩ hgr hr
    have kept : ∀ (k : Nat) (o : Obj), k < V.heap.size → X.heap[k]? = some o → Y.heap[k]? = some o := fun k o hk ho =>
      (hgr.block k (Array.getElem?_eq_some_iff.1 ho).1 (fun e => by have := (hr k e.symm).1; omega)).trans ho
    exact ⟨hIx s X Y row i1 hgr (fun r e => ⟨by have := (hr r e).1; omega, (hr r e).2⟩), kept _ _ (by omega) i2, kept _ _ (by omega) i3⟩
  · -- one round
    rintro pre x W ⟨i1, i2, i3⟩ hpre
    have lt : w.heap.size + 1 < W.heap.size := (Array.getElem?_eq_some_iff.1 i2).1
    have hy := run_yield (P := P) (args := encs x) i2 (hps x)
    refine ⟨_, _, _, _, hy, roundIn_of_wpIn hfn (hassign _ pre x W _ i1 ?_)⟩
    intro a' W1 hg1 hax
    have j2 : W1.heap[w.heap.size + 1]? = some (.loop (R .ready none)) := (hg1.block _ lt (by simp)).trans i2
    have j3 : W1.heap[w.heap.size]? = some (.deferred (some [])) := (hg1.block _ (by omega) (by simp)).trans i3
    have b1 : Bel gg W W1 := (Bel.refl gg W).grown hg1 (by simp)
    have lt1 : w.heap.size + 1 < W1.heap.size := (Array.getElem?_eq_some_iff.1 j2).1
    refine ⟨_, run_beginRound j2 rfl, ?_⟩
    have k2 : (W1.putObj (w.heap.size + 1) (.loop (R .busy none))).heap[w.heap.size + 1]? = some (.loop (R .busy none)) := World.putObj_heap_same lt1
    have k3 : (W1.putObj (w.heap.size + 1) (.loop (R .busy none))).heap[w.heap.size]? = some (.deferred (some [])) := (World.putObj_heap_other (by omega)).trans j3
    have b2 : Bel gg W (W1.putObj (w.heap.size + 1) (.loop (R .busy none))) := b1.grown (grownBy_putObj' _ _ _) (fun k e => by cases e; exact .inr (.inr ⟨_, j2, rfl⟩))
    refine wpIn_mono (hbody _ pre x a' _ (by omega) ((hAx pre x a').putObj (s := ()) _ hax (by omega) j2 rfl) hpre) ?_
    rintro e a3 W3 hp
    cases e with
    | normal =>
      obtain ⟨q1, q2, q3⟩ := hp
      have m2 := q1.same _ _ (by omega) k2 rfl
      have m3 := q1.same _ _ (Nat.le_refl _) k3 rfl
      have lt3 := (Array.getElem?_eq_some_iff.1 m2).1
      have hV : w.heap.size + 1 < V.heap.size := by omega
      refine ⟨_, _, run_endRound none m2, (((KeepsFrom.of_grownBy hg1 (by simp)).trans (KeepsFrom.of_grownBy (grownBy_putObj' _ _ _) (fun j e => by cases e; exact hV))).trans ⟨q1.size, fun k o hk => q1.same k o (by omega)⟩).trans (KeepsFrom.of_grownBy (grownBy_putObj' _ _ _) (fun j e => by cases e; exact hV)), .inl ⟨rfl, ⟨hI.putObj _ q3 (by omega) m2 rfl, World.putObj_heap_same lt3, (World.putObj_heap_other (by omega)).trans m3⟩, ?_⟩⟩
      exact (b2.trans q2).grown (grownBy_putObj' _ _ _) (fun k e => by cases e; exact .inr (.inr ⟨_, m2, rfl⟩))
    | ret =>
      obtain ⟨q1, q3⟩ := hp
      have m2 := q1.same _ _ (by omega) k2 rfl
      have m3 := q1.same _ _ (Nat.le_refl _) k3 rfl
      have lt3 := (Array.getElem?_eq_some_iff.1 m2).1
      have hV : w.heap.size + 1 < V.heap.size := by omega
      exact ⟨_, _, run_endRound (some .ret) m2, (((KeepsFrom.of_grownBy hg1 (by simp)).trans (KeepsFrom.of_grownBy (grownBy_putObj' _ _ _) (fun j e => by cases e; exact hV))).trans ⟨q1.size, fun k o hk => q1.same k o (by omega)⟩).trans (KeepsFrom.of_grownBy (grownBy_putObj' _ _ _) (fun j e => by cases e; exact hV)), .inr ⟨rfl, hIx.putObj _ q3 (by omega) m2 rfl, World.putObj_heap_same lt3, (World.putObj_heap_other (by omega)).trans m3⟩⟩
    | _ => exact hp.elim
  · rintro e W2 ⟨⟨v, rfl⟩, (⟨i1, i2, i3⟩ | ⟨pre, x, hpx, i1, i2, i3⟩)⟩
    · exact ⟨none, _, run_endLoop i2 (by show LoopState.ready ≠ LoopState.busy; simp), hdone _ _ (Nat.le_refl _) (hI.putObj _ i1 (by omega) i2 rfl) ((World.putObj_heap_other (by omega)).trans i3)⟩
    · exact ⟨some .ret, _, run_endLoop i2 (by show LoopState.done ≠ LoopState.busy; simp), hstop _ pre x _ (Nat.le_refl _) hpx (hIx.putObj _ i1 (by omega) i2 rfl) ((World.putObj_heap_other (by omega)).trans i3)⟩
end Go
