/-
  Contract of sound.
-/
import Derived.Test.YtjaomjbhkgijbaaMg6
import Derived.RangeFuncNested
import Derived.RangeFuncLeaves
import Derived.Deep.Draws
import Derived.RangeFuncBound
import Derived.RangeFuncCalls
import Derived.Shelf.Abstract
import Derived.Shelf.RegionOpen
import Derived.OwnWalkIn
import Derived.TacticsInMore
import Derived.LoopNIn
import Derived.LoopIn
import Derived.Sort.QuietTacIn

namespace Go.Proofs.Ytjaomjbhkgijbaa
open Go.RowKit

/-- The sound of a sample. -/
def snd (p : Prt) (n k : Int) (s : Smp) : Smp := ((s.1 * gUp p n k).tdiv (gDn p), (s.2 * gUp p n k).tdiv (gDn p))
theorem gUp_bd (p : Prt) (n k : Int) (hf : FdOk p) (hk0 : 0 ≤ k) (hk1 : k < n) : 0 ≤ gUp p n k ∧ gUp p n k ≤ 4000 * 1001 * 1001 := by
  obtain ⟨f1, f2, f3, f4, f5, f6⟩ := hf
  obtain ⟨x1, x2⟩ := mul_bdB p.lv (min k p.fi + 1) 4000 1001 f5 f6 (by omega) (by omega)
  exact mul_bdB _ (min (n - k) (p.fo + 1)) (4000 * 1001) 1001 x1 x2 (by omega) (by omega)
theorem gDn_bd (p : Prt) (hf : FdOk p) : 0 < gDn p ∧ gDn p ≤ 1000 * 1001 * 1001 := by
  obtain ⟨f1, f2, f3, f4, f5, f6⟩ := hf
  obtain ⟨x1, x2⟩ := mul_bdB (1000 * (p.fi + 1)) (p.fo + 1) (1000 * 1001) 1001 (by omega) (by omega) (by omega) (by omega)
  refine ⟨?_, x2⟩
  have : 0 < (1000 * (p.fi + 1)) * (p.fo + 1) := Int.mul_pos (by omega) (by omega)
  exact this
theorem smul_bd (x u : Int) (h1 : -32767 ≤ x) (h2 : x ≤ 32767) (h3 : 0 ≤ u) (h4 : u ≤ 4000 * 1001 * 1001) : -9223372036854775807 ≤ x * u ∧ x * u ≤ 9223372036854775807 := by
  have a1 : x * u ≤ 32767 * u := Int.mul_le_mul_of_nonneg_right h2 h3
  have a2 : -32767 * u ≤ x * u := Int.mul_le_mul_of_nonneg_right h1 h3
  omega

set_option maxRecDepth 100000 in
set_option maxHeartbeats 4000000 in
theorem sound_any (ad ad2 : Addr) (n c : Nat) (m : Nat) (t : TV) (s : Smp) (fr tto gp fi fo lv ix st k : Int) (j : Nat) (w : World)
    (hbl : ad.block < w.heap.size) (hbl2 : ad2.block < w.heap.size) (hm : m < n)
    (y1 : w.cell? ⟨(ad.add (m * 2)).block, (ad.add (m * 2)).off + 1, none⟩ = some (.slice (some ad2) t.n t.c))
    (y2 : w.cell? (ad2.add (j * 2)) = some (.int .i64 s.1)) (y3 : w.cell? ⟨(ad2.add (j * 2)).block, (ad2.add (j * 2)).off + 1, none⟩ = some (.int .i64 s.2))
    (hj : fr + k = (j : Int)) (hjn : j < t.n) (htn : t.n ≤ 4096) (s1 : -32767 ≤ s.1 ∧ s.1 ≤ 32767) (s2 : -32767 ≤ s.2 ∧ s.2 ≤ 32767)
    (ho : PrOk ⟨m, fr, tto, gp, fi, fo, lv⟩) (hf : FdOk ⟨m, fr, tto, gp, fi, fo, lv⟩) (hk0 : 0 ≤ k) (hk1 : k < tto - fr) :
    Calls Try.prog 151 #[.agg #[.int .i64 (m : Int), .int .i64 fr, .int .i64 tto, .int .i64 gp, .int .i64 fi, .int .i64 fo, .int .i64 lv, .int .i64 ix, .int .i64 st], .slice (some ad) n c, .int .i64 k] w fun e w' =>
      e = .returned (.agg #[.int .i64 (snd ⟨m, fr, tto, gp, fi, fo, lv⟩ (tto - fr) k s).1, .int .i64 (snd ⟨m, fr, tto, gp, fi, fo, lv⟩ (tto - fr) k s).2]) ∧ Below w.heap.size w w' := by
  have hbl' : (ad.add (m * 2)).block < w.heap.size := by rw [block_of_add]; exact hbl
  have hbl2' : (ad2.add (j * 2)).block < w.heap.size := by rw [block_of_add]; exact hbl2
  obtain ⟨u1, u2⟩ := gUp_bd ⟨m, fr, tto, gp, fi, fo, lv⟩ (tto - fr) k hf hk0 hk1
  obtain ⟨d1, d2⟩ := gDn_bd ⟨m, fr, tto, gp, fi, fo, lv⟩ hf
  have q1 := smul_bd s.1 _ s1.1 s1.2 u1 u2
  have q2 := smul_bd s.2 _ s2.1 s2.2 u1 u2
  have GG := Lib.hid (fun W => gain_any ⟨⟨m, fr, tto, gp, fi, fo, lv⟩, ix, st⟩ k W ho hf hk0 hk1)
  have BB := Lib.hid (fun W => bothOf_any s.1 s.2 (gUp ⟨m, fr, tto, gp, fi, fo, lv⟩ (tto - fr) k) (gDn ⟨m, fr, tto, gp, fi, fo, lv⟩) W d1 (by omega) q1.1 q1.2 q2.1 q2.2)
  have m0 : (0 : Int) ≤ (m : Int) := by omega
  have m1 : (m : Int) < (n : Int) := by omega
  have j0 : (0 : Int) ≤ (j : Int) := by omega
  have j1 : (j : Int) < (t.n : Int) := by omega
  have hwj : IntKind.i64.wrap (j : Int) = (j : Int) := IntWalk.i64_in _ (by omega)
  have HBK := Lib.hid (((Blk.new w 117 #[.int .i64 (m : Int), .int .i64 fr, .int .i64 tto, .int .i64 gp, .int .i64 fi, .int .i64 fo, .int .i64 lv, .int .i64 ix, .int .i64 st]).alloc (.cells #[.int .i64 0, .int .i64 0] 75)).drew)
  have HCL := Lib.hid ((Blk.new (w.alloc (.cells #[.int .i64 (m : Int), .int .i64 fr, .int .i64 tto, .int .i64 gp, .int .i64 fi, .int .i64 fo, .int .i64 lv, .int .i64 ix, .int .i64 st] 117)) 75 #[.int .i64 0, .int .i64 0]).drew)
  have HBW := Lib.hid (((Below.refl w.heap.size w).alloc (Nat.le_refl _) (.cells #[.int .i64 (m : Int), .int .i64 fr, .int .i64 tto, .int .i64 gp, .int .i64 fi, .int .i64 fo, .int .i64 lv, .int .i64 ix, .int .i64 st] 117)).alloc (by simp) (.cells #[.int .i64 0, .int .i64 0] 75)).drew
  rw [World.size_alloc] at HCL
  have y1 := (HBW.out.cell (p := ⟨(ad.add (m * 2)).block, (ad.add (m * 2)).off + 1, none⟩) hbl').trans y1
  have y2 := (HBW.out.cell (p := ad2.add (j * 2)) hbl2').trans y2
  have y3 := (HBW.out.cell (p := ⟨(ad2.add (j * 2)).block, (ad2.add (j * 2)).off + 1, none⟩) hbl2').trans y3
  have n1 : (ad.add (m * 2)).block ≠ w.heap.size + 1 := by omega
  have n2 : (ad2.add (j * 2)).block ≠ w.heap.size + 1 := by omega
  have n3 : ad2.add (j * 2) ≠ ⟨w.heap.size + 1, 0, none⟩ := fun h => n2 (by rw [h])
  have n4 : ad2.add (j * 2) ≠ ⟨w.heap.size + 1, 1, none⟩ := fun h => n2 (by rw [h])
  have n1' := n1.symm
  have n2' := n2.symm
  have n3' := n3.symm
  have n4' := n4.symm
  clear ho hf u1 u2 d1 d2 q1 q2 s1 s2 htn hm hjn
  go_enter Try.func151, Try.ntmps151
  go_wp2
  go_region_held3 (fun w' => w'.cell? ⟨w.heap.size, 0, none⟩ = some (.int .i64 (m : Int)) ∧ w'.cell? ⟨w.heap.size, 1, none⟩ = some (.int .i64 fr) ∧ w'.cell? ⟨w.heap.size, 2, none⟩ = some (.int .i64 tto) ∧ w'.cell? ⟨w.heap.size, 3, none⟩ = some (.int .i64 gp) ∧ w'.cell? ⟨w.heap.size, 4, none⟩ = some (.int .i64 fi) ∧ w'.cell? ⟨w.heap.size, 5, none⟩ = some (.int .i64 fo) ∧ w'.cell? ⟨w.heap.size, 6, none⟩ = some (.int .i64 lv) ∧ w'.cell? ⟨w.heap.size, 7, none⟩ = some (.int .i64 ix) ∧ w'.cell? ⟨w.heap.size, 8, none⟩ = some (.int .i64 st) ∧ w'.cell? ⟨(ad.add (m * 2)).block, (ad.add (m * 2)).off + 1, none⟩ = some (.slice (some ad2) t.n t.c) ∧ w'.cell? (ad2.add (j * 2)) = some (.int .i64 s.1) ∧ w'.cell? ⟨(ad2.add (j * 2)).block, (ad2.add (j * 2)).off + 1, none⟩ = some (.int .i64 s.2)) (go_keep)
    (first | (go_at_call 183; refine (GG.out _).mono ?_; rintro e w1 ⟨rfl, hb1⟩; have HBK := Lib.hid (HBK.out.below hb1 HBK.out.lt); have HCL := Lib.hid (HCL.out.below hb1 HCL.out.lt); have y1 := (hb1.cell (p := ⟨(ad.add (m * 2)).block, (ad.add (m * 2)).off + 1, none⟩) (Nat.lt_of_lt_of_le hbl' HBW.out.size)).trans y1; have y2 := (hb1.cell (p := ad2.add (j * 2)) (Nat.lt_of_lt_of_le hbl2' HBW.out.size)).trans y2; have y3 := (hb1.cell (p := ⟨(ad2.add (j * 2)).block, (ad2.add (j * 2)).off + 1, none⟩) (Nat.lt_of_lt_of_le hbl2' HBW.out.size)).trans y3; have HBW := Lib.hid (HBW.out.trans (hb1.mono HBW.out.size)); have g0 := (HBK.out.cell 0).trans rfl; have g1 := (HBK.out.cell 1).trans rfl; have g2 := (HBK.out.cell 2).trans rfl; have g3 := (HBK.out.cell 3).trans rfl; have g4 := (HBK.out.cell 4).trans rfl; have g5 := (HBK.out.cell 5).trans rfl; have g6 := (HBK.out.cell 6).trans rfl; have g7 := (HBK.out.cell 7).trans rfl; have g8 := (HBK.out.cell 8).trans rfl; obtain ⟨t0, t1, u0, u1, tl⟩ := HCL.out.two; clear hb1) | (go_at_call 182; refine (BB.out _).mono ?_; rintro e w1 ⟨rfl, hb1⟩; have HBK := Lib.hid (HBK.out.below hb1 HBK.out.lt); have HCL := Lib.hid (HCL.out.below hb1 HCL.out.lt); have y1 := (hb1.cell (p := ⟨(ad.add (m * 2)).block, (ad.add (m * 2)).off + 1, none⟩) (Nat.lt_of_lt_of_le hbl' HBW.out.size)).trans y1; have y2 := (hb1.cell (p := ad2.add (j * 2)) (Nat.lt_of_lt_of_le hbl2' HBW.out.size)).trans y2; have y3 := (hb1.cell (p := ⟨(ad2.add (j * 2)).block, (ad2.add (j * 2)).off + 1, none⟩) (Nat.lt_of_lt_of_le hbl2' HBW.out.size)).trans y3; have HBW := Lib.hid (HBW.out.trans (hb1.mono HBW.out.size)); have g0 := (HBK.out.cell 0).trans rfl; have g1 := (HBK.out.cell 1).trans rfl; have g2 := (HBK.out.cell 2).trans rfl; have g3 := (HBK.out.cell 3).trans rfl; have g4 := (HBK.out.cell 4).trans rfl; have g5 := (HBK.out.cell 5).trans rfl; have g6 := (HBK.out.cell 6).trans rfl; have g7 := (HBK.out.cell 7).trans rfl; have g8 := (HBK.out.cell 8).trans rfl; obtain ⟨t0, t1, u0, u1, tl⟩ := HCL.out.two; clear hb1))
  all_goals
    go_wp2
    have e1 := Blk.two (a := .int .i64 (snd ⟨m, fr, tto, gp, fi, fo, lv⟩ (tto - fr) k s).1) (b := .int .i64 0) (HCL.out.set_ 0 (.int .i64 (snd ⟨m, fr, tto, gp, fi, fo, lv⟩ (tto - fr) k s).1))
    have e2 := Blk.two (a := .int .i64 (snd ⟨m, fr, tto, gp, fi, fo, lv⟩ (tto - fr) k s).1) (b := .int .i64 (snd ⟨m, fr, tto, gp, fi, fo, lv⟩ (tto - fr) k s).2) ((HCL.out.set_ 0 (.int .i64 (snd ⟨m, fr, tto, gp, fi, fo, lv⟩ (tto - fr) k s).1)).set_ 1 (.int .i64 (snd ⟨m, fr, tto, gp, fi, fo, lv⟩ (tto - fr) k s).2))
    refine bodyPost_ret (v := .agg #[.int .i64 (snd ⟨m, fr, tto, gp, fi, fo, lv⟩ (tto - fr) k s).1, .int .i64 (snd ⟨m, fr, tto, gp, fi, fo, lv⟩ (tto - fr) k s).2]) ?_ rfl ⟨rfl, ?_⟩
    · simp only [snd] at e1 e2 ⊢
      simp [results, Try.results151, go_sem, e1.1, e2.2.1]
    · exact (HBW.out.setCell (by simp) _).setCell (by simp) _
end Go.Proofs.Ytjaomjbhkgijbaa

/-
  A law of my own for a range over a function whose rounds always go on: the iterator's contract may ask that the caller's invariant abides the turn of whatever block that is no cells and was laid since the call began.
-/
namespace Go
open Go.RowKit

/-- Every block of cells that is none of S lies as it lay. -/
structure Bel (S : Nat → Prop) (W W' : World) : Prop where
  os : W'.os = W.os
  tape : W'.tape = W.tape
  output : W'.output = W.output
  size : W.heap.size ≤ W'.heap.size
  block : ∀ k o, W.heap[k]? = some o → o.isCells = true → ¬ S k → W'.heap[k]? = some o
theorem Bel.refl (S : Nat → Prop) (W : World) : Bel S W W := ⟨rfl, rfl, rfl, Nat.le_refl _, fun _ _ h _ _ => h⟩
theorem Bel.trans {S : Nat → Prop} {a b c : World} (h : Bel S a b) (k : Bel S b c) : Bel S a c :=
  ⟨k.os.trans h.os, k.tape.trans h.tape, k.output.trans h.output, Nat.le_trans h.size k.size, fun i o hi ho hn => k.block i o (h.block i o hi ho hn) ho hn⟩
theorem Bel.of_below {S : Nat → Prop} {a b : World} (h : Below a.heap.size a b) : Bel S a b :=
  ⟨h.os, h.tape, h.output, h.size, fun k _ hk _ _ => (h.block k (Array.getElem?_eq_some_iff.1 hk).1).trans hk⟩
theorem Bel.grown {S : Nat → Prop} {a w w' : World} {row : Option Nat} (h : Bel S a w) (hg : w.grownBy w' row) (hr : ∀ k, row = some k → a.heap.size ≤ k ∨ S k ∨ ∃ o, w.heap[k]? = some o ∧ o.isCells = false) : Bel S a w' :=
  ⟨hg.os.trans h.os, hg.tape.trans h.tape, hg.output.trans h.output, Nat.le_trans h.size hg.size, fun k o hk ho hn => by
    have hw := h.block k o hk ho hn
    refine (hg.block k (Array.getElem?_eq_some_iff.1 hw).1 (fun e => ?_)).trans hw
    rcases hr k e.symm with h1 | h1 | ⟨o', h1, h2⟩
    · have := (Array.getElem?_eq_some_iff.1 hk).1; omega
    · exact hn h1
    · rw [hw] at h1; cases h1; rw [ho] at h2; cases h2⟩
theorem Bel.setCell {S : Nat → Prop} {a w : World} (h : Bel S a w) {p : Addr} (hp : a.heap.size ≤ p.block ∨ S p.block) (u : Value) : Bel S a (w.setCell p u) :=
  ⟨h.os, h.tape, h.output, Nat.le_trans h.size (by simp [World.setCell]), fun k o hk ho hn =>
    (Below.heap_setCell _ _ _ _ (by
      have := (Array.getElem?_eq_some_iff.1 hk).1
      rcases hp with h1 | h1
      · omega
      · rintro rfl; exact hn h1)).trans (h.block k o hk ho hn)⟩
theorem Bel.alloc {S : Nat → Prop} {a w : World} (h : Bel S a w) (o : Obj) : Bel S a (w.alloc o) :=
  ⟨h.os, h.tape, h.output, Nat.le_trans h.size (by simp), fun k o' hk ho hn => by
    have hw := h.block k o' hk ho hn
    exact (Below.heap_alloc _ _ _ (Array.getElem?_eq_some_iff.1 hw).1).trans hw⟩
theorem Bel.drew {S : Nat → Prop} {a w : World} (h : Bel S a w) : Bel S a w.drew := ⟨h.os, h.tape, h.output, h.size, h.block⟩
theorem Bel.drewN {S : Nat → Prop} {a w : World} (h : Bel S a w) (n : Nat) : Bel S a (w.drewN n) := ⟨h.os, h.tape, h.output, h.size, h.block⟩
theorem Bel.cell {S : Nat → Prop} {w w' : World} (h : Bel S w w') {p : Addr} {v : Value} (hc : w.cell? p = some v) (hn : ¬ S p.block) : w'.cell? p = some v := by
  have hb : ∃ o, w.heap[p.block]? = some o ∧ o.isCells = true := by
    unfold World.cell? at hc
    cases ho : w.heap[p.block]? with
    | none => simp [ho] at hc
    | some o => exact ⟨o, rfl, by cases o <;> simp_all [Obj.isCells]⟩
  obtain ⟨o, ho, hoc⟩ := hb
  exact (World.cell?_of_block (w := w) ((h.block _ o ho hoc hn).trans ho.symm)).trans hc

/-- THE ITERATOR's CONTRACT, where no round says 'no more': the rounds for just xs, in order. -/
def SeqAll {α : Type} (F : Fence) (n : Nat) (P : Program) (g : Nat) (lb : Array Value) (encs : α → Array Value) (gg : Nat → Prop) (xs : List α) (w : World) : Prop :=
  ∀ (l : Nat) (J : List α → World → Prop) (W : World), Below w.heap.size w W → OwnFrom W.heap.size J →
    (∀ pre x W1, J pre W1 → pre ++ [x] <+: xs → YieldAt F (n - 1) P l (encs x) W1 fun e W' => e = .returned (.bool true) ∧ J (pre ++ [x]) W' ∧ Bel gg W1 W' ∧ KeepsFrom W.heap.size W1 W') →
    J [] W →
    CallsIn F n P g (#[.func (.yield l) #[] #[]] ++ lb) W fun e W' => (∃ v, e = .returned v) ∧ J xs W'

variable {F : Fence} {n : Nat} {P : Program} {w : World}

/-- What a round's body leaves, where it always goes on. -/
def onPost {α : Type} (gg : Nat → Prop) (Bw : Nat) (I : List α → World → Prop) (ys : List α) (W : World) : Exit → Act → World → Prop
  | .normal, _, W' => KeepsFrom Bw W W' ∧ Bel gg W W' ∧ I ys W'
  | _, _, _ => False

theorem wpIn_rangeAll {α : Type} {g : Operand} {ps : Array Tmp} {assign body : Code} {Q : Exit → Act → World → Prop} {a : Act}
    (hro : F.round = none) (h1 : 1 ≤ n) {gf : Nat} {lb : Array Value} (hg : a.eval g = .func (.func gf) #[] lb) (hFg : F.fn gf) (eg : ∀ args w, (callFunc gf args).run P w = .ok (.enter gf args) w)
    {encs : α → Array Value} {gg : Nat → Prop} {xs : List α} {w0 : World} (hseq : SeqAll F (n - 1) P gf lb encs gg xs w0) (hb0 : Below w0.heap.size w0 w) (hps : ∀ x, (encs x).size = ps.size)
    (I : List α → World → Prop) (hI : OwnFrom w.heap.size I) (h0 : I [] w) (Ax : List α → α → Act → World → Prop) (hAx : ∀ pre x a', OwnFrom w.heap.size (fun (_ : Unit) W => Ax pre x a' W))
    (hassign : ∀ (l : Nat) (pre : List α) (x : α) (W : World) (K : Act → World → Prop), I pre W → (∀ a' W', W.grownBy W' none → Ax pre x a' W' → K a' W') →
      assign.wpIn (F.inRound l) (n - 1 - 1) P (Exit.then K (fun _ _ _ => False)) { tmps := (ps.zip (encs x)).foldl (fun t (p, v) => t.setIfInBounds p v) a.tmps, defers := [] } W)
    (hbody : ∀ (l : Nat) (pre : List α) (x : α) (a' : Act) (W : World), w.heap.size ≤ l → Ax pre x a' W → pre ++ [x] <+: xs → body.wpIn (F.inRound l) (n - 1 - 1) P (onPost gg w.heap.size I (pre ++ [x]) W) a' W)
    (hdone : ∀ (D : Nat) (W : World), w.heap.size ≤ D → I xs W → W.heap[D]? = some (.deferred (some [])) → Q .normal { a with defers := { target := .collected D, args := #[] } :: a.defers } W) :
    (Code.rangeFunc g ps assign body).wpIn F n P Q a w := by
  refine wpIn_rangeFunc fun fn hfn => ?_
  rw [hro]
  -- the record, and the two blocks of book-keeping
  let R : LoopState → Loop := fun st => { state := st, pending := none, fn, tmps := a.tmps, params := ps, assign, body, defers := w.heap.size }
  let V : World := (w.alloc (.deferred (some []))).alloc (.loop (R .ready))
  have vsz : V.heap.size = w.heap.size + 2 := by show ((w.alloc _).alloc _).heap.size = _; simp
  have vL : V.heap[w.heap.size + 1]? = some (.loop (R .ready)) := by
    have := World.alloc_heap_new (w.alloc (.deferred (some []))) (.loop (R .ready)); rwa [World.size_alloc] at this
  have vD : V.heap[w.heap.size]? = some (.deferred (some [])) := (Below.heap_alloc _ _ _ (by simp)).trans (World.alloc_heap_new w _)
  have vI : I [] V := hI.alloc _ (hI.alloc _ h0)
  have vB : Below w0.heap.size w0 V := hb0.trans ((((Below.refl _ w).alloc (Nat.le_refl _) _).alloc (by simp) _).mono hb0.size)
  refine ⟨w.heap.size + 1, [{ target := .collected w.heap.size, args := #[] }], V, { target := .fn (.func gf) lb, args := #[.func (.yield (w.heap.size + 1)) #[] #[]] }, V, gf,
    #[.func (.yield (w.heap.size + 1)) #[] #[]] ++ lb, V, run_enterLoop_outer _ _ _ _ _, ?_, ?_, ?_, fun _ => h1, ?_⟩
  · simp only [resolve, hg]; simp [go_sem]
  · intro f' hf'; simp [Target.leads] at hf'; subst hf'; exact hFg
  · simp [invoke, go_sem, eg]
  refine (hseq (w.heap.size + 1) (fun pre W => I pre W ∧ W.heap[w.heap.size + 1]? = some (.loop (R .ready)) ∧ W.heap[w.heap.size]? = some (.deferred (some []))) V vB ?_ ?_ ⟨vI, vL, vD⟩).mono ?_
  · -- the invariant abides: the two blocks lie below V's end, what is turned lies beyond
    rintro s X Y row ⟨i1, i2, i3⟩ hgr hr
    have kept : ∀ (k : Nat) (o : Obj), k < V.heap.size → X.heap[k]? = some o → Y.heap[k]? = some o := fun k o hk ho =>
      (hgr.block k (Array.getElem?_eq_some_iff.1 ho).1 (fun e => by have := (hr k e.symm).1; omega)).trans ho
    exact ⟨hI s X Y row i1 hgr (fun r e => ⟨by have := (hr r e).1; omega, (hr r e).2⟩), kept _ _ (by omega) i2, kept _ _ (by omega) i3⟩
  · -- one round
    rintro pre x W ⟨i1, i2, i3⟩ hpre
    have lt : w.heap.size + 1 < W.heap.size := (Array.getElem?_eq_some_iff.1 i2).1
    have hy := run_yield (P := P) (args := encs x) i2 (hps x)
    refine ⟨_, _, _, _, hy, roundIn_of_wpIn hfn (hassign _ pre x W _ i1 ?_)⟩
    intro a' W1 hg1 hax
    have j2 : W1.heap[w.heap.size + 1]? = some (.loop (R .ready)) := (hg1.block _ lt (by simp)).trans i2
    have j3 : W1.heap[w.heap.size]? = some (.deferred (some [])) := (hg1.block _ (by omega) (by simp)).trans i3
    have b1 : Bel gg W W1 := (Bel.refl gg W).grown hg1 (by simp)
    have lt1 : w.heap.size + 1 < W1.heap.size := (Array.getElem?_eq_some_iff.1 j2).1
    refine ⟨_, run_beginRound j2 rfl, ?_⟩
    have k2 : (W1.putObj (w.heap.size + 1) (.loop (R .busy))).heap[w.heap.size + 1]? = some (.loop (R .busy)) := World.putObj_heap_same lt1
    have k3 : (W1.putObj (w.heap.size + 1) (.loop (R .busy))).heap[w.heap.size]? = some (.deferred (some [])) := (World.putObj_heap_other (by omega)).trans j3
    have b2 : Bel gg W (W1.putObj (w.heap.size + 1) (.loop (R .busy))) := b1.grown (grownBy_putObj' _ _ _) (fun k e => by cases e; exact .inr (.inr ⟨_, j2, rfl⟩))
    refine wpIn_mono (hbody _ pre x a' _ (by omega) ((hAx pre x a').putObj (s := ()) _ hax (by omega) j2 rfl) hpre) ?_
    rintro e a3 W3 hp
    cases e with
    | normal =>
      obtain ⟨q1, q2, q3⟩ := hp
      have m2 := q1.same _ _ (by omega) k2 rfl
      have m3 := q1.same _ _ (Nat.le_refl _) k3 rfl
      have lt3 := (Array.getElem?_eq_some_iff.1 m2).1
      refine ⟨_, _, run_endRound none m2, ⟨rfl, ⟨hI.putObj _ q3 (by omega) m2 rfl, World.putObj_heap_same lt3, (World.putObj_heap_other (by omega)).trans m3⟩, ?_, ?_⟩⟩
      · exact (b2.trans q2).grown (grownBy_putObj' _ _ _) (fun k e => by cases e; exact .inr (.inr ⟨_, m2, rfl⟩))
      · have hV : w.heap.size + 1 < V.heap.size := by omega
        exact (((KeepsFrom.of_grownBy hg1 (by simp)).trans (KeepsFrom.of_grownBy (grownBy_putObj' _ _ _) (fun j e => by cases e; exact hV))).trans ⟨q1.size, fun k o hk => q1.same k o (by omega)⟩).trans (KeepsFrom.of_grownBy (grownBy_putObj' _ _ _) (fun j e => by cases e; exact hV))
    | _ => exact hp.elim
  · rintro e W2 ⟨⟨v, rfl⟩, i1, i2, i3⟩
    exact ⟨none, _, run_endLoop i2 (by show LoopState.ready ≠ LoopState.busy; simp), hdone _ _ (Nat.le_refl _) (hI.putObj _ i1 (by omega) i2 rfl) ((World.putObj_heap_other (by omega)).trans i3)⟩
end Go

/-
  Contracts of sounding and of the iterator that it returns.
-/
namespace Go.Proofs.Ytjaomjbhkgijbaa
open Go.RowKit Go.Shelf
attribute [local go_sem] Oper.semAt_some

abbrev encP (x : Pl × Int) : Array Value := #[.agg #[.int .i64 x.1.p.tk, .int .i64 x.1.p.fr, .int .i64 x.1.p.to, .int .i64 x.1.p.gp, .int .i64 x.1.p.fi, .int .i64 x.1.p.fo, .int .i64 x.1.p.lv, .int .i64 x.1.ix, .int .i64 x.1.st], .int .i64 x.2]
def sndB (t : Int) (q : Pl) : Bool := decide (q.st ≤ t) && decide (t < q.end_)
/-- What sounds at a time: the placed parts, each with the number of its sample. -/
def sndL (R : List Pl) (t : Int) : List (Pl × Int) := (R.filter (sndB t)).map fun q => (q, t - q.st)
theorem sndL_snoc (R : List Pl) (t : Int) (k : Nat) (h : k < R.length) : sndL (R.take (k + 1)) t = sndL (R.take k) t ++ if sndB t R[k] = true then [(R[k], t - R[k].st)] else [] := by
  unfold sndL
  rw [List.take_succ_eq_append_getElem h, List.filter_append, List.map_append]
  cases hb : sndB t R[k] <;> simp [hb]
theorem sndL_prefix (R : List Pl) (t : Int) (k : Nat) : sndL (R.take k) t <+: sndL R t := by
  unfold sndL
  exact ((List.take_prefix k R).filter _).map _
theorem RQ.bel {w w' : World} {B : Nat} {gg : Nat → Prop} {A : Option Addr} {n : Nat} {l : List Pl} (h : RQ w B A n l) (hb : Bel gg w w') (hne : ∀ ad, A = some ad → ¬ gg ad.block) : RQ w' B A n l := by
  refine ⟨h.1, h.2.1, fun hn => ?_⟩
  obtain ⟨ad, e, hlt, hc⟩ := h.2.2 hn
  exact ⟨ad, e, hlt, fun j u hu => hb.cell (hc j u hu) (by rw [block_of_add]; exact hne ad e)⟩
theorem grown_of_below {X Y : World} (h : Below X.heap.size X Y) : X.grownBy Y none := ⟨h.os, h.tape, h.output, h.size, fun i hi _ => h.block i hi⟩

set_option maxHeartbeats 400000 in
theorem sounding_any (A : Option Addr) (m c : Nat) (t : Int) (w : World) :
    Calls Try.prog 95 #[.slice A m c, .int .i64 t] w fun e w' => e = .returned (.func (.func 156) #[] #[.pointer (some ⟨w.heap.size, 0, none⟩), .pointer (some ⟨w.heap.size + 1, 0, none⟩)]) ∧
      (w.alloc (.cells #[.slice A m c] 114)).alloc (.cells #[.int .i64 t] 3) = w' := by
  go_enter Try.func95, Try.ntmps95
  go_wp2
  go_ret
  exact ⟨rfl, rfl⟩

end Go.Proofs.Ytjaomjbhkgijbaa

