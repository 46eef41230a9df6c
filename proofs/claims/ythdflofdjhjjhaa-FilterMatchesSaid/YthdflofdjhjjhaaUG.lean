/-
  Chains back: slices.Backward, UndoAll and Undo.
-/
import Derived.Test.YthdflofdjhjjhaaUA
import Derived.Test.YthdflofdjhjjhaaUD
import Derived.Test.YthdflofdjhjjhaaIr
namespace Go.Proofs.Ythdflofdjhjjhaa
open Go.RowKit Go.Shelf
attribute [local go_sem] Oper.semAt_some

def cv0 : CV := ⟨none, 0, 0, none, 0, 0, ⟨[], [], 0⟩⟩
/-- The curves of a list with their indexes, from the last one to the first one. -/
def bkw (l : List CV) : List (Nat × CV) := (List.range l.length).map fun j => (l.length - 1 - j, l[l.length - 1 - j]?.getD cv0)
theorem bkw_len (l : List CV) : (bkw l).length = l.length := by simp [bkw]
theorem bkw_at {l : List CV} {j : Nat} (h : j < l.length) : (bkw l)[j]'(by rw [bkw_len]; exact h) = (l.length - 1 - j, l[l.length - 1 - j]'(by omega)) := by
  simp only [bkw, List.getElem_map, List.getElem_range]
  rw [List.getElem?_eq_getElem (by omega)]; rfl
theorem bkw_cs (l : List CV) : (bkw l).map (·.2.c) = (l.map CV.c).reverse := by
  apply List.ext_getElem
  · simp [bkw_len]
  · intro j h1 h2
    have hj : j < l.length := by simpa [bkw_len] using h1
    rw [List.getElem_map, bkw_at hj, List.getElem_reverse, List.getElem_map]
    simp
theorem bkw_mem {l : List CV} {x : Nat × CV} (h : x ∈ bkw l) : x.2 ∈ l := by
  obtain ⟨j, hj, rfl⟩ := List.getElem_of_mem h
  rw [bkw_at (by rw [bkw_len] at hj; exact hj)]
  exact List.getElem_mem _
abbrev encC (x : Nat × CV) : Array Value := #[.int .i64 x.1, .agg #[.slice x.2.Af x.2.nf x.2.kf, .slice x.2.Ab x.2.nb x.2.kb, .int .i64 x.2.c.share]]

set_option maxHeartbeats 400000 in
theorem Backward_any (A : Option Addr) (n k : Nat) (w : World) :
    Calls Try.prog 35 #[.slice A n k] w fun e w' => e = .returned (.func (.func 53) #[] #[.pointer (some ⟨w.heap.size, 0, none⟩)]) ∧ w.alloc (.cells #[.slice A n k] 26) = w' := by
  go_enter Try.func35, Try.ntmps35
  go_wp2
  go_ret
  exact ⟨rfl, rfl⟩

set_option maxRecDepth 100000 in
set_option maxHeartbeats 2000000 in
theorem backward1_all (m bl B : Nat) (A : Option Addr) (n k : Nat) (l : List CV) (gg : Nat → Prop) (W0 : World) (hm : 1 ≤ m) (hb : Blk W0 bl 26 #[.slice A n k]) (hg : ¬ gg bl) (hR : RC W0 B A n l) (hgB : ∀ b, b < B → ¬ gg b) (hB : B ≤ W0.heap.size) (hl : n ≤ 1099511627776) :
    SeqAll Fence.wide m Try.prog 53 #[.pointer (some ⟨bl, 0, none⟩)] encC gg (bkw l) W0 := fun L J W hW hJ hY h0 => by
  have HN := Lib.hid hR.1
  have hc : W.cell? ⟨bl, 0, none⟩ = some (.slice A n k) := (hW.cell (p := ⟨bl, 0, none⟩) hb.lt).trans hb.one.1
  have HRC : Hid (RC W B A n l) := Lib.hid (hR.below hW hB)
  refine callsIn_of_wp Try.func53 rfl trivial ?_ rfl
  simp only [Try.ntmps53, List.size_toArray, List.length_cons, List.length_nil, Nat.reduceAdd, Nat.reduceSub, Array.replicate_succ, Array.replicate_zero, List.push_toArray, List.append_toArray, List.nil_append, List.cons_append]
  have e1 : IntKind.i64.wrap ((n : Int) - 1) = (n : Int) - 1 := IntWalk.i64_in _ (by omega)
  gi_wp2
  gi_loopw [3] (fun z wr => ∃ j : Nat, j ≤ n ∧ z = .int .i64 ((n : Int) - 1 - j) ∧ Hid (J ((bkw l).take j) wr) ∧ Hid (Bel gg W wr)) (fun z _ => (intOf z + 1).toNat)
  case atStart => exact ⟨0, Nat.zero_le _, by simp, Lib.hid h0, Lib.hid (Bel.refl _ _)⟩
  case round =>
    obtain ⟨j, hj, rfl, HJ, HX⟩ := hrel
    have e5 : IntKind.i64.wrap ((n : Int) - 1 - j - 1) = (n : Int) - 1 - j - 1 := IntWalk.i64_in _ (by omega)
    by_cases hlt : j < n
    · have hlt' : 0 ≤ (n : Int) - 1 - j := by omega
      have hjl : j < l.length := by have := HN.out; omega
      have hlen := HN.out
      have hpre : (bkw l).take j ++ [(n - 1 - j, l[n - 1 - j]'(by omega))] = (bkw l).take (j + 1) := by
        rw [List.take_succ_eq_append_getElem (by rw [bkw_len]; exact hjl), bkw_at hjl]
        simp only [← hlen]
      obtain ⟨ad, hA, hbl, p0, p1, p2, -⟩ := HRC.out.at_ (k := n - 1 - j) (by omega)
      obtain rfl := hA
      obtain ⟨t, ht⟩ : ∃ t, l[n - 1 - j]'(by omega) = t := ⟨_, rfl⟩
      rw [ht] at p0 p1 p2 hpre
      have q0 := HX.out.cell p0 (by rw [block_of_add]; exact hgB _ hbl)
      have q1 := HX.out.cell p1 (by show ¬ gg ((ad.add ((n - 1 - j) * 3)).block); rw [block_of_add]; exact hgB _ hbl)
      have q2 := HX.out.cell p2 (by show ¬ gg ((ad.add ((n - 1 - j) * 3)).block); rw [block_of_add]; exact hgB _ hbl)
      have hc2 : wr.cell? ⟨bl, 0, none⟩ = some (.slice (some ad) n k) := HX.out.cell hc hg
      obtain ⟨fn, tmps, assign, body, hy, hR'⟩ := hY _ (n - 1 - j, t) wr HJ.out (by rw [hpre]; exact List.take_prefix _ _)
      rw [hpre] at hR'
      dsimp only [encC] at hy
      have e3 : ((n - 1 - j : Nat) : Int) = (n : Int) - 1 - j := by omega
      have e4 : ((n : Int) - 1 - j).toNat = n - 1 - j := by omega
      have e6 : (n : Int) - 1 - j < (n : Int) := by omega
      rw [e3] at hy
      have HC := Lib.hid hc
      have HLEN := Lib.hid hlen
      clear hpre e3 p0 p1 p2 hc ht hlen
      gi_wp2
      refine hR'.mono ?_
      rintro e W3 ⟨rfl, hJ3, hk3, hk4⟩
      have hc := HC.out
      gi_wp2
      go_roundw
      case rel => exact ⟨j + 1, by omega, by congr 1; omega, Lib.hid hJ3, Lib.hid (HX.out.trans hk3)⟩
      case measure => simp [intOf]; omega
    · have hlt' : ¬ 0 ≤ (n : Int) - 1 - j := by omega
      have HJF : Hid (J (bkw l) wr) := Lib.hid (by
        have h := HJ.out
        rw [List.take_of_length_le (by rw [bkw_len]; have := HN.out; omega)] at h
        exact h)
      gi_wp2
      go_end0
      exact ⟨⟨_, rfl⟩, HJF.out⟩

theorem Below.of_drew {X w : World} (h : Below X.drew.heap.size X.drew w) : Below X.heap.size X w := ⟨h.os, h.tape, h.output, h.size, h.block⟩
theorem Live.kept {X Y : World} {B : Nat} {dir : Bool} {s : SR} {h : List (Int × Int)} {row : Option Nat} (H : Live X B dir s h) (hg : X.grownBy Y row) (hr : ∀ r, row = some r → B ≤ r ∧ ∃ o : Obj, X.heap[r]? = some o ∧ o.isCells = false) : Live Y B dir s h :=
  have hb := grown_below hg H.BS (fun k hk => (hr k hk).1)
  ⟨blk_keptR H.st hg (fun r e => (hr r e).2), blk_keptR H.dr hg (fun r e => (hr r e).2), H.fd.below hb (Nat.le_refl _), H.bk.below hb (Nat.le_refl _), H.gB, H.dB, H.ok, H.sm⟩
theorem Lives.kept {X Y : World} {B : Nat} {dir : Bool} {l : List SR} {hs : List (List (Int × Int))} {row : Option Nat} (H : Lives X B dir l hs) (hg : X.grownBy Y row) (hr : ∀ r, row = some r → B ≤ r ∧ ∃ o : Obj, X.heap[r]? = some o ∧ o.isCells = false) : Lives Y B dir l hs :=
  ⟨H.len, H.inj, fun i hi hh => (H.all i hi hh).kept hg hr⟩
/-- The steps so far, in the loop of UndoAll. -/
def UndI (w : World) (b7 : Nat) (pre : List (Nat × CV)) (X : World) : Prop :=
  ∃ (sv : Value) (rs : List SR), Blk X b7 55 #[sv] ∧ rs.length = pre.length ∧ rs.map SR.c = pre.map (·.2.c) ∧ X.ownsRow w.heap.size 57 1 sv pre.length (rs.map (SR.val false)) ∧ Lives X w.heap.size false rs (rs.map fun _ => []) ∧ Below w.heap.size w X ∧ w.heap.size ≤ b7
theorem UndI.kept {w X Y : World} {b7 : Nat} {pre : List (Nat × CV)} {row : Option Nat} (h : UndI w b7 pre X) (hg : X.grownBy Y row) (hr : ∀ r, row = some r → w.heap.size ≤ r ∧ ∃ o : Obj, X.heap[r]? = some o ∧ o.isCells = false) : UndI w b7 pre Y := by
  obtain ⟨sv, rs, h1, h2, h3, h4, h5, h6, h7⟩ := h
  exact ⟨sv, rs, blk_keptR h1 hg (fun r e => (hr r e).2), h2, h3, own_keptR h4 hg (fun r e => (hr r e).2), h5.kept hg hr, h6.trans (grown_below hg h6.size (fun k hk => (hr k hk).1)), h7⟩
theorem b7_after {X w8 w9 : World} {b7 : Nat} {sv u : Value} {base n : Nat} {xs : List Value} (h1 : Blk X b7 55 #[sv]) (h4 : X.ownsRow base 57 1 sv n xs) (hb8 : Below X.heap.size X w8) (hgrow : (w8.alloc (.cells #[u] 57)).grownBy w9 sv.ownBlock) :
    w9.cell? ⟨b7, 0, none⟩ = some sv ∧ w9.frozen? ⟨b7, 0, none⟩ = false := by
  have ho8 := (own_below h4 hb8).alloc (.cells #[u] 57)
  have hb7' : Blk (w8.alloc (.cells #[u] 57)) b7 55 #[sv] := (h1.below hb8 h1.lt).alloc _
  have n7 : some b7 ≠ sv.ownBlock := by
    intro hv
    rcases ho8.2 with ⟨rfl, _⟩ | ⟨g', cap, cur, rfl, _, hg', _⟩
    · simp [Value.ownBlock] at hv
    · simp [Value.ownBlock] at hv
      subst hv
      exact blk_ne (cs := cur) hg' hb7' (by decide) rfl
  have h := hb7'.grown hgrow n7
  exact ⟨h.one.1, h.one.2.1⟩
/-- A step more. -/
theorem UndI.go {w X w8 w9 : World} {b7 bl gd g : Nat} {pre : List (Nat × CV)} {x : Nat × CV} {sv v' : Value} {rs : List SR} {nA kA : Nat} {AA : Option Addr} (h1 : Blk X b7 55 #[sv]) (h2 : rs.length = pre.length) (h3 : rs.map SR.c = pre.map (·.2.c)) (h4 : X.ownsRow w.heap.size 57 1 sv pre.length (rs.map (SR.val false)))
    (h5 : Lives X w.heap.size false rs (rs.map fun _ => [])) (h6 : Below w.heap.size w X) (h7 : w.heap.size ≤ b7) (hbl : Blk X bl 26 #[.slice AA nA kA]) (hc : CI X w.heap.size x.2) (hok : CurOk x.2.c)
    (r1 : X.heap.size ≤ gd) (r2 : X.heap.size ≤ g) (hb8 : Below X.heap.size X w8) (hd8 : Blk w8 gd 65 #[]) (hs8 : St w8 g [] 0 (.slice x.2.Af x.2.nf x.2.kf) (.slice x.2.Ab x.2.nb x.2.kb) x.2.c.share)
    (hown : w9.ownsRow w.heap.size 57 1 v' (pre.length + 1) (rs.map (SR.val false) ++ [SR.val false (⟨gd, g, x.2.Af, x.2.Ab, x.2.nf, x.2.kf, x.2.nb, x.2.kb, x.2.c⟩ : SR)])) (hgrow : (w8.alloc (.cells #[SR.val false (⟨gd, g, x.2.Af, x.2.Ab, x.2.nf, x.2.kf, x.2.nb, x.2.kb, x.2.c⟩ : SR)] 57)).grownBy w9 sv.ownBlock) :
    (∀ Bw, KeepsFrom Bw X (w9.setCell ⟨b7, 0, none⟩ v')) ∧ Bel (fun k => w.heap.size ≤ k ∧ k ≠ bl) X (w9.setCell ⟨b7, 0, none⟩ v') ∧ Blk (w9.setCell ⟨b7, 0, none⟩ v') bl 26 #[.slice AA nA kA] ∧ UndI w b7 (pre ++ [x]) (w9.setCell ⟨b7, 0, none⟩ v') := by
  have hb9 : Below w8.heap.size w8 (w8.alloc (.cells #[SR.val false (⟨gd, g, x.2.Af, x.2.Ab, x.2.nf, x.2.kf, x.2.nb, x.2.kb, x.2.c⟩ : SR)] 57)) := (Below.refl _ _).alloc (Nat.le_refl _) _
  have hz8 := hb8.size
  have hz6 := h6.size
  have ho8 := (own_below h4 hb8).alloc (.cells #[SR.val false (⟨gd, g, x.2.Af, x.2.Ab, x.2.nf, x.2.kf, x.2.nb, x.2.kb, x.2.c⟩ : SR)] 57)
  have hrow : ∀ k, sv.ownBlock = some k → w.heap.size ≤ k := fun k hk => (h4.lt k hk).1
  have hb7' : Blk (w8.alloc (.cells #[SR.val false (⟨gd, g, x.2.Af, x.2.Ab, x.2.nf, x.2.kf, x.2.nb, x.2.kb, x.2.c⟩ : SR)] 57)) b7 55 #[sv] := (h1.below hb8 h1.lt).alloc _
  have hbl' : Blk (w8.alloc (.cells #[SR.val false (⟨gd, g, x.2.Af, x.2.Ab, x.2.nf, x.2.kf, x.2.nb, x.2.kb, x.2.c⟩ : SR)] 57)) bl 26 #[.slice AA nA kA] := (hbl.below hb8 hbl.lt).alloc _
  have key : ∀ (q : Nat) (t : TypeId) (cs : Array Value), Blk (w8.alloc (.cells #[SR.val false (⟨gd, g, x.2.Af, x.2.Ab, x.2.nf, x.2.kf, x.2.nb, x.2.kb, x.2.c⟩ : SR)] 57)) q t cs → 57 ≠ t → some q ≠ sv.ownBlock := by
    intro q t cs hq ht hv
    rcases ho8.2 with ⟨rfl, _⟩ | ⟨g', cap, cur, rfl, _, hg', _⟩
    · simp [Value.ownBlock] at hv
    · simp [Value.ownBlock] at hv
      subst hv
      exact blk_ne (cs := cur) hg' hq ht rfl
  have n7 : some b7 ≠ sv.ownBlock := key _ _ _ hb7' (by decide)
  have nl : some bl ≠ sv.ownBlock := key _ _ _ hbl' (by decide)
  have hne : b7 ≠ bl := blk_ne h1 hbl (by decide)
  have hb79 : Blk w9 b7 55 #[sv] := hb7'.grown hgrow n7
  have hv8 : Lives w8 w.heap.size false rs (rs.map fun _ => []) := h5.below hb8
  have hl8 : Live w8 w.heap.size false (⟨gd, g, x.2.Af, x.2.Ab, x.2.nf, x.2.kf, x.2.nb, x.2.kb, x.2.c⟩ : SR) [] := ⟨hs8, hd8, hc.f.below hb8 hz6, hc.b.below hb8 hz6, by show _ ≤ g; omega, by show _ ≤ gd; omega, hok, fun m hm => by cases hm⟩
  have hv9 := hv8.snoc hl8 (fun u hu e => by
    obtain ⟨i, hi, rfl⟩ := List.getElem_of_mem hu
    have h1 := (h5.at_ hi).st.lt
    have e' : rs[i].g = g := e
    omega)
  have hv10 := (hv9.below hb9).grown ho8 (Nat.le_refl _) (by decide) (by decide) hgrow
  have hbel : Below w.heap.size w w9 := ((h6.trans (hb8.mono hz6)).trans (hb9.mono (by omega))).trans (grown_below hgrow (by simp; omega) hrow)
  have hset : w9.grownBy (w9.setCell ⟨b7, 0, none⟩ v') (some b7) := grown_setS (World.grownBy.refl w9 _) 0 v'
  refine ⟨fun _ => ⟨?_, ?_⟩, ⟨?_, ?_, ?_, ?_, ?_⟩, (hbl'.grown hgrow nl).far (p := ⟨b7, 0, none⟩) (Ne.symm hne) v', v', rs ++ [(⟨gd, g, x.2.Af, x.2.Ab, x.2.nf, x.2.kf, x.2.nb, x.2.kb, x.2.c⟩ : SR)], ?_, by simp [h2], by rw [List.map_append, List.map_append, h3]; rfl, ?_, ?_, hbel.setCell (p := ⟨b7, 0, none⟩) h7 v', h7⟩
  · have h1 := hgrow.size; have h2 := hset.size; simp at h1; omega
  · intro k o _ ho hoc
    have hkx : k < X.heap.size := (Array.getElem?_eq_some_iff.1 ho).1
    have h8 : w8.heap[k]? = some o := (hb8.block k hkx).trans ho
    have h8' : (w8.alloc (.cells #[SR.val false (⟨gd, g, x.2.Af, x.2.Ab, x.2.nf, x.2.kf, x.2.nb, x.2.kb, x.2.c⟩ : SR)] 57)).heap[k]? = some o := (Below.heap_alloc _ _ _ (by omega)).trans h8
    have h9 : w9.heap[k]? = some o := (hgrow.block k (by simp; omega) (fun e => by
      rcases ho8.2 with ⟨rfl, _⟩ | ⟨g', cap, cur, rfl, _, hg', _⟩
      · simp [Value.ownBlock] at e
      · simp [Value.ownBlock] at e
        subst e
        rw [hg'] at h8'
        cases h8'; cases hoc)).trans h8'
    refine (hset.block k (by have := (Array.getElem?_eq_some_iff.1 h9).1; omega) (fun e => ?_)).trans h9
    injection e with e
    subst e
    rw [show w9.heap[k]? = _ from hb79] at h9
    cases h9; cases hoc
  · exact hset.os.trans (hgrow.os.trans hb8.os)
  · exact hset.tape.trans (hgrow.tape.trans hb8.tape)
  · exact hset.output.trans (hgrow.output.trans hb8.output)
  · have h1 := hgrow.size; have h2 := hset.size; simp at h1; omega
  · intro k o ho hoc hn
    have hkx : k < X.heap.size := (Array.getElem?_eq_some_iff.1 ho).1
    have h8 : w8.heap[k]? = some o := (hb8.block k hkx).trans ho
    have h8' : (w8.alloc (.cells #[SR.val false (⟨gd, g, x.2.Af, x.2.Ab, x.2.nf, x.2.kf, x.2.nb, x.2.kb, x.2.c⟩ : SR)] 57)).heap[k]? = some o := (Below.heap_alloc _ _ _ (by omega)).trans h8
    have h9 : w9.heap[k]? = some o := (hgrow.block k (by simp; omega) (fun e => by
      refine hn ⟨hrow k e.symm, fun e2 => ?_⟩
      subst e2
      exact nl e)).trans h8'
    refine (hset.block k (by have := (Array.getElem?_eq_some_iff.1 h9).1; omega) (fun e => ?_)).trans h9
    injection e with e
    subst e
    exact hn ⟨h7, hne⟩
  · exact hb79.set_ 0 v'
  · rw [List.length_append, List.map_append]
    have h := hown.kept hset (.inr (fun e => by
      rcases hown.2 with ⟨rfl, _⟩ | ⟨g', cap, cur, rfl, _, hg', _⟩
      · simp [Value.ownBlock] at e
      · simp [Value.ownBlock] at e
        subst e
        exact blk_ne (cs := cur) hg' hb79 (by decide) rfl))
    exact h
  · rw [List.map_append]
    have hk := hv10
    refine ⟨hk.len, hk.inj, fun i hi hh => (hk.all i hi hh).grown hset (fun e => ?_) (fun e => ?_) (fun k hk' => by injection hk' with hk'; omega)⟩
    · injection e with e; exact blk_ne (hk.all i hi hh).st hb79 (by decide) e
    · injection e with e; exact blk_ne (hk.all i hi hh).dr hb79 (by decide) e
end Go.Proofs.Ythdflofdjhjjhaa
