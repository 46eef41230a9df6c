/-
  Contracts of places, of the iterator that it returns, of fault and faultless.
-/
import Derived.Test.YtjaomjbhkgijbaaMg16
import Derived.RangeFuncNested
import Derived.RangeFuncLeaves
import Derived.RangeFuncBound
import Derived.RangeFuncCalls
import Derived.Shelf.Abstract
import Derived.Shelf.RegionOpen
import Derived.OwnWalkIn
import Derived.TacticsInMore
import Derived.LoopNIn
import Derived.LoopIn

namespace Go.Proofs.Ytjaomjbhkgijbaa
open Go.RowKit Go.Shelf
attribute [local go_sem] Oper.semAt_some

abbrev Ind (n : Nat) := { i : Nat // i < n }
abbrev encI (A : Option Addr) (n k : Nat) (x : Ind n) : Array Value := #[.agg #[.slice A n k, .int .i64 x.1]]

set_option maxHeartbeats 400000 in
theorem places_any (A : Option Addr) (n k : Nat) (w : World) :
    Calls Try.prog 192 #[.slice A n k] w fun e w' => e = .returned (.func (.func 199) #[] #[.pointer (some ⟨w.heap.size, 0, none⟩)]) ∧ w.alloc (.cells #[.slice A n k] 78) = w' := by
  go_enter Try.func192, Try.ntmps192
  go_wp2
  go_ret
  exact ⟨rfl, rfl⟩

theorem range_snoc_ (j : Nat) : List.range (j + 1) = List.range j ++ [j] := List.range_succ
theorem range_pre (j n : Nat) (h : j ≤ n) : List.range j <+: List.range n := by
  obtain ⟨d, rfl⟩ : ∃ d, n = j + d := ⟨n - j, by omega⟩
  rw [List.range_add]
  exact List.prefix_append _ _

set_option maxRecDepth 100000 in
set_option maxHeartbeats 2000000 in
theorem places1_stops (m bl n₀ : Nat) (A : Option Addr) (n k : Nat) (W0 : World) (hm : 1 ≤ m) (hb : Blk W0 bl 78 #[.slice A n k]) (hbl : bl < n₀) (hn₀ : n₀ ≤ W0.heap.size) (hl : n ≤ 9223372036854775807) :
    SeqStopsK Fence.wide m Try.prog 199 #[.pointer (some ⟨bl, 0, none⟩)] (encI A n k) (Below n₀) (fun xs => xs.map (·.1) = List.range n) (fun pre => pre.map (·.1) <+: List.range n) n W0 := fun l J Jx W hW hJ hJx hY h0 => by
  have hc := (hW.cell (p := ⟨bl, 0, none⟩) (Nat.lt_of_lt_of_le hbl hn₀)).trans hb.one.1
  refine callsIn_of_wp Try.func199 rfl trivial ?_ rfl
  simp only [Try.ntmps199, List.size_toArray, List.length_cons, List.length_nil, Nat.reduceAdd, Nat.reduceSub, Array.replicate_succ, Array.replicate_zero, List.push_toArray, List.append_toArray, List.nil_append, List.cons_append]
  gi_wp2
  gi_loopw [6] (fun z wr => ∃ (j : Nat) (pre : List (Ind n)), j ≤ n ∧ z = .int .i64 j ∧ Hid (pre.map (·.1) = List.range j) ∧ Hid (J pre wr) ∧ Below n₀ W wr) (fun z _ => n - (intOf z).toNat)
  case atStart => exact ⟨0, [], Nat.zero_le _, rfl, Lib.hid rfl, Lib.hid h0, Below.refl _ _⟩
  case round =>
    obtain ⟨j, pre, hj, rfl, HP, HJ, hnx⟩ := hrel
    by_cases hlt : j < n
    · have hlen : pre.length < n := by have := congrArg List.length HP.out; simp at this; omega
      obtain ⟨fn, tmps, assign, body, hy, hR⟩ := hY _ (⟨j, hlt⟩ : Ind n) wr HJ.out hlen
      dsimp only [encI] at hy
      have hcx := (hnx.cell (p := ⟨bl, 0, none⟩) hbl).trans hc
      clear hc
      gi_wp2
      refine hR.mono ?_
      rintro e W3 (⟨rfl, hJ3, hk3⟩ | ⟨rfl, hJx3⟩)
      · gi_wp2
        go_roundw
        case rel => exact ⟨j + 1, pre ++ [⟨j, hlt⟩], by omega, by simp, Lib.hid (by rw [List.map_append, HP.out, range_snoc_]; rfl), Lib.hid hJ3, hnx.trans hk3⟩
        case measure => simp [intOf]; omega
      · gi_wp2
        refine bodyPost_ret (results_none rfl _ _ _) rfl ?_
        exact ⟨⟨_, rfl⟩, .inr ⟨_, by rw [List.map_append, HP.out]; exact (range_snoc_ j) ▸ range_pre (j + 1) n (by omega), hJx3⟩⟩
    · obtain rfl : j = n := by omega
      gi_wp2
      go_end0
      exact ⟨⟨_, rfl⟩, .inl ⟨_, HP.out, HJ.out⟩⟩

theorem blk_keptJ {X Y : World} {g : Nat} {t : TypeId} {cs : Array Value} {row : Option Nat} (h : Blk X g t cs) (hg : X.grownBy Y row) (hr : ∀ r, row = some r → ∃ o : Obj, X.heap[r]? = some o ∧ o.isCells = false) : Blk Y g t cs := by
  refine (hg.block g h.lt (fun e => ?_)).trans h
  obtain ⟨o, ho, hc⟩ := hr g e.symm
  rw [show X.heap[g]? = _ from h] at ho
  cases ho; cases hc

theorem grown_bJ {X Y : World} (h : Below X.heap.size X Y) : X.grownBy Y none := ⟨h.os, h.tape, h.output, h.size, fun i hi _ => h.block i hi⟩
/-- The fault: its index and its rule; 0, 0 if there is none. -/
def flt (c : Ctr) (l : List Smp) (r per : Int) : Nat × Int :=
  match (List.range l.length).find? (fun i => !(brk c l r per i == 0)) with
  | some i => (i, brk c l r per i)
  | none => (0, 0)
theorem flt_none {c : Ctr} {l : List Smp} {r per : Int} (h : ∀ i, i < l.length → brk c l r per i = 0) : flt c l r per = (0, 0) := by
  unfold flt
  rw [List.find?_eq_none.2 (fun i hi => by simp [h i (List.mem_range.1 hi)])]
theorem flt_some {c : Ctr} {l : List Smp} {r per : Int} {j : Nat} (hj : j < l.length) (h : ∀ i, i < j → brk c l r per i = 0) (hb : brk c l r per j ≠ 0) : flt c l r per = (j, brk c l r per j) := by
  unfold flt
  have : (List.range l.length).find? (fun i => !(brk c l r per i == 0)) = some j := by
    rw [List.find?_range_eq_some]
    refine ⟨by simpa using hb, by simpa using hj, fun i hi => by simp [h i hi]⟩
  rw [this]

set_option maxRecDepth 100000 in
set_option maxHeartbeats 4000000 in
theorem fault_any (B : Nat) (A : Option Addr) (n k : Nat) (c : Ctr) (l : List Smp) (r per : Int) (w : World) (h0 : RS w B A n l) (hB : B ≤ w.heap.size) (hl : n ≤ 9223372036854775807) (he : ∀ p ∈ l, EdOk p) (hc : CtOk c) (hs : SpOk r per) :
    Calls Try.prog 179 #[.agg #[.int .i64 c.half, .int .i64 c.gain, .int .i64 c.thin, .int .i64 c.wide, .int .i64 c.slope, .int .i64 c.jerk, .int .i64 c.stylus, .int .i64 r, .int .i64 per], .slice A n k] w fun e w' => e = .returned (.tuple #[.int .i64 (flt c l r per).1, .int .i64 (flt c l r per).2]) ∧ Below w.heap.size w w' := by
  have HN := Lib.hid h0.1
  have H := Lib.hid (h0.more hB)
  have HE := Lib.hid he
  have HC := Lib.hid hc
  have HSP := Lib.hid hs
  clear h0 hB he hc hs
  have BK := Lib.hid (fun (x : Ind n) W (hb : Below w.heap.size w W) => broken_any w.heap.size A n k c l r per x.1 W (H.out.below hb (Nat.le_refl _)) hb.size hl (by have := HN.out; have := x.2; omega) HE.out HC.out HSP.out)
  refine (callsIn_wide (n := 12)).1 ?_
  refine callsIn_of_wp_marks Try.func179 rfl trivial ?_ rfl
  simp only [Try.ntmps179, List.size_toArray, List.length_cons, List.length_nil, Nat.reduceAdd, Nat.reduceSub, Array.replicate_succ, Array.replicate_zero, List.push_toArray, List.append_toArray, List.nil_append, List.cons_append]
  gi_wp2_with fail
  refine ⟨trivial, (callsIn_wide.2 (places_any _ _ _ _)).mono ?_⟩
  rintro e w1 ⟨rfl, hw1⟩
  obtain ⟨W1, hW1⟩ : ∃ W1, W1 = w1 := ⟨_, rfl⟩
  have HB1 : Hid (Below w.heap.size w W1) := Lib.hid (by rw [hW1, ← hw1]; exact ((((Below.refl _ _).alloc (Nat.le_refl _) _).alloc (by simp) _).alloc (by simp; omega) _).alloc (by simp; omega) _)
  have HS0 : Hid (Blk W1 w.heap.size 172 #[.int .i64 c.half, .int .i64 c.gain, .int .i64 c.thin, .int .i64 c.wide, .int .i64 c.slope, .int .i64 c.jerk, .int .i64 c.stylus, .int .i64 r, .int .i64 per]) := Lib.hid (by rw [hW1, ← hw1]; exact (((Blk.new _ _ _).alloc _).alloc _).alloc _)
  have HS1 : Hid (Blk W1 (w.heap.size + 1) 3 #[.int .i64 0]) := Lib.hid (by rw [hW1, ← hw1]; exact ((blk_al (by simp)).alloc _).alloc _)
  have HS2 : Hid (Blk W1 (w.heap.size + 1 + 1) 3 #[.int .i64 0]) := Lib.hid (by rw [hW1, ← hw1]; exact (blk_al (by simp)).alloc _)
  have hb3 : Blk W1 (w.heap.size + 1 + 1 + 1) 78 #[.slice A n k] := by rw [hW1, ← hw1]; exact blk_al (by simp)
  have hz : w.heap.size + 1 + 1 + 1 < W1.heap.size := hb3.lt
  rw [← hW1]
  clear hw1 hW1
  gi_wp2_with fail
  have hs0 := HS0.out
  have hs1 := HS1.out
  have hs2 := HS2.out
  have hbb := HB1.out
  clear HS0 HS1 HS2
  refine wpIn_rangeFunc_ownH rfl (by omega) (gf := 199) (lb := #[.pointer (some ⟨w.heap.size + 1 + 1 + 1, 0, none⟩)]) rfl trivial (enters_of Try.func199 (by kernel_rfl) rfl)
    (places1_stops (12 - 1) (w.heap.size + 1 + 1 + 1) W1.heap.size A n k W1 (by omega) hb3 hz (Nat.le_refl _) hl) belowK_t (belowK_b (Nat.le_refl _)) (Below.refl _ _) (fun _ => rfl)
    (fun pre X => Blk X w.heap.size 172 #[.int .i64 c.half, .int .i64 c.gain, .int .i64 c.thin, .int .i64 c.wide, .int .i64 c.slope, .int .i64 c.jerk, .int .i64 c.stylus, .int .i64 r, .int .i64 per] ∧ Blk X (w.heap.size + 1) 3 #[.int .i64 0] ∧ Blk X (w.heap.size + 1 + 1) 3 #[.int .i64 0] ∧ (Below w.heap.size w X ∧ W1.heap.size ≤ X.heap.size) ∧ ∀ x ∈ pre, brk c l r per x.1 = 0)
    (fun cd pre X => cd = .ret ∧ ∃ pre0 x, pre = pre0 ++ [x] ∧ (∀ y ∈ pre0, brk c l r per y.1 = 0) ∧ brk c l r per x.1 ≠ 0 ∧ Blk X (w.heap.size + 1) 3 #[.int .i64 x.1] ∧ Blk X (w.heap.size + 1 + 1) 3 #[.int .i64 (brk c l r per x.1)] ∧ Below w.heap.size w X)
    ?hI ?hIx ?h0 (fun x a' X => ∃ bp, W1.heap.size ≤ bp ∧ Blk X bp 180 #[.slice A n k, .int .i64 x.1] ∧ a' = { tmps := #[.agg #[.int .i64 c.half, .int .i64 c.gain, .int .i64 c.thin, .int .i64 c.wide, .int .i64 c.slope, .int .i64 c.jerk, .int .i64 c.stylus, .int .i64 r, .int .i64 per], .slice A n k, .pointer (some ⟨w.heap.size, 0, none⟩), undef, .pointer (some ⟨w.heap.size + 1, 0, none⟩), .pointer (some ⟨w.heap.size + 1 + 1, 0, none⟩), .pointer (some ⟨bp, 0, none⟩), undef, .slice A n k, .func (.func 199) #[] #[.pointer (some ⟨w.heap.size + 1 + 1 + 1, 0, none⟩)], .agg #[.slice A n k, .int .i64 x.1], undef, undef, undef, undef, undef, undef, undef, undef], defers := [] }) ?hAx ?assign ?body ?done ?stop
  case hI =>
    rintro s X Y row ⟨i1, i2, i3, i4, i5⟩ hgr hr
    have hk := fun r e => (hr r e).2
    exact ⟨blk_keptJ i1 hgr hk, blk_keptJ i2 hgr hk, blk_keptJ i3 hgr hk, ⟨i4.1.grown hgr i4.1.size (fun q e => by have := (hr q e).1; omega), Nat.le_trans i4.2 hgr.size⟩, i5⟩
  case hIx =>
    rintro cd s X Y row ⟨rfl, pre0, x, j1, j2, j3, i2, i3, i4⟩ hgr hr
    have hk := fun r e => (hr r e).2
    exact ⟨rfl, pre0, x, j1, j2, j3, blk_keptJ i2 hgr hk, blk_keptJ i3 hgr hk, i4.grown hgr i4.size (fun q e => by have := (hr q e).1; omega)⟩
  case h0 => exact ⟨hs0, hs1, hs2, ⟨hbb, Nat.le_refl _⟩, fun _ h => by cases h⟩
  case hAx =>
    rintro x a' s X Y row ⟨bp, h1, h2, h3⟩ hgr hr
    exact ⟨bp, h1, blk_keptJ h2 hgr (fun r e => (hr r e).2), h3⟩
  case assign =>
    rintro l' pre x X K ⟨i1, i2, i3, i4, i5⟩ hK
    gi_wp2
    have hXS : W1.heap.size ≤ X.heap.size := i4.2
    have hG := World.grownBy_alloc X (.cells #[.slice A n k, .int .i64 x.1] 180) none
    exact hK _ _ (KeepsFrom.of_grownBy hG (by simp)) ((Below.refl _ X).alloc hXS _) ⟨i1.alloc _, i2.alloc _, i3.alloc _, ⟨i4.1.alloc i4.1.size _, by simp; omega⟩, i5⟩ ⟨X.heap.size, hXS, Blk.new _ _ _, rfl⟩
  case body =>
    rintro L pre x a' X hL hrec ⟨i1, i2, i3, i4, i5⟩ ⟨bp, hbp, hBx, rfl⟩ hlen
    have I1 := Lib.hid i1
    have I2 := Lib.hid i2
    have I3 := Lib.hid i3
    have I4 := Lib.hid i4
    have I5 := Lib.hid i5
    have I6 := Lib.hid hBx
    have p0 := (i1.cell 0).trans rfl
    have p1 := (i1.cell 1).trans rfl
    have p2 := (i1.cell 2).trans rfl
    have p3 := (i1.cell 3).trans rfl
    have p4 := (i1.cell 4).trans rfl
    have p5 := (i1.cell 5).trans rfl
    have p6 := (i1.cell 6).trans rfl
    have p7 := (i1.cell 7).trans rfl
    have p8 := (i1.cell 8).trans rfl
    have q0 := (hBx.cell 0).trans rfl
    have q1 := (hBx.cell 1).trans rfl
    have f67 : Fence.wide.fn 149 := trivial
    clear i1 i2 i3 i4 i5 hBx hs0 hs1 hs2 hbb hb3
    by_cases hbr : brk c l r per x.1 = 0
    · have HBR := Lib.hid hbr
      clear hbr
      gi_wp2_with (gi_at_call 149; refine (CallsIn.inRound L (callsIn_wide.2 (BK.out x _ I4.out.1))).mono ?_; rintro e w8 ⟨rfl, hb8⟩; rw [HBR.out]; have HB8 := Lib.hid hb8; clear hb8)
      have hb8 := HB8.out
      refine ⟨KeepsFrom.of_grownBy (grown_bJ hb8) (by simp), hb8.mono I4.out.2, I1.out.below hb8 I1.out.lt, I2.out.below hb8 I2.out.lt, I3.out.below hb8 I3.out.lt, ⟨I4.out.1.trans (hb8.mono I4.out.1.size), Nat.le_trans I4.out.2 hb8.size⟩, fun y hy => ?_⟩
      rcases List.mem_append.1 hy with hy | hy
      · exact I5.out y hy
      · rw [List.mem_singleton.1 hy]; exact HBR.out
    · have hbr1 : (brk c l r per x.1 == 0) = false := by simpa using hbr
      have hbr2 : (brk c l r per x.1 != 0) = true := by simpa using hbr
      have HBR := Lib.hid hbr
      obtain ⟨q, hq⟩ : ∃ q, brk c l r per x.1 = q := ⟨_, rfl⟩
      have HQ := Lib.hid hq
      have BX := BK.out x
      rw [hq] at hbr1 hbr2 BX
      have BX := Lib.hid BX
      clear hq hbr
      gi_wp2_with (gi_at_call 149; refine (CallsIn.inRound L (callsIn_wide.2 (BX.out _ I4.out.1))).mono ?_; rintro e w8 ⟨rfl, hb8⟩; have HB8 := Lib.hid hb8; have r0 := (hb8.cell (p := ⟨bp, 0, none⟩) I6.out.lt).trans q0; have r1 := (hb8.cell (p := ⟨bp, 1, none⟩) I6.out.lt).trans q1; obtain ⟨g0, g1, g2⟩ := (I2.out.below hb8 I2.out.lt).one; obtain ⟨g3, g4, g5⟩ := (I3.out.below hb8 I3.out.lt).one; clear hb8)
      have hb8 := HB8.out
      have e2 := (I2.out.below hb8 I2.out.lt).set_ 0 (.int .i64 x.1)
      have e3 := (I3.out.below hb8 I3.out.lt).set_ 0 (.int .i64 q)
      have n1 : w.heap.size + 1 ≠ w.heap.size + 1 + 1 := by omega
      refine ⟨((KeepsFrom.of_grownBy (grown_bJ hb8) (by simp)).trans ((KeepsOthers.setCell _ _ _).from _)).trans ((KeepsOthers.setCell _ _ _).from _), rfl, pre, x, rfl, I5.out, HBR.out, ?_, ?_, ?_⟩
      · exact e2.far (p := ⟨w.heap.size + 1 + 1, 0, none⟩) n1 _
      · rw [HQ.out]; exact ((I3.out.below hb8 I3.out.lt).far (p := ⟨w.heap.size + 1, 0, none⟩) n1.symm _).set_ 0 _
      · exact ((I4.out.1.trans (hb8.mono I4.out.1.size)).setCell (p := ⟨w.heap.size + 1, 0, none⟩) (by show w.heap.size ≤ w.heap.size + 1; omega) _).setCell (p := ⟨w.heap.size + 1 + 1, 0, none⟩) (by show w.heap.size ≤ w.heap.size + 1 + 1; omega) _
  case done =>
    rintro D xs X hD hS ⟨i1, i2, i3, i4, i5⟩ hK
    have HF : Hid (flt c l r per = (0, 0)) := Lib.hid (flt_none (fun j hj => by
      have hm : j ∈ xs.map (·.1) := by rw [hS]; exact List.mem_range.2 (by have := HN.out; omega)
      obtain ⟨y, hy, rfl⟩ := List.mem_map.1 hm
      exact i5 y hy))
    have I2 := Lib.hid i2
    have I3 := Lib.hid i3
    have I4 := Lib.hid i4
    have HK := Lib.hid hK
    have HD := Lib.hid hD
    obtain ⟨g0, g1, g2⟩ := i2.one
    obtain ⟨g3, g4, g5⟩ := i3.one
    clear i1 i2 i3 i4 i5 hK hS hs0 hs1 hs2 hbb hb3 hD
    gi_wp2
    have n1 : w.heap.size + 1 ≠ w.heap.size + 1 + 1 := by omega
    have hK2 : ((X.setCell ⟨w.heap.size + 1, 0, none⟩ (.int .i64 0)).setCell ⟨w.heap.size + 1 + 1, 0, none⟩ (.int .i64 0)).heap[D]? = some (.deferred (some [])) := (KeepsOthers.setCell _ _ _).same D _ ((KeepsOthers.setCell _ _ _).same D _ HK.out rfl) rfl
    have hgp := grownBy_putObj' ((X.setCell ⟨w.heap.size + 1, 0, none⟩ (.int .i64 0)).setCell ⟨w.heap.size + 1 + 1, 0, none⟩ (.int .i64 0)) D (.deferred none)
    have hkp : ∀ r', some D = some r' → ∃ o : Obj, ((X.setCell ⟨w.heap.size + 1, 0, none⟩ (.int .i64 0)).setCell ⟨w.heap.size + 1 + 1, 0, none⟩ (.int .i64 0)).heap[r']? = some o ∧ o.isCells = false := fun r' e => by cases e; exact ⟨_, hK2, rfl⟩
    have e2 := blk_keptJ ((I2.out.set_ 0 (.int .i64 0)).far (p := ⟨w.heap.size + 1 + 1, 0, none⟩) n1 (.int .i64 0)) hgp hkp
    have e3 := blk_keptJ ((I3.out.far (p := ⟨w.heap.size + 1, 0, none⟩) n1.symm (.int .i64 0)).set_ 0 (.int .i64 0)) hgp hkp
    have hbl := ((I4.out.1.setCell (p := ⟨w.heap.size + 1, 0, none⟩) (by show w.heap.size ≤ w.heap.size + 1; omega) (.int .i64 0)).setCell (p := ⟨w.heap.size + 1 + 1, 0, none⟩) (by show w.heap.size ≤ w.heap.size + 1 + 1; omega) (.int .i64 0)).grown hgp (by have := I4.out.1.size; simp; omega) (fun q e => by cases e; have := HD.out; omega)
    have c2 := (e2.cell 0).trans rfl
    have c3 := (e3.cell 0).trans rfl
    refine ⟨by simp, .inl ⟨_, _, rfl, run_takeDeferred hK2, ?_⟩⟩
    refine ⟨.tuple #[.int .i64 0, .int .i64 0], ?_, by rw [HF.out]; rfl, hbl⟩
    simp [results, Try.results179, go_sem, c2, c3]
  case stop =>
    rintro D cd pre X hD hS ⟨rfl, pre0, x, rfl, j2, j3, j4, j5, j6⟩ hK
    have hpx : pre0.map (·.1) = List.range x.1 := by
      obtain ⟨t, ht⟩ := hS
      rw [List.map_append, List.map_singleton, List.append_assoc] at ht
      have hl1 : pre0.length = x.1 := by
        have h1 := congrArg (fun z => z[pre0.length]?) ht
        simp only [List.getElem?_append_right (show (pre0.map (·.1)).length ≤ pre0.length by simp)] at h1
        have hlt : pre0.length < n := by have := congrArg List.length ht; simp at this; omega
        rw [List.getElem?_range hlt] at h1
        simpa using h1.symm
      have h2 := congrArg (List.take pre0.length) ht
      rw [List.take_append_of_le_length (by simp), List.take_of_length_le (by simp), List.take_range] at h2
      rw [h2, hl1, Nat.min_eq_left (by have := x.2; omega)]
    have HF : Hid (flt c l r per = (x.1, brk c l r per x.1)) := Lib.hid (flt_some (by have := HN.out; have := x.2; omega) (fun j hj => by
      have hm : j ∈ pre0.map (·.1) := by rw [hpx]; exact List.mem_range.2 hj
      obtain ⟨y, hy, rfl⟩ := List.mem_map.1 hm
      exact j2 y hy) j3)
    have hgp := grownBy_putObj' X D (.deferred none)
    have hkp : ∀ r', some D = some r' → ∃ o : Obj, X.heap[r']? = some o ∧ o.isCells = false := fun r' e => by cases e; exact ⟨_, hK, rfl⟩
    have e2 := blk_keptJ j4 hgp hkp
    have e3 := blk_keptJ j5 hgp hkp
    have hbl := j6.grown hgp j6.size (fun q e => by cases e; omega)
    have C2 := Lib.hid ((e2.cell 0).trans rfl)
    have C3 := Lib.hid ((e3.cell 0).trans rfl)
    have HK := Lib.hid hK
    have HBL := Lib.hid hbl
    clear j2 j3 j4 j5 j6 hK e2 e3 hbl hpx hS hgp hkp hs0 hs1 hs2 hbb hb3
    gi_wp2
    refine ⟨by simp, .inl ⟨_, _, rfl, run_takeDeferred HK.out, ?_⟩⟩
    refine ⟨.tuple #[.int .i64 x.1, .int .i64 (brk c l r per x.1)], ?_, by rw [HF.out], HBL.out⟩
    have c2 := C2.out
    have c3 := C3.out
    simp [results, Try.results179, go_sem, c2, c3]
end Go.Proofs.Ytjaomjbhkgijbaa

