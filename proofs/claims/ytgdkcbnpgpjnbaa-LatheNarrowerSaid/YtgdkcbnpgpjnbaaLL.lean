/-
  Contract of lower: a radius is moved inwards to where an edge allows it.
-/
import Derived.Test.YtgdkcbnpgpjnbaaLK
import Derived.Test.YtgdkcbnpgpjnbaaL1
import Derived.Deep.Cut
import Derived.StillTailTactics
namespace Go.Proofs.Ytgdkcbnpgpjnbaa
open Go.RowKit

theorem smpCells_setL : ∀ (xs : List Smp) (k : Nat) (s : Smp), k < xs.length → ((smpCells xs).set (k * 2) (.int .i64 s.1)).set (k * 2 + 1) (.int .i64 s.2) = smpCells (xs.set k s)
  | [], k, s, h => by simp at h
  | x :: xs, 0, s, _ => rfl
  | x :: xs, k + 1, s, h => by
    have ih := smpCells_setL xs k s (by simpa using h)
    show (((Value.int IntKind.i64 x.1) :: (.int .i64 x.2) :: smpCells xs).set ((k + 1) * 2) _).set ((k + 1) * 2 + 1) _ = (.int .i64 x.1) :: (.int .i64 x.2) :: smpCells (xs.set k s)
    rw [show (k + 1) * 2 = k * 2 + 1 + 1 by omega, ← ih]
    rfl

/-- What a call that moves a radius leaves. -/
structure LowPost (base gr gh m kr kh : Nat) (R : List Int) (H : List Smp) (w w' : World) : Prop where
  rr : w'.ownsRow base 2 1 (.slice (some ⟨gr, 0, none⟩) m kr) m (nums R)
  hh : w'.ownsRow base 52 2 (.slice (some ⟨gh, 0, none⟩) m kh) m (smpCells H)
  below : Below base w w'
  bel : Bel (fun k => k = gr ∨ k = gh) w w'
  keeps : ∀ B, KeepsFrom B w w'

theorem own_ge {w : World} {base : Nat} {e : TypeId} {size g n c : Nat} {xs : List Value} (h : w.ownsRow base e size (.slice (some ⟨g, 0, none⟩) n c) n xs) : base ≤ g ∧ g < w.heap.size := by
  rcases h.2 with ⟨h', _⟩ | ⟨g', cap', cur, h', hb, hg, _⟩
  · simp at h'
  · simp only [Value.slice.injEq, Option.some.injEq, Addr.mk.injEq, and_true, true_and] at h'
    obtain ⟨rfl, rfl⟩ := h'
    exact ⟨hb, (Array.getElem?_eq_some_iff.1 hg).1⟩
theorem own_li {w : World} {base g n c : Nat} {l : List Int} (h : w.ownsRow base 2 1 (.slice (some ⟨g, 0, none⟩) n c) n (nums l)) : LI w w.heap.size (some ⟨g, 0, none⟩) n l := by
  obtain ⟨A, c', he, hr⟩ := own_reads h
  cases he
  exact ⟨by have := h.1; simpa using this.symm, hr⟩
theorem grown_bL {X Y : World} (h : Below X.heap.size X Y) : X.grownBy Y none := ⟨h.os, h.tape, h.output, h.size, fun i hi _ => h.block i hi⟩
theorem keepsFrom_of (B : Nat) {X Y : World} (h : Below X.heap.size X Y) : KeepsFrom B X Y := KeepsFrom.of_grownBy (grown_bL h) (by simp)

theorem lower_leaves {base gr gh m kr kh t : Nat} {R : List Int} {H : List Smp} {w W : World} {v r i : Int} (hR : W.ownsRow base 2 1 (.slice (some ⟨gr, 0, none⟩) m kr) m (nums R)) (hH : W.ownsRow base 52 2 (.slice (some ⟨gh, 0, none⟩) m kh) m (smpCells H))
    (hap : gr ≠ gh) (hb : base ≤ w.heap.size) (hw : Below w.heap.size w W) (ht : t < m) : LowPost base gr gh m kr kh (R.set t v) (H.set t (r, i)) w (((W.setCell ⟨gr, t, none⟩ (.int .i64 v)).setCell ⟨gh, t * 2, none⟩ (.int .i64 r)).setCell ⟨gh, t * 2 + 1, none⟩ (.int .i64 i)) := by
  have hlr : R.length = m := by have := hR.1; simpa using this
  have hlh : H.length = m := by have := hH.1; rw [smpCells_length] at this; omega
  have g1 := own_ge hR
  have g2 := own_ge hH
  have a1 := (hR.stored t (.int .i64 v)).1
  have a2 := ownsRow_setCell_other hH (a := ⟨gr, t, none⟩) (by simp [Value.ownBlock]; omega) (.int .i64 v)
  have b1 := (a2.stored (t * 2) (.int .i64 r)).1
  have b2 := (b1.stored (t * 2 + 1) (.int .i64 i)).1
  have c1 := ownsRow_setCell_other (ownsRow_setCell_other a1 (a := ⟨gh, t * 2, none⟩) (by simp [Value.ownBlock]; omega) (.int .i64 r)) (a := ⟨gh, t * 2 + 1, none⟩) (by simp [Value.ownBlock]; omega) (.int .i64 i)
  refine ⟨?_, ?_, ?_, ?_, fun B => ?_⟩
  · rw [show nums (R.set t v) = (nums R).set t (.int .i64 v) from List.map_set]
    exact c1
  · rw [← smpCells_setL H t (r, i) (by omega)]
    exact b2
  · have hwb : Below base w W := hw.mono hb
    exact ((hwb.setCell (p := ⟨gr, t, none⟩) g1.1 _).setCell (p := ⟨gh, t * 2, none⟩) g2.1 _).setCell (p := ⟨gh, t * 2 + 1, none⟩) g2.1 _
  · exact (((Bel.of_below hw).setCell (p := ⟨gr, t, none⟩) (.inr (.inl rfl)) _).setCell (p := ⟨gh, t * 2, none⟩) (.inr (.inr rfl)) _).setCell (p := ⟨gh, t * 2 + 1, none⟩) (.inr (.inr rfl)) _
  · exact (((keepsFrom_of B hw).trans ((KeepsOthers.setCell _ _ _).from _)).trans ((KeepsOthers.setCell _ _ _).from _)).trans ((KeepsOthers.setCell _ _ _).from _)
theorem LowPost.drew {base gr gh m kr kh : Nat} {R : List Int} {H : List Smp} {w w' : World} (h : LowPost base gr gh m kr kh R H w w') : LowPost base gr gh m kr kh R H w w'.drew :=
  ⟨h.rr, h.hh, h.below.drew, h.bel.drew, fun B => ⟨(h.keeps B).size, (h.keeps B).same⟩⟩

theorem Blk.eleven {w : World} {g : Nat} {t : TypeId} {a b c d e f h i j k l : Value} (hB : Blk w g t #[a, b, c, d, e, f, h, i, j, k, l]) : w.cell? ⟨g, 0, none⟩ = some a ∧ w.cell? ⟨g, 1, none⟩ = some b ∧ w.cell? ⟨g, 2, none⟩ = some c ∧ w.cell? ⟨g, 3, none⟩ = some d ∧ w.cell? ⟨g, 4, none⟩ = some e ∧ w.cell? ⟨g, 5, none⟩ = some f ∧ w.cell? ⟨g, 6, none⟩ = some h ∧ w.cell? ⟨g, 7, none⟩ = some i ∧ w.cell? ⟨g, 8, none⟩ = some j ∧ w.cell? ⟨g, 9, none⟩ = some k ∧ w.cell? ⟨g, 10, none⟩ = some l :=
  ⟨(hB.cell 0).trans rfl, (hB.cell 1).trans rfl, (hB.cell 2).trans rfl, (hB.cell 3).trans rfl, (hB.cell 4).trans rfl, (hB.cell 5).trans rfl, (hB.cell 6).trans rfl, (hB.cell 7).trans rfl, (hB.cell 8).trans rfl, (hB.cell 9).trans rfl, (hB.cell 10).trans rfl⟩

set_option maxRecDepth 100000 in
set_option maxHeartbeats 8000000 in
theorem lower_any (base g gr gh m kr kh n c t : Nat) (A : Option Addr) (b : Bk) (ft : Int) (vp : Value) (R : List Int) (H : List Smp) (r i f k : Int) (w : World)
    (hC : Blk w g 71 #[.int .i64 b.per, .int .i64 b.rim, .int .i64 b.core, .int .i64 b.land, .int .i64 b.slow, .int .i64 b.fast, .slice A n c, .slice (some ⟨gr, 0, none⟩) m kr, .slice (some ⟨gh, 0, none⟩) m kh, .int .i64 ft, vp])
    (hR : w.ownsRow base 2 1 (.slice (some ⟨gr, 0, none⟩) m kr) m (nums R)) (hH : w.ownsRow base 52 2 (.slice (some ⟨gh, 0, none⟩) m kh) m (smpCells H)) (hap : gr ≠ gh) (hgr : g ≠ gr) (hbs : base ≤ w.heap.size)
    (hf : f = -1 ∨ (0 ≤ f ∧ f < m)) (ht : t < m) (hk : -1073741824 ≤ k ∧ k ≤ 1073741824) (hr : -1152921504606846976 ≤ rad R f ∧ rad R f ≤ 1152921504606846976) :
    Calls Try.prog 64 #[.pointer (some ⟨g, 0, none⟩), .agg #[.int .i64 r, .int .i64 i, .int .i64 f, .int .i64 t, .int .i64 k]] w fun e w' => e = .returned (.bool (!kpt R f t k)) ∧ (kpt R f t k = true → Below w.heap.size w w') ∧ (kpt R f t k = false → LowPost base gr gh m kr kh (R.set t (rad R f + k)) (H.set t (r, i)) w w') := by
  have HC := Lib.hid hC
  have hgw := (own_ge hR).2
  have HR := Lib.hid hR
  have HH := Lib.hid hH
  have HBS := Lib.hid hbs
  have HT : (t : Int) = -1 ∨ (0 ≤ (t : Int) ∧ (t : Int) < m) := .inr ⟨by omega, by omega⟩
  have KB := Lib.hid (fun (W : World) (h : Below w.heap.size w W) => keptBy_any w.heap.size (some ⟨gr, 0, none⟩) m kr R r i f t k W ((own_li hR).below h (Nat.le_refl _)) h.size hf HT hk hr)
  have RF := Lib.hid (fun (W : World) (h : LI W W.heap.size (some ⟨gr, 0, none⟩) m R) => radius_any W.heap.size (some ⟨gr, 0, none⟩) m kr R f W h hf)
  obtain ⟨x, hx⟩ : ∃ x, rad R f = x := ⟨_, rfl⟩
  rw [hx] at RF hr
  rw [hx]
  have e1 : IntKind.i64.wrap (x + k) = x + k := IntWalk.i64_in _ (by omega)
  obtain ⟨q, hq⟩ : ∃ q, kpt R f t k = q := ⟨_, rfl⟩
  rw [hq] at KB
  rw [hq]
  clear hC hR hH hbs hf HT hx hq
  go_enter Try.func64, Try.ntmps64
  go_upto_region 1 with fail
  obtain ⟨W, hW⟩ : ∃ W, w.alloc (.cells #[.int .i64 r, .int .i64 i, .int .i64 f, .int .i64 t, .int .i64 k] 78) = W := ⟨_, rfl⟩
  have hb0 : Below w.heap.size w W := by rw [← hW]; exact (Below.refl _ _).alloc (Nat.le_refl _) _
  have k0 : Blk W w.heap.size 78 #[.int .i64 r, .int .i64 i, .int .i64 f, .int .i64 t, .int .i64 k] := by rw [← hW]; exact Blk.new _ _ _
  rw [hW]
  clear hW
  replace HC := Lib.hid (HC.out.below hb0 HC.out.lt)
  replace HR := Lib.hid (own_below HR.out hb0)
  replace HH := Lib.hid (own_below HH.out hb0)
  have HBW := Lib.hid hb0
  have HK := Lib.hid k0
  have CK : Hid (∀ z : Lat W, Calls Try.prog 47 #[.agg #[.int .i64 r, .int .i64 i, .int .i64 f, .int .i64 t, .int .i64 k], .slice (some ⟨gr, 0, none⟩) m kr] z.w (fun e w'' => e = .returned (.bool q) ∧ ∃ y : Lat W, w'' = y.w)) := Lib.hid (fun z => Calls.lat (KB.out _ (HBW.out.trans (z.below.mono HBW.out.size))))
  have l0 := Lat.cell (k0.five.1)
  have l1 := Lat.cell (k0.five.2.1)
  have l2 := Lat.cell (k0.five.2.2.1)
  have l3 := Lat.cell (k0.five.2.2.2.1)
  have l4 := Lat.cell (k0.five.2.2.2.2.1)
  have l7 := Lat.cell (HC.out.eleven.2.2.2.2.2.2.2.1)
  clear k0 hb0 KB
  refine wp_region_lat (by kernel_rfl) (by kernel_rfl) ?_
  repeat (go_big_quiet_step ((first | (with_reducible exact CK.out _))))
  refine wpQuiet_nil ?_
  intro w2 hw'
  have hb2 := lat_out hw'
  replace HC := Lib.hid (HC.out.below hb2 HC.out.lt)
  replace HR := Lib.hid (own_below HR.out hb2)
  replace HH := Lib.hid (own_below HH.out hb2)
  replace HBW := Lib.hid (HBW.out.trans (hb2.mono HBW.out.size))
  replace HK := Lib.hid (HK.out.below hb2 HK.out.lt)
  clear hb2 hw' l0 l1 l2 l3 l4 l7 CK
  cases q
  · obtain ⟨c0, c1, c2, c3, c4, -⟩ := HK.out.five
    obtain ⟨-, -, -, -, -, -, -, d7, d8, -, -⟩ := HC.out.eleven
    have hlr : (nums R).length = m := by have := HR.out.1; simpa using this
    have hlh := HH.out.1
    have hlr2 : R.length = m := by simpa using hlr
    have hlh2 : H.length = m := by rw [smpCells_length] at hlh; omega
    have p0 : w2.cell? ⟨gr, t, none⟩ = some (.int .i64 (fx R t)) := (HR.out.cellAt t (by omega)).trans (by rw [fx_eq (by omega : t < R.length)]; simp [List.getElem?_eq_getElem (show t < R.length by omega)])
    have p1 := HR.out.frozenAt t
    have hcs := smpCells_at H t (by omega)
    obtain ⟨u0, z0⟩ : ∃ u, w2.cell? ⟨gh, t * 2, none⟩ = some (.int .i64 u) := ⟨_, (HH.out.cellAt (t * 2) (by omega)).trans hcs.1⟩
    obtain ⟨u1, z1⟩ : ∃ u, w2.cell? ⟨gh, t * 2 + 1, none⟩ = some (.int .i64 u) := ⟨_, (HH.out.cellAt (t * 2 + 1) (by omega)).trans hcs.2⟩
    have z2 := HH.out.frozenAt (t * 2)
    have z3 := HH.out.frozenAt (t * 2 + 1)
    have y0 : (0 : Int) ≤ (t : Int) := by omega
    have y1 : (t : Int) < (m : Int) := by omega
    have CF := Lib.hid (RF.out w2.drew (own_li (w := w2.drew) HR.out))
    have HAP : gh ≠ gr := fun e => hap e.symm
    clear hlr hlh hcs hlr2 hlh2 RF
    go_wp2_with fail
    go_still_tail 16, (by kernel_rfl)
    still_call (CF.out.mono fun e w' ⟨he, hw⟩ => ⟨he, hw.symm⟩)
    repeat still_step
    try refine wpStill_nil ?_
    change wpList _ _ _ _ _ w2.drew
    go_upto_region 4 with fail
    obtain ⟨W3, hW3⟩ : ∃ W3, (w2.setCell ⟨gr, t, none⟩ (.int .i64 (x + k))).drew = W3 := ⟨_, rfl⟩
    have hg3 : w2.grownBy W3 (some gr) := by rw [← hW3]; have h := (HR.out.stored t (.int .i64 (x + k))).2; exact ⟨h.os, h.tape, h.output, h.size, h.block⟩
    replace c0 := hg3.cell c0 (fun e => by have h := Option.some.inj e; have h : w.heap.size = gr := h; omega)
    replace c1 := hg3.cell c1 (fun e => by have h := Option.some.inj e; have h : w.heap.size = gr := h; omega)
    replace c3 := hg3.cell c3 (fun e => by have h := Option.some.inj e; have h : w.heap.size = gr := h; omega)
    replace d8 := hg3.cell d8 (fun e => by have h := Option.some.inj e; exact hgr h)
    replace z0 := hg3.cell z0 (fun e => by have h := Option.some.inj e; exact HAP h)
    replace z1 := hg3.cell z1 (fun e => by have h := Option.some.inj e; exact HAP h)
    replace z2 := (show W3.frozen? ⟨gh, t * 2, none⟩ = false from by rw [← hW3]; exact (World.frozen?_setCell _ _ _ _).trans z2)
    replace z3 := (show W3.frozen? ⟨gh, t * 2 + 1, none⟩ = false from by rw [← hW3]; exact (World.frozen?_setCell _ _ _ _).trans z3)
    rw [hW3]
    have HW3 := Lib.hid hW3
    clear hW3 hg3 c2 c4 d7 p0 p1
    go_wp2_with fail
    go_still_tail 9, (by kernel_rfl)
    repeat still_step
    try refine wpStill_nil ?_
    change wpList _ _ _ _ _ W3.drew
    go_wp2
    go_ret
    refine ⟨rfl, ?_⟩
    rw [← HW3.out]
    exact (lower_leaves (v := x + k) (r := r) (i := i) HR.out HH.out hap HBS.out HBW.out ht).drew.drew
  · go_wp2
    go_ret
    exact ⟨rfl, HBW.out⟩
end Go.Proofs.Ytgdkcbnpgpjnbaa
