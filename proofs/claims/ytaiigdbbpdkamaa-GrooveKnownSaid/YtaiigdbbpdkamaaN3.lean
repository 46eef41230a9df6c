/-
  The mathematics and the walk of GrooveTurned.
-/
import Derived.Test.YtaiigdbbpdkamaaK8
import Derived.Test.YtaiigdbbpdkamaaK9
namespace Go.Proofs.Ytaiigdbbpdkamaa
open Go.RowKit

theorem am_neg (x : Int) : am (-x) = am x := by unfold am; omega
theorem amL_two (x y : Int) : amL [x, y] = max (am x) (am y) := by unfold amL; simp; have := am_nn x; have := am_nn y; omega
theorem chg_comm (p q : Smp) : chg p q = chg q p := by
  unfold chg; rw [amL_two, amL_two, ← am_neg (p.1 - q.1), ← am_neg (p.2 - q.2), Int.neg_sub, Int.neg_sub]
theorem bnd_comm (p q s : Smp) : bnd p q s = bnd s q p := by
  unfold bnd; rw [Int.add_comm p.1, Int.add_comm p.2]
def mir (p : Smp) : Smp := (-p.2, -p.1)
def mov (d : Int) (p : Smp) : Smp := (p.1 + d, p.2 + d)
theorem wid_mir (p : Smp) : wid (mir p) = wid p := by unfold wid mir; dsimp only; omega
theorem chg_mir (p q : Smp) : chg (mir p) (mir q) = chg p q := by
  unfold chg mir; rw [amL_two, amL_two]; dsimp only
  rw [show -q.2 - -p.2 = -(q.2 - p.2) by omega, show -q.1 - -p.1 = -(q.1 - p.1) by omega, am_neg, am_neg, Int.max_comm]
theorem bnd_mir (p q s : Smp) : bnd (mir p) (mir q) (mir s) = bnd p q s := by
  unfold bnd mir; rw [amL_two, amL_two]; dsimp only
  rw [show -p.2 + -s.2 - 2 * -q.2 = -(p.2 + s.2 - 2 * q.2) by omega, show -p.1 + -s.1 - 2 * -q.1 = -(p.1 + s.1 - 2 * q.1) by omega, am_neg, am_neg, Int.max_comm]
theorem wid_mov (d : Int) (p : Smp) : wid (mov d p) = wid p := by unfold wid mov; dsimp only; omega
theorem chg_mov (d : Int) (p q : Smp) : chg (mov d p) (mov d q) = chg p q := by
  unfold chg mov; dsimp only
  rw [show q.1 + d - (p.1 + d) = q.1 - p.1 by omega, show q.2 + d - (p.2 + d) = q.2 - p.2 by omega]
theorem bnd_mov (d : Int) (p q s : Smp) : bnd (mov d p) (mov d q) (mov d s) = bnd p q s := by
  unfold bnd mov; dsimp only
  rw [show p.1 + d + (s.1 + d) - 2 * (q.1 + d) = p.1 + s.1 - 2 * q.1 by omega, show p.2 + d + (s.2 + d) - 2 * (q.2 + d) = p.2 + s.2 - 2 * q.2 by omega]
theorem gAt_map (f : Smp → Smp) (l : List Smp) (i : Nat) (h : i < l.length) : gAt (l.map f) i = f (gAt l i) := by simp [gAt, h]
theorem gAt_rev (l : List Smp) (i : Nat) (h : i < l.length) : gAt l.reverse i = gAt l (l.length - 1 - i) := by
  unfold gAt; rw [List.getElem?_reverse h]
theorem okG_map {f : Smp → Smp} (h1 : ∀ p, wid (f p) = wid p) (h2 : ∀ p q, chg (f p) (f q) = chg p q) (h3 : ∀ p q s, bnd (f p) (f q) (f s) = bnd p q s) (c : Ctr) (l : List Smp) (r per : Int) : okG c (l.map f) r per ↔ okG c l r per := by
  unfold okG okP okS okB
  rw [List.length_map]
  constructor
  · rintro ⟨a, b, d⟩
    refine ⟨fun i hi => ?_, fun i hi => ?_, fun i hi => ?_⟩
    · have := a i hi; rwa [gAt_map f l i hi, h1] at this
    · have := b i hi; rwa [gAt_map f l i (by omega), gAt_map f l (i + 1) hi, h2] at this
    · have := d i hi; rwa [gAt_map f l i (by omega), gAt_map f l (i + 1) (by omega), gAt_map f l (i + 2) hi, h3] at this
  · rintro ⟨a, b, d⟩
    refine ⟨fun i hi => ?_, fun i hi => ?_, fun i hi => ?_⟩
    · rw [gAt_map f l i hi, h1]; exact a i hi
    · rw [gAt_map f l i (by omega), gAt_map f l (i + 1) hi, h2]; exact b i hi
    · rw [gAt_map f l i (by omega), gAt_map f l (i + 1) (by omega), gAt_map f l (i + 2) hi, h3]; exact d i hi
theorem okG_rev1 {c : Ctr} {l : List Smp} {r per : Int} (h : okG c l r per) : okG c l.reverse r per := by
  obtain ⟨a, b, d⟩ := h
  refine ⟨fun i hi => ?_, fun i hi => ?_, fun i hi => ?_⟩ <;> rw [List.length_reverse] at hi
  · rw [gAt_rev l i hi]; exact a _ (by omega)
  · rw [gAt_rev l i (by omega), gAt_rev l (i + 1) hi]
    unfold okS at b ⊢
    rw [chg_comm]
    have := b (l.length - 1 - (i + 1)) (by omega)
    rwa [show l.length - 1 - (i + 1) + 1 = l.length - 1 - i by omega] at this
  · rw [gAt_rev l i (by omega), gAt_rev l (i + 1) (by omega), gAt_rev l (i + 2) hi]
    unfold okB at d ⊢
    rw [bnd_comm]
    have := d (l.length - 1 - (i + 2)) (by omega)
    rwa [show l.length - 1 - (i + 2) + 1 = l.length - 1 - (i + 1) by omega, show l.length - 1 - (i + 2) + 2 = l.length - 1 - i by omega] at this
theorem okG_rev (c : Ctr) (l : List Smp) (r per : Int) : okG c l.reverse r per ↔ okG c l r per :=
  ⟨fun h => by have := okG_rev1 h; rwa [List.reverse_reverse] at this, okG_rev1⟩
theorem ckG_rev {l : List Smp} (h : ckG l = 0) : ckG l.reverse = 0 := by
  unfold ckG vPs at h ⊢
  rw [List.length_reverse, List.all_reverse]; exact h
theorem vE_mir (p : Smp) : vE (mir p) = vE p := by
  rw [Bool.eq_iff_iff]; unfold vE win mir
  simp only [Bool.and_eq_true, decide_eq_true_eq]; omega
theorem ckG_mir {l : List Smp} (h : ckG l = 0) : ckG (l.map mir) = 0 := by
  unfold ckG vPs at h ⊢
  rw [List.length_map, List.all_map, show (vE ∘ mir) = vE from funext vE_mir]; exact h
/-- Two grooves of which the same is asked have the same least radius. -/
theorem ls_same {c : Ctr} {l l' : List Smp} {per a ea x ex : Int} (h1 : ckG l = 0) (h2 : ckG l' = 0) (hok : ∀ r, okG c l' r per ↔ okG c l r per) (ha : lsQ c l per a ea) (hx : lsQ c l' per x ex) : a = x ∧ ea = ex := by
  have he : lsEr c l' per = lsEr c l per := by unfold lsEr; rw [h1, h2]
  unfold lsQ at ha hx
  rw [he] at hx
  by_cases h0 : lsEr c l per = 0
  · rw [if_pos h0] at ha hx
    obtain ⟨hc, -, p1, p2⟩ := ls_ok h0
    refine ha.uniq ?_
    have heq : ∀ r, 0 ≤ r → r ≤ 4194304 → fls c l' r per = fls c l r per := fun r r1 r2 => by
      rw [Bool.eq_iff_iff, fls_ok hc ⟨r1, r2, p1, p2⟩, fls_ok hc ⟨r1, r2, p1, p2⟩]; exact hok r
    rcases hx with ⟨b1, b2, b3, b4, b5⟩ | ⟨b1, b2, b3⟩
    · exact .inl ⟨b1, b2, b3, (heq x b2 b3).symm.trans b4, fun q q1 q2 => (heq q q1 (by omega)).symm.trans (b5 q q1 q2)⟩
    · exact .inr ⟨b1, b2, fun q q1 q2 => (heq q q1 q2).symm.trans (b3 q q1 q2)⟩
  · rw [if_neg h0] at ha hx
    exact ⟨by omega, by omega⟩

/-- Two rows that lie apart. -/
def Apart (a b : Value) : Prop := ∀ g, a.ownBlock = some g → b.ownBlock ≠ some g
theorem Apart.symm {a b : Value} (h : Apart a b) : Apart b a := fun g hb ha => h g ha hb
theorem Apart.ne {a b : Value} (h : Apart a b) : a.ownBlock = none ∨ a.ownBlock ≠ b.ownBlock := by
  cases ha : a.ownBlock with
  | none => exact .inl rfl
  | some g => exact .inr (fun e => h g ha e.symm)
theorem Apart.new {a b b' : Value} {H : Nat} (h : Apart a b) (hl : ∀ g, a.ownBlock = some g → g < H) (hb : b'.ownBlock = b.ownBlock ∨ b'.ownBlock = some H) : Apart a b' := fun g ha e => by
  rcases hb with hb | hb
  · exact h g ha (hb ▸ e)
  · rw [hb] at e; cases e; exact absurd (hl _ ha) (by omega)
theorem own_lit (w : World) (t : TypeId) (base n size : Nat) (cs : Array Value) (hb : base ≤ w.heap.size) (hs : cs.size = n * size) (hn : n ≤ maxLen) : (w.alloc (.cells cs t)).ownsRow base t size (.slice (some ⟨w.heap.size, 0, none⟩) n n) n cs.toList :=
  ⟨by simpa using hs, .inr ⟨w.heap.size, n, cs, rfl, hb, heap_alloc_new w _, Nat.le_refl _, hn, hs, by rw [List.take_of_length_le (by simp [hs])]⟩⟩
theorem smp_one (xs : List Smp) : ∀ u ∈ smpCells xs, u.oneCell' = true := by
  intro u hu
  unfold smpCells at hu
  rw [List.mem_flatMap] at hu
  obtain ⟨s, -, hs⟩ := hu
  simp only [List.mem_cons, List.not_mem_nil, or_false] at hs
  rcases hs with rfl | rfl <;> rfl
/-- Three rows of points of the call's own, apart from each other, beside the cutter's box. -/
structure TS (w W : World) (c : Ctr) (nb nm nv : Nat) (sb sm sv : Value) (xb xm xv : List Value) : Prop where
  ob : W.ownsRow (w.heap.size + 1) 27 2 sb nb xb
  om : W.ownsRow (w.heap.size + 1) 27 2 sm nm xm
  ov : W.ownsRow (w.heap.size + 1) 27 2 sv nv xv
  bm : Apart sb sm
  bv : Apart sb sv
  mv : Apart sm sv
  k : Blk W w.heap.size 23 #[.int .i64 c.half, .int .i64 c.gain, .int .i64 c.thin, .int .i64 c.wide, .int .i64 c.slope, .int .i64 c.jerk, .int .i64 c.stylus]
  b : Below w.heap.size w W
section
variable {w W W1 W' : World} {c : Ctr} {nb nm nv : Nat} {sb sm sv : Value} {xb xm xv : List Value}
theorem TS.below (h : TS w W c nb nm nv sb sm sv xb xm xv) (hb : Below W.heap.size W W1) : TS w W1 c nb nm nv sb sm sv xb xm xv :=
  ⟨own_below h.ob hb, own_below h.om hb, own_below h.ov hb, h.bm, h.bv, h.mv, h.k.below hb h.k.lt, h.b.trans (hb.mono h.b.size)⟩
theorem TS.setb {n : Nat} {x : List Value} (h : TS w W c nb nm nv sb sm sv xb xm xv) (hW : ∃ o, W1 = W.alloc o) {sb' : Value} (hg : W1.grownBy W' (some W.heap.size)) (ho : W'.ownsRow (w.heap.size + 1) 27 2 sb' n x)
    (hb : sb'.ownBlock = some W.heap.size ∨ sb'.ownBlock = some W1.heap.size) : TS w W' c n nm nv sb' sm sv x xm xv := by
  obtain ⟨o, rfl⟩ := hW
  have hlm := fun g e => (h.om.lt g e).2
  have hlv := fun g e => (h.ov.lt g e).2
  have far : ∀ q, sb'.ownBlock = some q → W.heap.size ≤ q := fun q e => by
    rcases hb with hb | hb <;> rw [hb] at e <;> cases e <;> simp
  refine ⟨ho, (h.om.alloc _).kept hg ?_, (h.ov.alloc _).kept hg ?_, fun q e1 e2 => ?_, fun q e1 e2 => ?_, h.mv, (h.k.alloc _).grown hg ?_, (h.b.alloc h.b.size _).grown hg (by have := h.b.size; simp; omega) (fun q e => by cases e; exact h.b.size)⟩
  · cases hm : sm.ownBlock with
    | none => exact .inl rfl
    | some q => exact .inr (fun e => by cases e; have := hlm _ hm; omega)
  · cases hm : sv.ownBlock with
    | none => exact .inl rfl
    | some q => exact .inr (fun e => by cases e; have := hlv _ hm; omega)
  · have := far q e1; have := hlm q e2; omega
  · have := far q e1; have := hlv q e2; omega
  · intro e; have := Option.some.inj e; have := h.k.lt; omega
theorem TS.setm {n : Nat} {x : List Value} (h : TS w W1 c nb nm nv sb sm sv xb xm xv) {sm' : Value} (hg : W1.grownBy W' sm.ownBlock) (ho : W'.ownsRow (w.heap.size + 1) 27 2 sm' n x) (hb : sm'.ownBlock = sm.ownBlock ∨ sm'.ownBlock = some W1.heap.size) :
    TS w W' c nb n nv sb sm' sv xb x xv := by
  refine ⟨h.ob.kept hg h.bm.ne, ho, h.ov.kept hg h.mv.symm.ne, h.bm.new (fun g e => (h.ob.lt g e).2) hb, h.bv, (h.mv.symm.new (fun g e => (h.ov.lt g e).2) hb).symm, h.k.grown hg (fun e => ?_), h.b.grown hg h.b.size (fun q e => by have := (h.om.lt q e).1; omega)⟩
  have := (h.om.lt _ e.symm).1; omega
theorem TS.setv {n : Nat} {x : List Value} (h : TS w W1 c nb nm nv sb sm sv xb xm xv) {sv' : Value} (hg : W1.grownBy W' sv.ownBlock) (ho : W'.ownsRow (w.heap.size + 1) 27 2 sv' n x) (hb : sv'.ownBlock = sv.ownBlock ∨ sv'.ownBlock = some W1.heap.size) :
    TS w W' c nb nm n sb sm sv' xb xm x := by
  refine ⟨h.ob.kept hg h.bv.ne, h.om.kept hg h.mv.ne, ho, h.bm, h.bv.new (fun g e => (h.ob.lt g e).2) hb, h.mv.new (fun g e => (h.om.lt g e).2) hb, h.k.grown hg (fun e => ?_), h.b.grown hg h.b.size (fun q e => by have := (h.ov.lt q e).1; omega)⟩
  have := (h.ov.lt _ e.symm).1; omega
theorem below_ad (W : World) (o : Obj) : Below W.heap.size W (W.alloc o).drew := ((Below.refl _ _).alloc (Nat.le_refl _) o).drew
theorem below_a (W : World) (o : Obj) : Below W.heap.size W (W.alloc o) := (Below.refl _ _).alloc (Nat.le_refl _) o
theorem below_da (W : World) (o : Obj) : Below W.heap.size W (W.drew.alloc o) := ((Below.refl _ _).drew).alloc (Nat.le_refl _) o
end

theorem rev_snoc (xs : List Smp) (j : Nat) (h : j < xs.length) : smpCells ((xs.take (j + 1)).reverse) = [.int .i64 (gAt xs j).1, .int .i64 (gAt xs j).2] ++ smpCells (xs.take j).reverse := by
  rw [List.take_succ_eq_append_getElem h, List.reverse_append, gAt_eq h]; rfl
theorem map_snoc_ (f : Smp → Smp) (xs : List Smp) (j : Nat) (h : j < xs.length) : smpCells ((xs.take (j + 1)).map f) = smpCells ((xs.take j).map f) ++ [.int .i64 (f (gAt xs j)).1, .int .i64 (f (gAt xs j)).2] := by
  rw [List.take_succ_eq_append_getElem h, List.map_append, gAt_eq h]
  exact smpCells_snoc _ _

set_option maxRecDepth 100000 in
set_option maxHeartbeats 8000000 in
theorem turned_walk (B : Nat) (A : Option Addr) (n k : Nat) (c : Ctr) (l : List Smp) (per d : Int) (w : World) (h0 : RS w B A n l) (hB : B ≤ w.heap.size) (hl : n ≤ 9223372036854775807) (hd1 : -32768 ≤ d) (hd2 : d ≤ 32767) :
    Calls Try.prog 10 #[.agg #[.int .i64 c.half, .int .i64 c.gain, .int .i64 c.thin, .int .i64 c.wide, .int .i64 c.slope, .int .i64 c.jerk, .int .i64 c.stylus], .slice A n k, .int .i64 per, .int .i16 d] w fun e w' => e = .returned (.bool true) ∧ Below w.heap.size w w' := by
  have HN := Lib.hid h0.1
  have H := Lib.hid (h0.more hB)
  clear h0 hB
  have CP := Lib.hid (fun W (hb : Below w.heap.size w W) => refCheckPoints_any w.heap.size A n k l W (H.out.below hb (Nat.le_refl _)) hb.size hl)
  have WK := Lib.hid (fun W => Works_any W)
  by_cases c1 : 60 < n
  · go_enter Try.func10, Try.ntmps10
    go_wp2_with fail
    refine (WK.out _).mono ?_
    rintro e w1 ⟨rfl, hb1⟩
    go_wp2
    go_ret
    exact ⟨rfl, ((Below.refl _ w).alloc (Nat.le_refl _) _).trans (hb1.mono (by simp))⟩
  have d1 : decide ((60 : Int) < (n : Int)) = false := decide_eq_false (by omega)
  by_cases c7 : ckG l = 0
  rotate_left
  · have hne : (ckG l == 0) = false := by simpa using c7
    have hne' : (ckG l != 0) = true := by simpa using c7
    obtain ⟨q, hq⟩ : ∃ q, ckG l = q := ⟨_, rfl⟩
    rw [hq] at CP hne hne'
    clear hq c7
    go_enter Try.func10, Try.ntmps10
    go_wp2_with fail
    refine (CP.out _ ((Below.refl _ w).alloc (Nat.le_refl _) _)).mono ?_
    rintro e w2 ⟨rfl, hb2⟩
    have HB := Lib.hid (((Below.refl _ w).alloc (Nat.le_refl _) (.cells #[.int .i64 c.half, .int .i64 c.gain, .int .i64 c.thin, .int .i64 c.wide, .int .i64 c.slope, .int .i64 c.jerk, .int .i64 c.stylus] 23)).trans (hb2.mono (by simp)))
    clear hb2
    go_wp2_with fail
    refine (WK.out _).mono ?_
    rintro e w3 ⟨rfl, hb3⟩
    go_wp2
    go_ret
    exact ⟨rfl, HB.out.trans (hb3.mono HB.out.size)⟩
  have C7 := Lib.hid c7
  have HE := Lib.hid (ckG_ok c7)
  rw [c7] at CP
  clear c7
  obtain ⟨i0, hi0, hz0, hz1, hz2⟩ := info_parts info_pt
  have HI0 := Lib.hid hi0
  have HZ0 := Lib.hid hz0
  have HZ1 := Lib.hid hz1
  have HZ2 := Lib.hid hz2
  clear hi0 hz0 hz1 hz2
  go_enter Try.func10, Try.ntmps10
  go_wp2_with fail
  refine (CP.out _ ((Below.refl _ w).alloc (Nat.le_refl _) _)).mono ?_
  rintro e w2 ⟨rfl, hb2⟩
  have HK := Lib.hid (show Blk w2 w.heap.size 23 #[.int .i64 c.half, .int .i64 c.gain, .int .i64 c.thin, .int .i64 c.wide, .int .i64 c.slope, .int .i64 c.jerk, .int .i64 c.stylus] from (Blk.new _ _ _).below hb2 (by simp))
  have HB := Lib.hid (((Below.refl _ w).alloc (Nat.le_refl _) (.cells #[.int .i64 c.half, .int .i64 c.gain, .int .i64 c.thin, .int .i64 c.wide, .int .i64 c.slope, .int .i64 c.jerk, .int .i64 c.stylus] 23)).trans (hb2.mono (by simp)))
  clear hb2
  go_wp2_with fail
  go_loopw [9, 10, 11, 12] (fun a b f z wr => ∃ (j : Nat) (sb sm sv : Value), j ≤ n ∧ z = .int .i64 j ∧ sb = a ∧ sm = b ∧ sv = f ∧ Hid (TS w wr c j j j sb sm sv (smpCells (l.take j).reverse) (smpCells ((l.take j).map mir)) (smpCells ((l.take j).map (mov d))))) (fun a b f z wr => n - (intOf z).toNat)
  case atStart => exact ⟨0, _, _, _, Nat.zero_le _, rfl, rfl, rfl, rfl, Lib.hid ⟨World.ownsRow_nil _ _ _ _, World.ownsRow_nil _ _ _ _, World.ownsRow_nil _ _ _ _, fun g h => by simp [Value.ownBlock] at h, fun g h => by simp [Value.ownBlock] at h, fun g h => by simp [Value.ownBlock] at h, HK.out, HB.out⟩⟩
  case round =>
    clear HK HB
    obtain ⟨j, sb, sm, sv, hj, rfl, rfl, rfl, rfl, HT⟩ := hrel
    by_cases hlt : j < n
    · have hjl : j < l.length := by have := HN.out; omega
      have R1 := Lib.hid (rev_snoc l j hjl)
      have R2 := Lib.hid (map_snoc_ mir l j hjl)
      have R3 := Lib.hid (map_snoc_ (mov d) l j hjl)
      have hbd := HE.out _ (List.getElem_mem hjl)
      rw [← gAt_eq hjl] at hbd
      have hA : ∃ ad, A = some ad := by obtain ⟨ad, e, _⟩ := H.out.at2 hjl; exact ⟨ad, e⟩
      obtain ⟨ad, rfl⟩ := hA
      have CX := Lib.hid (fun W (hb : Below w.heap.size w W) => show W.cell? (ad.add (j * 2)) = some (.int .i64 (gAt l j).1) ∧ W.cell? ⟨(ad.add (j * 2)).block, (ad.add (j * 2)).off + 1, none⟩ = some (.int .i64 (gAt l j).2) from by
        obtain ⟨ad', e, -, h1, h2⟩ := (H.out.below hb (Nat.le_refl _)).at2 hjl
        obtain rfl := Option.some.inj e
        exact ⟨h1, h2⟩)
      obtain ⟨x, hx⟩ : ∃ x, gAt l j = x := ⟨_, rfl⟩
      rw [hx] at CX hbd R1 R2 R3
      obtain ⟨q1, q2, q3, q4⟩ := hbd
      obtain ⟨Ab, cb, hsb, hrb⟩ := own_reads HT.out.ob
      obtain rfl := hsb
      have HRB := Lib.hid hrb
      clear hx hrb
      obtain ⟨y1, y2⟩ := CX.out _ HT.out.b
      go_wp2_with (at_builtin; refine wpList_append_any _ rfl (.tmp 40) (.tmp 41) _ rfl (w.heap.size + 1) 27 i0 _ 2 16 Try.underlying29 HI0.out HZ0.out HZ1.out HZ2.out rfl (by omega) _ 1 _ rfl (own_lit _ _ _ 1 2 _ (by have := HT.out.k.lt; omega) rfl (by decide)) wr.heap.size Ab j cb _ rfl (HRB.out.keep (fun p hp => (below_a wr _).cell hp)) (smp_one _) (by unfold maxLen; omega) (by omega) (by have := HT.out.k.lt; simp; omega) ?_; intro v1 w3 hown1 hgrow1 hblk1)
      have HT3 := Lib.hid (HT.out.setb ⟨_, rfl⟩ hgrow1 hown1 hblk1)
      clear hown1 hgrow1 hblk1 y1 y2 HRB HT
      obtain ⟨y1, y2⟩ := CX.out _ HT3.out.b
      have e1 : IntKind.i64.wrap (-x.2) = -x.2 := IntWalk.i64_in _ (by omega)
      have e2 : IntKind.i64.wrap (-x.1) = -x.1 := IntWalk.i64_in _ (by omega)
      go_region_held3 (fun w' => w'.cell? (ad.add (j * 2)) = some (.int .i64 x.1) ∧ w'.cell? ⟨(ad.add (j * 2)).block, (ad.add (j * 2)).off + 1, none⟩ = some (.int .i64 x.2))
        ((refine ⟨?_, ?_⟩ <;> (repeat (with_reducible (first | refine cell_al _ ?_ | refine cell_dr ?_))) <;> (with_reducible assumption)))
        (first | (refine step_append_any _ rfl (.tmp 43) (.tmp 57) _ rfl (w.heap.size + 1) 27 i0 _ 2 16 Try.underlying29 HI0.out HZ0.out HZ1.out HZ2.out rfl (by omega) sm j _ rfl (by first | exact (HT3.out.below (below_ad _ _)).om | exact (HT3.out.below (below_da _ _)).om | exact (HT3.out.below (below_a _ _)).om) _ _ 1 _ _ rfl (reads_cells (by first | exact blk_al rfl | exact blk_dr rfl) (Nat.lt_succ_self _) (by rfl) (by rfl)) (by intro u hu; simp at hu; rcases hu with rfl | rfl <;> rfl) (by unfold maxLen; omega) (by omega) (by have := HT3.out.k.lt; simp; omega) ?_; intro v2 w4 hown2 hgrow2 hblk2; have HT4 := Lib.hid (TS.setm (by first | exact HT3.out.below (below_ad _ _) | exact HT3.out.below (below_da _ _) | exact HT3.out.below (below_a _ _)) hgrow2 hown2 hblk2); clear hown2 hgrow2 hblk2; obtain ⟨y1, y2⟩ := CX.out _ HT4.out.b))
      clear e1 e2 HT3
      have e5 : IntKind.i64.wrap d = d := IntWalk.i64_in _ (by omega)
      have e3 : IntKind.i64.wrap (x.1 + d) = x.1 + d := IntWalk.i64_in _ (by omega)
      have e4 : IntKind.i64.wrap (x.2 + d) = x.2 + d := IntWalk.i64_in _ (by omega)
      go_wp2_with fail
      go_region_held3 (fun w' => w'.cell? (ad.add (j * 2)) = some (.int .i64 x.1) ∧ w'.cell? ⟨(ad.add (j * 2)).block, (ad.add (j * 2)).off + 1, none⟩ = some (.int .i64 x.2))
        ((refine ⟨?_, ?_⟩ <;> (repeat (with_reducible (first | refine cell_al _ ?_ | refine cell_dr ?_))) <;> (with_reducible assumption)))
        (first | (refine step_append_any _ rfl (.tmp 59) (.tmp 77) _ rfl (w.heap.size + 1) 27 i0 _ 2 16 Try.underlying29 HI0.out HZ0.out HZ1.out HZ2.out rfl (by omega) sv j _ rfl (by first | exact (HT4.out.below (below_ad _ _)).ov | exact (HT4.out.below (below_da _ _)).ov | exact (HT4.out.below (below_a _ _)).ov) _ _ 1 _ _ rfl (reads_cells (by first | exact blk_al rfl | exact blk_dr rfl) (Nat.lt_succ_self _) (by rfl) (by rfl)) (by intro u hu; simp at hu; rcases hu with rfl | rfl <;> rfl) (by unfold maxLen; omega) (by omega) (by have := HT4.out.k.lt; simp; omega) ?_; intro v3 w5 hown3 hgrow3 hblk3; have HT5 := Lib.hid (TS.setv (by first | exact HT4.out.below (below_ad _ _) | exact HT4.out.below (below_da _ _) | exact HT4.out.below (below_a _ _)) hgrow3 hown3 hblk3); clear hown3 hgrow3 hblk3; obtain ⟨y1, y2⟩ := CX.out _ HT5.out.b))
      clear e3 e4 e5 HT4 y1 y2
      go_wp2_with fail
      go_roundw
      case rel =>
        refine ⟨j + 1, v1, v2, v3, by omega, by go_num, rfl, rfl, rfl, Lib.hid ?_⟩
        have h := HT5.out
        rw [Nat.add_comm 1 j] at h
        rw [R1.out, R2.out, R3.out]
        exact h
      case measure => simp [intOf]; omega
    · obtain rfl : n = j := by omega
      have hlen : l.take n = l := List.take_of_length_le (by have := HN.out; omega)
      rw [hlen] at HT
      obtain ⟨Ab, kb, hb0, hrb⟩ := own_reads HT.out.ob
      obtain rfl := hb0
      obtain ⟨Am, km, hm0, hrm⟩ := own_reads HT.out.om
      obtain rfl := hm0
      obtain ⟨Av, kv, hv0, hrv⟩ := own_reads HT.out.ov
      obtain rfl := hv0
      have RB := Lib.hid (show RS wr wr.heap.size Ab n l.reverse from ⟨by rw [List.length_reverse]; exact HN.out, hrb⟩)
      have RM := Lib.hid (show RS wr wr.heap.size Am n (l.map mir) from ⟨by rw [List.length_map]; exact HN.out, hrm⟩)
      have RV := Lib.hid (show RS wr wr.heap.size Av n (l.map (mov d)) from ⟨by rw [List.length_map]; exact HN.out, hrv⟩)
      have HB := Lib.hid HT.out.b
      have HK := Lib.hid HT.out.k
      clear hrb hrm hrv hlen HT
      have BZ := Lib.hid HB.out.size
      have LA := Lib.hid (fun W hb => Least_any w.heap.size A n k c l per W (H.out.below hb (Nat.le_refl _)) (Below.size hb) hl)
      have LB := Lib.hid (fun W (hb : Below wr.heap.size wr W) => Least_any wr.heap.size Ab n kb c l.reverse per W (RB.out.below hb (Nat.le_refl _)) hb.size hl)
      have LM := Lib.hid (fun W (hb : Below wr.heap.size wr W) => Least_any wr.heap.size Am n km c (l.map mir) per W (RM.out.below hb (Nat.le_refl _)) hb.size hl)
      have LV := Lib.hid (fun W (hb : Below wr.heap.size wr W) => Least_any wr.heap.size Av n kv c (l.map (mov d)) per W (RV.out.below hb (Nat.le_refl _)) hb.size hl)
      have CV := Lib.hid (fun W (hb : Below wr.heap.size wr W) => refCheckPoints_any wr.heap.size Av n kv (l.map (mov d)) W (RV.out.below hb (Nat.le_refl _)) hb.size hl)
      have HR := Lib.hid (Below.refl wr.heap.size wr)
      have hk := HK.out
      have p0 := (hk.cell 0).trans rfl
      have p1 := (hk.cell 1).trans rfl
      have p2 := (hk.cell 2).trans rfl
      have p3 := (hk.cell 3).trans rfl
      have p4 := (hk.cell 4).trans rfl
      have p5 := (hk.cell 5).trans rfl
      have p6 := (hk.cell 6).trans rfl
      clear hk
      go_wp2_with fail
      refine (LA.out _ HB.out).mono ?_
      rintro e w3 ⟨a, ea, rfl, hq1, hb3⟩
      have HK := Lib.hid (HK.out.below hb3 HK.out.lt)
      have HR := Lib.hid (HR.out.trans hb3)
      have HQ1 := Lib.hid hq1
      clear hb3 hq1 p0 p1 p2 p3 p4 p5 p6
      have hk := HK.out
      have p0 := (hk.cell 0).trans rfl
      have p1 := (hk.cell 1).trans rfl
      have p2 := (hk.cell 2).trans rfl
      have p3 := (hk.cell 3).trans rfl
      have p4 := (hk.cell 4).trans rfl
      have p5 := (hk.cell 5).trans rfl
      have p6 := (hk.cell 6).trans rfl
      clear hk
      go_wp2_with fail
      refine (LB.out _ HR.out).mono ?_
      rintro e w4 ⟨x, ex, rfl, hq2, hb4⟩
      have HK := Lib.hid (HK.out.below hb4 HK.out.lt)
      have HR := Lib.hid (HR.out.trans (hb4.mono HR.out.size))
      have hs2 := ls_same C7.out (ckG_rev C7.out) (fun r => okG_rev c l r per) HQ1.out hq2
      obtain ⟨rfl, rfl⟩ := hs2
      clear hb4 hq2 p0 p1 p2 p3 p4 p5 p6
      have hk := HK.out
      have p0 := (hk.cell 0).trans rfl
      have p1 := (hk.cell 1).trans rfl
      have p2 := (hk.cell 2).trans rfl
      have p3 := (hk.cell 3).trans rfl
      have p4 := (hk.cell 4).trans rfl
      have p5 := (hk.cell 5).trans rfl
      have p6 := (hk.cell 6).trans rfl
      clear hk
      go_wp2_with fail
      refine (LM.out _ HR.out).mono ?_
      rintro e w5 ⟨y, ey, rfl, hq3, hb5⟩
      have HK := Lib.hid (HK.out.below hb5 HK.out.lt)
      have HR := Lib.hid (HR.out.trans (hb5.mono HR.out.size))
      have hs3 := ls_same C7.out (ckG_mir C7.out) (fun r => okG_map wid_mir chg_mir bnd_mir c l r per) HQ1.out hq3
      obtain ⟨rfl, rfl⟩ := hs3
      clear hb5 hq3 p0 p1 p2 p3 p4 p5 p6
      by_cases c8 : ckG (l.map (mov d)) = 0
      · rw [c8] at CV
        go_wp2_with fail
        refine (CV.out _ HR.out).mono ?_
        rintro e w6 ⟨rfl, hb6⟩
        have HK := Lib.hid (HK.out.below hb6 HK.out.lt)
        have HR := Lib.hid (HR.out.trans (hb6.mono HR.out.size))
        clear hb6
        have hk := HK.out
        have p0 := (hk.cell 0).trans rfl
        have p1 := (hk.cell 1).trans rfl
        have p2 := (hk.cell 2).trans rfl
        have p3 := (hk.cell 3).trans rfl
        have p4 := (hk.cell 4).trans rfl
        have p5 := (hk.cell 5).trans rfl
        have p6 := (hk.cell 6).trans rfl
        clear hk
        go_wp2_with fail
        refine (LV.out _ HR.out).mono ?_
        rintro e w7 ⟨z, ez, rfl, hq4, hb7⟩
        have HR := Lib.hid (HR.out.trans (hb7.mono HR.out.size))
        have hs4 := ls_same C7.out c8 (fun r => okG_map (wid_mov d) (chg_mov d) (bnd_mov d) c l r per) HQ1.out hq4
        obtain ⟨rfl, rfl⟩ := hs4
        clear hb7 hq4 c8 p0 p1 p2 p3 p4 p5 p6
        go_wp2_with fail
        refine (WK.out _).mono ?_
        rintro e w8 ⟨rfl, hb8⟩
        go_wp2
        go_ret
        exact ⟨rfl, (HB.out.trans (HR.out.mono HB.out.size)).trans (hb8.mono (Nat.le_trans HB.out.size HR.out.size))⟩
      · have hne : (ckG (l.map (mov d)) == 0) = false := by simpa using c8
        have hne' : (ckG (l.map (mov d)) != 0) = true := by simpa using c8
        obtain ⟨q, hq⟩ : ∃ q, ckG (l.map (mov d)) = q := ⟨_, rfl⟩
        rw [hq] at CV hne hne'
        clear hq c8
        go_wp2_with fail
        refine (CV.out _ HR.out).mono ?_
        rintro e w6 ⟨rfl, hb6⟩
        have HR := Lib.hid (HR.out.trans (hb6.mono HR.out.size))
        clear hb6
        go_wp2_with fail
        refine (WK.out _).mono ?_
        rintro e w8 ⟨rfl, hb8⟩
        go_wp2
        go_ret
        exact ⟨rfl, (HB.out.trans (HR.out.mono HB.out.size)).trans (hb8.mono (Nat.le_trans HB.out.size HR.out.size))⟩
end Go.Proofs.Ytaiigdbbpdkamaa
