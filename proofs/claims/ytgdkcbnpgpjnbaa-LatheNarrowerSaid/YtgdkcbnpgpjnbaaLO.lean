/-
  Contract of add: the next sample, as far out as the ones before it allow.
-/
import Derived.Test.YtgdkcbnpgpjnbaaLL
import Derived.Test.YtgdkcbnpgpjnbaaLM
import Derived.Test.YtgdkcbnpgpjnbaaLN
import Derived.Test.YtgdkcbnpgpjnbaaW2
import Derived.Test.YtgdkcbnpgpjnbaaIr
import Derived.Deep.RegionHeld3
import Derived.Deep.DeepCutAuto
import Derived.Deep.RegionLaw
namespace Go.Proofs.Ytgdkcbnpgpjnbaa
open Go.RowKit Go.Shelf
attribute [local go_sem] Oper.semAt_some

theorem info_partsL {P : Program} {t : TypeId} {z : Value} {size bytes : Nat} (h : (P.info? t).map (fun i => (i.zero, i.size, i.bytes)) = some (some z, size, bytes)) : ∃ i, P.info? t = some i ∧ i.zero = some z ∧ i.size = size ∧ i.bytes = bytes := by
  cases hi : P.info? t with
  | none => rw [hi] at h; cases h
  | some i =>
    rw [hi] at h
    simp only [Option.map_some, Option.some.injEq, Prod.mk.injEq] at h
    exact ⟨i, rfl, h.1, h.2.1, h.2.2⟩
theorem cutA {G F : Nat → Nat → World → Prop} {X : Prop} (a : (∀ p q W, F p q W → G p q W) → X) (b : ∀ p q W, F p q W → G p q W) : X := a b
/-- A statement that is left in one way alone. -/
def NoP (K : Act → World → Prop) : Exit → Act → World → Prop
  | .normal, a, w => K a w
  | _, _, _ => False
theorem wp_nop {P : Program} {s : Code} {Q : Exit → Act → World → Prop} {a : Act} {w : World} (h : s.wp P (NoP (fun a w => Q .normal a w)) a w) : s.wp P Q a w := wp_mono h (by
  intro e a' w' hq
  cases e <;> first | exact hq | exact hq.elim)
theorem info_step : (Try.prog.info? 52).map (fun i => (i.zero, i.size, i.bytes)) = some (some (.agg #[.int .i64 0, .int .i64 0]), 2, 16) := by kernel_rfl

/-- A course in memory: the block g, its rows behind it. -/
structure CO (w : World) (g : Nat) (b : Bk) (A : Option Addr) (n c : Nat) (vr vh : Value) (mr mh : Nat) (R : List Int) (H : List Smp) (ft : Int) (vp : Value) : Prop where
  blk : Blk w g 71 #[.int .i64 b.per, .int .i64 b.rim, .int .i64 b.core, .int .i64 b.land, .int .i64 b.slow, .int .i64 b.fast, .slice A n c, vr, vh, .int .i64 ft, vp]
  rr : w.ownsRow (g + 1) 2 1 vr mr (nums R)
  hh : w.ownsRow (g + 1) 52 2 vh mh (smpCells H)
  ap : Apart vr vh
section
variable {w w' : World} {g : Nat} {b : Bk} {A : Option Addr} {n c : Nat} {vr vh : Value} {mr mh : Nat} {R : List Int} {H : List Smp} {ft : Int} {vp : Value}
theorem CO.below (h : CO w g b A n c vr vh mr mh R H ft vp) (hb : Below w.heap.size w w') : CO w' g b A n c vr vh mr mh R H ft vp :=
  ⟨h.blk.below hb h.blk.lt, own_below h.rr hb, own_below h.hh hb, h.ap⟩
theorem CO.kept {Y : World} {row : Option Nat} (h : CO w g b A n c vr vh mr mh R H ft vp) (hg : w.grownBy Y row) (hr : ∀ r, row = some r → ∃ o : Obj, w.heap[r]? = some o ∧ o.isCells = false) : CO Y g b A n c vr vh mr mh R H ft vp :=
  ⟨blk_keptR h.blk hg hr, own_keptR h.rr hg hr, own_keptR h.hh hg hr, h.ap⟩
theorem own_ne {q m cc size base : Nat} {t e : TypeId} {cs : Array Value} {xs : List Value} {W : World} (hB : Blk W g t cs) (hr : W.ownsRow base e size (.slice (some ⟨q, 0, none⟩) m cc) m xs) (ht : t ≠ e) : g ≠ q := by
  rintro rfl
  rcases hr.2 with ⟨h', _⟩ | ⟨g', cap', cur, h', hb, hg, _⟩
  · simp at h'
  · simp only [Value.slice.injEq, Option.some.injEq, Addr.mk.injEq, and_true, true_and] at h'
    obtain ⟨rfl, rfl⟩ := h'
    rw [show W.heap[g]? = _ from hB] at hg
    simp only [Option.some.injEq, Obj.cells.injEq] at hg
    exact ht hg.2.1
theorem CO.drew (h : CO w g b A n c vr vh mr mh R H ft vp) : CO w.drew g b A n c vr vh mr mh R H ft vp := ⟨h.blk, h.rr, h.hh, h.ap⟩
end

set_option maxRecDepth 100000 in
set_option maxHeartbeats 8000000 in
theorem add_any (g n c k B : Nat) (A : Option Addr) (b : Bk) (P : List Smp) (vr vh : Value) (R : List Int) (H : List Smp) (ft : Int) (vp : Value) (w : World) (hC : CO w g b A n c vr vh k k R H ft vp) (hP : RS w B A n P) (hB : B ≤ g)
    (hk : k < n) (hn : n ≤ 4096) (hb : BkOk b) (hOk : PsOk P) (hR : ∀ j, j < k → -33554432 ≤ fx R j ∧ fx R j ≤ 33554432) :
    Calls Try.prog 61 #[.pointer (some ⟨g, 0, none⟩), .int .i64 k] w fun e w' => (∃ v, e = .returned v) ∧ ∃ gr gh kr kh, CO w' g b A n c (.slice (some ⟨gr, 0, none⟩) (k + 1) kr) (.slice (some ⟨gh, 0, none⟩) (k + 1) kh) (k + 1) (k + 1) (R ++ [rk b P k (fx R)]) (H ++ [hkS b P k (fx R)]) ft vp ∧ Below g w w' := by
  have HC := Lib.hid hC
  have HP := Lib.hid hP
  have HB := Lib.hid hb
  have HOK := Lib.hid hOk
  have HR := Lib.hid hR
  have HLR : Hid (R.length = k) := Lib.hid (by have := hC.rr.1; simpa using this)
  have HLH : Hid (H.length = k) := Lib.hid (by have := hC.hh.1; rw [smpCells_length] at this; omega)
  obtain ⟨i0, hi0, hz0, hz1, hz2⟩ := info_partsL info_i64
  have HI0 := Lib.hid hi0
  have HZ0 := Lib.hid hz0
  have HZ1 := Lib.hid hz1
  have HZ2 := Lib.hid hz2
  obtain ⟨i1, hi1, hy0, hy1, hy2⟩ := info_partsL info_step
  have HI1 := Lib.hid hi1
  have HY0 := Lib.hid hy0
  have HY1 := Lib.hid hy1
  have HY2 := Lib.hid hy2
  clear hC hP hb hOk hR hi0 hz0 hz1 hz2 hi1 hy0 hy1 hy2
  refine (callsIn_wide (n := 12)).1 ?_
  refine callsIn_of_wp_marks Try.func61 rfl trivial ?_ rfl
  simp only [Try.ntmps61, List.size_toArray, List.length_cons, List.length_nil, Nat.reduceAdd, Nat.reduceSub, Array.replicate_succ, Array.replicate_zero, List.push_toArray, List.append_toArray, List.nil_append, List.cons_append]
  gi_wp2_with fail
  obtain ⟨W, hW⟩ : ∃ W, (w.alloc (.cells #[.pointer (some ⟨g, 0, none⟩)] 109)).alloc (.cells #[.int .i64 k] 3) = W := ⟨_, rfl⟩
  have hb0 : Below w.heap.size w W := by rw [← hW]; exact ((Below.refl _ _).alloc (Nat.le_refl _) _).alloc (by simp) _
  have k0 : Blk W w.heap.size 109 #[.pointer (some ⟨g, 0, none⟩)] := by rw [← hW]; exact (Blk.new _ _ _).alloc _
  have k1 : Blk W (w.heap.size + 1) 3 #[.int .i64 k] := by rw [← hW]; exact blk_al (by simp)
  rw [hW]
  clear hW
  have hwg := HC.out.blk.lt
  have HLvr : Hid (∀ j, vr.ownBlock = some j → j < w.heap.size) := Lib.hid (fun j hj => (HC.out.rr.lt j hj).2)
  have HLvh : Hid (∀ j, vh.ownBlock = some j → j < w.heap.size) := Lib.hid (fun j hj => (HC.out.hh.lt j hj).2)
  replace HC := Lib.hid (HC.out.below hb0)
  have HK0 := Lib.hid k0
  have HK1 := Lib.hid k1
  have HB0 := Lib.hid (hb0.mono (Nat.le_of_lt hwg))
  have HGS := Lib.hid (show w.heap.size < W.heap.size from k0.lt)
  clear k0 k1 hb0
  refine wpIn_wide.2 (wp_nop ?_)
  -- REGION 1
  have c0 := HK0.out.one.1
  refine wp_region_held_drew (S := (fun w' => w'.cell? ⟨w.heap.size, 0, none⟩ = some (.pointer (some ⟨g, 0, none⟩)))) (by kernel_rfl) c0 ?_
  intro hHeld
  obtain ⟨XA, hXA⟩ : ∃ X, W.drew = X := ⟨_, rfl⟩
  rw [hXA] at hHeld
  replace HC := Lib.hid (show CO XA _ _ _ _ _ _ _ _ _ _ _ _ _ from hXA ▸ HC.out.drew)
  replace HK0 := Lib.hid (show Blk XA _ _ _ from hXA ▸ HK0.out.drew)
  replace HK1 := Lib.hid (show Blk XA _ _ _ from hXA ▸ HK1.out.drew)
  replace HB0 := Lib.hid (show Below g w XA from hXA ▸ HB0.out.drew)
  replace HGS := Lib.hid (show w.heap.size < XA.heap.size from hXA ▸ HGS.out)
  rw [hXA]
  clear hXA c0
  have d7 := HC.out.blk.eleven.2.2.2.2.2.2.2.1
  apply cutA (F := fun gr kr wx => Hid (CO wx g b A n c (.slice (some ⟨gr, 0, none⟩) (k + 1) kr) vh (k + 1) k (R ++ [9223372036854775807]) H ft vp) ∧ Hid (Blk wx w.heap.size 109 #[.pointer (some ⟨g, 0, none⟩)]) ∧ Hid (Blk wx (w.heap.size + 1) 3 #[.int .i64 k]) ∧ Hid (Below g w wx) ∧ Hid (w.heap.size < wx.heap.size))
  · intro key
    refine wpAnyH_take (i := 0) (oi := { dst := some 5, op := Go.Op.load 109 (Go.Operand.tmp 2), type := 109, pos := "course.go:62", after := #[], guard := none }) (v := ?vt101) rfl (by kernel_rfl) (by kernel_rfl) (by kernel_rfl) (fun _ _ _ h => h) (Or.inl ⟨by rfl, ?ht101⟩) hHeld ?_
    case ht101 => intro w hSw; skip; go_simp; try with_reducible rfl
    simp only [Act.put, List.setIfInBounds_toArray, List.set_cons_zero, List.set_cons_succ]
    refine wpAnyH_take (i := 1) (oi := { dst := some 6, op := Go.Op.load 109 (Go.Operand.tmp 2), type := 109, pos := "course.go:62", after := #[], guard := none }) (v := ?vt102) rfl (by kernel_rfl) (by kernel_rfl) (by kernel_rfl) (fun _ _ _ h => h) (Or.inl ⟨by rfl, ?ht102⟩) hHeld ?_
    case ht102 => intro w hSw; skip; go_simp; try with_reducible rfl
    simp only [Act.put, List.setIfInBounds_toArray, List.set_cons_zero, List.set_cons_succ]
    refine wpAnyH_take (i := 2) (oi := { dst := some 7, op := Go.Op.nilCheck (Go.Operand.tmp 6), type := 0, pos := "course.go:62", after := #[{ on := 1, ground := Go.Ground.data }], guard := none }) (v := ?vt103) rfl (by kernel_rfl) (by kernel_rfl) (by kernel_rfl) (fun _ _ _ h => h) (Or.inl ⟨by rfl, ?ht103⟩) hHeld ?_
    case ht103 => intro w hSw; skip; go_simp; try with_reducible rfl
    simp only [Act.put, List.setIfInBounds_toArray, List.set_cons_zero, List.set_cons_succ]
    refine wpAnyH_take (i := 3) (oi := { dst := some 8, op := Go.Op.fieldAddr 71 (Go.Operand.tmp 7) 1, type := 0, pos := "course.go:62", after := #[{ on := 2, ground := Go.Ground.data }], guard := none }) (v := ?vt104) rfl (by kernel_rfl) (by kernel_rfl) (by kernel_rfl) (fun _ _ _ h => h) (Or.inl ⟨by rfl, ?ht104⟩) hHeld ?_
    case ht104 => intro w hSw; skip; go_simp; try with_reducible rfl
    simp only [Act.put, List.setIfInBounds_toArray, List.set_cons_zero, List.set_cons_succ]
    refine wpAnyH_ready (rs := [4, 5]) (by kernel_rfl) (by simp) ?_
    refine AllReadyH.cons rfl (fun K hK => ?_) ?_
    · go_simp
      refine hK.out _ _ ?_ (fun hH105 => ?_)
      · exact hHeld
      clear hK K
      refine wpAnyH_ready (rs := [5]) (by kernel_rfl) (by simp) ?_
      refine AllReadyH.cons rfl (fun K hK => ?_) AllReadyH.nil
      go_simp
      obtain ⟨Y1, hY⟩ : ∃ Y, XA.alloc (.cells #[.int .i64 9223372036854775807] 2) = Y := ⟨_, rfl⟩
      have hb : Below XA.heap.size XA Y1 := by rw [← hY]; exact below_a _ _
      have HLIT : Hid (Reads Y1 (XA.heap.size + 1) 1 (some ⟨XA.heap.size, 0, none⟩) 1 [.int .i64 9223372036854775807]) := Lib.hid ⟨by rfl, fun _ => ⟨_, rfl, by show XA.heap.size < _; omega, by rw [← hY]; exact nine_new XA _ _⟩⟩
      have HLS : Hid (XA.heap.size + 1 ≤ Y1.heap.size) := Lib.hid (by rw [← hY]; simp)
      replace HC := Lib.hid (HC.out.below hb)
      replace HK0 := Lib.hid (HK0.out.below hb HK0.out.lt)
      replace HK1 := Lib.hid (HK1.out.below hb HK1.out.lt)
      replace HB0 := Lib.hid (HB0.out.trans (hb.mono (Nat.le_of_lt (by have := HC.out.blk.lt; have := HGS.out; have := hb.size; omega))))
      replace HGS := Lib.hid (Nat.lt_of_lt_of_le HGS.out hb.size)
      have c0 := HK0.out.one.1
      have d7 := HC.out.blk.eleven.2.2.2.2.2.2.2.1
      rw [hY]
      clear hY hb
      refine hK.out _ _ ?_ (fun hH106 => ?_)
      · exact c0
      clear hK K
      refine wpAnyH_ready (rs := [6]) (by kernel_rfl) (by simp) ?_
      refine AllReadyH.cons rfl (fun K hK => ?_) AllReadyH.nil
      refine step_append_any _ rfl (.tmp 9) (.tmp 10) _ rfl (g + 1) 2 i0 _ 1 8 Try.underlying25 HI0.out HZ0.out HZ1.out HZ2.out rfl (by omega) _ k (nums R) rfl HC.out.rr _ _ 1 _ [.int .i64 9223372036854775807] rfl HLIT.out (by intro u hu; simp only [List.mem_cons, List.not_mem_nil, or_false] at hu; rcases hu with rfl | rfl <;> rfl) (by unfold maxLen; omega) (by omega) (by have := HC.out.blk.lt; omega) ?_
      intro v' Y2 hown' hgrow hblk
      obtain ⟨A9, c9, hv9, hrd9⟩ := own_reads hown'
      obtain ⟨ad9, e9, -, -⟩ := hrd9.2 (by omega)
      subst e9
      obtain ⟨g9, hg9⟩ : ∃ g9, ad9 = ⟨g9, 0, none⟩ := by
        rcases hown'.2 with ⟨h', -⟩ | ⟨g9, cap9, cur9, h', -⟩
        · rw [hv9] at h'; cases h'
        · rw [hv9] at h'; cases h'; exact ⟨_, rfl⟩
      subst hg9
      subst hv9
      have HOW := Lib.hid hown'
      have hrow : ∀ j, vr.ownBlock = some j → w.heap.size ≠ j ∧ w.heap.size + 1 ≠ j ∧ g ≠ j ∧ g + 1 ≤ j := fun j hj => ⟨fun e => by have := HLvr.out j hj; omega, fun e => by have := HLvr.out j hj; omega, fun e => by have := (HC.out.rr.lt j hj).1; omega, (HC.out.rr.lt j hj).1⟩
      have k0n := HK0.out.grown hgrow (fun e => (hrow _ e.symm).1 rfl)
      have k1n := HK1.out.grown hgrow (fun e => (hrow _ e.symm).2.1 rfl)
      have kgn := HC.out.blk.grown hgrow (fun e => (hrow _ e.symm).2.2.1 rfl)
      have hot := HC.out.hh.kept hgrow (HC.out.ap.symm.ne)
      have hapn := (HC.out.ap.symm.new (fun j hj => (HC.out.hh.lt j hj).2) hblk).symm
      have hB9 := HB0.out.grown hgrow (by have := HC.out.blk.lt; have := hgrow.size; omega) (fun j hj => by have := (hrow j hj).2.2.2; omega)
      have hgs9 := Nat.lt_of_lt_of_le HGS.out hgrow.size
      have hfrz := kgn.frozen 7
      have hcel := kgn.eleven.2.2.2.2.2.2.2.1
      have c0 := k0n.one.1
      refine hK.out _ _ ?_ (fun hH107 => ?_)
      · exact c0
      clear hK K
      refine wpAnyH_take (i := 7) (oi := { dst := some 12, op := Go.Op.nilCheck (Go.Operand.tmp 5), type := 0, pos := "course.go:62", after := #[{ on := 0, ground := Go.Ground.data }, { on := 0, ground := Go.Ground.phase }, { on := 1, ground := Go.Ground.phase }, { on := 2, ground := Go.Ground.phase }, { on := 3, ground := Go.Ground.phase }, { on := 4, ground := Go.Ground.phase }, { on := 5, ground := Go.Ground.phase }, { on := 6, ground := Go.Ground.phase }], guard := none }) (v := ?vt108) rfl (by kernel_rfl) (by kernel_rfl) (by kernel_rfl) (fun _ _ _ h => h) (Or.inl ⟨by rfl, ?ht108⟩) hH107 ?_
      case ht108 => intro w hSw; skip; go_simp; try with_reducible rfl
      simp only [Act.put, List.setIfInBounds_toArray]
      refine wpAnyH_take (i := 8) (oi := { dst := some 13, op := Go.Op.fieldAddr 71 (Go.Operand.tmp 12) 1, type := 0, pos := "course.go:62", after := #[{ on := 7, ground := Go.Ground.data }, { on := 0, ground := Go.Ground.phase }, { on := 1, ground := Go.Ground.phase }, { on := 2, ground := Go.Ground.phase }, { on := 3, ground := Go.Ground.phase }, { on := 4, ground := Go.Ground.phase }, { on := 5, ground := Go.Ground.phase }, { on := 6, ground := Go.Ground.phase }], guard := none }) (v := ?vt109) rfl (by kernel_rfl) (by kernel_rfl) (by kernel_rfl) (fun _ _ _ h => h) (Or.inl ⟨by rfl, ?ht109⟩) hH107 ?_
      case ht109 => intro w hSw; skip; go_simp; try with_reducible rfl
      simp only [Act.put]
      refine wpAnyH_ready (rs := [9]) (by kernel_rfl) (by simp) ?_
      refine AllReadyH.cons rfl (fun K hK => ?_) AllReadyH.nil
      go_simp
      refine hK.out _ _ ?_ (fun hH110 => ?_)
      · exact (World.cell?_setCell_other _ _ _ _ (by first | (simp; done) | (simp; omega))).trans c0
      clear hK K
      refine wpAnyH_done (by kernel_rfl) ?_ _
      obtain ⟨Z, hZ⟩ : ∃ Z, (Y2).setCell ⟨g, 7, none⟩ (.slice (some ⟨g9, 0, none⟩) (k + 1) c9) = Z := ⟨_, rfl⟩
      have kz := (kgn.set_ 7 (.slice (some ⟨g9, 0, none⟩) (k + 1) c9)).cast (cs' := #[.int .i64 b.per, .int .i64 b.rim, .int .i64 b.core, .int .i64 b.land, .int .i64 b.slow, .int .i64 b.fast, .slice A n c, .slice (some ⟨g9, 0, none⟩) (k + 1) c9, vh, .int .i64 ft, vp]) rfl
      have f0 := k0n.far (p := ⟨g, 7, none⟩) (by show w.heap.size ≠ g; omega) (.slice (some ⟨g9, 0, none⟩) (k + 1) c9)
      have f1 := k1n.far (p := ⟨g, 7, none⟩) (by show w.heap.size + 1 ≠ g; omega) (.slice (some ⟨g9, 0, none⟩) (k + 1) c9)
      have r0 := ownsRow_setCell_below HOW.out (a := ⟨g, 7, none⟩) (by show g < g + 1; omega) (.slice (some ⟨g9, 0, none⟩) (k + 1) c9)
      have r1 := ownsRow_setCell_below hot (a := ⟨g, 7, none⟩) (by show g < g + 1; omega) (.slice (some ⟨g9, 0, none⟩) (k + 1) c9)
      have bz := hB9.setCell (p := ⟨g, 7, none⟩) (Nat.le_refl _) (.slice (some ⟨g9, 0, none⟩) (k + 1) c9)
      have sz : w.heap.size < ((Y2).setCell ⟨g, 7, none⟩ (.slice (some ⟨g9, 0, none⟩) (k + 1) c9)).heap.size := by simpa using hgs9
      rw [hZ] at kz f0 f1 r0 r1 bz sz
      rw [hZ]
      exact key g9 c9 Z ⟨Lib.hid ⟨kz, (by rw [show nums (R ++ [9223372036854775807]) = nums R ++ [.int .i64 9223372036854775807] from by simp [nums]]; exact r0), r1, hapn⟩, Lib.hid f0, Lib.hid f1, Lib.hid bz, Lib.hid sz⟩
    refine AllReadyH.cons rfl (fun K hK => ?_) ?_
    · go_simp
      obtain ⟨Y1, hY⟩ : ∃ Y, XA.alloc (.cells #[.int .i64 9223372036854775807] 2) = Y := ⟨_, rfl⟩
      have hb : Below XA.heap.size XA Y1 := by rw [← hY]; exact below_a _ _
      have HLIT : Hid (Reads Y1 (XA.heap.size + 1) 1 (some ⟨XA.heap.size, 0, none⟩) 1 [.int .i64 9223372036854775807]) := Lib.hid ⟨by rfl, fun _ => ⟨_, rfl, by show XA.heap.size < _; omega, by rw [← hY]; exact nine_new XA _ _⟩⟩
      have HLS : Hid (XA.heap.size + 1 ≤ Y1.heap.size) := Lib.hid (by rw [← hY]; simp)
      replace HC := Lib.hid (HC.out.below hb)
      replace HK0 := Lib.hid (HK0.out.below hb HK0.out.lt)
      replace HK1 := Lib.hid (HK1.out.below hb HK1.out.lt)
      replace HB0 := Lib.hid (HB0.out.trans (hb.mono (Nat.le_of_lt (by have := HC.out.blk.lt; have := HGS.out; have := hb.size; omega))))
      replace HGS := Lib.hid (Nat.lt_of_lt_of_le HGS.out hb.size)
      have c0 := HK0.out.one.1
      have d7 := HC.out.blk.eleven.2.2.2.2.2.2.2.1
      rw [hY]
      clear hY hb
      refine hK.out _ _ ?_ (fun hH111 => ?_)
      · exact c0
      clear hK K
      refine wpAnyH_ready (rs := [4]) (by kernel_rfl) (by simp) ?_
      refine AllReadyH.cons rfl (fun K hK => ?_) AllReadyH.nil
      go_simp
      refine hK.out _ _ ?_ (fun hH112 => ?_)
      · exact hH111
      clear hK K
      refine wpAnyH_ready (rs := [6]) (by kernel_rfl) (by simp) ?_
      refine AllReadyH.cons rfl (fun K hK => ?_) AllReadyH.nil
      refine step_append_any _ rfl (.tmp 9) (.tmp 10) _ rfl (g + 1) 2 i0 _ 1 8 Try.underlying25 HI0.out HZ0.out HZ1.out HZ2.out rfl (by omega) _ k (nums R) rfl HC.out.rr _ _ 1 _ [.int .i64 9223372036854775807] rfl HLIT.out (by intro u hu; simp only [List.mem_cons, List.not_mem_nil, or_false] at hu; rcases hu with rfl | rfl <;> rfl) (by unfold maxLen; omega) (by omega) (by have := HC.out.blk.lt; omega) ?_
      intro v' Y2 hown' hgrow hblk
      obtain ⟨A9, c9, hv9, hrd9⟩ := own_reads hown'
      obtain ⟨ad9, e9, -, -⟩ := hrd9.2 (by omega)
      subst e9
      obtain ⟨g9, hg9⟩ : ∃ g9, ad9 = ⟨g9, 0, none⟩ := by
        rcases hown'.2 with ⟨h', -⟩ | ⟨g9, cap9, cur9, h', -⟩
        · rw [hv9] at h'; cases h'
        · rw [hv9] at h'; cases h'; exact ⟨_, rfl⟩
      subst hg9
      subst hv9
      have HOW := Lib.hid hown'
      have hrow : ∀ j, vr.ownBlock = some j → w.heap.size ≠ j ∧ w.heap.size + 1 ≠ j ∧ g ≠ j ∧ g + 1 ≤ j := fun j hj => ⟨fun e => by have := HLvr.out j hj; omega, fun e => by have := HLvr.out j hj; omega, fun e => by have := (HC.out.rr.lt j hj).1; omega, (HC.out.rr.lt j hj).1⟩
      have k0n := HK0.out.grown hgrow (fun e => (hrow _ e.symm).1 rfl)
      have k1n := HK1.out.grown hgrow (fun e => (hrow _ e.symm).2.1 rfl)
      have kgn := HC.out.blk.grown hgrow (fun e => (hrow _ e.symm).2.2.1 rfl)
      have hot := HC.out.hh.kept hgrow (HC.out.ap.symm.ne)
      have hapn := (HC.out.ap.symm.new (fun j hj => (HC.out.hh.lt j hj).2) hblk).symm
      have hB9 := HB0.out.grown hgrow (by have := HC.out.blk.lt; have := hgrow.size; omega) (fun j hj => by have := (hrow j hj).2.2.2; omega)
      have hgs9 := Nat.lt_of_lt_of_le HGS.out hgrow.size
      have hfrz := kgn.frozen 7
      have hcel := kgn.eleven.2.2.2.2.2.2.2.1
      have c0 := k0n.one.1
      refine hK.out _ _ ?_ (fun hH113 => ?_)
      · exact c0
      clear hK K
      refine wpAnyH_take (i := 7) (oi := { dst := some 12, op := Go.Op.nilCheck (Go.Operand.tmp 5), type := 0, pos := "course.go:62", after := #[{ on := 0, ground := Go.Ground.data }, { on := 0, ground := Go.Ground.phase }, { on := 1, ground := Go.Ground.phase }, { on := 2, ground := Go.Ground.phase }, { on := 3, ground := Go.Ground.phase }, { on := 4, ground := Go.Ground.phase }, { on := 5, ground := Go.Ground.phase }, { on := 6, ground := Go.Ground.phase }], guard := none }) (v := ?vt114) rfl (by kernel_rfl) (by kernel_rfl) (by kernel_rfl) (fun _ _ _ h => h) (Or.inl ⟨by rfl, ?ht114⟩) hH113 ?_
      case ht114 => intro w hSw; skip; go_simp; try with_reducible rfl
      simp only [Act.put, List.setIfInBounds_toArray]
      refine wpAnyH_take (i := 8) (oi := { dst := some 13, op := Go.Op.fieldAddr 71 (Go.Operand.tmp 12) 1, type := 0, pos := "course.go:62", after := #[{ on := 7, ground := Go.Ground.data }, { on := 0, ground := Go.Ground.phase }, { on := 1, ground := Go.Ground.phase }, { on := 2, ground := Go.Ground.phase }, { on := 3, ground := Go.Ground.phase }, { on := 4, ground := Go.Ground.phase }, { on := 5, ground := Go.Ground.phase }, { on := 6, ground := Go.Ground.phase }], guard := none }) (v := ?vt115) rfl (by kernel_rfl) (by kernel_rfl) (by kernel_rfl) (fun _ _ _ h => h) (Or.inl ⟨by rfl, ?ht115⟩) hH113 ?_
      case ht115 => intro w hSw; skip; go_simp; try with_reducible rfl
      simp only [Act.put]
      refine wpAnyH_ready (rs := [9]) (by kernel_rfl) (by simp) ?_
      refine AllReadyH.cons rfl (fun K hK => ?_) AllReadyH.nil
      go_simp
      refine hK.out _ _ ?_ (fun hH116 => ?_)
      · exact (World.cell?_setCell_other _ _ _ _ (by first | (simp; done) | (simp; omega))).trans c0
      clear hK K
      refine wpAnyH_done (by kernel_rfl) ?_ _
      obtain ⟨Z, hZ⟩ : ∃ Z, (Y2).setCell ⟨g, 7, none⟩ (.slice (some ⟨g9, 0, none⟩) (k + 1) c9) = Z := ⟨_, rfl⟩
      have kz := (kgn.set_ 7 (.slice (some ⟨g9, 0, none⟩) (k + 1) c9)).cast (cs' := #[.int .i64 b.per, .int .i64 b.rim, .int .i64 b.core, .int .i64 b.land, .int .i64 b.slow, .int .i64 b.fast, .slice A n c, .slice (some ⟨g9, 0, none⟩) (k + 1) c9, vh, .int .i64 ft, vp]) rfl
      have f0 := k0n.far (p := ⟨g, 7, none⟩) (by show w.heap.size ≠ g; omega) (.slice (some ⟨g9, 0, none⟩) (k + 1) c9)
      have f1 := k1n.far (p := ⟨g, 7, none⟩) (by show w.heap.size + 1 ≠ g; omega) (.slice (some ⟨g9, 0, none⟩) (k + 1) c9)
      have r0 := ownsRow_setCell_below HOW.out (a := ⟨g, 7, none⟩) (by show g < g + 1; omega) (.slice (some ⟨g9, 0, none⟩) (k + 1) c9)
      have r1 := ownsRow_setCell_below hot (a := ⟨g, 7, none⟩) (by show g < g + 1; omega) (.slice (some ⟨g9, 0, none⟩) (k + 1) c9)
      have bz := hB9.setCell (p := ⟨g, 7, none⟩) (Nat.le_refl _) (.slice (some ⟨g9, 0, none⟩) (k + 1) c9)
      have sz : w.heap.size < ((Y2).setCell ⟨g, 7, none⟩ (.slice (some ⟨g9, 0, none⟩) (k + 1) c9)).heap.size := by simpa using hgs9
      rw [hZ] at kz f0 f1 r0 r1 bz sz
      rw [hZ]
      exact key g9 c9 Z ⟨Lib.hid ⟨kz, (by rw [show nums (R ++ [9223372036854775807]) = nums R ++ [.int .i64 9223372036854775807] from by simp [nums]]; exact r0), r1, hapn⟩, Lib.hid f0, Lib.hid f1, Lib.hid bz, Lib.hid sz⟩
    exact AllReadyH.nil
  -- END 1
  · rintro gr kr W2 ⟨HC2, HK2, HK3, HB2, HG2⟩
    clear HC HK0 HK1 HB0 HGS
    have HC := HC2
    have HK0 := HK2
    have HK1 := HK3
    have HB0 := HB2
    have HGS := HG2
    clear HC2 HK2 HK3 HB2 HG2
    dsimp only [NoP]
    gi_wp2_with fail
    refine wpIn_wide.2 (wp_nop ?_)
    -- REGION 2
    have c0 := HK0.out.one.1
    refine wp_region_held_drew (S := (fun w' => w'.cell? ⟨w.heap.size, 0, none⟩ = some (.pointer (some ⟨g, 0, none⟩)))) (by kernel_rfl) c0 ?_
    intro hHeld
    obtain ⟨XB, hXB⟩ : ∃ X, W2.drew = X := ⟨_, rfl⟩
    rw [hXB] at hHeld
    replace HC := Lib.hid (show CO XB _ _ _ _ _ _ _ _ _ _ _ _ _ from hXB ▸ HC.out.drew)
    replace HK0 := Lib.hid (show Blk XB _ _ _ from hXB ▸ HK0.out.drew)
    replace HK1 := Lib.hid (show Blk XB _ _ _ from hXB ▸ HK1.out.drew)
    replace HB0 := Lib.hid (show Below g w XB from hXB ▸ HB0.out.drew)
    replace HGS := Lib.hid (show w.heap.size < XB.heap.size from hXB ▸ HGS.out)
    rw [hXB]
    clear hXB c0
    have d7 := HC.out.blk.eleven.2.2.2.2.2.2.2.2.1
    apply cutA (F := fun gh kh wx => Hid (CO wx g b A n c (.slice (some ⟨gr, 0, none⟩) (k + 1) kr) (.slice (some ⟨gh, 0, none⟩) (k + 1) kh) (k + 1) (k + 1) (R ++ [9223372036854775807]) (H ++ [(0, 0)]) ft vp) ∧ Hid (Blk wx w.heap.size 109 #[.pointer (some ⟨g, 0, none⟩)]) ∧ Hid (Blk wx (w.heap.size + 1) 3 #[.int .i64 k]) ∧ Hid (Below g w wx) ∧ Hid (w.heap.size < wx.heap.size))
    · intro key
      refine wpAnyH_take (i := 0) (oi := { dst := some 14, op := Go.Op.load 109 (Go.Operand.tmp 2), type := 109, pos := "course.go:63", after := #[], guard := none }) (v := ?vt201) rfl (by kernel_rfl) (by kernel_rfl) (by kernel_rfl) (fun _ _ _ h => h) (Or.inl ⟨by rfl, ?ht201⟩) hHeld ?_
      case ht201 => intro w hSw; skip; go_simp; try with_reducible rfl
      simp only [Act.put, List.setIfInBounds_toArray, List.set_cons_zero, List.set_cons_succ]
      refine wpAnyH_take (i := 1) (oi := { dst := some 15, op := Go.Op.load 109 (Go.Operand.tmp 2), type := 109, pos := "course.go:63", after := #[], guard := none }) (v := ?vt202) rfl (by kernel_rfl) (by kernel_rfl) (by kernel_rfl) (fun _ _ _ h => h) (Or.inl ⟨by rfl, ?ht202⟩) hHeld ?_
      case ht202 => intro w hSw; skip; go_simp; try with_reducible rfl
      simp only [Act.put, List.setIfInBounds_toArray, List.set_cons_zero, List.set_cons_succ]
      refine wpAnyH_take (i := 2) (oi := { dst := some 16, op := Go.Op.nilCheck (Go.Operand.tmp 15), type := 0, pos := "course.go:63", after := #[{ on := 1, ground := Go.Ground.data }], guard := none }) (v := ?vt203) rfl (by kernel_rfl) (by kernel_rfl) (by kernel_rfl) (fun _ _ _ h => h) (Or.inl ⟨by rfl, ?ht203⟩) hHeld ?_
      case ht203 => intro w hSw; skip; go_simp; try with_reducible rfl
      simp only [Act.put, List.setIfInBounds_toArray, List.set_cons_zero, List.set_cons_succ]
      refine wpAnyH_take (i := 3) (oi := { dst := some 17, op := Go.Op.fieldAddr 71 (Go.Operand.tmp 16) 2, type := 0, pos := "course.go:63", after := #[{ on := 2, ground := Go.Ground.data }], guard := none }) (v := ?vt204) rfl (by kernel_rfl) (by kernel_rfl) (by kernel_rfl) (fun _ _ _ h => h) (Or.inl ⟨by rfl, ?ht204⟩) hHeld ?_
      case ht204 => intro w hSw; skip; go_simp; try with_reducible rfl
      simp only [Act.put, List.setIfInBounds_toArray, List.set_cons_zero, List.set_cons_succ]
      refine wpAnyH_take (i := 5) (oi := { dst := some 19, op := Go.Op.build 52 #[], type := 52, pos := "course.go:63", after := #[], guard := none }) (v := ?vt205) rfl (by kernel_rfl) (by kernel_rfl) (by kernel_rfl) (fun _ _ _ h => h) (Or.inl ⟨by rfl, ?ht205⟩) hHeld ?_
      case ht205 => intro w hSw; skip; go_simp; try with_reducible rfl
      simp only [Act.put, List.setIfInBounds_toArray, List.set_cons_zero, List.set_cons_succ]
      refine wpAnyH_ready (rs := [4, 6]) (by kernel_rfl) (by simp) ?_
      refine AllReadyH.cons rfl (fun K hK => ?_) ?_
      · go_simp
        refine hK.out _ _ ?_ (fun hH206 => ?_)
        · exact hHeld
        clear hK K
        refine wpAnyH_ready (rs := [6]) (by kernel_rfl) (by simp) ?_
        refine AllReadyH.cons rfl (fun K hK => ?_) AllReadyH.nil
        go_simp
        obtain ⟨Y1, hY⟩ : ∃ Y, XB.alloc (.cells #[.int .i64 0, .int .i64 0] 52) = Y := ⟨_, rfl⟩
        have hb : Below XB.heap.size XB Y1 := by rw [← hY]; exact below_a _ _
        have HLIT : Hid (Reads Y1 (XB.heap.size + 1) 2 (some ⟨XB.heap.size, 0, none⟩) 1 [.int .i64 0, .int .i64 0]) := Lib.hid ⟨by rfl, fun _ => ⟨_, rfl, by show XB.heap.size < _; omega, by rw [← hY]; exact nine_new XB _ _⟩⟩
        have HLS : Hid (XB.heap.size + 1 ≤ Y1.heap.size) := Lib.hid (by rw [← hY]; simp)
        replace HC := Lib.hid (HC.out.below hb)
        replace HK0 := Lib.hid (HK0.out.below hb HK0.out.lt)
        replace HK1 := Lib.hid (HK1.out.below hb HK1.out.lt)
        replace HB0 := Lib.hid (HB0.out.trans (hb.mono (Nat.le_of_lt (by have := HC.out.blk.lt; have := HGS.out; have := hb.size; omega))))
        replace HGS := Lib.hid (Nat.lt_of_lt_of_le HGS.out hb.size)
        have c0 := HK0.out.one.1
        have d7 := HC.out.blk.eleven.2.2.2.2.2.2.2.2.1
        rw [hY]
        clear hY hb
        refine hK.out _ _ ?_ (fun hH207 => ?_)
        · exact c0
        clear hK K
        refine wpAnyH_ready (rs := [7]) (by kernel_rfl) (by simp) ?_
        refine AllReadyH.cons rfl (fun K hK => ?_) AllReadyH.nil
        refine step_append_any _ rfl (.tmp 18) (.tmp 20) _ rfl (g + 1) 52 i1 _ 2 16 Try.underlying36 HI1.out HY0.out HY1.out HY2.out rfl (by omega) _ k (smpCells H) rfl HC.out.hh _ _ 1 _ [.int .i64 0, .int .i64 0] rfl HLIT.out (by intro u hu; simp only [List.mem_cons, List.not_mem_nil, or_false] at hu; rcases hu with rfl | rfl <;> rfl) (by unfold maxLen; omega) (by omega) (by have := HC.out.blk.lt; omega) ?_
        intro v' Y2 hown' hgrow hblk
        obtain ⟨A9, c9, hv9, hrd9⟩ := own_reads hown'
        obtain ⟨ad9, e9, -, -⟩ := hrd9.2 (by omega)
        subst e9
        obtain ⟨g9, hg9⟩ : ∃ g9, ad9 = ⟨g9, 0, none⟩ := by
          rcases hown'.2 with ⟨h', -⟩ | ⟨g9, cap9, cur9, h', -⟩
          · rw [hv9] at h'; cases h'
          · rw [hv9] at h'; cases h'; exact ⟨_, rfl⟩
        subst hg9
        subst hv9
        have HOW := Lib.hid hown'
        have hrow : ∀ j, vh.ownBlock = some j → w.heap.size ≠ j ∧ w.heap.size + 1 ≠ j ∧ g ≠ j ∧ g + 1 ≤ j := fun j hj => ⟨fun e => by have := HLvh.out j hj; omega, fun e => by have := HLvh.out j hj; omega, fun e => by have := (HC.out.hh.lt j hj).1; omega, (HC.out.hh.lt j hj).1⟩
        have k0n := HK0.out.grown hgrow (fun e => (hrow _ e.symm).1 rfl)
        have k1n := HK1.out.grown hgrow (fun e => (hrow _ e.symm).2.1 rfl)
        have kgn := HC.out.blk.grown hgrow (fun e => (hrow _ e.symm).2.2.1 rfl)
        have hot := HC.out.rr.kept hgrow (HC.out.ap.ne)
        have hapn := HC.out.ap.new (fun j hj => (HC.out.rr.lt j hj).2) hblk
        have hB9 := HB0.out.grown hgrow (by have := HC.out.blk.lt; have := hgrow.size; omega) (fun j hj => by have := (hrow j hj).2.2.2; omega)
        have hgs9 := Nat.lt_of_lt_of_le HGS.out hgrow.size
        have hfrz := kgn.frozen 8
        have hcel := kgn.eleven.2.2.2.2.2.2.2.2.1
        have c0 := k0n.one.1
        refine hK.out _ _ ?_ (fun hH208 => ?_)
        · exact c0
        clear hK K
        refine wpAnyH_take (i := 8) (oi := { dst := some 22, op := Go.Op.nilCheck (Go.Operand.tmp 14), type := 0, pos := "course.go:63", after := #[{ on := 0, ground := Go.Ground.data }, { on := 0, ground := Go.Ground.phase }, { on := 1, ground := Go.Ground.phase }, { on := 2, ground := Go.Ground.phase }, { on := 3, ground := Go.Ground.phase }, { on := 4, ground := Go.Ground.phase }, { on := 5, ground := Go.Ground.phase }, { on := 6, ground := Go.Ground.phase }, { on := 7, ground := Go.Ground.phase }], guard := none }) (v := ?vt209) rfl (by kernel_rfl) (by kernel_rfl) (by kernel_rfl) (fun _ _ _ h => h) (Or.inl ⟨by rfl, ?ht209⟩) hH208 ?_
        case ht209 => intro w hSw; skip; go_simp; try with_reducible rfl
        simp only [Act.put, List.setIfInBounds_toArray]
        refine wpAnyH_take (i := 9) (oi := { dst := some 23, op := Go.Op.fieldAddr 71 (Go.Operand.tmp 22) 2, type := 0, pos := "course.go:63", after := #[{ on := 8, ground := Go.Ground.data }, { on := 0, ground := Go.Ground.phase }, { on := 1, ground := Go.Ground.phase }, { on := 2, ground := Go.Ground.phase }, { on := 3, ground := Go.Ground.phase }, { on := 4, ground := Go.Ground.phase }, { on := 5, ground := Go.Ground.phase }, { on := 6, ground := Go.Ground.phase }, { on := 7, ground := Go.Ground.phase }], guard := none }) (v := ?vt210) rfl (by kernel_rfl) (by kernel_rfl) (by kernel_rfl) (fun _ _ _ h => h) (Or.inl ⟨by rfl, ?ht210⟩) hH208 ?_
        case ht210 => intro w hSw; skip; go_simp; try with_reducible rfl
        simp only [Act.put]
        refine wpAnyH_ready (rs := [10]) (by kernel_rfl) (by simp) ?_
        refine AllReadyH.cons rfl (fun K hK => ?_) AllReadyH.nil
        go_simp
        refine hK.out _ _ ?_ (fun hH211 => ?_)
        · exact (World.cell?_setCell_other _ _ _ _ (by first | (simp; done) | (simp; omega))).trans c0
        clear hK K
        refine wpAnyH_done (by kernel_rfl) ?_ _
        obtain ⟨Z, hZ⟩ : ∃ Z, (Y2).setCell ⟨g, 8, none⟩ (.slice (some ⟨g9, 0, none⟩) (k + 1) c9) = Z := ⟨_, rfl⟩
        have kz := (kgn.set_ 8 (.slice (some ⟨g9, 0, none⟩) (k + 1) c9)).cast (cs' := #[.int .i64 b.per, .int .i64 b.rim, .int .i64 b.core, .int .i64 b.land, .int .i64 b.slow, .int .i64 b.fast, .slice A n c, .slice (some ⟨gr, 0, none⟩) (k + 1) kr, .slice (some ⟨g9, 0, none⟩) (k + 1) c9, .int .i64 ft, vp]) rfl
        have f0 := k0n.far (p := ⟨g, 8, none⟩) (by show w.heap.size ≠ g; omega) (.slice (some ⟨g9, 0, none⟩) (k + 1) c9)
        have f1 := k1n.far (p := ⟨g, 8, none⟩) (by show w.heap.size + 1 ≠ g; omega) (.slice (some ⟨g9, 0, none⟩) (k + 1) c9)
        have r0 := ownsRow_setCell_below hot (a := ⟨g, 8, none⟩) (by show g < g + 1; omega) (.slice (some ⟨g9, 0, none⟩) (k + 1) c9)
        have r1 := ownsRow_setCell_below (show _ from by have h := HOW.out; rw [← smpCells_snoc H (0, 0)] at h; exact h) (a := ⟨g, 8, none⟩) (by show g < g + 1; omega) (.slice (some ⟨g9, 0, none⟩) (k + 1) c9)
        have bz := hB9.setCell (p := ⟨g, 8, none⟩) (Nat.le_refl _) (.slice (some ⟨g9, 0, none⟩) (k + 1) c9)
        have sz : w.heap.size < ((Y2).setCell ⟨g, 8, none⟩ (.slice (some ⟨g9, 0, none⟩) (k + 1) c9)).heap.size := by simpa using hgs9
        rw [hZ] at kz f0 f1 r0 r1 bz sz
        rw [hZ]
        exact key g9 c9 Z ⟨Lib.hid ⟨kz, r0, r1, hapn⟩, Lib.hid f0, Lib.hid f1, Lib.hid bz, Lib.hid sz⟩
      refine AllReadyH.cons rfl (fun K hK => ?_) ?_
      · go_simp
        obtain ⟨Y1, hY⟩ : ∃ Y, XB.alloc (.cells #[.int .i64 0, .int .i64 0] 52) = Y := ⟨_, rfl⟩
        have hb : Below XB.heap.size XB Y1 := by rw [← hY]; exact below_a _ _
        have HLIT : Hid (Reads Y1 (XB.heap.size + 1) 2 (some ⟨XB.heap.size, 0, none⟩) 1 [.int .i64 0, .int .i64 0]) := Lib.hid ⟨by rfl, fun _ => ⟨_, rfl, by show XB.heap.size < _; omega, by rw [← hY]; exact nine_new XB _ _⟩⟩
        have HLS : Hid (XB.heap.size + 1 ≤ Y1.heap.size) := Lib.hid (by rw [← hY]; simp)
        replace HC := Lib.hid (HC.out.below hb)
        replace HK0 := Lib.hid (HK0.out.below hb HK0.out.lt)
        replace HK1 := Lib.hid (HK1.out.below hb HK1.out.lt)
        replace HB0 := Lib.hid (HB0.out.trans (hb.mono (Nat.le_of_lt (by have := HC.out.blk.lt; have := HGS.out; have := hb.size; omega))))
        replace HGS := Lib.hid (Nat.lt_of_lt_of_le HGS.out hb.size)
        have c0 := HK0.out.one.1
        have d7 := HC.out.blk.eleven.2.2.2.2.2.2.2.2.1
        rw [hY]
        clear hY hb
        refine hK.out _ _ ?_ (fun hH212 => ?_)
        · exact c0
        clear hK K
        refine wpAnyH_ready (rs := [4]) (by kernel_rfl) (by simp) ?_
        refine AllReadyH.cons rfl (fun K hK => ?_) AllReadyH.nil
        go_simp
        refine hK.out _ _ ?_ (fun hH213 => ?_)
        · exact hH212
        clear hK K
        refine wpAnyH_ready (rs := [7]) (by kernel_rfl) (by simp) ?_
        refine AllReadyH.cons rfl (fun K hK => ?_) AllReadyH.nil
        refine step_append_any _ rfl (.tmp 18) (.tmp 20) _ rfl (g + 1) 52 i1 _ 2 16 Try.underlying36 HI1.out HY0.out HY1.out HY2.out rfl (by omega) _ k (smpCells H) rfl HC.out.hh _ _ 1 _ [.int .i64 0, .int .i64 0] rfl HLIT.out (by intro u hu; simp only [List.mem_cons, List.not_mem_nil, or_false] at hu; rcases hu with rfl | rfl <;> rfl) (by unfold maxLen; omega) (by omega) (by have := HC.out.blk.lt; omega) ?_
        intro v' Y2 hown' hgrow hblk
        obtain ⟨A9, c9, hv9, hrd9⟩ := own_reads hown'
        obtain ⟨ad9, e9, -, -⟩ := hrd9.2 (by omega)
        subst e9
        obtain ⟨g9, hg9⟩ : ∃ g9, ad9 = ⟨g9, 0, none⟩ := by
          rcases hown'.2 with ⟨h', -⟩ | ⟨g9, cap9, cur9, h', -⟩
          · rw [hv9] at h'; cases h'
          · rw [hv9] at h'; cases h'; exact ⟨_, rfl⟩
        subst hg9
        subst hv9
        have HOW := Lib.hid hown'
        have hrow : ∀ j, vh.ownBlock = some j → w.heap.size ≠ j ∧ w.heap.size + 1 ≠ j ∧ g ≠ j ∧ g + 1 ≤ j := fun j hj => ⟨fun e => by have := HLvh.out j hj; omega, fun e => by have := HLvh.out j hj; omega, fun e => by have := (HC.out.hh.lt j hj).1; omega, (HC.out.hh.lt j hj).1⟩
        have k0n := HK0.out.grown hgrow (fun e => (hrow _ e.symm).1 rfl)
        have k1n := HK1.out.grown hgrow (fun e => (hrow _ e.symm).2.1 rfl)
        have kgn := HC.out.blk.grown hgrow (fun e => (hrow _ e.symm).2.2.1 rfl)
        have hot := HC.out.rr.kept hgrow (HC.out.ap.ne)
        have hapn := HC.out.ap.new (fun j hj => (HC.out.rr.lt j hj).2) hblk
        have hB9 := HB0.out.grown hgrow (by have := HC.out.blk.lt; have := hgrow.size; omega) (fun j hj => by have := (hrow j hj).2.2.2; omega)
        have hgs9 := Nat.lt_of_lt_of_le HGS.out hgrow.size
        have hfrz := kgn.frozen 8
        have hcel := kgn.eleven.2.2.2.2.2.2.2.2.1
        have c0 := k0n.one.1
        refine hK.out _ _ ?_ (fun hH214 => ?_)
        · exact c0
        clear hK K
        refine wpAnyH_take (i := 8) (oi := { dst := some 22, op := Go.Op.nilCheck (Go.Operand.tmp 14), type := 0, pos := "course.go:63", after := #[{ on := 0, ground := Go.Ground.data }, { on := 0, ground := Go.Ground.phase }, { on := 1, ground := Go.Ground.phase }, { on := 2, ground := Go.Ground.phase }, { on := 3, ground := Go.Ground.phase }, { on := 4, ground := Go.Ground.phase }, { on := 5, ground := Go.Ground.phase }, { on := 6, ground := Go.Ground.phase }, { on := 7, ground := Go.Ground.phase }], guard := none }) (v := ?vt215) rfl (by kernel_rfl) (by kernel_rfl) (by kernel_rfl) (fun _ _ _ h => h) (Or.inl ⟨by rfl, ?ht215⟩) hH214 ?_
        case ht215 => intro w hSw; skip; go_simp; try with_reducible rfl
        simp only [Act.put, List.setIfInBounds_toArray]
        refine wpAnyH_take (i := 9) (oi := { dst := some 23, op := Go.Op.fieldAddr 71 (Go.Operand.tmp 22) 2, type := 0, pos := "course.go:63", after := #[{ on := 8, ground := Go.Ground.data }, { on := 0, ground := Go.Ground.phase }, { on := 1, ground := Go.Ground.phase }, { on := 2, ground := Go.Ground.phase }, { on := 3, ground := Go.Ground.phase }, { on := 4, ground := Go.Ground.phase }, { on := 5, ground := Go.Ground.phase }, { on := 6, ground := Go.Ground.phase }, { on := 7, ground := Go.Ground.phase }], guard := none }) (v := ?vt216) rfl (by kernel_rfl) (by kernel_rfl) (by kernel_rfl) (fun _ _ _ h => h) (Or.inl ⟨by rfl, ?ht216⟩) hH214 ?_
        case ht216 => intro w hSw; skip; go_simp; try with_reducible rfl
        simp only [Act.put]
        refine wpAnyH_ready (rs := [10]) (by kernel_rfl) (by simp) ?_
        refine AllReadyH.cons rfl (fun K hK => ?_) AllReadyH.nil
        go_simp
        refine hK.out _ _ ?_ (fun hH217 => ?_)
        · exact (World.cell?_setCell_other _ _ _ _ (by first | (simp; done) | (simp; omega))).trans c0
        clear hK K
        refine wpAnyH_done (by kernel_rfl) ?_ _
        obtain ⟨Z, hZ⟩ : ∃ Z, (Y2).setCell ⟨g, 8, none⟩ (.slice (some ⟨g9, 0, none⟩) (k + 1) c9) = Z := ⟨_, rfl⟩
        have kz := (kgn.set_ 8 (.slice (some ⟨g9, 0, none⟩) (k + 1) c9)).cast (cs' := #[.int .i64 b.per, .int .i64 b.rim, .int .i64 b.core, .int .i64 b.land, .int .i64 b.slow, .int .i64 b.fast, .slice A n c, .slice (some ⟨gr, 0, none⟩) (k + 1) kr, .slice (some ⟨g9, 0, none⟩) (k + 1) c9, .int .i64 ft, vp]) rfl
        have f0 := k0n.far (p := ⟨g, 8, none⟩) (by show w.heap.size ≠ g; omega) (.slice (some ⟨g9, 0, none⟩) (k + 1) c9)
        have f1 := k1n.far (p := ⟨g, 8, none⟩) (by show w.heap.size + 1 ≠ g; omega) (.slice (some ⟨g9, 0, none⟩) (k + 1) c9)
        have r0 := ownsRow_setCell_below hot (a := ⟨g, 8, none⟩) (by show g < g + 1; omega) (.slice (some ⟨g9, 0, none⟩) (k + 1) c9)
        have r1 := ownsRow_setCell_below (show _ from by have h := HOW.out; rw [← smpCells_snoc H (0, 0)] at h; exact h) (a := ⟨g, 8, none⟩) (by show g < g + 1; omega) (.slice (some ⟨g9, 0, none⟩) (k + 1) c9)
        have bz := hB9.setCell (p := ⟨g, 8, none⟩) (Nat.le_refl _) (.slice (some ⟨g9, 0, none⟩) (k + 1) c9)
        have sz : w.heap.size < ((Y2).setCell ⟨g, 8, none⟩ (.slice (some ⟨g9, 0, none⟩) (k + 1) c9)).heap.size := by simpa using hgs9
        rw [hZ] at kz f0 f1 r0 r1 bz sz
        rw [hZ]
        exact key g9 c9 Z ⟨Lib.hid ⟨kz, r0, r1, hapn⟩, Lib.hid f0, Lib.hid f1, Lib.hid bz, Lib.hid sz⟩
      exact AllReadyH.nil
    -- END 2
    · rintro gh kh W3 ⟨HC3, HK2, HK3, HB2, HG2⟩
      clear HC HK0 HK1 HB0 HGS
      have HC := HC3
      have HK0 := HK2
      have HK1 := HK3
      have HB0 := HB2
      have HGS := HG2
      clear HC3 HK2 HK3 HB2 HG2
      dsimp only [NoP]
      gi_wp2_with fail
      refine wpIn_wide.2 (wp_nop ?_)
      -- REGION 3
      refine wp_region_held_drew (S := fun w' => Below W3.heap.size W3 w') (by kernel_rfl) (Below.refl _ W3).drew ?_
      intro hHeld
      refine wpAnyH_take (i := 0) (oi := { dst := some 24, op := Go.Op.load 109 (Go.Operand.tmp 2), type := 109, pos := "course.go:64", after := #[], guard := none }) (v := ?vt301) rfl (by kernel_rfl) (by kernel_rfl) (by kernel_rfl) (fun _ _ _ h => h) (Or.inl ⟨by rfl, ?ht301⟩) hHeld ?_
      case ht301 => intro w hSw; have c0 := (HK0.out.below hSw HK0.out.lt).one.1; have c1 := (HK1.out.below hSw HK1.out.lt).one.1; obtain ⟨s0, s1, s2, s3, s4, s5, s6, -, -, -, -⟩ := (HC.out.blk.below hSw HC.out.blk.lt).eleven; go_simp; try with_reducible rfl
      simp only [Act.put, List.setIfInBounds_toArray, List.set_cons_zero, List.set_cons_succ]
      refine wpAnyH_take (i := 1) (oi := { dst := some 25, op := Go.Op.nilCheck (Go.Operand.tmp 24), type := 0, pos := "course.go:64", after := #[{ on := 0, ground := Go.Ground.data }], guard := none }) (v := ?vt302) rfl (by kernel_rfl) (by kernel_rfl) (by kernel_rfl) (fun _ _ _ h => h) (Or.inl ⟨by rfl, ?ht302⟩) hHeld ?_
      case ht302 => intro w hSw; have c0 := (HK0.out.below hSw HK0.out.lt).one.1; have c1 := (HK1.out.below hSw HK1.out.lt).one.1; obtain ⟨s0, s1, s2, s3, s4, s5, s6, -, -, -, -⟩ := (HC.out.blk.below hSw HC.out.blk.lt).eleven; go_simp; try with_reducible rfl
      simp only [Act.put, List.setIfInBounds_toArray, List.set_cons_zero, List.set_cons_succ]
      refine wpAnyH_take (i := 2) (oi := { dst := some 26, op := Go.Op.fieldAddr 71 (Go.Operand.tmp 25) 0, type := 0, pos := "course.go:64", after := #[{ on := 1, ground := Go.Ground.data }], guard := none }) (v := ?vt303) rfl (by kernel_rfl) (by kernel_rfl) (by kernel_rfl) (fun _ _ _ h => h) (Or.inl ⟨by rfl, ?ht303⟩) hHeld ?_
      case ht303 => intro w hSw; have c0 := (HK0.out.below hSw HK0.out.lt).one.1; have c1 := (HK1.out.below hSw HK1.out.lt).one.1; obtain ⟨s0, s1, s2, s3, s4, s5, s6, -, -, -, -⟩ := (HC.out.blk.below hSw HC.out.blk.lt).eleven; go_simp; try with_reducible rfl
      simp only [Act.put, List.setIfInBounds_toArray, List.set_cons_zero, List.set_cons_succ]
      refine wpAnyH_take (i := 3) (oi := { dst := some 27, op := Go.Op.load 69 (Go.Operand.tmp 26), type := 69, pos := "course.go:64", after := #[{ on := 2, ground := Go.Ground.data }], guard := none }) (v := ?vt304) rfl (by kernel_rfl) (by kernel_rfl) (by kernel_rfl) (fun _ _ _ h => h) (Or.inl ⟨by rfl, ?ht304⟩) hHeld ?_
      case ht304 => intro w hSw; have c0 := (HK0.out.below hSw HK0.out.lt).one.1; have c1 := (HK1.out.below hSw HK1.out.lt).one.1; obtain ⟨s0, s1, s2, s3, s4, s5, s6, -, -, -, -⟩ := (HC.out.blk.below hSw HC.out.blk.lt).eleven; go_simp; try with_reducible rfl
      simp only [Act.put, List.setIfInBounds_toArray, List.set_cons_zero, List.set_cons_succ]
      refine wpAnyH_take (i := 4) (oi := { dst := some 28, op := Go.Op.load 3 (Go.Operand.tmp 3), type := 3, pos := "course.go:64", after := #[], guard := none }) (v := ?vt305) rfl (by kernel_rfl) (by kernel_rfl) (by kernel_rfl) (fun _ _ _ h => h) (Or.inl ⟨by rfl, ?ht305⟩) hHeld ?_
      case ht305 => intro w hSw; have c0 := (HK0.out.below hSw HK0.out.lt).one.1; have c1 := (HK1.out.below hSw HK1.out.lt).one.1; obtain ⟨s0, s1, s2, s3, s4, s5, s6, -, -, -, -⟩ := (HC.out.blk.below hSw HC.out.blk.lt).eleven; go_simp; try with_reducible rfl
      simp only [Act.put, List.setIfInBounds_toArray, List.set_cons_zero, List.set_cons_succ]
      refine wpAnyH_ready (rs := [5]) (by kernel_rfl) (by simp) ?_
      refine AllReadyH.cons rfl (fun K hK => ?_) AllReadyH.nil
      go_simp
      refine (edgesAt_any A n c b k _).mono ?_
      rintro e W4 ⟨rfl, hW4⟩
      have hb4 : Below W3.heap.size W3 W4 := by rw [← hW4]; exact (((Below.refl _ W3).drew).alloc (Nat.le_refl _) _).alloc (by simp) _
      have kS : Blk W4 W3.heap.size 69 #[.int .i64 b.per, .int .i64 b.rim, .int .i64 b.core, .int .i64 b.land, .int .i64 b.slow, .int .i64 b.fast, .slice A n c] := by rw [← hW4]; exact (Blk.new W3.drew _ _).alloc _
      have kI : Blk W4 (W3.heap.size + 1) 3 #[.int .i64 k] := by rw [← hW4]; exact blk_al (by simp)
      clear hW4
      refine hK.out _ _ ?_ (fun hH306 => ?_)
      · exact hb4
      clear hK K
      refine wpAnyH_done (by kernel_rfl) ?_ _
      -- END 3
      dsimp only [NoP]
      gi_wp2_with fail
      have HW4 := Lib.hid hb4
      have hr1 := own_ge HC.out.rr
      have hr2 := own_ge HC.out.hh
      have hr3 : gr ≠ gh := fun e => HC.out.ap gr rfl (by rw [e]; rfl)
      have hs4 := hb4.size
      have z1 := kI.lt
      replace HC := Lib.hid (HC.out.below hb4)
      replace HK0 := Lib.hid (HK0.out.below hb4 HK0.out.lt)
      replace HK1 := Lib.hid (HK1.out.below hb4 HK1.out.lt)
      have hg3 : g < W3.heap.size := by have := HB0.out.size; have := HGS.out; omega
      replace HB0 := Lib.hid (HB0.out.trans (hb4.mono (Nat.le_of_lt hg3)))
      have HNR : Hid (gr < W3.heap.size ∧ gh < W3.heap.size ∧ gr ≠ gh) := Lib.hid ⟨hr1.2, hr2.2, hr3⟩
      have NGA : Hid (∀ ad, A = some ad → ¬ (ad.block = gr ∨ ad.block = gh)) := Lib.hid (fun ad e => by
        obtain ⟨ad', e', hb', -⟩ := HP.out.2.2 (by omega)
        rw [e] at e'; cases e'
        have := hr1.1; have := hr2.1; omega)
      have SEQ := edgesAt1_stops (12 - 1) W3.heap.size (W3.heap.size + 1) (fun j => j = gr ∨ j = gh) B A n c b P k W4 (by omega) kS kI (by have := HNR.out; omega) (by have := HNR.out; omega) (HP.out.below (HB0.out) hB) (by omega) NGA.out (by omega) HB.out HOK.out
      clear hb4 kS kI hHeld hH306
      refine wpIn_rangeFunc_ownH rfl (by omega) (gf := 77) (lb := #[.pointer (some ⟨W3.heap.size, 0, none⟩), .pointer (some ⟨W3.heap.size + 1, 0, none⟩)]) rfl trivial (enters_of Try.func77 (by kernel_rfl) rfl)
        SEQ belK_t (belK_b) (Below.refl _ _) (fun _ => rfl)
        (fun pre X => CO X g b A n c (.slice (some ⟨gr, 0, none⟩) (k + 1) kr) (.slice (some ⟨gh, 0, none⟩) (k + 1) kh) (k + 1) (k + 1) ((pre.map (·.1)).foldl (lw k) (R ++ [9223372036854775807], H ++ [(0, 0)])).1 ((pre.map (·.1)).foldl (lw k) (R ++ [9223372036854775807], H ++ [(0, 0)])).2 ft vp ∧ Blk X w.heap.size 109 #[.pointer (some ⟨g, 0, none⟩)] ∧ Blk X (w.heap.size + 1) 3 #[.int .i64 k] ∧ Below g w X ∧ W4.heap.size ≤ X.heap.size)
        (fun _ _ _ => False)
        ?hI ?hIx ?h0 (fun x a' X => ∃ bp, W4.heap.size ≤ bp ∧ Blk X bp 78 #[.int .i64 x.1.1, .int .i64 x.1.2.1, .int .i64 x.1.2.2.1, .int .i64 x.1.2.2.2.1, .int .i64 x.1.2.2.2.2] ∧ a' = { tmps := #[.pointer (some ⟨g, 0, none⟩), .int .i64 k, .pointer (some ⟨w.heap.size, 0, none⟩), .pointer (some ⟨w.heap.size + 1, 0, none⟩), .pointer (some ⟨bp, 0, none⟩), .pointer (some ⟨g, 0, none⟩), .pointer (some ⟨g, 0, none⟩), .pointer (some ⟨g, 0, none⟩), .pointer (some ⟨g, 7, none⟩), vr, .slice (some ⟨XA.heap.size, 0, none⟩) 1 1, .slice (some ⟨gr, 0, none⟩) (k + 1) kr, .pointer (some ⟨g, 0, none⟩), .pointer (some ⟨g, 7, none⟩), .pointer (some ⟨g, 0, none⟩), .pointer (some ⟨g, 0, none⟩), .pointer (some ⟨g, 0, none⟩), .pointer (some ⟨g, 8, none⟩), vh, .agg #[.int .i64 0, .int .i64 0], .slice (some ⟨XB.heap.size, 0, none⟩) 1 1, .slice (some ⟨gh, 0, none⟩) (k + 1) kh, .pointer (some ⟨g, 0, none⟩), .pointer (some ⟨g, 8, none⟩), .pointer (some ⟨g, 0, none⟩), .pointer (some ⟨g, 0, none⟩), .pointer (some ⟨g, 0, none⟩), .agg #[.int .i64 b.per, .int .i64 b.rim, .int .i64 b.core, .int .i64 b.land, .int .i64 b.slow, .int .i64 b.fast, .slice A n c], .int .i64 k, .func (.func 77) #[] #[.pointer (some ⟨W3.heap.size, 0, none⟩), .pointer (some ⟨W3.heap.size + 1, 0, none⟩)], .agg #[.int .i64 x.1.1, .int .i64 x.1.2.1, .int .i64 x.1.2.2.1, .int .i64 x.1.2.2.2.1, .int .i64 x.1.2.2.2.2], undef, undef, undef, undef, undef, undef, undef], defers := [] }) ?hAx ?assign ?body ?done ?stop
      case hI =>
        rintro s X Y row ⟨i1, i2, i3, i4, i5⟩ hgr hr
        have hk := fun r e => (hr r e).2
        exact ⟨i1.kept hgr hk, blk_keptR i2 hgr hk, blk_keptR i3 hgr hk, i4.grown hgr (by have := i4.size; omega) (fun q e => by have := (hr q e).1; omega), Nat.le_trans i5 hgr.size⟩
      case hIx => rintro cd s X Y row h; exact h.elim
      case h0 => exact ⟨HC.out, HK0.out, HK1.out, HB0.out, Nat.le_refl _⟩
      case hAx =>
        rintro x a' s X Y row ⟨bp, h1, h2, h3⟩ hgr hr
        exact ⟨bp, h1, blk_keptR h2 hgr (fun r e => (hr r e).2), h3⟩
      case assign =>
        rintro l' pre x X K ⟨i1, i2, i3, i4, i5⟩ hK
        dsimp only [encD, edCells]
        gi_wp2
        have hG := World.grownBy_alloc X (.cells #[.int .i64 x.1.1, .int .i64 x.1.2.1, .int .i64 x.1.2.2.1, .int .i64 x.1.2.2.2.1, .int .i64 x.1.2.2.2.2] 78) none
        exact hK _ _ (KeepsFrom.of_grownBy hG (by simp)) ((Bel.refl _ X).alloc _) ⟨i1.kept hG (by simp), i2.alloc _, i3.alloc _, i4.alloc (by have := i4.size; omega) _, by simp; omega⟩ ⟨X.heap.size, i5, Blk.new _ _ _, rfl⟩
      case body =>
        rintro L pre x a' X hL hrec ⟨i1, i2, i3, i4, i5⟩ ⟨bp, hbp, hBx, rfl⟩ hlen
        have hie := isEd_of HB.out x.2
        obtain ⟨⟨R', H'⟩, hS⟩ : ∃ S, (pre.map (·.1)).foldl (lw k) (R ++ [9223372036854775807], H ++ [(0, 0)]) = S := ⟨_, rfl⟩
        have hSn : ((pre ++ [x]).map (·.1)).foldl (lw k) (R ++ [9223372036854775807], H ++ [(0, 0)]) = lw k (R', H') x.1 := by rw [List.map_append, List.map_singleton, lws_snoc, hS]
        have hfx : ∀ j, j < k → fx R' j = fx R j := fun j hj => by
          have h := lws_fx (k := k) (j := j) (by omega) (pre.map (·.1)) (R ++ [9223372036854775807], H ++ [(0, 0)])
          rw [hS] at h
          rw [h, fx_snoc, if_pos (by have := HLR.out; omega)]
        rw [hS] at i1
        dsimp only at i1
        have HSN := Lib.hid hSn
        have I1 := Lib.hid i1
        have I2 := Lib.hid i2
        have I3 := Lib.hid i3
        have I4 := Lib.hid i4
        have HBX := Lib.hid hBx
        have c0 := i2.one.1
        have c1 := i3.one.1
        obtain ⟨q0, q1, q2, q3, q4, -⟩ := hBx.five
        obtain ⟨⟨e1, e2, e3, e4, e5⟩, hmem⟩ := x
        dsimp only at hie q0 q1 q2 q3 q4 HSN ⊢
        have hgb : g < X.heap.size := i1.blk.lt
        have hww : w.heap.size < X.heap.size := i2.lt
        have hb5 : w.heap.size ≠ gr ∧ w.heap.size ≠ gh ∧ w.heap.size + 1 ≠ gr ∧ w.heap.size + 1 ≠ gh := ⟨own_ne i2 i1.rr (by decide), own_ne i2 i1.hh (by decide), own_ne i3 i1.rr (by decide), own_ne i3 i1.hh (by decide)⟩
        have HBB := Lib.hid hb5
        clear hS hSn i1 i2 i3 i4 hBx hlen hb5
        by_cases hto : e4 = (k : Int)
        · have hbd : (e3 = -1 ∨ (0 ≤ e3 ∧ e3 < ((k + 1 : Nat) : Int))) ∧ (-1073741824 ≤ e5 ∧ e5 ≤ 1073741824) ∧ (-1152921504606846976 ≤ rad R' e3 ∧ rad R' e3 ≤ 1152921504606846976) := by
            have a1 := HB.out.per1
            have a2 := HB.out.rim
            have a3 := HB.out.core
            have a4 := HB.out.corim
            have a5 := HB.out.land1
            have a6 := HB.out.land2
            have a7 := HB.out.slow
            have a8 := HB.out.slowfast
            have a9 := HB.out.fast
            have b1 := HOK.out.at_ k
            have b2 := HOK.out.at_ (k - b.per.toNat)
            have hrd : ∀ j : Nat, j < k → -1152921504606846976 ≤ rad R' (j : Int) ∧ rad R' (j : Int) ≤ 1152921504606846976 := fun j hj => by
              rw [rad_nat, hfx j hj]; have := HR.out j hj; omega
            cases hie with
            | rim => exact ⟨.inl rfl, by omega, by rw [rad_none]; omega⟩
            | core => omega
            | slow h => exact ⟨.inr (by omega), by omega, hrd _ (by omega)⟩
            | fast h => omega
            | land h => exact ⟨.inr (by omega), by unfold wLand; omega, hrd _ (by omega)⟩
          subst hto
          obtain ⟨d1, d2, d3⟩ := hbd
          have CL := Lib.hid (lower_any (g + 1) g gr gh (k + 1) kr kh n c k A b ft vp R' H' e1 e2 e3 e5 X I1.out.blk I1.out.rr I1.out.hh HNR.out.2.2 (by have := own_ge I1.out.rr; omega) (by omega) d1 (by omega) d2 d3)
          clear d1 d2 d3 hie hfx
          have f64 : Fence.wide.fn 64 := trivial
          gi_wp2_with (gi_at_call 64; refine (CallsIn.inRound L (callsIn_wide.2 CL.out)).mono ?_; rintro e w8 ⟨rfl, hp1, hp2⟩; have HP1 := Lib.hid hp1; have HP2 := Lib.hid hp2; clear hp1 hp2)
          obtain ⟨m1, m2, m3, m4⟩ := HBB.out
          show KeepsFrom _ _ _ ∧ Bel _ _ _ ∧ CO _ _ _ _ _ _ _ _ _ _ _ _ _ _ ∧ _
          rw [HSN.out]
          cases hq : kpt R' e3 (k : Int) e5 with
          | true =>
            have hb8 := HP1.out hq
            have hlw : lw k (R', H') (e1, e2, e3, (k : Int), e5) = (R', H') := by
              unfold lw kptE
              rw [if_neg (by simp only [hq]; simp)]
            rw [hlw]
            exact ⟨keepsFrom_of _ hb8, Bel.of_below hb8, I1.out.below hb8, I2.out.below hb8 hww, I3.out.below hb8 I3.out.lt, I4.out.trans (hb8.mono (Nat.le_of_lt hgb)), Nat.le_trans i5 hb8.size⟩
          | false =>
            have hl := HP2.out hq
            have hlw : lw k (R', H') (e1, e2, e3, (k : Int), e5) = (R'.set k (rad R' e3 + e5), H'.set k (e1, e2)) := by
              unfold lw kptE
              rw [if_pos (by simp only [hq]; simp)]
            rw [hlw]
            exact ⟨hl.keeps _, hl.bel, ⟨I1.out.blk.below hl.below (by omega), hl.rr, hl.hh, I1.out.ap⟩, I2.out.bel hl.bel (by omega), I3.out.bel hl.bel (by omega), I4.out.trans (hl.below.mono (by omega)), Nat.le_trans i5 hl.below.size⟩
        · have hto2 : (e4 == (k : Int)) = false := by simpa using hto
          gi_wp2
          refine ⟨KeepsFrom.refl _ _, Bel.refl _ _, ?_⟩
          show CO _ _ _ _ _ _ _ _ _ _ _ _ _ _ ∧ _
          rw [HSN.out, lw_other hto]
          exact ⟨I1.out, I2.out, I3.out, I4.out, i5⟩
      case done =>
        rintro D xs X hD hS ⟨i1, i2, i3, i4, i5⟩ hK
        have hfin : (xs.map (·.1)).foldl (lw k) (R ++ [9223372036854775807], H ++ [(0, 0)]) = (R ++ [rk b P k (fx R)], H ++ [hkS b P k (fx R)]) := by
          rw [hS]
          exact lws_eq HB.out (by have := HP.out.1; omega) HLR.out HLH.out (by have := HB.out.rim; have := HOK.out.at_ k; omega)
        rw [hfin] at i1
        have I1 := Lib.hid i1
        have I4 := Lib.hid i4
        have HK := Lib.hid hK
        have HD := Lib.hid hD
        clear i1 i2 i3 i4 hK hS hfin hD
        gi_wp2
        have hgp := grownBy_putObj' X D (.deferred none)
        have hkp : ∀ r', some D = some r' → ∃ o : Obj, X.heap[r']? = some o ∧ o.isCells = false := fun r' e => by cases e; exact ⟨_, HK.out, rfl⟩
        refine ⟨by simp, .inl ⟨_, _, rfl, run_takeDeferred HK.out, ?_⟩⟩
        exact ⟨_, results_none rfl _ _ _, ⟨_, rfl⟩, ⟨gr, gh, kr, kh, I1.out.kept hgp hkp⟩, I4.out.grown hgp (by have := I4.out.size; have := hgp.size; omega) (fun q e => by cases e; have := HD.out; omega)⟩
      case stop =>
        rintro D cd pre X hD hS h; exact h.elim
end Go.Proofs.Ytgdkcbnpgpjnbaa
