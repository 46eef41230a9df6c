/-
  The mathematics and the walk of GrooveWalls.
-/
import Derived.Test.YtaiigdbbpdkamaaK8
import Derived.Test.YtaiigdbbpdkamaaK9
import Derived.Test.YtaiigdbbpdkamaaK6
import Derived.Test.YtaiigdbbpdkamaaN3
import Derived.Test.YtaiigdbbpdkamaaQ0
import Derived.Test.YtaiigdbbpdkamaaA4
namespace Go.Proofs.Ytaiigdbbpdkamaa
open Go.RowKit

theorem slice_smpTo (A : Option Addr) (m n c : Nat) (h : m ≤ c) (W : World) : (Instr.slice 28 (.slice A n c) none (some (.int .i64 (m : Int))) none).run Try.prog W = .ok (.slice A m c) W := by
  rw [run_slice_h (P := Try.prog) W 28 A n c (by rw [el_smps]; exact Try.underlying28) .i64 (m : Int) (by omega) (by omega), el_smps, size_smp]
  by_cases h0 : c = 0
  · subst h0
    simp [sliced, Result.andThen]
  · have e : A.map (fun x => x.add 0) = A := by cases A <;> simp [Addr.add]
    simp [sliced, Result.andThen, h0, e]
theorem rs_pre {W : World} {B : Nat} {A : Option Addr} {n : Nat} {xs : List Smp} (h : RS W B A n xs) (m : Nat) (hm : m ≤ n) : RS W B A m (xs.take m) := by
  obtain ⟨hn, hl, hr⟩ := h
  refine ⟨by rw [List.length_take]; omega, by rw [smpCells_length, List.length_take]; omega, fun h0 => ?_⟩
  obtain ⟨ad, e, hb, hc⟩ := hr (by omega)
  refine ⟨ad, e, hb, fun j u hu => ?_⟩
  have := smpCells_mid xs 0 m (by omega) j u (by simpa using hu)
  rw [Nat.zero_mul, Nat.zero_add] at this
  exact hc _ _ this

set_option maxHeartbeats 400000 in
theorem lawAm_any (x : Int) (w : World) (h1 : -9223372036854775807 ≤ x) (h2 : x ≤ 9223372036854775807) :
    Calls Try.prog 39 #[.int .i64 x] w fun e w' => e = .returned (.int .i64 (am x)) ∧ w = w' := by
  go_enter Try.func39, Try.ntmps39
  go_wp2
  all_goals
    go_ret
    exact ⟨ret_i (by unfold am; omega), rfl⟩

theorem swg_neg (c : Ctr) (x : Int) : swg c (-x) = -(swg c x) := by unfold swg; rw [Int.neg_mul, Int.neg_tdiv]
theorem am_swg {c : Ctr} (hc : CtOk c) (x : Int) : am (swg c x) = (am x * c.gain).tdiv 1000 := by
  have hnn : ∀ y : Int, 0 ≤ y → am (swg c y) = (am y * c.gain).tdiv 1000 := fun y hy => by
    have h1 : am y = y := by unfold am; omega
    have h2 : 0 ≤ swg c y := Int.tdiv_nonneg (Int.mul_nonneg hy hc.g1) (by omega)
    rw [h1]; show am (swg c y) = swg c y; unfold am; omega
  rcases Int.le_total 0 x with h | h
  · exact hnn x h
  · have := hnn (-x) (by omega)
    rwa [swg_neg, am_neg, am_neg] at this
theorem am_swg_mono {c : Ctr} (hc : CtOk c) {x y : Int} (h : am x ≤ am y) : am (swg c x) ≤ am (swg c y) := by
  rw [am_swg hc, am_swg hc]
  have h1 : am x * c.gain ≤ am y * c.gain := Int.mul_le_mul_of_nonneg_right h hc.g1
  have h0 : 0 ≤ am x * c.gain := Int.mul_nonneg (am_nn x) hc.g1
  rw [Int.tdiv_eq_ediv_of_nonneg h0, Int.tdiv_eq_ediv_of_nonneg (by omega)]
  exact Int.ediv_le_ediv (by omega) h1

/-- Three rows of samples of the call's own, apart from each other, beside the cutter's box. -/
structure TS3 (w W : World) (c : Ctr) (nb nm nv : Nat) (sb sm sv : Value) (xb xm xv : List Value) : Prop where
  ob : W.ownsRow (w.heap.size + 1) 25 2 sb nb xb
  om : W.ownsRow (w.heap.size + 1) 25 2 sm nm xm
  ov : W.ownsRow (w.heap.size + 1) 25 2 sv nv xv
  bm : Apart sb sm
  bv : Apart sb sv
  mv : Apart sm sv
  k : Blk W w.heap.size 23 #[.int .i64 c.half, .int .i64 c.gain, .int .i64 c.thin, .int .i64 c.wide, .int .i64 c.slope, .int .i64 c.jerk, .int .i64 c.stylus]
  b : Below w.heap.size w W
section
variable {w W W1 W' : World} {c : Ctr} {nb nm nv : Nat} {sb sm sv : Value} {xb xm xv : List Value}
theorem TS3.below (h : TS3 w W c nb nm nv sb sm sv xb xm xv) (hb : Below W.heap.size W W1) : TS3 w W1 c nb nm nv sb sm sv xb xm xv :=
  ⟨own_below h.ob hb, own_below h.om hb, own_below h.ov hb, h.bm, h.bv, h.mv, h.k.below hb h.k.lt, h.b.trans (hb.mono h.b.size)⟩
theorem TS3.setb {n : Nat} {x : List Value} (h : TS3 w W1 c nb nm nv sb sm sv xb xm xv) {sb' : Value} (hg : W1.grownBy W' sb.ownBlock) (ho : W'.ownsRow (w.heap.size + 1) 25 2 sb' n x) (hb : sb'.ownBlock = sb.ownBlock ∨ sb'.ownBlock = some W1.heap.size) :
    TS3 w W' c n nm nv sb' sm sv x xm xv := by
  refine ⟨ho, h.om.kept hg h.bm.symm.ne, h.ov.kept hg h.bv.symm.ne, (h.bm.symm.new (fun g e => (h.om.lt g e).2) hb).symm, (h.bv.symm.new (fun g e => (h.ov.lt g e).2) hb).symm, h.mv, h.k.grown hg (fun e => ?_), h.b.grown hg h.b.size (fun q e => by have := (h.ob.lt q e).1; omega)⟩
  have := (h.ob.lt _ e.symm).1; omega
theorem TS3.setm {n : Nat} {x : List Value} (h : TS3 w W1 c nb nm nv sb sm sv xb xm xv) {sm' : Value} (hg : W1.grownBy W' sm.ownBlock) (ho : W'.ownsRow (w.heap.size + 1) 25 2 sm' n x) (hb : sm'.ownBlock = sm.ownBlock ∨ sm'.ownBlock = some W1.heap.size) :
    TS3 w W' c nb n nv sb sm' sv xb x xv := by
  refine ⟨h.ob.kept hg h.bm.ne, ho, h.ov.kept hg h.mv.symm.ne, h.bm.new (fun g e => (h.ob.lt g e).2) hb, h.bv, (h.mv.symm.new (fun g e => (h.ov.lt g e).2) hb).symm, h.k.grown hg (fun e => ?_), h.b.grown hg h.b.size (fun q e => by have := (h.om.lt q e).1; omega)⟩
  have := (h.om.lt _ e.symm).1; omega
theorem TS3.setv {n : Nat} {x : List Value} (h : TS3 w W1 c nb nm nv sb sm sv xb xm xv) {sv' : Value} (hg : W1.grownBy W' sv.ownBlock) (ho : W'.ownsRow (w.heap.size + 1) 25 2 sv' n x) (hb : sv'.ownBlock = sv.ownBlock ∨ sv'.ownBlock = some W1.heap.size) :
    TS3 w W' c nb nm n sb sm sv' xb xm x := by
  refine ⟨h.ob.kept hg h.bv.ne, h.om.kept hg h.mv.ne, ho, h.bm, h.bv.new (fun g e => (h.ob.lt g e).2) hb, h.mv.new (fun g e => (h.om.lt g e).2) hb, h.k.grown hg (fun e => ?_), h.b.grown hg h.b.size (fun q e => by have := (h.ov.lt q e).1; omega)⟩
  have := (h.ov.lt _ e.symm).1; omega
end

theorem rng_snoc (f : Nat → Smp) (j : Nat) : smpCells ((List.range (j + 1)).map f) = smpCells ((List.range j).map f) ++ [.int .i64 (f j).1, .int .i64 (f j).2] := by
  rw [List.range_succ, List.map_append]; exact smpCells_snoc _ _
theorem gAt_rng (f : Nat → Smp) (n j : Nat) (h : j < n) : gAt ((List.range n).map f) j = f j := by simp [gAt, h]
theorem ckS_rng {f : Nat → Smp} {n : Nat} (hn : n ≤ 4096) (h : ∀ i, i < n → vs (f i).1 (f i).2 = true) : ckS ((List.range n).map f) = 0 := by
  unfold ckS vss
  rw [if_neg (by simp; omega), if_pos (List.all_eq_true.2 (fun s hs => by
    obtain ⟨i, hi, rfl⟩ := List.mem_map.1 hs
    exact h i (List.mem_range.1 hi)))]
theorem vs_mk {x y : Int} (h1 : -32767 ≤ x) (h2 : x ≤ 32767) (h3 : -32767 ≤ y) (h4 : y ≤ 32767) : vs x y = true := by
  unfold vs win; simp only [Bool.and_eq_true, decide_eq_true_eq]; omega
theorem cut_z {c : Ctr} {xs : List Smp} (h1 : ckC c = 0) (h2 : ckS xs = 0) : cutEr c xs = 0 ∧ cutRes c xs = xs.map (wallP c) := by
  have : cutEr c xs = 0 := by unfold cutEr; rw [h1, h2]; rfl
  exact ⟨this, by unfold cutRes; rw [if_pos this]⟩

set_option maxRecDepth 100000 in
set_option maxHeartbeats 16000000 in
theorem walls_walk (B : Nat) (A1 A2 : Option Addr) (n1 n2 k1 k2 : Nat) (c : Ctr) (xs ys : List Smp) (w : World) (h0 : RS w B A1 n1 xs) (g0 : RS w B A2 n2 ys) (hB : B ≤ w.heap.size) (hl1 : n1 ≤ 9223372036854775807) (_hl2 : n2 ≤ 9223372036854775807) (hk1 : n1 ≤ k1) (hk2 : n2 ≤ k2) (hi1 : I64s xs) (hi2 : I64s ys) :
    Calls Try.prog 7 #[.agg #[.int .i64 c.half, .int .i64 c.gain, .int .i64 c.thin, .int .i64 c.wide, .int .i64 c.slope, .int .i64 c.jerk, .int .i64 c.stylus], .slice A1 n1 k1, .slice A2 n2 k2] w fun e w' => e = .returned (.bool true) ∧ Below w.heap.size w w' := by
  obtain ⟨m, hm⟩ : ∃ m, min n1 n2 = m := ⟨_, rfl⟩
  have H1 := Lib.hid (rs_pre (h0.more hB) m (by omega))
  have H2 := Lib.hid (rs_pre (g0.more hB) m (by omega))
  have I1 := Lib.hid (show I64s (xs.take m) from fun s hs => hi1 s (List.mem_of_mem_take hs))
  have I2 := Lib.hid (show I64s (ys.take m) from fun s hs => hi2 s (List.mem_of_mem_take hs))
  have e1 : (if n2 < n1 then (n2 : Int) else (n1 : Int)) = (m : Int) := by split <;> omega
  have e2 : (if (n2 : Int) < (n1 : Int) then (n2 : Int) else (n1 : Int)) = (m : Int) := by split <;> omega
  have hm1 : m ≤ n1 := by omega
  have hm2 : m ≤ n2 := by omega
  have S1 := Lib.hid (fun W => slice_smpTo A1 m n1 k1 (by omega) W)
  have S2 := Lib.hid (fun W => slice_smpTo A2 m n2 k2 (by omega) W)
  obtain ⟨xs', hx'⟩ : ∃ l, xs.take m = l := ⟨_, rfl⟩
  obtain ⟨ys', hy'⟩ : ∃ l, ys.take m = l := ⟨_, rfl⟩
  rw [hx'] at H1 I1
  rw [hy'] at H2 I2
  clear hx' hy' h0 g0 hB hi1 hi2 hm
  have CS1 := Lib.hid (fun W (hb : Below w.heap.size w W) => refCheckSamples_any w.heap.size A1 m k1 xs' W (H1.out.below hb (Nat.le_refl _)) hb.size (by omega) I1.out)
  have CS2 := Lib.hid (fun W (hb : Below w.heap.size w W) => refCheckSamples_any w.heap.size A2 m k2 ys' W (H2.out.below hb (Nat.le_refl _)) hb.size (by omega) I2.out)
  have CK := Lib.hid (fun W => refCheck_any c W)
  have WK := Lib.hid (fun W => Works_any W)
  by_cases c1 : 100 < m
  · go_enter Try.func7, Try.ntmps7
    go_wp2_with fail
    refine (WK.out _).mono ?_
    rintro e w1 ⟨rfl, hb1⟩
    go_wp2
    go_ret
    exact ⟨rfl, ((Below.refl _ w).alloc (Nat.le_refl _) _).trans (hb1.mono (by simp))⟩
  have d1 : decide ((100 : Int) < (m : Int)) = false := decide_eq_false (by omega)
  by_cases c2 : ckC c = 0
  rotate_left
  · have hne : (ckC c == 0) = false := by simpa using c2
    have hne' : (ckC c != 0) = true := by simpa using c2
    obtain ⟨q, hq⟩ : ∃ q, ckC c = q := ⟨_, rfl⟩
    rw [hq] at CK hne hne'
    clear hq c2
    go_enter Try.func7, Try.ntmps7
    go_wp2_with fail
    refine (CK.out _).mono ?_
    rintro e w1 ⟨rfl, hb1⟩
    have HB := Lib.hid (((Below.refl _ w).alloc (Nat.le_refl _) (.cells #[.int .i64 c.half, .int .i64 c.gain, .int .i64 c.thin, .int .i64 c.wide, .int .i64 c.slope, .int .i64 c.jerk, .int .i64 c.stylus] 23)).trans (hb1.mono (by simp)))
    clear hb1
    go_wp2_with fail
    refine (WK.out _).mono ?_
    rintro e w2 ⟨rfl, hb2⟩
    go_wp2
    go_ret
    exact ⟨rfl, HB.out.trans (hb2.mono HB.out.size)⟩
  have C2 := Lib.hid c2
  have HC := Lib.hid (ckC_ok c2)
  rw [c2] at CK
  clear c2
  have sl1 := S1.out
  have sl2 := S2.out
  by_cases c3 : ckS xs' = 0
  rotate_left
  · have hne : (ckS xs' == 0) = false := by simpa using c3
    have hne' : (ckS xs' != 0) = true := by simpa using c3
    obtain ⟨q, hq⟩ : ∃ q, ckS xs' = q := ⟨_, rfl⟩
    rw [hq] at CS1 hne hne'
    clear hq c3
    go_enter Try.func7, Try.ntmps7
    go_wp2_with fail
    refine (CK.out _).mono ?_
    rintro e w1 ⟨rfl, hb1⟩
    have HB := Lib.hid (((Below.refl _ w).alloc (Nat.le_refl _) (.cells #[.int .i64 c.half, .int .i64 c.gain, .int .i64 c.thin, .int .i64 c.wide, .int .i64 c.slope, .int .i64 c.jerk, .int .i64 c.stylus] 23)).trans (hb1.mono (by simp)))
    clear hb1
    go_wp2_with fail
    refine (CS1.out _ HB.out).mono ?_
    rintro e w2 ⟨rfl, hb2⟩
    have HB := Lib.hid (HB.out.trans (hb2.mono HB.out.size))
    clear hb2
    go_wp2_with fail
    refine (WK.out _).mono ?_
    rintro e w3 ⟨rfl, hb3⟩
    go_wp2
    go_ret
    exact ⟨rfl, HB.out.trans (hb3.mono HB.out.size)⟩
  have C3 := Lib.hid c3
  have X3 := Lib.hid (ckS_ok c3)
  rw [c3] at CS1
  clear c3
  by_cases c4 : ckS ys' = 0
  rotate_left
  · have hne : (ckS ys' == 0) = false := by simpa using c4
    have hne' : (ckS ys' != 0) = true := by simpa using c4
    obtain ⟨q, hq⟩ : ∃ q, ckS ys' = q := ⟨_, rfl⟩
    rw [hq] at CS2 hne hne'
    clear hq c4
    go_enter Try.func7, Try.ntmps7
    go_wp2_with fail
    refine (CK.out _).mono ?_
    rintro e w1 ⟨rfl, hb1⟩
    have HB := Lib.hid (((Below.refl _ w).alloc (Nat.le_refl _) (.cells #[.int .i64 c.half, .int .i64 c.gain, .int .i64 c.thin, .int .i64 c.wide, .int .i64 c.slope, .int .i64 c.jerk, .int .i64 c.stylus] 23)).trans (hb1.mono (by simp)))
    clear hb1
    go_wp2_with fail
    refine (CS1.out _ HB.out).mono ?_
    rintro e w2 ⟨rfl, hb2⟩
    have HB := Lib.hid (HB.out.trans (hb2.mono HB.out.size))
    clear hb2
    go_wp2_with fail
    refine (CS2.out _ HB.out).mono ?_
    rintro e w2 ⟨rfl, hb2⟩
    have HB := Lib.hid (HB.out.trans (hb2.mono HB.out.size))
    clear hb2
    go_wp2_with fail
    refine (WK.out _).mono ?_
    rintro e w3 ⟨rfl, hb3⟩
    go_wp2
    go_ret
    exact ⟨rfl, HB.out.trans (hb3.mono HB.out.size)⟩
  have C4 := Lib.hid c4
  have Y3 := Lib.hid (ckS_ok c4)
  rw [c4] at CS2
  clear c4
  obtain ⟨i0, hi0, hz0, hz1, hz2⟩ := info_parts info_smp
  have HI0 := Lib.hid hi0
  have HZ0 := Lib.hid hz0
  have HZ1 := Lib.hid hz1
  have HZ2 := Lib.hid hz2
  clear hi0 hz0 hz1 hz2
  go_enter Try.func7, Try.ntmps7
  go_wp2_with fail
  refine (CK.out _).mono ?_
  rintro e w1 ⟨rfl, hb1⟩
  have HK := Lib.hid (show Blk w1 w.heap.size 23 #[.int .i64 c.half, .int .i64 c.gain, .int .i64 c.thin, .int .i64 c.wide, .int .i64 c.slope, .int .i64 c.jerk, .int .i64 c.stylus] from (Blk.new _ _ _).below hb1 (by simp))
  have HB := Lib.hid (((Below.refl _ w).alloc (Nat.le_refl _) (.cells #[.int .i64 c.half, .int .i64 c.gain, .int .i64 c.thin, .int .i64 c.wide, .int .i64 c.slope, .int .i64 c.jerk, .int .i64 c.stylus] 23)).trans (hb1.mono (by simp)))
  clear hb1
  go_wp2_with fail
  refine (CS1.out _ HB.out).mono ?_
  rintro e w2 ⟨rfl, hb2⟩
  have HK := Lib.hid (HK.out.below hb2 HK.out.lt)
  have HB := Lib.hid (HB.out.trans (hb2.mono HB.out.size))
  clear hb2
  go_wp2_with fail
  refine (CS2.out _ HB.out).mono ?_
  rintro e w3 ⟨rfl, hb3⟩
  have HK := Lib.hid (HK.out.below hb3 HK.out.lt)
  have HB := Lib.hid (HB.out.trans (hb3.mono HB.out.size))
  clear hb3 e1 e2
  go_wp2_with fail
  go_loopw [8, 9, 10, 11] (fun a b f z wr => ∃ (j : Nat) (sb sm sv : Value), j ≤ m ∧ z = .int .i64 j ∧ sb = a ∧ sm = b ∧ sv = f ∧ Hid (TS3 w wr c j j j sb sm sv (smpCells ((List.range j).map fun i => ((gAt xs' i).1, (gAt ys' i).2))) (smpCells ((List.range j).map fun i => ((gAt xs' i).1, (gAt xs' i).1))) (smpCells ((List.range j).map fun i => ((gAt xs' i).1, -(gAt xs' i).1))))) (fun a b f z wr => m - (intOf z).toNat)
  case atStart => exact ⟨0, _, _, _, Nat.zero_le _, rfl, rfl, rfl, rfl, Lib.hid ⟨World.ownsRow_nil _ _ _ _, World.ownsRow_nil _ _ _ _, World.ownsRow_nil _ _ _ _, fun g h => by simp [Value.ownBlock] at h, fun g h => by simp [Value.ownBlock] at h, fun g h => by simp [Value.ownBlock] at h, HK.out, HB.out⟩⟩
  case round =>
    clear HK HB
    obtain ⟨j, sb, sm, sv, hj, rfl, rfl, rfl, rfl, HT⟩ := hrel
    by_cases hlt : j < m
    · as_aux_lemma =>
      have hjx : j < xs'.length := by have := H1.out.1; omega
      have hjy : j < ys'.length := by have := H2.out.1; omega
      have R1 := Lib.hid (rng_snoc (fun i => ((gAt xs' i).1, (gAt ys' i).2)) j)
      have R2 := Lib.hid (rng_snoc (fun i => ((gAt xs' i).1, (gAt xs' i).1)) j)
      have R3 := Lib.hid (rng_snoc (fun i => ((gAt xs' i).1, -(gAt xs' i).1)) j)
      dsimp only at R1 R2 R3
      have hbd := X3.out.2 _ (List.getElem_mem hjx)
      rw [← gAt_eq hjx] at hbd
      have hA : ∃ ad, A1 = some ad := by obtain ⟨ad, e, _⟩ := H1.out.at2 hjx; exact ⟨ad, e⟩
      obtain ⟨a1, hA1⟩ := hA
      have hA : ∃ ad, A2 = some ad := by obtain ⟨ad, e, _⟩ := H2.out.at2 hjy; exact ⟨ad, e⟩
      obtain ⟨a2, hA2⟩ := hA
      subst hA1 hA2
      have CX := Lib.hid (fun W (hb : Below w.heap.size w W) => show W.cell? (a1.add (j * 2)) = some (.int .i64 (gAt xs' j).1) ∧ W.cell? ⟨(a1.add (j * 2)).block, (a1.add (j * 2)).off + 1, none⟩ = some (.int .i64 (gAt xs' j).2) from by
        obtain ⟨ad', e, -, h1, h2⟩ := (H1.out.below hb (Nat.le_refl _)).at2 hjx
        obtain rfl := Option.some.inj e
        exact ⟨h1, h2⟩)
      have CY := Lib.hid (fun W (hb : Below w.heap.size w W) => show W.cell? (a2.add (j * 2)) = some (.int .i64 (gAt ys' j).1) ∧ W.cell? ⟨(a2.add (j * 2)).block, (a2.add (j * 2)).off + 1, none⟩ = some (.int .i64 (gAt ys' j).2) from by
        obtain ⟨ad', e, -, h1, h2⟩ := (H2.out.below hb (Nat.le_refl _)).at2 hjy
        obtain rfl := Option.some.inj e
        exact ⟨h1, h2⟩)
      obtain ⟨x, hx⟩ : ∃ x, gAt xs' j = x := ⟨_, rfl⟩
      obtain ⟨y, hy⟩ : ∃ y, gAt ys' j = y := ⟨_, rfl⟩
      rw [hx] at CX R1 R2 R3 hbd
      rw [hy] at CY R1
      obtain ⟨b1, b2, b3, b4⟩ := hbd
      have hjn1 : j < n1 := by omega
      have hjn2 : j < n2 := by omega
      clear hx hy hjx hjy
      obtain ⟨y1, y2⟩ := CX.out _ HT.out.b
      obtain ⟨y3, y4⟩ := CY.out _ HT.out.b
      clear sl1 sl2
      go_wp2_with fail
      go_region_held3 (fun w' => w'.cell? (a1.add (j * 2)) = some (.int .i64 x.1) ∧ w'.cell? ⟨(a1.add (j * 2)).block, (a1.add (j * 2)).off + 1, none⟩ = some (.int .i64 x.2) ∧ w'.cell? (a2.add (j * 2)) = some (.int .i64 y.1) ∧ w'.cell? ⟨(a2.add (j * 2)).block, (a2.add (j * 2)).off + 1, none⟩ = some (.int .i64 y.2))
        ((refine ⟨?_, ?_, ?_, ?_⟩ <;> (repeat (with_reducible (first | refine cell_al _ ?_ | refine cell_dr ?_))) <;> (with_reducible assumption)))
        (first | (refine step_append_any _ rfl (.tmp 55) (.tmp 67) _ rfl (w.heap.size + 1) 25 i0 _ 2 16 Try.underlying28 HI0.out HZ0.out HZ1.out HZ2.out rfl (by omega) sb j _ rfl (by first | exact (HT.out.below (below_ad _ _)).ob | exact (HT.out.below (below_da _ _)).ob | exact (HT.out.below (below_a _ _)).ob) _ _ 1 _ _ rfl (reads_cells (by first | exact blk_al rfl | exact blk_dr rfl) (Nat.lt_succ_self _) (by rfl) (by rfl)) (by intro u hu; simp at hu; rcases hu with rfl | rfl <;> rfl) (by unfold maxLen; omega) (by omega) (by have := HT.out.k.lt; simp; omega) ?_; intro tb w4 hown hgrow hblk; have HT3 := Lib.hid (TS3.setb (by first | exact HT.out.below (below_ad _ _) | exact HT.out.below (below_da _ _) | exact HT.out.below (below_a _ _)) hgrow hown hblk); clear hown hgrow hblk; obtain ⟨y1, y2⟩ := CX.out _ HT3.out.b; obtain ⟨y3, y4⟩ := CY.out _ HT3.out.b))
      clear HT
      go_wp2_with fail
      go_region_held3 (fun w' => w'.cell? (a1.add (j * 2)) = some (.int .i64 x.1) ∧ w'.cell? ⟨(a1.add (j * 2)).block, (a1.add (j * 2)).off + 1, none⟩ = some (.int .i64 x.2) ∧ w'.cell? (a2.add (j * 2)) = some (.int .i64 y.1) ∧ w'.cell? ⟨(a2.add (j * 2)).block, (a2.add (j * 2)).off + 1, none⟩ = some (.int .i64 y.2))
        ((refine ⟨?_, ?_, ?_, ?_⟩ <;> (repeat (with_reducible (first | refine cell_al _ ?_ | refine cell_dr ?_))) <;> (with_reducible assumption)))
        (first | (refine step_append_any _ rfl (.tmp 69) (.tmp 81) _ rfl (w.heap.size + 1) 25 i0 _ 2 16 Try.underlying28 HI0.out HZ0.out HZ1.out HZ2.out rfl (by omega) sm j _ rfl (by first | exact (HT3.out.below (below_ad _ _)).om | exact (HT3.out.below (below_da _ _)).om | exact (HT3.out.below (below_a _ _)).om) _ _ 1 _ _ rfl (reads_cells (by first | exact blk_al rfl | exact blk_dr rfl) (Nat.lt_succ_self _) (by rfl) (by rfl)) (by intro u hu; simp at hu; rcases hu with rfl | rfl <;> rfl) (by unfold maxLen; omega) (by omega) (by have := HT3.out.k.lt; simp; omega) ?_; intro tm w5 hown hgrow hblk; have HT4 := Lib.hid (TS3.setm (by first | exact HT3.out.below (below_ad _ _) | exact HT3.out.below (below_da _ _) | exact HT3.out.below (below_a _ _)) hgrow hown hblk); clear hown hgrow hblk; obtain ⟨y1, y2⟩ := CX.out _ HT4.out.b; obtain ⟨y3, y4⟩ := CY.out _ HT4.out.b))
      clear HT3
      have e3 : IntKind.i64.wrap (-x.1) = -x.1 := IntWalk.i64_in _ (by omega)
      go_wp2_with fail
      go_region_held3 (fun w' => w'.cell? (a1.add (j * 2)) = some (.int .i64 x.1) ∧ w'.cell? ⟨(a1.add (j * 2)).block, (a1.add (j * 2)).off + 1, none⟩ = some (.int .i64 x.2) ∧ w'.cell? (a2.add (j * 2)) = some (.int .i64 y.1) ∧ w'.cell? ⟨(a2.add (j * 2)).block, (a2.add (j * 2)).off + 1, none⟩ = some (.int .i64 y.2))
        ((refine ⟨?_, ?_, ?_, ?_⟩ <;> (repeat (with_reducible (first | refine cell_al _ ?_ | refine cell_dr ?_))) <;> (with_reducible assumption)))
        (first | (refine step_append_any _ rfl (.tmp 83) (.tmp 96) _ rfl (w.heap.size + 1) 25 i0 _ 2 16 Try.underlying28 HI0.out HZ0.out HZ1.out HZ2.out rfl (by omega) sv j _ rfl (by first | exact (HT4.out.below (below_ad _ _)).ov | exact (HT4.out.below (below_da _ _)).ov | exact (HT4.out.below (below_a _ _)).ov) _ _ 1 _ _ rfl (reads_cells (by first | exact blk_al rfl | exact blk_dr rfl) (Nat.lt_succ_self _) (by rfl) (by rfl)) (by intro u hu; simp at hu; rcases hu with rfl | rfl <;> rfl) (by unfold maxLen; omega) (by omega) (by have := HT4.out.k.lt; simp; omega) ?_; intro tv w6 hown hgrow hblk; have HT5 := Lib.hid (TS3.setv (by first | exact HT4.out.below (below_ad _ _) | exact HT4.out.below (below_da _ _) | exact HT4.out.below (below_a _ _)) hgrow hown hblk); clear hown hgrow hblk; obtain ⟨y1, y2⟩ := CX.out _ HT5.out.b; obtain ⟨y3, y4⟩ := CY.out _ HT5.out.b))
      clear HT4 e3 y1 y2 y3 y4
      go_wp2_with fail
      go_roundw
      case rel =>
        refine ⟨j + 1, tb, tm, tv, by omega, by go_num, rfl, rfl, rfl, Lib.hid ?_⟩
        rw [R1.out, R2.out, R3.out]
        exact HT5.out
      case measure => simp [intOf]; omega
    · as_aux_lemma =>
      obtain rfl : m = j := by omega
      have hck : ∀ i, i < m → (-32767 ≤ (gAt xs' i).1 ∧ (gAt xs' i).1 ≤ 32767) ∧ (-32767 ≤ (gAt ys' i).2 ∧ (gAt ys' i).2 ≤ 32767) ∧ (-32767 ≤ (gAt ys' i).1 ∧ (gAt ys' i).1 ≤ 32767) ∧ (-32767 ≤ (gAt xs' i).2 ∧ (gAt xs' i).2 ≤ 32767) := fun i hi => by
        have hx : i < xs'.length := by have := H1.out.1; omega
        have hy : i < ys'.length := by have := H2.out.1; omega
        have h1 := X3.out.2 _ (List.getElem_mem hx)
        have h2 := Y3.out.2 _ (List.getElem_mem hy)
        rw [← gAt_eq hx] at h1
        rw [← gAt_eq hy] at h2
        exact ⟨⟨h1.1, h1.2.1⟩, ⟨h2.2.2.1, h2.2.2.2⟩, ⟨h2.1, h2.2.1⟩, ⟨h1.2.2.1, h1.2.2.2⟩⟩
      have HCK := Lib.hid hck
      have Z1 := Lib.hid (cut_z C2.out C3.out)
      have Z2 := Lib.hid (cut_z C2.out C4.out)
      have Z3 := Lib.hid (cut_z C2.out (ckS_rng (f := fun i => ((gAt xs' i).1, (gAt ys' i).2)) (n := m) (by omega) (fun i hi => by obtain ⟨⟨a, b⟩, ⟨d, e⟩, -, -⟩ := HCK.out i hi; exact vs_mk a b d e)))
      have Z4 := Lib.hid (cut_z C2.out (ckS_rng (f := fun i => ((gAt xs' i).1, (gAt xs' i).1)) (n := m) (by omega) (fun i hi => by obtain ⟨⟨a, b⟩, -, -, -⟩ := HCK.out i hi; exact vs_mk a b a b)))
      have Z5 := Lib.hid (cut_z C2.out (ckS_rng (f := fun i => ((gAt xs' i).1, -(gAt xs' i).1)) (n := m) (by omega) (fun i hi => by obtain ⟨⟨a, b⟩, -, -, -⟩ := HCK.out i hi; exact vs_mk a b (by dsimp only; omega) (by dsimp only; omega))))
      clear hck
      obtain ⟨Ab, kb, hb0, hrb⟩ := own_reads HT.out.ob
      obtain rfl := hb0
      obtain ⟨Am, km, hm0, hrm⟩ := own_reads HT.out.om
      obtain rfl := hm0
      obtain ⟨Av, kv, hv0, hrv⟩ := own_reads HT.out.ov
      obtain rfl := hv0
      have RB := Lib.hid (show RS wr wr.heap.size Ab m ((List.range m).map fun i => ((gAt xs' i).1, (gAt ys' i).2)) from ⟨by simp, hrb⟩)
      have RM := Lib.hid (show RS wr wr.heap.size Am m ((List.range m).map fun i => ((gAt xs' i).1, (gAt xs' i).1)) from ⟨by simp, hrm⟩)
      have RV := Lib.hid (show RS wr wr.heap.size Av m ((List.range m).map fun i => ((gAt xs' i).1, -(gAt xs' i).1)) from ⟨by simp, hrv⟩)
      have HB := Lib.hid HT.out.b
      have HK := Lib.hid HT.out.k
      clear hrb hrm hrv HT
      have D1 := Lib.hid (fun W (hb : Below w.heap.size w W) => Cut_any w.heap.size A1 m k1 c xs' W (H1.out.below hb (Nat.le_refl _)) hb.size (by omega))
      have D2 := Lib.hid (fun W (hb : Below w.heap.size w W) => Cut_any w.heap.size A2 m k2 c ys' W (H2.out.below hb (Nat.le_refl _)) hb.size (by omega))
      have D3 := Lib.hid (fun W (hb : Below wr.heap.size wr W) => Cut_any wr.heap.size Ab m kb c _ W (RB.out.below hb (Nat.le_refl _)) hb.size (by omega))
      have D4 := Lib.hid (fun W (hb : Below wr.heap.size wr W) => Cut_any wr.heap.size Am m km c _ W (RM.out.below hb (Nat.le_refl _)) hb.size (by omega))
      have D5 := Lib.hid (fun W (hb : Below wr.heap.size wr W) => Cut_any wr.heap.size Av m kv c _ W (RV.out.below hb (Nat.le_refl _)) hb.size (by omega))
      rw [Z1.out.1, Z1.out.2] at D1
      rw [Z2.out.1, Z2.out.2] at D2
      rw [Z3.out.1, Z3.out.2] at D3
      rw [Z4.out.1, Z4.out.2] at D4
      rw [Z5.out.1, Z5.out.2] at D5
      have HR := Lib.hid (Below.refl wr.heap.size wr)
      have p0 : wr.cell? ⟨w.heap.size, 0, none⟩ = some (.int .i64 c.half) := (HK.out.cell 0).trans rfl
      have p1 : wr.cell? ⟨w.heap.size, 1, none⟩ = some (.int .i64 c.gain) := (HK.out.cell 1).trans rfl
      have p2 : wr.cell? ⟨w.heap.size, 2, none⟩ = some (.int .i64 c.thin) := (HK.out.cell 2).trans rfl
      have p3 : wr.cell? ⟨w.heap.size, 3, none⟩ = some (.int .i64 c.wide) := (HK.out.cell 3).trans rfl
      have p4 : wr.cell? ⟨w.heap.size, 4, none⟩ = some (.int .i64 c.slope) := (HK.out.cell 4).trans rfl
      have p5 : wr.cell? ⟨w.heap.size, 5, none⟩ = some (.int .i64 c.jerk) := (HK.out.cell 5).trans rfl
      have p6 : wr.cell? ⟨w.heap.size, 6, none⟩ = some (.int .i64 c.stylus) := (HK.out.cell 6).trans rfl
      go_wp2_with fail
      go_region_held3 (fun w' => w'.cell? ⟨w.heap.size, 0, none⟩ = some (.int .i64 c.half) ∧ w'.cell? ⟨w.heap.size, 1, none⟩ = some (.int .i64 c.gain) ∧ w'.cell? ⟨w.heap.size, 2, none⟩ = some (.int .i64 c.thin) ∧ w'.cell? ⟨w.heap.size, 3, none⟩ = some (.int .i64 c.wide) ∧ w'.cell? ⟨w.heap.size, 4, none⟩ = some (.int .i64 c.slope) ∧ w'.cell? ⟨w.heap.size, 5, none⟩ = some (.int .i64 c.jerk) ∧ w'.cell? ⟨w.heap.size, 6, none⟩ = some (.int .i64 c.stylus))
        ((refine ⟨?_, ?_, ?_, ?_, ?_, ?_, ?_⟩ <;> (repeat (with_reducible (first | refine cell_al _ ?_ | refine cell_dr ?_))) <;> (with_reducible assumption)))
        (first | (go_at_call 19; refine (D1.out _ (by first | exact HB.out | exact HB.out.drew)).mono ?_; rintro e w5 ⟨Aa, na, ka, rfl, hrs, hb1⟩; have RA := Lib.hid hrs; have HK := Lib.hid (HK.out.drew.below hb1 HK.out.lt); have HB := Lib.hid (HB.out.drew.trans (hb1.mono HB.out.size)); have HR := Lib.hid (HR.out.drew.trans hb1); clear hb1 hrs; have p0 : w5.cell? ⟨w.heap.size, 0, none⟩ = some (.int .i64 c.half) := (HK.out.cell 0).trans rfl; have p1 : w5.cell? ⟨w.heap.size, 1, none⟩ = some (.int .i64 c.gain) := (HK.out.cell 1).trans rfl; have p2 : w5.cell? ⟨w.heap.size, 2, none⟩ = some (.int .i64 c.thin) := (HK.out.cell 2).trans rfl; have p3 : w5.cell? ⟨w.heap.size, 3, none⟩ = some (.int .i64 c.wide) := (HK.out.cell 3).trans rfl; have p4 : w5.cell? ⟨w.heap.size, 4, none⟩ = some (.int .i64 c.slope) := (HK.out.cell 4).trans rfl; have p5 : w5.cell? ⟨w.heap.size, 5, none⟩ = some (.int .i64 c.jerk) := (HK.out.cell 5).trans rfl; have p6 : w5.cell? ⟨w.heap.size, 6, none⟩ = some (.int .i64 c.stylus) := (HK.out.cell 6).trans rfl))
      have hna : m = na := by have h1 := RA.out.1; rw [List.length_map] at h1; have := H1.out.1; omega
      obtain rfl := hna
      go_wp2_with fail
      go_region_held3 (fun w' => w'.cell? ⟨w.heap.size, 0, none⟩ = some (.int .i64 c.half) ∧ w'.cell? ⟨w.heap.size, 1, none⟩ = some (.int .i64 c.gain) ∧ w'.cell? ⟨w.heap.size, 2, none⟩ = some (.int .i64 c.thin) ∧ w'.cell? ⟨w.heap.size, 3, none⟩ = some (.int .i64 c.wide) ∧ w'.cell? ⟨w.heap.size, 4, none⟩ = some (.int .i64 c.slope) ∧ w'.cell? ⟨w.heap.size, 5, none⟩ = some (.int .i64 c.jerk) ∧ w'.cell? ⟨w.heap.size, 6, none⟩ = some (.int .i64 c.stylus))
        ((refine ⟨?_, ?_, ?_, ?_, ?_, ?_, ?_⟩ <;> (repeat (with_reducible (first | refine cell_al _ ?_ | refine cell_dr ?_))) <;> (with_reducible assumption)))
        (first | (go_at_call 19; refine (D2.out _ (by first | exact HB.out | exact HB.out.drew)).mono ?_; rintro e w6 ⟨Ac, nc, kc, rfl, hrs, hb1⟩; have RC := Lib.hid hrs; have HK := Lib.hid (HK.out.drew.below hb1 HK.out.lt); have HB := Lib.hid (HB.out.drew.trans (hb1.mono HB.out.size)); have HR := Lib.hid (HR.out.drew.trans (hb1.mono HR.out.size)); have RA := Lib.hid ((RA.out.below ((Below.refl _ _).drew.trans hb1) (Nat.le_refl _)).more hb1.size); clear hb1 hrs; have p0 : w6.cell? ⟨w.heap.size, 0, none⟩ = some (.int .i64 c.half) := (HK.out.cell 0).trans rfl; have p1 : w6.cell? ⟨w.heap.size, 1, none⟩ = some (.int .i64 c.gain) := (HK.out.cell 1).trans rfl; have p2 : w6.cell? ⟨w.heap.size, 2, none⟩ = some (.int .i64 c.thin) := (HK.out.cell 2).trans rfl; have p3 : w6.cell? ⟨w.heap.size, 3, none⟩ = some (.int .i64 c.wide) := (HK.out.cell 3).trans rfl; have p4 : w6.cell? ⟨w.heap.size, 4, none⟩ = some (.int .i64 c.slope) := (HK.out.cell 4).trans rfl; have p5 : w6.cell? ⟨w.heap.size, 5, none⟩ = some (.int .i64 c.jerk) := (HK.out.cell 5).trans rfl; have p6 : w6.cell? ⟨w.heap.size, 6, none⟩ = some (.int .i64 c.stylus) := (HK.out.cell 6).trans rfl))
      have hna : m = nc := by have h1 := RC.out.1; rw [List.length_map] at h1; have := H2.out.1; omega
      obtain rfl := hna
      go_wp2_with fail
      refine (D3.out _ HR.out).mono ?_
      rintro e w7 ⟨Ad, nd, kd, rfl, hrs, hb1⟩
      obtain rfl : m = nd := by have h1 := hrs.1; simp at h1; omega
      have HK := Lib.hid (HK.out.below hb1 HK.out.lt)
      have HB := Lib.hid (HB.out.trans (hb1.mono HB.out.size))
      have HR := Lib.hid (HR.out.trans (hb1.mono HR.out.size))
      have RA := Lib.hid ((RA.out.below hb1 (Nat.le_refl _)).more hb1.size)
      have RC := Lib.hid ((RC.out.below hb1 (Nat.le_refl _)).more hb1.size)
      have RD := Lib.hid hrs
      clear hb1 hrs
      have p0 : w7.cell? ⟨w.heap.size, 0, none⟩ = some (.int .i64 c.half) := (HK.out.cell 0).trans rfl
      have p1 : w7.cell? ⟨w.heap.size, 1, none⟩ = some (.int .i64 c.gain) := (HK.out.cell 1).trans rfl
      have p2 : w7.cell? ⟨w.heap.size, 2, none⟩ = some (.int .i64 c.thin) := (HK.out.cell 2).trans rfl
      have p3 : w7.cell? ⟨w.heap.size, 3, none⟩ = some (.int .i64 c.wide) := (HK.out.cell 3).trans rfl
      have p4 : w7.cell? ⟨w.heap.size, 4, none⟩ = some (.int .i64 c.slope) := (HK.out.cell 4).trans rfl
      have p5 : w7.cell? ⟨w.heap.size, 5, none⟩ = some (.int .i64 c.jerk) := (HK.out.cell 5).trans rfl
      have p6 : w7.cell? ⟨w.heap.size, 6, none⟩ = some (.int .i64 c.stylus) := (HK.out.cell 6).trans rfl
      go_wp2_with fail
      refine (D4.out _ HR.out).mono ?_
      rintro e w8 ⟨Ae, ne, ke, rfl, hrs2, hb1⟩
      obtain rfl : m = ne := by have h1 := hrs2.1; simp at h1; omega
      have HK := Lib.hid (HK.out.below hb1 HK.out.lt)
      have HB := Lib.hid (HB.out.trans (hb1.mono HB.out.size))
      have HR := Lib.hid (HR.out.trans (hb1.mono HR.out.size))
      have RA := Lib.hid ((RA.out.below hb1 (Nat.le_refl _)).more hb1.size)
      have RC := Lib.hid ((RC.out.below hb1 (Nat.le_refl _)).more hb1.size)
      have RD := Lib.hid ((RD.out.below hb1 (Nat.le_refl _)).more hb1.size)
      have RE := Lib.hid hrs2
      clear hb1 hrs2
      have p0 : w8.cell? ⟨w.heap.size, 0, none⟩ = some (.int .i64 c.half) := (HK.out.cell 0).trans rfl
      have p1 : w8.cell? ⟨w.heap.size, 1, none⟩ = some (.int .i64 c.gain) := (HK.out.cell 1).trans rfl
      have p2 : w8.cell? ⟨w.heap.size, 2, none⟩ = some (.int .i64 c.thin) := (HK.out.cell 2).trans rfl
      have p3 : w8.cell? ⟨w.heap.size, 3, none⟩ = some (.int .i64 c.wide) := (HK.out.cell 3).trans rfl
      have p4 : w8.cell? ⟨w.heap.size, 4, none⟩ = some (.int .i64 c.slope) := (HK.out.cell 4).trans rfl
      have p5 : w8.cell? ⟨w.heap.size, 5, none⟩ = some (.int .i64 c.jerk) := (HK.out.cell 5).trans rfl
      have p6 : w8.cell? ⟨w.heap.size, 6, none⟩ = some (.int .i64 c.stylus) := (HK.out.cell 6).trans rfl
      go_wp2_with fail
      refine (D5.out _ HR.out).mono ?_
      rintro e w9 ⟨Af, nf, kf, rfl, hrs3, hb1⟩
      obtain rfl : m = nf := by have h1 := hrs3.1; simp at h1; omega
      have HK := Lib.hid (HK.out.below hb1 HK.out.lt)
      have HB := Lib.hid (HB.out.trans (hb1.mono HB.out.size))
      have HR := Lib.hid (HR.out.trans (hb1.mono HR.out.size))
      have RA := Lib.hid ((RA.out.below hb1 (Nat.le_refl _)).more hb1.size)
      have RC := Lib.hid ((RC.out.below hb1 (Nat.le_refl _)).more hb1.size)
      have RD := Lib.hid ((RD.out.below hb1 (Nat.le_refl _)).more hb1.size)
      have RE := Lib.hid ((RE.out.below hb1 (Nat.le_refl _)).more hb1.size)
      have RF := Lib.hid hrs3
      clear hb1 hrs3
      have p0 : w9.cell? ⟨w.heap.size, 0, none⟩ = some (.int .i64 c.half) := (HK.out.cell 0).trans rfl
      have p1 : w9.cell? ⟨w.heap.size, 1, none⟩ = some (.int .i64 c.gain) := (HK.out.cell 1).trans rfl
      have p2 : w9.cell? ⟨w.heap.size, 2, none⟩ = some (.int .i64 c.thin) := (HK.out.cell 2).trans rfl
      have p3 : w9.cell? ⟨w.heap.size, 3, none⟩ = some (.int .i64 c.wide) := (HK.out.cell 3).trans rfl
      have p4 : w9.cell? ⟨w.heap.size, 4, none⟩ = some (.int .i64 c.slope) := (HK.out.cell 4).trans rfl
      have p5 : w9.cell? ⟨w.heap.size, 5, none⟩ = some (.int .i64 c.jerk) := (HK.out.cell 5).trans rfl
      have p6 : w9.cell? ⟨w.heap.size, 6, none⟩ = some (.int .i64 c.stylus) := (HK.out.cell 6).trans rfl
      clear p0 p1 p2 p3 p4 p5 p6 HR RB RM RV D1 D2 D3 D4 D5 Z1 Z2 Z3 Z4 Z5 CK CS1 CS2 S1 S2 sl1 sl2 C2 C3 C4 HI0 HZ0 HZ1 HZ2
      go_wp2_with fail
      go_loopw [22] (fun z wr => ∃ (j : Nat), j ≤ m ∧ z = .int .i64 j ∧ Hid (Below w9.heap.size w9 wr)) (fun z wr => m - (intOf z).toNat)
      case atStart => exact ⟨0, Nat.zero_le _, rfl, Lib.hid (Below.refl _ _)⟩
      case round =>
        obtain ⟨j, hj, rfl, HZ⟩ := hrel
        by_cases hlt : j < m
        · as_aux_lemma =>
          have hjx : j < xs'.length := by have := H1.out.1; omega
          have hjy : j < ys'.length := by have := H2.out.1; omega
          have HBZ := Lib.hid (HB.out.trans (HZ.out.mono HB.out.size))
          obtain ⟨⟨b1, b2⟩, -, ⟨b5, b6⟩, -⟩ := HCK.out j hlt
          obtain ⟨xl, hxl⟩ : ∃ v, (gAt xs' j).1 = v := ⟨_, rfl⟩
          obtain ⟨yl, hyl⟩ : ∃ v, (gAt ys' j).1 = v := ⟨_, rfl⟩
          obtain ⟨U, hU⟩ : ∃ v, swg c xl = v := ⟨_, rfl⟩
          obtain ⟨V, hV⟩ : ∃ v, swg c yl = v := ⟨_, rfl⟩
          obtain ⟨o, ho⟩ : ∃ v, U + c.half = v := ⟨_, rfl⟩
          obtain ⟨o2, ho2⟩ : ∃ v, V + c.half = v := ⟨_, rfl⟩
          obtain ⟨i2, hi2⟩ : ∃ v, swg c (gAt ys' j).2 - c.half = v := ⟨_, rfl⟩
          obtain ⟨i3, hi3⟩ : ∃ v, U - c.half = v := ⟨_, rfl⟩
          obtain ⟨dh, hdh⟩ : ∃ v, 2 * c.half = v := ⟨_, rfl⟩
          obtain ⟨aa, eA, -, -, va⟩ := (RA.out.below HZ.out (Nat.le_refl _)).at2 (k := j) (by rw [List.length_map]; exact hjx)
          obtain ⟨ac, eC, -, vc1, vc2⟩ := (RC.out.below HZ.out (Nat.le_refl _)).at2 (k := j) (by rw [List.length_map]; exact hjy)
          obtain ⟨ad, eD, -, vd1, vd2⟩ := (RD.out.below HZ.out (Nat.le_refl _)).at2 (k := j) (by simpa using hlt)
          obtain ⟨ae, eE, -, ve1, ve2⟩ := (RE.out.below HZ.out (Nat.le_refl _)).at2 (k := j) (by simpa using hlt)
          obtain ⟨af, eF, -, vf1, vf2⟩ := (RF.out.below HZ.out (Nat.le_refl _)).at2 (k := j) (by simpa using hlt)
          obtain ⟨a1, eX, -, vx, -⟩ := (H1.out.below HBZ.out (Nat.le_refl _)).at2 (k := j) hjx
          obtain ⟨a2, eY, -, vy, -⟩ := (H2.out.below HBZ.out (Nat.le_refl _)).at2 (k := j) hjy
          rw [gAt_map _ _ _ hjx] at va
          rw [gAt_map _ _ _ hjy] at vc1 vc2
          rw [gAt_map _ _ _ (by simpa using hlt), gAt_rng _ m j hlt] at vd1 vd2 ve1 ve2 vf1 vf2
          rw [hxl] at vx b1 b2
          rw [hyl] at vy b5 b6
          rw [show (wallP c (gAt xs' j)).2 = o from by show swg c (gAt xs' j).1 + c.half = o; rw [hxl, hU, ho]] at va
          rw [show (wallP c (gAt ys' j)).1 = i2 from hi2] at vc1
          rw [show (wallP c (gAt ys' j)).2 = o2 from by show swg c (gAt ys' j).1 + c.half = o2; rw [hyl, hV, ho2]] at vc2
          try dsimp only at vd1 vd2 ve1 ve2 vf1 vf2
          rw [hxl] at vd1 vd2 ve1 ve2 vf1 vf2
          rw [show (wallP c (xl, (gAt ys' j).2)).1 = i2 from hi2] at vd1
          rw [show (wallP c (xl, (gAt ys' j).2)).2 = o from by show swg c xl + c.half = o; rw [hU, ho]] at vd2
          rw [show (wallP c (xl, xl)).1 = i3 from by show swg c xl - c.half = i3; rw [hU, hi3]] at ve1
          rw [show (wallP c (xl, xl)).2 = o from by show swg c xl + c.half = o; rw [hU, ho]] at ve2
          rw [show (wallP c (xl, -xl)).1 = -o from by show swg c (-xl) - c.half = -o; rw [swg_neg, hU]; omega] at vf1
          rw [show (wallP c (xl, -xl)).2 = o from by show swg c xl + c.half = o; rw [hU, ho]] at vf2
          have s1 := swg_bd HC.out b1 b2
          have s2 := swg_bd HC.out b5 b6
          have hh1 := HC.out.h1
          have hh2 := HC.out.h2
          have hmono : am xl ≤ am yl → am U ≤ am V := fun h => by rw [← hU, ← hV]; exact am_swg_mono HC.out h
          rw [hU] at s1
          rw [hV] at s2
          have f1 : IntKind.i64.wrap (o - i3) = dh := by rw [IntWalk.i64_in _ (by omega)]; omega
          have f2 : IntKind.i64.wrap (2 * c.half) = dh := by rw [IntWalk.i64_in _ (by omega)]; omega
          have f3 : IntKind.i64.wrap (-o) = -o := IntWalk.i64_in _ (by omega)
          have f4 : IntKind.i64.wrap (o - c.half) = U := by rw [IntWalk.i64_in _ (by omega)]; omega
          have f5 : IntKind.i64.wrap (o2 - c.half) = V := by rw [IntWalk.i64_in _ (by omega)]; omega
          have L1 := Lib.hid (fun x : Lat wr => lawAm_any xl x.w (by omega) (by omega))
          have L2 := Lib.hid (fun x : Lat wr => lawAm_any yl x.w (by omega) (by omega))
          have L3 := Lib.hid (fun x : Lat wr => lawAm_any U x.w (by omega) (by omega))
          have L4 := Lib.hid (fun x : Lat wr => lawAm_any V x.w (by omega) (by omega))
          obtain ⟨q1, hq1⟩ : ∃ v, am xl = v := ⟨_, rfl⟩
          obtain ⟨q2, hq2⟩ : ∃ v, am yl = v := ⟨_, rfl⟩
          obtain ⟨q3, hq3⟩ : ∃ v, am U = v := ⟨_, rfl⟩
          obtain ⟨q4, hq4⟩ : ∃ v, am V = v := ⟨_, rfl⟩
          rw [hq1] at L1 hmono
          rw [hq2] at L2 hmono
          rw [hq3] at L3 hmono
          rw [hq4] at L4 hmono
          have p0 := Lat.cell (((HK.out.below HZ.out HK.out.lt).cell 0).trans rfl)
          have va := Lat.cell va
          have vc1 := Lat.cell vc1
          have vc2 := Lat.cell vc2
          have vd1 := Lat.cell vd1
          have vd2 := Lat.cell vd2
          have ve1 := Lat.cell ve1
          have ve2 := Lat.cell ve2
          have vf1 := Lat.cell vf1
          have vf2 := Lat.cell vf2
          have vx := Lat.cell vx
          have vy := Lat.cell vy
          have hjn1 : j < n1 := by omega
          have hjn2 : j < n2 := by omega
          clear hq1 hq2 hq3 hq4 s1 s2 b1 b2 b5 b6 hU hV ho ho2 hi2 hi3 hdh hxl hyl HBZ hh1 hh2 hjx hjy RA RC RD RE RF H1 H2 HCK HC HK hj
          subst eA eC eD eE eF eX eY
          have hhk : Hid (q1 ≤ q2 → q3 ≤ q4) := Lib.hid hmono
          clear hmono
          go_wp2_with fail
          try dsimp only [List.append]
          refine wp_region_lat (by kernel_rfl) (by kernel_rfl) ?_
          repeat (go_big_quiet_step (fail))
          refine wpQuiet_nil ?_
          intro w10 hw'
          have hb10 := lat_out hw'
          clear hw' f1 f2 f3 vd1 vd2 ve1 ve2 vf1 vf2 vc1
          go_wp2_with fail
          try dsimp only [List.append]
          by_cases hle : q1 ≤ q2
          · as_aux_lemma =>
            have hle2 := hhk.out hle
            have z1 : decide (q1 ≤ q2) = true := decide_eq_true hle
            have z2 : decide (q4 < q3) = false := decide_eq_false (by omega)
            clear hle hle2 hhk
            refine wp_region_lat_ hb10 (by kernel_rfl) (by kernel_rfl) ?_
            repeat (go_big_quiet_step ((first | (with_reducible exact Calls.lat_ (L1.out _)) | (with_reducible exact Calls.lat_ (L2.out _)) | (with_reducible exact Calls.lat_ (L3.out _)) | (with_reducible exact Calls.lat_ (L4.out _)))))
            refine wpQuiet_nil ?_
            intro w11 hw'
            have HN := Lib.hid (HZ.out.trans ((lat_out hw').mono HZ.out.size))
            clear hw' z1
            go_wp2_with fail
            go_roundw
            case rel => exact ⟨j + 1, by omega, by go_num, HN⟩
            case measure => simp [intOf]; omega
          · as_aux_lemma =>
            have z1 : decide (q1 ≤ q2) = false := decide_eq_false hle
            clear hle hhk
            refine wp_region_lat_ hb10 (by kernel_rfl) (by kernel_rfl) ?_
            repeat (go_big_quiet_step ((first | (with_reducible exact Calls.lat_ (L1.out _)) | (with_reducible exact Calls.lat_ (L2.out _)) | (with_reducible exact Calls.lat_ (L3.out _)) | (with_reducible exact Calls.lat_ (L4.out _)))))
            refine wpQuiet_nil ?_
            intro w11 hw'
            have HN := Lib.hid (HZ.out.trans ((lat_out hw').mono HZ.out.size))
            clear hw' z1
            go_wp2_with fail
            go_roundw
            case rel => exact ⟨j + 1, by omega, by go_num, HN⟩
            case measure => simp [intOf]; omega
        · obtain rfl : m = j := by omega
          go_wp2_with fail
          refine (WK.out _).mono ?_
          rintro e w11 ⟨rfl, hb11⟩
          go_wp2
          go_ret
          exact ⟨rfl, (HB.out.trans (HZ.out.mono HB.out.size)).trans (hb11.mono (HB.out.trans (HZ.out.mono HB.out.size)).size)⟩
end Go.Proofs.Ytaiigdbbpdkamaa
