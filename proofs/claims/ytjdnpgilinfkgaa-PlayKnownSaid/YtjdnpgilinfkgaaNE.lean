/-
  Jump of package play.
-/
import Derived.Test.YtjdnpgilinfkgaaND
import Derived.Test.YtjdnpgilinfkgaaNC
import Derived.Test.YtjdnpgilinfkgaaML
namespace Go.Proofs.Ytjdnpgilinfkgaa
open Go.RowKit Go.Shelf
attribute [local go_sem] Oper.semAt_some

set_option maxRecDepth 100000 in
set_option maxHeartbeats 8000000 in
theorem Jump_any (B : Nat) (A : Option Addr) (n c : Nat) (a : Int × Int) (l : List Smp) (w : World) (h0 : RS w B A n l) (hB : B ≤ w.heap.size) (hl : n ≤ 9223372036854775807) :
    Calls Try.prog 30 #[.agg #[.int .i64 a.1, .int .i64 a.2], .slice A n c] w fun e w' => e = .returned (.tuple #[.int .i64 (jmI a l), .int .i64 (jmT a l), .int .i64 (jmE a l)]) ∧ Below w.heap.size w w' := by
  have HN := Lib.hid h0.1
  have H := Lib.hid (h0.more hB)
  clear h0 hB
  have CG := Lib.hid (fun W (hb : Below w.heap.size w W) => CheckPoints_any w.heap.size A n c l W (H.out.below hb (Nat.le_refl _)) hb.size hl)
  have CA := Lib.hid (fun W => checkArm_any a W)
  have he : jmEr a l = orL [ckA a, ckG l] := rfl
  obtain ⟨e1, h1⟩ : ∃ x, ckA a = x := ⟨_, rfl⟩
  obtain ⟨e2, h2⟩ : ∃ x, ckG l = x := ⟨_, rfl⟩
  rw [h1] at CA
  rw [h2] at CG
  rw [h1, h2] at he
  obtain ⟨er_, h5⟩ : ∃ x, orL [e1, e2] = x := ⟨_, rfl⟩
  rw [h5] at he
  have HER := Lib.hid he
  have HOR := Lib.hid (fun B A n c W h1 h2 h3 h4 => cmpOr_any B A n c [e1, e2] W h1 h2 h3 h4)
  rw [h5] at HOR
  have HOK : Hid (jmEr a l = 0 → ckA a = 0 ∧ ckG l = 0) := Lib.hid jmEr_ok
  clear h1 h2 h5 he
  obtain ⟨W0, hW0⟩ : ∃ W0, (((w.alloc (.cells #[.int .i64 a.1, .int .i64 a.2] 52)).alloc (.cells #[.int .i64 0] 3)).alloc (.cells #[.int .i64 0] 3)).alloc (.cells #[.int .i64 0] 26) = W0 := ⟨_, rfl⟩
  have hb0 : Below w.heap.size w W0 := by rw [← hW0]; exact ((((Below.refl _ _).alloc (Nat.le_refl _) _).alloc (by simp) _).alloc (by simp; omega) _).alloc (by simp; omega) _
  have k0 : Blk W0 w.heap.size 52 #[.int .i64 a.1, .int .i64 a.2] := by rw [← hW0]; exact (((Blk.new _ _ _).alloc _).alloc _).alloc _
  have k1 : Blk W0 (w.heap.size + 1) 3 #[.int .i64 0] := by rw [← hW0]; exact ((blk_al (by simp)).alloc _).alloc _
  have k2 : Blk W0 (w.heap.size + 1 + 1) 3 #[.int .i64 0] := by rw [← hW0]; exact (blk_al (by simp)).alloc _
  have k3 : Blk W0 (w.heap.size + 1 + 1 + 1) 26 #[.int .i64 0] := by rw [← hW0]; exact blk_al (by simp)
  have K0 := Lib.hid k0
  have K1 := Lib.hid k1
  have K2 := Lib.hid k2
  have K3 := Lib.hid k3
  have HB := Lib.hid hb0
  have HW0 := Lib.hid hW0
  clear k0 k1 k2 k3 hb0 hW0
  by_cases hz : er_ = 0
  · subst hz
    obtain ⟨ha, hg⟩ := HOK.out HER.out
    obtain ⟨hl4, he⟩ := ckG_edg hg
    obtain ⟨ha1, ha2⟩ := ckA_ok ha
    have HE := Lib.hid he
    have HAB := Lib.hid (And.intro ha1 ha2)
    have hn4 : n ≤ 4096 := by have := HN.out; omega
    have HI : Hid (jmI a l = ((jmL a l).getD (0, 0)).1 ∧ jmT a l = ((jmL a l).getD (0, 0)).2 ∧ jmE a l = if jmL a l = none then 5 else 0) := Lib.hid (by unfold jmI jmT jmE; rw [if_pos HER.out, if_pos HER.out, if_pos HER.out]; exact ⟨rfl, rfl, rfl⟩)
    clear ha hg ha1 ha2 he hl4
    refine (callsIn_wide (n := 12)).1 ?_
    refine callsIn_of_wp_marks Try.func30 rfl trivial ?_ rfl
    simp only [Try.ntmps30, List.size_toArray, List.length_cons, List.length_nil, Nat.reduceAdd, Nat.reduceSub, Array.replicate_succ, Array.replicate_zero, List.push_toArray, List.append_toArray, List.nil_append, List.cons_append]
    gi_wp2_with fail
    rw [HW0.out]
    have t0 := (K0.out.cell 0).trans rfl
    have t1 := (K0.out.cell 1).trans rfl
    gi_wp2_with fail
    refine ⟨trivial, (callsIn_wide.2 (CA.out _)).mono ?_⟩
    rintro e w1 ⟨rfl, hb⟩
    replace K0 := Lib.hid (K0.out.below hb K0.out.lt)
    replace K1 := Lib.hid (K1.out.below hb K1.out.lt)
    replace K2 := Lib.hid (K2.out.below hb K2.out.lt)
    replace K3 := Lib.hid (K3.out.below hb K3.out.lt)
    replace HB := Lib.hid (HB.out.trans (hb.mono HB.out.size))
    clear hb
    clear t0 t1
    gi_wp2_with fail
    refine ⟨trivial, (callsIn_wide.2 (CG.out _ HB.out)).mono ?_⟩
    rintro e w2 ⟨rfl, hb⟩
    replace K0 := Lib.hid (K0.out.below hb K0.out.lt)
    replace K1 := Lib.hid (K1.out.below hb K1.out.lt)
    replace K2 := Lib.hid (K2.out.below hb K2.out.lt)
    replace K3 := Lib.hid (K3.out.below hb K3.out.lt)
    replace HB := Lib.hid (HB.out.trans (hb.mono HB.out.size))
    clear hb
    gi_wp2_with fail
    refine ⟨trivial, (callsIn_wide.2 (HOR.out _ _ _ _ _ rfl (reads_cells (blk_al rfl) (Nat.lt_succ_self _) (by rfl) (by rfl)) (by simp) (by simp))).mono ?_⟩
    rintro e w' ⟨rfl, rfl⟩
    obtain ⟨W2, hW2⟩ : ∃ W2, w2.alloc (.cells #[.int .i64 e1, .int .i64 e2] 26) = W2 := ⟨_, rfl⟩
    have hb : Below w2.heap.size w2 W2 := by rw [← hW2]; exact (Below.refl _ _).alloc (Nat.le_refl _) _
    rw [hW2]
    clear hW2
    replace K0 := Lib.hid (K0.out.below hb K0.out.lt)
    replace K1 := Lib.hid (K1.out.below hb K1.out.lt)
    replace K2 := Lib.hid (K2.out.below hb K2.out.lt)
    replace K3 := Lib.hid (K3.out.below hb K3.out.lt)
    replace HB := Lib.hid (HB.out.trans (hb.mono HB.out.size))
    clear hb
    clear CA CG HOR HW0
    gi_wp2_with fail
    refine ⟨trivial, (callsIn_wide.2 (bends_any A n c _)).mono ?_⟩
    rintro e w3 ⟨rfl, hW3⟩
    have hb : Below W2.heap.size W2 w3 := by rw [← hW3]; exact (Below.refl _ _).alloc (Nat.le_refl _) _
    have q1 : Blk w3 W2.heap.size 32 #[.slice A n c] := by rw [← hW3]; exact Blk.new _ _ _
    have hq1 : w.heap.size ≤ W2.heap.size := HB.out.size
    replace K0 := Lib.hid (K0.out.below hb K0.out.lt)
    replace K1 := Lib.hid (K1.out.below hb K1.out.lt)
    replace K2 := Lib.hid (K2.out.below hb K2.out.lt)
    replace K3 := Lib.hid (K3.out.below hb K3.out.lt)
    replace HB := Lib.hid (HB.out.trans (hb.mono HB.out.size))
    clear hb
    have z1 := q1.lt
    clear hW3
    gi_wp2_with fail
    refine wpIn_rangeFunc_ownH rfl (by omega) (gf := 100) (lb := #[.pointer (some ⟨W2.heap.size, 0, none⟩)]) rfl trivial (enters_of Try.func100 (by kernel_rfl) rfl)
      (bends1_stops (12 - 1) W2.heap.size w.heap.size w3.heap.size A n c l w3 (by omega) q1 (H.out.below HB.out (Nat.le_refl _)) HB.out.size (Nat.le_refl _) z1 hn4 HE.out) belowK_t (belowK_b (Nat.le_refl _)) (Below.refl _ _) (fun _ => rfl)
      (fun pre X => Blk X w.heap.size 52 #[.int .i64 a.1, .int .i64 a.2] ∧ Blk X (w.heap.size + 1) 3 #[.int .i64 0] ∧ Blk X (w.heap.size + 1 + 1) 3 #[.int .i64 0] ∧ Blk X (w.heap.size + 1 + 1 + 1) 26 #[.int .i64 0] ∧ (Below w.heap.size w X ∧ w3.heap.size ≤ X.heap.size) ∧ ∀ x ∈ pre, jmB a (bdL l x.1) = 0)
      (fun cd pre X => cd = .ret ∧ ∃ pre0 x, pre = pre0 ++ [x] ∧ (∀ y ∈ pre0, jmB a (bdL l y.1) = 0) ∧ jmB a (bdL l x.1) ≠ 0 ∧ Blk X (w.heap.size + 1) 3 #[.int .i64 x.1] ∧ Blk X (w.heap.size + 1 + 1) 3 #[.int .i64 (jmB a (bdL l x.1))] ∧ Blk X (w.heap.size + 1 + 1 + 1) 26 #[.int .i64 0] ∧ Below w.heap.size w X)
      ?hI ?hIx ?h0 (fun x a' X => ∃ bp, Blk X bp 129 #[.int .i64 x.1, .int .i64 (bdL l x.1)] ∧ w3.heap.size ≤ bp ∧ a' = { tmps := #[.agg #[.int .i64 a.1, .int .i64 a.2], .slice A n c, .pointer (some ⟨w.heap.size, 0, none⟩), undef, .pointer (some ⟨w.heap.size + 1, 0, none⟩), .pointer (some ⟨w.heap.size + 1 + 1, 0, none⟩), .pointer (some ⟨w.heap.size + 1 + 1 + 1, 0, none⟩), .int .i64 0, .pointer (some ⟨bp, 0, none⟩), .agg #[.int .i64 a.1, .int .i64 a.2], .int .i64 e1, .slice A n c, .int .i64 e2, .slice (some ⟨w2.heap.size, 0, none⟩) 2 2, .int .i64 0, .int .i64 0, .bool false, undef, .slice A n c, .func (.func 100) #[] #[.pointer (some ⟨W2.heap.size, 0, none⟩)], .agg #[.int .i64 x.1, .int .i64 (bdL l x.1)], undef, undef, undef, undef, undef, undef, undef, undef, undef, undef, undef, undef, undef, undef, undef, undef, undef, undef, undef, undef], defers := [] }) ?hAx ?assign ?body ?done ?stop
    case hI =>
      rintro s_ X Y row ⟨i0, i1, i2, i3, i5, i6⟩ hgr hr
      have hk := fun r e => (hr r e).2
      exact ⟨blk_keptR i0 hgr hk, blk_keptR i1 hgr hk, blk_keptR i2 hgr hk, blk_keptR i3 hgr hk, ⟨i5.1.grown hgr i5.1.size (fun q e => by have := (hr q e).1; have := HB.out.size; omega), Nat.le_trans i5.2 hgr.size⟩, i6⟩
    case hIx =>
      rintro cd s_ X Y row ⟨rfl, pre0, x, j1, j2, j3, i1, i2, i3, i4⟩ hgr hr
      have hk := fun r e => (hr r e).2
      exact ⟨rfl, pre0, x, j1, j2, j3, blk_keptR i1 hgr hk, blk_keptR i2 hgr hk, blk_keptR i3 hgr hk, i4.grown hgr i4.size (fun q e => by have := (hr q e).1; have := HB.out.size; omega)⟩
    case h0 => exact ⟨K0.out, K1.out, K2.out, K3.out, ⟨HB.out, Nat.le_refl _⟩, fun _ h => by cases h⟩
    case hAx =>
      rintro x a' s_ X Y row ⟨bp, h3, h4, h5⟩ hgr hr
      exact ⟨bp, blk_keptR h3 hgr (fun r e => (hr r e).2), h4, h5⟩
    case assign =>
      rintro l' pre x X K ⟨i0, i1, i2, i3, i5, i6⟩ hK
      gi_wp2
      exact hK _ _ (KeepsFrom.of_grownBy (World.grownBy_alloc X _ none) (by simp)) ((Below.refl _ X).alloc i5.2 _) ⟨i0.alloc _, i1.alloc _, i2.alloc _, i3.alloc _, ⟨i5.1.alloc i5.1.size _, Nat.le_trans i5.2 (by simp)⟩, i6⟩ ⟨X.heap.size, blk_al rfl, i5.2, rfl⟩
    case body =>
      rintro L pre x a' X hL hrec ⟨i0, i1, i2, i3, i5, i6⟩ ⟨bp, j0, hbp, rfl⟩ hlen
      have hxm := bns_mem.1 x.2
      have bd := bdL_bd HE.out (i := x.1) (by have := HN.out; omega)
      have ab := HAB.out
      have hjc := jmB_cases a (bdL l x.1)
      obtain ⟨b, hb⟩ : ∃ b, bdL l x.1 = b := ⟨_, rfl⟩
      rw [hb] at j0 bd hjc
      have HBB := Lib.hid hb
      have w1 : IntKind.i64.wrap (b - a.2) = b - a.2 := IntWalk.i64_in _ (by omega)
      have w2 : IntKind.i64.wrap (a.2 - b) = a.2 - b := IntWalk.i64_in _ (by omega)
      obtain ⟨t0, t1, -, -, -⟩ := i0.two
      obtain ⟨y0, y1, -, -, -⟩ := j0.two
      have hsz := HB.out.size
      have I0 := Lib.hid i0
      have I1 := Lib.hid i1
      have I2 := Lib.hid i2
      have I3 := Lib.hid i3
      have I5 := Lib.hid i5
      have I6 := Lib.hid i6
      have HJC := Lib.hid hjc
      clear hb hjc i0 i1 i2 i3 i5 i6 j0 hlen bd ab hxm
      rcases HJC.out with ⟨hj, hc⟩ | ⟨hj, hc⟩ | ⟨hj, hc, hc2⟩
      · have d1 : decide (a.1 < b - a.2) = true := decide_eq_true hc
        obtain ⟨x1, x2, x3⟩ := I1.out.one
        obtain ⟨x4, x5, x6⟩ := I2.out.one
        obtain ⟨x7, x8, x9⟩ := I3.out.one
        gi_wp2
        have n1 : w.heap.size + 1 ≠ w.heap.size + 1 + 1 := by omega
        have n2 : w.heap.size + 1 ≠ w.heap.size + 1 + 1 + 1 := by omega
        have n3 : w.heap.size + 1 + 1 ≠ w.heap.size + 1 + 1 + 1 := by omega
        first
        | refine ⟨(((KeepsOthers.setCell _ _ _).from _).trans ((KeepsOthers.setCell _ _ _).from _)).trans ((KeepsOthers.setCell _ _ _).from _), rfl, pre, x, rfl, I6.out, by rw [HBB.out, hj]; decide, ?_, ?_, ?_, ?_⟩
        | refine ⟨(((KeepsOthers.setCell _ _ _).from _).trans ((KeepsOthers.setCell _ _ _).from _)).trans ((KeepsOthers.setCell _ _ _).from _), rfl, pre, x.1, ⟨x.2, rfl⟩, fun u hu hm => I6.out ⟨u, hu⟩ hm, by rw [HBB.out, hj]; decide, ?_, ?_, ?_, ?_⟩
        · exact ((I1.out.set_ 0 (.int .i64 x.1)).far (p := ⟨w.heap.size + 1 + 1, 0, none⟩) n1 _).far (p := ⟨w.heap.size + 1 + 1 + 1, 0, none⟩) n2 _
        · rw [HBB.out, hj]
          exact ((I2.out.far (p := ⟨w.heap.size + 1, 0, none⟩) n1.symm _).set_ 0 (.int .i64 1)).far (p := ⟨w.heap.size + 1 + 1 + 1, 0, none⟩) n3 _
        · exact ((I3.out.far (p := ⟨w.heap.size + 1, 0, none⟩) n2.symm _).far (p := ⟨w.heap.size + 1 + 1, 0, none⟩) n3.symm _).set_ 0 (.int .i64 0)
        · exact ((I5.out.1.setCell (p := ⟨w.heap.size + 1, 0, none⟩) (by show w.heap.size ≤ w.heap.size + 1; omega) _).setCell (p := ⟨w.heap.size + 1 + 1, 0, none⟩) (by show w.heap.size ≤ w.heap.size + 1 + 1; omega) _).setCell (p := ⟨w.heap.size + 1 + 1 + 1, 0, none⟩) (by show w.heap.size ≤ w.heap.size + 1 + 1 + 1; omega) _
      · have ab := HAB.out
        have hc1 : ¬ (a.1 < b - a.2) := by omega
        have d1 : decide (a.1 < b - a.2) = false := decide_eq_false hc1
        have d2 : decide (a.1 < a.2 - b) = true := decide_eq_true hc
        clear ab
        obtain ⟨x1, x2, x3⟩ := I1.out.one
        obtain ⟨x4, x5, x6⟩ := I2.out.one
        obtain ⟨x7, x8, x9⟩ := I3.out.one
        gi_wp2
        have n1 : w.heap.size + 1 ≠ w.heap.size + 1 + 1 := by omega
        have n2 : w.heap.size + 1 ≠ w.heap.size + 1 + 1 + 1 := by omega
        have n3 : w.heap.size + 1 + 1 ≠ w.heap.size + 1 + 1 + 1 := by omega
        first
        | refine ⟨(((KeepsOthers.setCell _ _ _).from _).trans ((KeepsOthers.setCell _ _ _).from _)).trans ((KeepsOthers.setCell _ _ _).from _), rfl, pre, x, rfl, I6.out, by rw [HBB.out, hj]; decide, ?_, ?_, ?_, ?_⟩
        | refine ⟨(((KeepsOthers.setCell _ _ _).from _).trans ((KeepsOthers.setCell _ _ _).from _)).trans ((KeepsOthers.setCell _ _ _).from _), rfl, pre, x.1, ⟨x.2, rfl⟩, fun u hu hm => I6.out ⟨u, hu⟩ hm, by rw [HBB.out, hj]; decide, ?_, ?_, ?_, ?_⟩
        · exact ((I1.out.set_ 0 (.int .i64 x.1)).far (p := ⟨w.heap.size + 1 + 1, 0, none⟩) n1 _).far (p := ⟨w.heap.size + 1 + 1 + 1, 0, none⟩) n2 _
        · rw [HBB.out, hj]
          exact ((I2.out.far (p := ⟨w.heap.size + 1, 0, none⟩) n1.symm _).set_ 0 (.int .i64 (-1))).far (p := ⟨w.heap.size + 1 + 1 + 1, 0, none⟩) n3 _
        · exact ((I3.out.far (p := ⟨w.heap.size + 1, 0, none⟩) n2.symm _).far (p := ⟨w.heap.size + 1 + 1, 0, none⟩) n3.symm _).set_ 0 (.int .i64 0)
        · exact ((I5.out.1.setCell (p := ⟨w.heap.size + 1, 0, none⟩) (by show w.heap.size ≤ w.heap.size + 1; omega) _).setCell (p := ⟨w.heap.size + 1 + 1, 0, none⟩) (by show w.heap.size ≤ w.heap.size + 1 + 1; omega) _).setCell (p := ⟨w.heap.size + 1 + 1 + 1, 0, none⟩) (by show w.heap.size ≤ w.heap.size + 1 + 1 + 1; omega) _
      · have hc1 : ¬ (a.1 < b - a.2) := by omega
        have d1 : decide (a.1 < b - a.2) = false := decide_eq_false hc1
        have hc3 : ¬ (a.1 < a.2 - b) := by omega
        have d2 : decide (a.1 < a.2 - b) = false := decide_eq_false hc3
        gi_wp2
        refine ⟨KeepsFrom.of_grownBy (World.grownBy.refl X none) (by simp), Below.refl _ _, I0.out, I1.out, I2.out, I3.out, I5.out, fun u hu hy => ?_⟩
        rcases List.mem_append.1 hy with hy | hy
        · exact I6.out ⟨u, hu⟩ hy
        · have e : u = x.1 := congrArg Subtype.val (List.mem_singleton.1 hy)
          rw [e, HBB.out]; exact hj
    case done =>
      rintro D xs X hD hS ⟨i0, i1, i2, i3, i5, i6⟩ hK
      have HF : Hid (jmL a l = none) := Lib.hid (jmL_none (fun u hu => by
        rw [← HN.out] at hu
        rw [← hS] at hu
        obtain ⟨y, hy, rfl⟩ := List.mem_map.1 hu
        exact i6 y hy))
      have I1 := Lib.hid i1
      have I2 := Lib.hid i2
      have I3 := Lib.hid i3
      have I5 := Lib.hid i5
      have HK := Lib.hid hK
      have HD := Lib.hid hD
      have hw1 := HB.out.size
      obtain ⟨x1, x2, x3⟩ := i1.one
      obtain ⟨x4, x5, x6⟩ := i2.one
      obtain ⟨x7, x8, x9⟩ := i3.one
      clear i0 i1 i2 i3 i5 i6 hK hS hD q1
      gi_wp2
      have n1 : w.heap.size + 1 ≠ w.heap.size + 1 + 1 := by omega
      have n2 : w.heap.size + 1 ≠ w.heap.size + 1 + 1 + 1 := by omega
      have n3 : w.heap.size + 1 + 1 ≠ w.heap.size + 1 + 1 + 1 := by omega
      have F1 := Lib.hid (((I1.out.set_ 0 (.int .i64 0)).far (p := ⟨w.heap.size + 1 + 1, 0, none⟩) n1 (.int .i64 0)).far (p := ⟨w.heap.size + 1 + 1 + 1, 0, none⟩) n2 (.int .i64 5))
      have F2 := Lib.hid (((I2.out.far (p := ⟨w.heap.size + 1, 0, none⟩) n1.symm (.int .i64 0)).set_ 0 (.int .i64 0)).far (p := ⟨w.heap.size + 1 + 1 + 1, 0, none⟩) n3 (.int .i64 5))
      have F3 := Lib.hid (((I3.out.far (p := ⟨w.heap.size + 1, 0, none⟩) n2.symm (.int .i64 0)).far (p := ⟨w.heap.size + 1 + 1, 0, none⟩) n3.symm (.int .i64 0)).set_ 0 (.int .i64 5))
      have hbl := ((I5.out.1.setCell (p := ⟨w.heap.size + 1, 0, none⟩) (by show w.heap.size ≤ w.heap.size + 1; omega) (.int .i64 0)).setCell (p := ⟨w.heap.size + 1 + 1, 0, none⟩) (by show w.heap.size ≤ w.heap.size + 1 + 1; omega) (.int .i64 0)).setCell (p := ⟨w.heap.size + 1 + 1 + 1, 0, none⟩) (by show w.heap.size ≤ w.heap.size + 1 + 1 + 1; omega) (.int .i64 5)
      have hK2 := (KeepsOthers.setCell (((X.setCell ⟨w.heap.size + 1, 0, none⟩ (.int .i64 0)).setCell ⟨w.heap.size + 1 + 1, 0, none⟩ (.int .i64 0))) ⟨w.heap.size + 1 + 1 + 1, 0, none⟩ (.int .i64 5)).same D _ ((KeepsOthers.setCell (X.setCell ⟨w.heap.size + 1, 0, none⟩ (.int .i64 0)) ⟨w.heap.size + 1 + 1, 0, none⟩ (.int .i64 0)).same D _ ((KeepsOthers.setCell X ⟨w.heap.size + 1, 0, none⟩ (.int .i64 0)).same D _ HK.out rfl) rfl) rfl
      obtain ⟨Y, hY⟩ : ∃ Y, (((X.setCell ⟨w.heap.size + 1, 0, none⟩ (.int .i64 0)).setCell ⟨w.heap.size + 1 + 1, 0, none⟩ (.int .i64 0)).setCell ⟨w.heap.size + 1 + 1 + 1, 0, none⟩ (.int .i64 5)) = Y := ⟨_, rfl⟩
      rw [hY] at F1 F2 F3 hbl hK2 ⊢
      clear hY
      have hgp := grownBy_putObj' Y D (.deferred none)
      have hkp : ∀ r', some D = some r' → ∃ o : Obj, Y.heap[r']? = some o ∧ o.isCells = false := fun r' e => by cases e; exact ⟨_, hK2, rfl⟩
      have hbf := hbl.grown hgp hbl.size (fun q e => by cases e; have := HD.out; omega)
      have c1 := ((blk_keptR F1.out hgp hkp).cell 0).trans rfl
      have c2 := ((blk_keptR F2.out hgp hkp).cell 0).trans rfl
      have c3 := ((blk_keptR F3.out hgp hkp).cell 0).trans rfl
      refine ⟨by simp, .inl ⟨_, _, rfl, run_takeDeferred hK2, ?_⟩⟩
      refine ⟨.tuple #[.int .i64 0, .int .i64 0, .int .i64 5], ?_, by rw [HI.out.1, HI.out.2.1, HI.out.2.2, HF.out]; rfl, hbf⟩
      simp [results, Try.results30, go_sem, c1, c2, c3]
    case stop =>
      rintro D cd pre X hD hS ⟨rfl, pre0, x, rfl, j2, j3, j4, j5, j6, j7⟩ hK
      have hS2 : List.map (fun z => z.1) pre0 ++ [x.1] <+: bns n := by simpa using hS
      have HF : Hid (jmL a l = some (x.1, jmB a (bdL l x.1))) := Lib.hid (jmL_some (pre := pre0.map (fun z => z.1)) (hS2.trans (by rw [HN.out]; exact List.prefix_refl _)) (fun v hv => by
        obtain ⟨y, hy, rfl⟩ := List.mem_map.1 hv
        exact j2 y hy) j3)
      have hw1 := HB.out.size
      have hgp := grownBy_putObj' X D (.deferred none)
      have hkp : ∀ r', some D = some r' → ∃ o : Obj, X.heap[r']? = some o ∧ o.isCells = false := fun r' e => by cases e; exact ⟨_, hK, rfl⟩
      have hbl := j7.grown hgp j7.size (fun q e => by cases e; omega)
      have C1 := Lib.hid (((blk_keptR j4 hgp hkp).cell 0).trans rfl)
      have C2 := Lib.hid (((blk_keptR j5 hgp hkp).cell 0).trans rfl)
      have C3 := Lib.hid (((blk_keptR j6 hgp hkp).cell 0).trans rfl)
      have HK := Lib.hid hK
      have HBL := Lib.hid hbl
      clear j2 j3 j4 j5 j6 j7 hK hbl hS hS2 hgp hkp q1
      gi_wp2
      refine ⟨by simp, .inl ⟨_, _, rfl, run_takeDeferred HK.out, ?_⟩⟩
      refine ⟨.tuple #[.int .i64 x.1, .int .i64 (jmB a (bdL l x.1)), .int .i64 0], ?_, by rw [HI.out.1, HI.out.2.1, HI.out.2.2, HF.out]; rfl, HBL.out⟩
      have c1 := C1.out
      have c2 := C2.out
      have c3 := C3.out
      simp [results, Try.results30, go_sem, c1, c2, c3]
  · have q1 : (er_ != 0) = true := by rw [bne_iff_ne]; exact hz
    have HI : Hid (jmI a l = 0 ∧ jmT a l = 0 ∧ jmE a l = er_) := Lib.hid (by unfold jmI jmT jmE; rw [HER.out, if_neg hz, if_neg hz, if_neg hz]; exact ⟨rfl, rfl, rfl⟩)
    clear hz
    go_enter Try.func30, Try.ntmps30
    go_wp2_with fail
    rw [HW0.out]
    have t0 := (K0.out.cell 0).trans rfl
    have t1 := (K0.out.cell 1).trans rfl
    go_wp2_with fail
    refine (CA.out _).mono ?_
    rintro e w1 ⟨rfl, hb⟩
    replace K0 := Lib.hid (K0.out.below hb K0.out.lt)
    replace K1 := Lib.hid (K1.out.below hb K1.out.lt)
    replace K2 := Lib.hid (K2.out.below hb K2.out.lt)
    replace K3 := Lib.hid (K3.out.below hb K3.out.lt)
    replace HB := Lib.hid (HB.out.trans (hb.mono HB.out.size))
    clear hb
    clear t0 t1
    go_wp2_with fail
    refine (CG.out _ HB.out).mono ?_
    rintro e w2 ⟨rfl, hb⟩
    replace K0 := Lib.hid (K0.out.below hb K0.out.lt)
    replace K1 := Lib.hid (K1.out.below hb K1.out.lt)
    replace K2 := Lib.hid (K2.out.below hb K2.out.lt)
    replace K3 := Lib.hid (K3.out.below hb K3.out.lt)
    replace HB := Lib.hid (HB.out.trans (hb.mono HB.out.size))
    clear hb
    go_wp2_with fail
    refine (HOR.out _ _ _ _ _ rfl (reads_cells (blk_al rfl) (Nat.lt_succ_self _) (by rfl) (by rfl)) (by simp) (by simp)).mono ?_
    rintro e w' ⟨rfl, rfl⟩
    obtain ⟨W2, hW2⟩ : ∃ W2, w2.alloc (.cells #[.int .i64 e1, .int .i64 e2] 26) = W2 := ⟨_, rfl⟩
    have hb : Below w2.heap.size w2 W2 := by rw [← hW2]; exact (Below.refl _ _).alloc (Nat.le_refl _) _
    rw [hW2]
    clear hW2
    replace K0 := Lib.hid (K0.out.below hb K0.out.lt)
    replace K1 := Lib.hid (K1.out.below hb K1.out.lt)
    replace K2 := Lib.hid (K2.out.below hb K2.out.lt)
    replace K3 := Lib.hid (K3.out.below hb K3.out.lt)
    replace HB := Lib.hid (HB.out.trans (hb.mono HB.out.size))
    clear hb
    clear CA CG HOR HW0
    obtain ⟨x1, x2, x3⟩ := K1.out.one
    obtain ⟨x4, x5, x6⟩ := K2.out.one
    obtain ⟨x7, x8, x9⟩ := K3.out.one
    go_wp2
    have n1 : w.heap.size + 1 ≠ w.heap.size + 1 + 1 := by omega
    have n2 : w.heap.size + 1 ≠ w.heap.size + 1 + 1 + 1 := by omega
    have n3 : w.heap.size + 1 + 1 ≠ w.heap.size + 1 + 1 + 1 := by omega
    have F1 := Lib.hid (((K1.out.set_ 0 (.int .i64 0)).far (p := ⟨w.heap.size + 1 + 1, 0, none⟩) n1 (.int .i64 0)).far (p := ⟨w.heap.size + 1 + 1 + 1, 0, none⟩) n2 (.int .i64 er_))
    have F2 := Lib.hid (((K2.out.far (p := ⟨w.heap.size + 1, 0, none⟩) n1.symm (.int .i64 0)).set_ 0 (.int .i64 0)).far (p := ⟨w.heap.size + 1 + 1 + 1, 0, none⟩) n3 (.int .i64 er_))
    have F3 := Lib.hid (((K3.out.far (p := ⟨w.heap.size + 1, 0, none⟩) n2.symm (.int .i64 0)).far (p := ⟨w.heap.size + 1 + 1, 0, none⟩) n3.symm (.int .i64 0)).set_ 0 (.int .i64 er_))
    have g0 := (F1.out.cell 0).trans rfl
    have g1 := (F2.out.cell 0).trans rfl
    have g2 := (F3.out.cell 0).trans rfl
    refine ⟨rfl, .tuple #[.int .i64 0, .int .i64 0, .int .i64 er_], ?_, by rw [HI.out.1, HI.out.2.1, HI.out.2.2]; rfl, ((HB.out.setCell (p := ⟨w.heap.size + 1, 0, none⟩) (by show w.heap.size ≤ w.heap.size + 1; omega) _).setCell (p := ⟨w.heap.size + 1 + 1, 0, none⟩) (by show w.heap.size ≤ w.heap.size + 1 + 1; omega) _).setCell (p := ⟨w.heap.size + 1 + 1 + 1, 0, none⟩) (by show w.heap.size ≤ w.heap.size + 1 + 1 + 1; omega) _⟩
    simp [results, Try.results30, go_sem, g0, g1, g2]
end Go.Proofs.Ytjdnpgilinfkgaa
