/-
  The least and the greatest bend; the best arm; Balance of package play.
-/
import Derived.Test.YtjdnpgilinfkgaaMB
import Derived.Test.YtjdnpgilinfkgaaM3
import Derived.Test.YtjdnpgilinfkgaaM4
import Derived.Test.YtjdnpgilinfkgaaJG
import Derived.Test.YtjdnpgilinfkgaaMA
namespace Go.Proofs.Ytjdnpgilinfkgaa
open Go.RowKit Go.Shelf
attribute [local go_sem] Oper.semAt_some

structure FunB (w : World) (g : Nat) (first cap : Array Value) (us : List Nat) (b f : Nat → Int) : Prop where
  ent : ∀ args w, (callFunc g args).run Try.prog w = .ok (.enter g args) w
  run : ∀ u ∈ us, ∀ W, Below w.heap.size w W → Calls Try.prog g (first.push (.agg #[.int .i64 u, .int .i64 (b u)]) ++ cap) W fun e w' => e = .returned (.int .i64 (f u)) ∧ Below W.heap.size W w'
theorem FunB.below {w w' : World} {g : Nat} {first cap : Array Value} {us : List Nat} {b f : Nat → Int} (h : FunB w g first cap us b f) (hb : Below w.heap.size w w') : FunB w' g first cap us b f :=
  ⟨h.ent, fun u hu W hW => h.run u hu W (hb.trans (hW.mono hb.size))⟩
structure SeqB (w : World) (g : Nat) (lb : Array Value) (us : List Nat) (b : Nat → Int) : Prop where
  ent : ∀ args w, (callFunc g args).run Try.prog w = .ok (.enter g args) w
  run : ∀ (gg : Nat → Prop) W, Below w.heap.size w W → (∀ k, gg k → w.heap.size ≤ k) → SeqAll Fence.wide (12 - 1) Try.prog g lb (encB b) gg us W

set_option maxRecDepth 100000 in
set_option maxHeartbeats 4000000 in
theorem leastB_any (gi : Nat) (lb : Array Value) (g : Nat) (first cap : Array Value) (us : List Nat) (b f : Nat → Int) (w : World) (hs : SeqB w gi lb us b) (hf : FunB w g first cap us b f) :
    Calls Try.prog 103 #[.func (.func gi) #[] lb, .func (.func g) first cap] w fun e w' => e = .returned (.int .i64 (mnL f us)) ∧ Below w.heap.size w w' := by
  have HS := Lib.hid hs
  have HF := Lib.hid hf
  clear hs hf
  refine (callsIn_wide (n := 12)).1 ?_
  refine callsIn_of_wp_marks Try.func103 rfl trivial ?_ rfl
  simp only [Try.ntmps103, List.size_toArray, List.length_cons, List.length_nil, Nat.reduceAdd, Nat.reduceSub, Array.replicate_succ, Array.replicate_zero, List.push_toArray, List.append_toArray, List.nil_append, List.cons_append]
  gi_wp2_with fail
  obtain ⟨W0, hW0⟩ : ∃ W0, (w.alloc (.cells #[.func (.func g) first cap] 158)).alloc (.cells #[.int .i64 9223372036854775807] 2) = W0 := ⟨_, rfl⟩
  have hb0 : Below w.heap.size w W0 := by rw [← hW0]; exact ((Below.refl _ _).alloc (Nat.le_refl _) _).alloc (by simp) _
  have k1 : Blk W0 w.heap.size 158 #[.func (.func g) first cap] := by rw [← hW0]; exact (Blk.new _ _ _).alloc _
  have k2 : Blk W0 (w.heap.size + 1) 2 #[.int .i64 9223372036854775807] := by rw [← hW0]; exact blk_al (by simp)
  rw [hW0]
  clear hW0
  have hs0 := hb0.size
  refine wpIn_rangeAll rfl (by omega) (gf := gi) (lb := lb) rfl trivial HS.out.ent (HS.out.run (fun k => k = w.heap.size + 1) W0 hb0 (fun k hk => by omega)) (Below.refl _ _) (fun _ => rfl)
    (fun pre X => Blk X w.heap.size 158 #[.func (.func g) first cap] ∧ Blk X (w.heap.size + 1) 2 #[.int .i64 (mnL f pre)] ∧ Below w.heap.size w X) ?hI ?h0
    (fun pre x a' X => (Blk X w.heap.size 158 #[.func (.func g) first cap] ∧ Blk X (w.heap.size + 1) 2 #[.int .i64 (mnL f pre)] ∧ Below w.heap.size w X) ∧ ∃ bp, Blk X bp 129 #[.int .i64 x, .int .i64 (b x)] ∧ bp ≠ w.heap.size + 1 ∧ a' = { tmps := #[.func (.func gi) #[] lb, .func (.func g) first cap, undef, .pointer (some ⟨w.heap.size, 0, none⟩), .int .i64 0, .pointer (some ⟨w.heap.size + 1, 0, none⟩), .pointer (some ⟨bp, 0, none⟩), .func (.func gi) #[] lb, .agg #[.int .i64 x, .int .i64 (b x)], undef, undef, undef, undef, undef, undef], defers := [] }) ?hAx ?assign ?body ?done
  case hI =>
    rintro s X Y row ⟨i1, i2, i3⟩ hgr hr
    have hk := fun r e => (hr r e).2
    exact ⟨blk_keptR i1 hgr hk, blk_keptR i2 hgr hk, i3.grown hgr i3.size (fun q e => by have := (hr q e).1; omega)⟩
  case h0 => exact ⟨k1, k2, hb0⟩
  case hAx =>
    rintro pre x a' s X Y row ⟨⟨i1, i2, i3⟩, bp, h3, h4, h5⟩ hgr hr
    have hk := fun r e => (hr r e).2
    exact ⟨⟨blk_keptR i1 hgr hk, blk_keptR i2 hgr hk, i3.grown hgr i3.size (fun q e => by have := (hr q e).1; omega)⟩, bp, blk_keptR h3 hgr hk, h4, h5⟩
  case assign =>
    rintro l' pre x X K ⟨i1, i2, i3⟩ hK
    have z := i2.lt
    gi_wp2
    exact hK _ _ (World.grownBy_alloc X _ none) ⟨⟨i1.alloc _, i2.alloc _, i3.alloc i3.size _⟩, X.heap.size, blk_al rfl, by omega, rfl⟩
  case body =>
    rintro L pre x a' X hL ⟨⟨i1, i2, i3⟩, bp, i4, hbp, rfl⟩ hpre
    have hxm : x ∈ us := hpre.subset (by simp)
    have hent := HF.out.ent
    have CALL := HF.out.run x hxm
    have hsn := mnL_snoc f pre x
    obtain ⟨m, hm⟩ : ∃ m, mnL f pre = m := ⟨_, rfl⟩
    obtain ⟨m', hm'⟩ : ∃ m', mnL f (pre ++ [x]) = m' := ⟨_, rfl⟩
    rw [hm] at i2 hsn
    rw [hm'] at hsn
    obtain ⟨v, hv⟩ : ∃ v, f x = v := ⟨_, rfl⟩
    rw [hv] at hsn CALL
    have hmi : (if v < m then v else m) = m' := by rw [hsn]; split <;> omega
    have I1 := Lib.hid i1
    have I2 := Lib.hid i2
    have I3 := Lib.hid i3
    have HM := Lib.hid hm'
    have CL := Lib.hid CALL
    clear hpre hxm hsn hm hm' hv CALL
    have c1 := i1.one.1
    have c2 := i2.one.1
    have c3 := i2.one.2.1
    have c4 := (i4.cell 0).trans rfl
    have c5 := (i4.cell 1).trans rfl
    clear i1 i2 i3 i4
    refine wpIn_block ?_
    refine wpIn_region_round (by kernel_rfl) (by simp) (by rintro ⟨a, w, h⟩; exact h) ?_
    change wpAny _ _ _ _ _ _ _ X.drew
    refine wpAny_ready (rs := [0, 1, 2]) (by kernel_rfl) (by simp) ?_
    refine AllReady.cons rfl (fun K hK => ?_) ?_
    · go_simp
      refine hK _ _ ?_
      clear hK K
      refine wpAny_ready (rs := [1, 2]) (by kernel_rfl) (by simp) ?_
      refine AllReady.cons rfl (fun K hK => ?_) ?_
      · go_simp
        refine hK _ _ ?_
        clear hK K
        refine wpAny_ready (rs := [2]) (by kernel_rfl) (by simp) ?_
        refine AllReady.cons rfl (fun K hK => ?_) AllReady.nil
        go_simp
        refine hK _ _ ?_
        clear hK K
        refine wpAny_ready (rs := [3]) (by kernel_rfl) (by simp) ?_
        refine AllReady.cons rfl (fun K hK => ?_) AllReady.nil
        go_simp
        refine (CL.out _ I3.out.drew).mono ?_
        rintro e w8 ⟨rfl, hb8⟩
        replace hb8 : Below X.heap.size X w8 := below_undrew hb8
        have HB8 := Lib.hid hb8
        have J2 := Lib.hid (I2.out.below hb8 I2.out.lt)
        have d2 := J2.out.one.1
        have d3 := J2.out.one.2.1
        clear hb8
        refine hK _ _ ?_
        clear hK K
        refine wpAny_ready (rs := [4]) (by kernel_rfl) (by simp) ?_
        refine AllReady.cons rfl (fun K hK => ?_) AllReady.nil
        go_simp
        refine hK _ _ ?_
        clear hK K
        refine wpAny_ready (rs := [5]) (by kernel_rfl) (by simp) ?_
        refine AllReady.cons rfl (fun K hK => ?_) AllReady.nil
        go_simp
        refine hK _ _ ?_
        clear hK K
        refine wpAny_done (by kernel_rfl) ?_ _
        refine ⟨((KeepsFrom.of_grownBy (grown_none HB8.out) (by simp)).trans ((KeepsOthers.setCell _ _ _).from _)), ((Bel.of_below (S := fun k => k = w.heap.size + 1) HB8.out).setCell (p := ⟨w.heap.size + 1, 0, none⟩) (.inr rfl) _), (I1.out.below HB8.out I1.out.lt).far (p := ⟨w.heap.size + 1, 0, none⟩) (by show w.heap.size ≠ w.heap.size + 1; omega) _, ?_, (I3.out.trans (HB8.out.mono I3.out.size)).setCell (p := ⟨w.heap.size + 1, 0, none⟩) (by show w.heap.size ≤ w.heap.size + 1; omega) _⟩
        rw [HM.out]
        exact J2.out.set_ 0 _
      refine AllReady.cons rfl (fun K hK => ?_) ?_
      · go_simp
        refine hK _ _ ?_
        clear hK K
        refine wpAny_ready (rs := [1]) (by kernel_rfl) (by simp) ?_
        refine AllReady.cons rfl (fun K hK => ?_) AllReady.nil
        go_simp
        refine hK _ _ ?_
        clear hK K
        refine wpAny_ready (rs := [3]) (by kernel_rfl) (by simp) ?_
        refine AllReady.cons rfl (fun K hK => ?_) AllReady.nil
        go_simp
        refine (CL.out _ I3.out.drew).mono ?_
        rintro e w8 ⟨rfl, hb8⟩
        replace hb8 : Below X.heap.size X w8 := below_undrew hb8
        have HB8 := Lib.hid hb8
        have J2 := Lib.hid (I2.out.below hb8 I2.out.lt)
        have d2 := J2.out.one.1
        have d3 := J2.out.one.2.1
        clear hb8
        refine hK _ _ ?_
        clear hK K
        refine wpAny_ready (rs := [4]) (by kernel_rfl) (by simp) ?_
        refine AllReady.cons rfl (fun K hK => ?_) AllReady.nil
        go_simp
        refine hK _ _ ?_
        clear hK K
        refine wpAny_ready (rs := [5]) (by kernel_rfl) (by simp) ?_
        refine AllReady.cons rfl (fun K hK => ?_) AllReady.nil
        go_simp
        refine hK _ _ ?_
        clear hK K
        refine wpAny_done (by kernel_rfl) ?_ _
        refine ⟨((KeepsFrom.of_grownBy (grown_none HB8.out) (by simp)).trans ((KeepsOthers.setCell _ _ _).from _)), ((Bel.of_below (S := fun k => k = w.heap.size + 1) HB8.out).setCell (p := ⟨w.heap.size + 1, 0, none⟩) (.inr rfl) _), (I1.out.below HB8.out I1.out.lt).far (p := ⟨w.heap.size + 1, 0, none⟩) (by show w.heap.size ≠ w.heap.size + 1; omega) _, ?_, (I3.out.trans (HB8.out.mono I3.out.size)).setCell (p := ⟨w.heap.size + 1, 0, none⟩) (by show w.heap.size ≤ w.heap.size + 1; omega) _⟩
        rw [HM.out]
        exact J2.out.set_ 0 _
      exact AllReady.nil
    refine AllReady.cons rfl (fun K hK => ?_) ?_
    · go_simp
      refine hK _ _ ?_
      clear hK K
      refine wpAny_ready (rs := [0, 2]) (by kernel_rfl) (by simp) ?_
      refine AllReady.cons rfl (fun K hK => ?_) ?_
      · go_simp
        refine hK _ _ ?_
        clear hK K
        refine wpAny_ready (rs := [2]) (by kernel_rfl) (by simp) ?_
        refine AllReady.cons rfl (fun K hK => ?_) AllReady.nil
        go_simp
        refine hK _ _ ?_
        clear hK K
        refine wpAny_ready (rs := [3]) (by kernel_rfl) (by simp) ?_
        refine AllReady.cons rfl (fun K hK => ?_) AllReady.nil
        go_simp
        refine (CL.out _ I3.out.drew).mono ?_
        rintro e w8 ⟨rfl, hb8⟩
        replace hb8 : Below X.heap.size X w8 := below_undrew hb8
        have HB8 := Lib.hid hb8
        have J2 := Lib.hid (I2.out.below hb8 I2.out.lt)
        have d2 := J2.out.one.1
        have d3 := J2.out.one.2.1
        clear hb8
        refine hK _ _ ?_
        clear hK K
        refine wpAny_ready (rs := [4]) (by kernel_rfl) (by simp) ?_
        refine AllReady.cons rfl (fun K hK => ?_) AllReady.nil
        go_simp
        refine hK _ _ ?_
        clear hK K
        refine wpAny_ready (rs := [5]) (by kernel_rfl) (by simp) ?_
        refine AllReady.cons rfl (fun K hK => ?_) AllReady.nil
        go_simp
        refine hK _ _ ?_
        clear hK K
        refine wpAny_done (by kernel_rfl) ?_ _
        refine ⟨((KeepsFrom.of_grownBy (grown_none HB8.out) (by simp)).trans ((KeepsOthers.setCell _ _ _).from _)), ((Bel.of_below (S := fun k => k = w.heap.size + 1) HB8.out).setCell (p := ⟨w.heap.size + 1, 0, none⟩) (.inr rfl) _), (I1.out.below HB8.out I1.out.lt).far (p := ⟨w.heap.size + 1, 0, none⟩) (by show w.heap.size ≠ w.heap.size + 1; omega) _, ?_, (I3.out.trans (HB8.out.mono I3.out.size)).setCell (p := ⟨w.heap.size + 1, 0, none⟩) (by show w.heap.size ≤ w.heap.size + 1; omega) _⟩
        rw [HM.out]
        exact J2.out.set_ 0 _
      refine AllReady.cons rfl (fun K hK => ?_) ?_
      · go_simp
        refine hK _ _ ?_
        clear hK K
        refine wpAny_ready (rs := [0, 3]) (by kernel_rfl) (by simp) ?_
        refine AllReady.cons rfl (fun K hK => ?_) ?_
        · go_simp
          refine hK _ _ ?_
          clear hK K
          refine wpAny_ready (rs := [3]) (by kernel_rfl) (by simp) ?_
          refine AllReady.cons rfl (fun K hK => ?_) AllReady.nil
          go_simp
          refine (CL.out _ I3.out.drew).mono ?_
          rintro e w8 ⟨rfl, hb8⟩
          replace hb8 : Below X.heap.size X w8 := below_undrew hb8
          have HB8 := Lib.hid hb8
          have J2 := Lib.hid (I2.out.below hb8 I2.out.lt)
          have d2 := J2.out.one.1
          have d3 := J2.out.one.2.1
          clear hb8
          refine hK _ _ ?_
          clear hK K
          refine wpAny_ready (rs := [4]) (by kernel_rfl) (by simp) ?_
          refine AllReady.cons rfl (fun K hK => ?_) AllReady.nil
          go_simp
          refine hK _ _ ?_
          clear hK K
          refine wpAny_ready (rs := [5]) (by kernel_rfl) (by simp) ?_
          refine AllReady.cons rfl (fun K hK => ?_) AllReady.nil
          go_simp
          refine hK _ _ ?_
          clear hK K
          refine wpAny_done (by kernel_rfl) ?_ _
          refine ⟨((KeepsFrom.of_grownBy (grown_none HB8.out) (by simp)).trans ((KeepsOthers.setCell _ _ _).from _)), ((Bel.of_below (S := fun k => k = w.heap.size + 1) HB8.out).setCell (p := ⟨w.heap.size + 1, 0, none⟩) (.inr rfl) _), (I1.out.below HB8.out I1.out.lt).far (p := ⟨w.heap.size + 1, 0, none⟩) (by show w.heap.size ≠ w.heap.size + 1; omega) _, ?_, (I3.out.trans (HB8.out.mono I3.out.size)).setCell (p := ⟨w.heap.size + 1, 0, none⟩) (by show w.heap.size ≤ w.heap.size + 1; omega) _⟩
          rw [HM.out]
          exact J2.out.set_ 0 _
        refine AllReady.cons rfl (fun K hK => ?_) ?_
        · go_simp
          refine (CL.out _ I3.out.drew).mono ?_
          rintro e w8 ⟨rfl, hb8⟩
          replace hb8 : Below X.heap.size X w8 := below_undrew hb8
          have HB8 := Lib.hid hb8
          have J2 := Lib.hid (I2.out.below hb8 I2.out.lt)
          have d2 := J2.out.one.1
          have d3 := J2.out.one.2.1
          clear hb8
          refine hK _ _ ?_
          clear hK K
          refine wpAny_ready (rs := [0]) (by kernel_rfl) (by simp) ?_
          refine AllReady.cons rfl (fun K hK => ?_) AllReady.nil
          go_simp
          refine hK _ _ ?_
          clear hK K
          refine wpAny_ready (rs := [4]) (by kernel_rfl) (by simp) ?_
          refine AllReady.cons rfl (fun K hK => ?_) AllReady.nil
          go_simp
          refine hK _ _ ?_
          clear hK K
          refine wpAny_ready (rs := [5]) (by kernel_rfl) (by simp) ?_
          refine AllReady.cons rfl (fun K hK => ?_) AllReady.nil
          go_simp
          refine hK _ _ ?_
          clear hK K
          refine wpAny_done (by kernel_rfl) ?_ _
          refine ⟨((KeepsFrom.of_grownBy (grown_none HB8.out) (by simp)).trans ((KeepsOthers.setCell _ _ _).from _)), ((Bel.of_below (S := fun k => k = w.heap.size + 1) HB8.out).setCell (p := ⟨w.heap.size + 1, 0, none⟩) (.inr rfl) _), (I1.out.below HB8.out I1.out.lt).far (p := ⟨w.heap.size + 1, 0, none⟩) (by show w.heap.size ≠ w.heap.size + 1; omega) _, ?_, (I3.out.trans (HB8.out.mono I3.out.size)).setCell (p := ⟨w.heap.size + 1, 0, none⟩) (by show w.heap.size ≤ w.heap.size + 1; omega) _⟩
          rw [HM.out]
          exact J2.out.set_ 0 _
        exact AllReady.nil
      exact AllReady.nil
    refine AllReady.cons rfl (fun K hK => ?_) ?_
    · go_simp
      refine hK _ _ ?_
      clear hK K
      refine wpAny_ready (rs := [0, 1]) (by kernel_rfl) (by simp) ?_
      refine AllReady.cons rfl (fun K hK => ?_) ?_
      · go_simp
        refine hK _ _ ?_
        clear hK K
        refine wpAny_ready (rs := [1]) (by kernel_rfl) (by simp) ?_
        refine AllReady.cons rfl (fun K hK => ?_) AllReady.nil
        go_simp
        refine hK _ _ ?_
        clear hK K
        refine wpAny_ready (rs := [3]) (by kernel_rfl) (by simp) ?_
        refine AllReady.cons rfl (fun K hK => ?_) AllReady.nil
        go_simp
        refine (CL.out _ I3.out.drew).mono ?_
        rintro e w8 ⟨rfl, hb8⟩
        replace hb8 : Below X.heap.size X w8 := below_undrew hb8
        have HB8 := Lib.hid hb8
        have J2 := Lib.hid (I2.out.below hb8 I2.out.lt)
        have d2 := J2.out.one.1
        have d3 := J2.out.one.2.1
        clear hb8
        refine hK _ _ ?_
        clear hK K
        refine wpAny_ready (rs := [4]) (by kernel_rfl) (by simp) ?_
        refine AllReady.cons rfl (fun K hK => ?_) AllReady.nil
        go_simp
        refine hK _ _ ?_
        clear hK K
        refine wpAny_ready (rs := [5]) (by kernel_rfl) (by simp) ?_
        refine AllReady.cons rfl (fun K hK => ?_) AllReady.nil
        go_simp
        refine hK _ _ ?_
        clear hK K
        refine wpAny_done (by kernel_rfl) ?_ _
        refine ⟨((KeepsFrom.of_grownBy (grown_none HB8.out) (by simp)).trans ((KeepsOthers.setCell _ _ _).from _)), ((Bel.of_below (S := fun k => k = w.heap.size + 1) HB8.out).setCell (p := ⟨w.heap.size + 1, 0, none⟩) (.inr rfl) _), (I1.out.below HB8.out I1.out.lt).far (p := ⟨w.heap.size + 1, 0, none⟩) (by show w.heap.size ≠ w.heap.size + 1; omega) _, ?_, (I3.out.trans (HB8.out.mono I3.out.size)).setCell (p := ⟨w.heap.size + 1, 0, none⟩) (by show w.heap.size ≤ w.heap.size + 1; omega) _⟩
        rw [HM.out]
        exact J2.out.set_ 0 _
      refine AllReady.cons rfl (fun K hK => ?_) ?_
      · go_simp
        refine hK _ _ ?_
        clear hK K
        refine wpAny_ready (rs := [0, 3]) (by kernel_rfl) (by simp) ?_
        refine AllReady.cons rfl (fun K hK => ?_) ?_
        · go_simp
          refine hK _ _ ?_
          clear hK K
          refine wpAny_ready (rs := [3]) (by kernel_rfl) (by simp) ?_
          refine AllReady.cons rfl (fun K hK => ?_) AllReady.nil
          go_simp
          refine (CL.out _ I3.out.drew).mono ?_
          rintro e w8 ⟨rfl, hb8⟩
          replace hb8 : Below X.heap.size X w8 := below_undrew hb8
          have HB8 := Lib.hid hb8
          have J2 := Lib.hid (I2.out.below hb8 I2.out.lt)
          have d2 := J2.out.one.1
          have d3 := J2.out.one.2.1
          clear hb8
          refine hK _ _ ?_
          clear hK K
          refine wpAny_ready (rs := [4]) (by kernel_rfl) (by simp) ?_
          refine AllReady.cons rfl (fun K hK => ?_) AllReady.nil
          go_simp
          refine hK _ _ ?_
          clear hK K
          refine wpAny_ready (rs := [5]) (by kernel_rfl) (by simp) ?_
          refine AllReady.cons rfl (fun K hK => ?_) AllReady.nil
          go_simp
          refine hK _ _ ?_
          clear hK K
          refine wpAny_done (by kernel_rfl) ?_ _
          refine ⟨((KeepsFrom.of_grownBy (grown_none HB8.out) (by simp)).trans ((KeepsOthers.setCell _ _ _).from _)), ((Bel.of_below (S := fun k => k = w.heap.size + 1) HB8.out).setCell (p := ⟨w.heap.size + 1, 0, none⟩) (.inr rfl) _), (I1.out.below HB8.out I1.out.lt).far (p := ⟨w.heap.size + 1, 0, none⟩) (by show w.heap.size ≠ w.heap.size + 1; omega) _, ?_, (I3.out.trans (HB8.out.mono I3.out.size)).setCell (p := ⟨w.heap.size + 1, 0, none⟩) (by show w.heap.size ≤ w.heap.size + 1; omega) _⟩
          rw [HM.out]
          exact J2.out.set_ 0 _
        refine AllReady.cons rfl (fun K hK => ?_) ?_
        · go_simp
          refine (CL.out _ I3.out.drew).mono ?_
          rintro e w8 ⟨rfl, hb8⟩
          replace hb8 : Below X.heap.size X w8 := below_undrew hb8
          have HB8 := Lib.hid hb8
          have J2 := Lib.hid (I2.out.below hb8 I2.out.lt)
          have d2 := J2.out.one.1
          have d3 := J2.out.one.2.1
          clear hb8
          refine hK _ _ ?_
          clear hK K
          refine wpAny_ready (rs := [0]) (by kernel_rfl) (by simp) ?_
          refine AllReady.cons rfl (fun K hK => ?_) AllReady.nil
          go_simp
          refine hK _ _ ?_
          clear hK K
          refine wpAny_ready (rs := [4]) (by kernel_rfl) (by simp) ?_
          refine AllReady.cons rfl (fun K hK => ?_) AllReady.nil
          go_simp
          refine hK _ _ ?_
          clear hK K
          refine wpAny_ready (rs := [5]) (by kernel_rfl) (by simp) ?_
          refine AllReady.cons rfl (fun K hK => ?_) AllReady.nil
          go_simp
          refine hK _ _ ?_
          clear hK K
          refine wpAny_done (by kernel_rfl) ?_ _
          refine ⟨((KeepsFrom.of_grownBy (grown_none HB8.out) (by simp)).trans ((KeepsOthers.setCell _ _ _).from _)), ((Bel.of_below (S := fun k => k = w.heap.size + 1) HB8.out).setCell (p := ⟨w.heap.size + 1, 0, none⟩) (.inr rfl) _), (I1.out.below HB8.out I1.out.lt).far (p := ⟨w.heap.size + 1, 0, none⟩) (by show w.heap.size ≠ w.heap.size + 1; omega) _, ?_, (I3.out.trans (HB8.out.mono I3.out.size)).setCell (p := ⟨w.heap.size + 1, 0, none⟩) (by show w.heap.size ≤ w.heap.size + 1; omega) _⟩
          rw [HM.out]
          exact J2.out.set_ 0 _
        exact AllReady.nil
      exact AllReady.nil
    exact AllReady.nil
  case done =>
    rintro D X hD ⟨i1, i2, i3⟩ hK
    have c2 := i2.one.1
    have HK := Lib.hid hK
    have HD := Lib.hid hD
    have I3 := Lib.hid i3
    clear i1 i2 i3 hK hD k1 k2 hb0
    gi_wp2
    have hgp := grownBy_putObj' X D (.deferred none)
    refine ⟨by simp, .inl ⟨_, _, rfl, run_takeDeferred HK.out, ?_⟩⟩
    exact ⟨_, results_tmp rfl _ _ _, rfl, I3.out.grown hgp I3.out.size (fun q e => by cases e; have := HD.out; omega)⟩

set_option maxRecDepth 100000 in
set_option maxHeartbeats 1000000 in
theorem greatestB1_any (bn : Nat) (g : Nat) (first cap : Array Value) (us : List Nat) (b f : Nat → Int) (w : World) (hk : Blk w bn 158 #[.func (.func g) first cap]) (hf : FunB w g first cap us b f)
    (hb : ∀ u ∈ us, -4611686018427387904 ≤ f u ∧ f u ≤ 4611686018427387904) : FunB w 116 #[] #[.pointer (some ⟨bn, 0, none⟩)] us b (fun u => -f u) := by
  refine ⟨enters_of Try.func116 (by kernel_rfl) rfl, fun u hu W hW => ?_⟩
  have c1 := cell_al (.cells #[.int .i64 u, .int .i64 (b u)] 129) (hk.below hW hk.lt).one.1
  have hent := hf.ent
  have CL := Lib.hid (hf.run u hu _ (hW.alloc hW.size (.cells #[.int .i64 u, .int .i64 (b u)] 129)))
  have hbu := hb u hu
  obtain ⟨v, hv⟩ : ∃ v, f u = v := ⟨_, rfl⟩
  rw [hv] at hbu CL
  have e1 : IntKind.i64.wrap (-v) = -v := IntWalk.i64_in _ (by omega)
  have HV := Lib.hid hv
  clear hk hb hv hu hf
  simp only [List.push_toArray, List.append_toArray, List.nil_append, List.cons_append]
  go_enter Try.func116, Try.ntmps116
  go_wp2_with fail
  refine CL.out.mono ?_
  rintro e w1 ⟨rfl, hb1⟩
  have HB := Lib.hid hb1
  clear hb1
  go_wp2
  go_ret
  exact ⟨ret_i (by rw [HV.out]), ((Below.refl _ W).alloc (Nat.le_refl _) (.cells #[.int .i64 u, .int .i64 (b u)] 129)).trans (HB.out.mono (by simp))⟩

set_option maxRecDepth 100000 in
set_option maxHeartbeats 1000000 in
theorem greatestB_any (gi : Nat) (lb : Array Value) (g : Nat) (first cap : Array Value) (us : List Nat) (b f : Nat → Int) (w : World) (hs : SeqB w gi lb us b) (hf : FunB w g first cap us b f) (hne : us ≠ [])
    (hb : ∀ u ∈ us, -4611686018427387904 ≤ f u ∧ f u ≤ 4611686018427387904) :
    Calls Try.prog 104 #[.func (.func gi) #[] lb, .func (.func g) first cap] w fun e w' => e = .returned (.int .i64 (-mnL (fun u => -f u) us)) ∧ Below w.heap.size w w' := by
  have hm : -4611686018427387904 ≤ mnL (fun u => -f u) us ∧ mnL (fun u => -f u) us ≤ 4611686018427387904 := by
    obtain ⟨u, hu, e⟩ := mnL_at (f := fun u => -f u) hne (fun u hu => by have := hb u hu; omega)
    have := hb u hu
    rw [e]; omega
  have HS := Lib.hid hs
  have HF := Lib.hid hf
  have HBD := Lib.hid hb
  obtain ⟨m, hm'⟩ : ∃ m, mnL (fun u => -f u) us = m := ⟨_, rfl⟩
  rw [hm'] at hm
  have HM := Lib.hid hm'
  have e1 : IntKind.i64.wrap (-m) = -m := IntWalk.i64_in _ (by omega)
  clear hs hf hb hne hm'
  go_enter Try.func104, Try.ntmps104
  go_wp2_with fail
  obtain ⟨W, hW⟩ : ∃ W, w.alloc (.cells #[.func (.func g) first cap] 158) = W := ⟨_, rfl⟩
  have hbw : Below w.heap.size w W := by rw [← hW]; exact (Below.refl _ _).alloc (Nat.le_refl _) _
  have k1 : Blk W w.heap.size 158 #[.func (.func g) first cap] := by rw [← hW]; exact Blk.new _ _ _
  rw [hW]
  clear hW
  have CALL := leastB_any gi lb _ #[] #[.pointer (some ⟨w.heap.size, 0, none⟩)] us b (fun u => -f u) W (⟨HS.out.ent, fun gg X hX hg => HS.out.run gg X (hbw.trans (hX.mono hbw.size)) (fun k hk => Nat.le_trans hbw.size (hg k hk))⟩) (greatestB1_any w.heap.size g first cap us b f W k1 (HF.out.below hbw) HBD.out)
  rw [HM.out] at CALL
  have HB := Lib.hid hbw
  clear k1 hbw
  refine CALL.mono ?_
  rintro e w1 ⟨rfl, hb1⟩
  have HB := Lib.hid (HB.out.trans (hb1.mono HB.out.size))
  clear hb1 CALL
  go_wp2
  go_ret
  exact ⟨ret_i (by rw [HM.out]), HB.out⟩


set_option maxHeartbeats 400000 in
theorem best1_any (us : List Nat) (b : Nat → Int) (w : World) : FunB w 102 #[] #[] us b b := by
  refine ⟨enters_of Try.func102 (by kernel_rfl) rfl, fun u _ W _ => ?_⟩
  obtain ⟨x, hx⟩ : ∃ x, b u = x := ⟨_, rfl⟩
  rw [hx]
  clear hx
  simp only [List.push_toArray, List.append_toArray, List.nil_append, List.append_nil]
  go_enter Try.func102, Try.ntmps102
  go_wp2
  go_ret
  exact ⟨rfl, (Below.refl _ _).alloc (Nat.le_refl _) _⟩
end Go.Proofs.Ytjdnpgilinfkgaa
