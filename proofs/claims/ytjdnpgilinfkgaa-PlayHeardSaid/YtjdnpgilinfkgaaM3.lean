/-
  The least number that a function value gives at what an iterator yields.
-/
import Derived.Test.YtjdnpgilinfkgaaM2
import Derived.Test.YtjdnpgilinfkgaaIr
import Derived.OrdersHeld
import Derived.Deep.RegionHeld3
namespace Go.Proofs.Ytjdnpgilinfkgaa
open Go.RowKit Go.Shelf
attribute [local go_sem] Oper.semAt_some

/-- A function value that gives f at the numbers us, in all worlds that have grown out of w. -/
structure FunIs (w : World) (g : Nat) (first cap : Array Value) (us : List Nat) (f : Nat → Int) : Prop where
  ent : ∀ args w, (callFunc g args).run Try.prog w = .ok (.enter g args) w
  run : ∀ u ∈ us, ∀ W, Below w.heap.size w W → Calls Try.prog g (first.push (.int .i64 u) ++ cap) W fun e w' => e = .returned (.int .i64 (f u)) ∧ Below W.heap.size W w'
theorem FunIs.below {w w' : World} {g : Nat} {first cap : Array Value} {us : List Nat} {f : Nat → Int} (h : FunIs w g first cap us f) (hb : Below w.heap.size w w') : FunIs w' g first cap us f :=
  ⟨h.ent, fun u hu W hW => h.run u hu W (hb.trans (hW.mono hb.size))⟩
theorem FunIs.congr {w : World} {g : Nat} {first cap : Array Value} {us : List Nat} {f f' : Nat → Int} (h : FunIs w g first cap us f) (e : ∀ u ∈ us, f u = f' u) : FunIs w g first cap us f' :=
  ⟨h.ent, fun u hu W hW => e u hu ▸ h.run u hu W hW⟩
/-- An iterator that yields the numbers us, in order. -/
structure SeqIs (w : World) (g : Nat) (lb : Array Value) (us : List Nat) : Prop where
  ent : ∀ args w, (callFunc g args).run Try.prog w = .ok (.enter g args) w
  run : ∀ (gg : Nat → Prop) W, Below w.heap.size w W → (∀ k, gg k → w.heap.size ≤ k) → SeqAll Fence.wide (12 - 1) Try.prog g lb encN gg us W
theorem SeqIs.below {w w' : World} {g : Nat} {lb : Array Value} {us : List Nat} (h : SeqIs w g lb us) (hb : Below w.heap.size w w') : SeqIs w' g lb us :=
  ⟨h.ent, fun gg W hW hg => h.run gg W (hb.trans (hW.mono hb.size)) (fun k hk => Nat.le_trans hb.size (hg k hk))⟩

theorem below_undrew {B : Nat} {X Y : World} (h : Below B X.drew Y) : Below B X Y := ⟨h.os, h.tape, h.output, h.size, h.block⟩
theorem grown_bJ {X Y : World} (h : Below X.heap.size X Y) : X.grownBy Y none := ⟨h.os, h.tape, h.output, h.size, fun i hi _ => h.block i hi⟩
theorem wpIn_region_held_round {P : Program} {id L n : Nat} {l : List Oper} {Q : Exit → Act → World → Prop} {S : World → Prop} {a : Act} {w : World} (hm : P.follows .mixedOrders = true) (hd : ∀ o ∈ l, ∀ c, o.op ≠ .defer c) (hQ : ¬ LetsOut Q) (hS : S w.drew)
    (h : S w.drew → wpAnyH P .any l.toArray Q S l.toArray.size (Array.replicate l.toArray.size false) a w.drew) : (Code.region id l.toArray true).wpIn (Fence.wide.inRound L) n P Q a w :=
  wpIn_region_round hm hd hQ (wpAny_of_held _ _ _ _ (h hS))

set_option maxRecDepth 100000 in
set_option maxHeartbeats 4000000 in
theorem least_any (gi : Nat) (lb : Array Value) (g : Nat) (first cap : Array Value) (us : List Nat) (f : Nat → Int) (w : World) (hs : SeqIs w gi lb us) (hf : FunIs w g first cap us f) :
    Calls Try.prog 113 #[.func (.func gi) #[] lb, .func (.func g) first cap] w fun e w' => e = .returned (.int .i64 (mnL f us)) ∧ Below w.heap.size w w' := by
  have HS := Lib.hid hs
  have HF := Lib.hid hf
  clear hs hf
  refine (callsIn_wide (n := 12)).1 ?_
  refine callsIn_of_wp_marks Try.func113 rfl trivial ?_ rfl
  simp only [Try.ntmps113, List.size_toArray, List.length_cons, List.length_nil, Nat.reduceAdd, Nat.reduceSub, Array.replicate_succ, Array.replicate_zero, List.push_toArray, List.append_toArray, List.nil_append, List.cons_append]
  gi_wp2_with fail
  obtain ⟨W0, hW0⟩ : ∃ W0, (w.alloc (.cells #[.func (.func g) first cap] 149)).alloc (.cells #[.int .i64 9223372036854775807] 2) = W0 := ⟨_, rfl⟩
  have hb0 : Below w.heap.size w W0 := by rw [← hW0]; exact ((Below.refl _ _).alloc (Nat.le_refl _) _).alloc (by simp) _
  have k1 : Blk W0 w.heap.size 149 #[.func (.func g) first cap] := by rw [← hW0]; exact (Blk.new _ _ _).alloc _
  have k2 : Blk W0 (w.heap.size + 1) 2 #[.int .i64 9223372036854775807] := by rw [← hW0]; exact blk_al (by simp)
  rw [hW0]
  clear hW0
  have hs0 := hb0.size
  refine wpIn_rangeAll rfl (by omega) (gf := gi) (lb := lb) rfl trivial HS.out.ent (HS.out.run (fun k => k = w.heap.size + 1) W0 hb0 (fun k hk => by omega)) (Below.refl _ _) (fun _ => rfl)
    (fun pre X => Blk X w.heap.size 149 #[.func (.func g) first cap] ∧ Blk X (w.heap.size + 1) 2 #[.int .i64 (mnL f pre)] ∧ Below w.heap.size w X) ?hI ?h0
    (fun pre x a' X => (Blk X w.heap.size 149 #[.func (.func g) first cap] ∧ Blk X (w.heap.size + 1) 2 #[.int .i64 (mnL f pre)] ∧ Below w.heap.size w X) ∧ a' = { tmps := #[.func (.func gi) #[] lb, .func (.func g) first cap, undef, .pointer (some ⟨w.heap.size, 0, none⟩), .int .i64 0, .pointer (some ⟨w.heap.size + 1, 0, none⟩), .int .i64 x, .func (.func gi) #[] lb, .int .i64 x, undef, undef, undef, undef, undef, undef], defers := [] }) ?hAx ?assign ?body ?done
  case hI =>
    rintro s X Y row ⟨i1, i2, i3⟩ hgr hr
    have hk := fun r e => (hr r e).2
    exact ⟨blk_keptR i1 hgr hk, blk_keptR i2 hgr hk, i3.grown hgr i3.size (fun q e => by have := (hr q e).1; omega)⟩
  case h0 => exact ⟨k1, k2, hb0⟩
  case hAx =>
    rintro pre x a' s X Y row ⟨⟨i1, i2, i3⟩, h3⟩ hgr hr
    have hk := fun r e => (hr r e).2
    exact ⟨⟨blk_keptR i1 hgr hk, blk_keptR i2 hgr hk, i3.grown hgr i3.size (fun q e => by have := (hr q e).1; omega)⟩, h3⟩
  case assign =>
    rintro l' pre x X K hi hK
    gi_wp2
    exact hK _ _ (World.grownBy.refl X none) ⟨hi, rfl⟩
  case body =>
    rintro L pre x a' X hL ⟨⟨i1, i2, i3⟩, rfl⟩ hpre
    have hxm : x ∈ us := hpre.subset (by simp)
    have hent := HF.out.ent
    have CALL := HF.out.run x hxm
    have hsn := mnL_snoc f pre x
    obtain ⟨m, hm⟩ : ∃ m, mnL f pre = m := ⟨_, rfl⟩
    obtain ⟨m', hm'⟩ : ∃ m', mnL f (pre ++ [x]) = m' := ⟨_, rfl⟩
    rw [hm] at i2 hsn
    rw [hm'] at hsn
    obtain ⟨v, hv⟩ : ∃ v, f x = v := ⟨_, rfl⟩
    rw [hv] at hsn CALL
    have hmi : (if v < m then v else m) = m' := by rw [hsn]; split <;> omega
    have I1 := Lib.hid i1
    have I2 := Lib.hid i2
    have I3 := Lib.hid i3
    have HM := Lib.hid hm'
    have CL := Lib.hid CALL
    clear hpre hxm hsn hm hm' hv CALL
    have c1 := i1.one.1
    have c2 := i2.one.1
    have c3 := i2.one.2.1
    clear i1 i2 i3
    refine wpIn_block ?_
    refine wpIn_region_round (by kernel_rfl) (by simp) (by rintro ⟨a, w, h⟩; exact h) ?_
    change wpAny _ _ _ _ _ _ _ X.drew
    refine wpAny_take (i := 2) (v := ?vv1) rfl (by kernel_rfl) (by kernel_rfl) (by kernel_rfl) (fun _ _ _ h => h) (Or.inl ⟨by rfl, ?hv1⟩) ?_
    case hv1 => intro w; go_simp; try with_reducible rfl
    simp only [Act.put, List.setIfInBounds_toArray]
    refine wpAny_ready (rs := [0, 1]) (by kernel_rfl) (by simp) ?_
    refine AllReady.cons rfl (fun K hK => ?_) ?_
    · go_simp
      refine hK _ _ ?_
      clear hK K
      refine wpAny_ready (rs := [1]) (by kernel_rfl) (by simp) ?_
      refine AllReady.cons rfl (fun K hK => ?_) AllReady.nil
      go_simp
      refine hK _ _ ?_
      clear hK K
      refine wpAny_ready (rs := [3]) (by kernel_rfl) (by simp) ?_
      refine AllReady.cons rfl (fun K hK => ?_) AllReady.nil
      go_simp
      refine (CL.out _ I3.out.drew).mono ?_
      rintro e w8 ⟨rfl, hb8⟩
      replace hb8 : Below X.heap.size X w8 := below_undrew hb8
      have HB8 := Lib.hid hb8
      have J2 := Lib.hid (I2.out.below hb8 I2.out.lt)
      have d2 := J2.out.one.1
      have d3 := J2.out.one.2.1
      clear hb8
      refine hK _ _ ?_
      clear hK K
      refine wpAny_ready (rs := [4]) (by kernel_rfl) (by simp) ?_
      refine AllReady.cons rfl (fun K hK => ?_) AllReady.nil
      go_simp
      refine hK _ _ ?_
      clear hK K
      refine wpAny_ready (rs := [5]) (by kernel_rfl) (by simp) ?_
      refine AllReady.cons rfl (fun K hK => ?_) AllReady.nil
      go_simp
      refine hK _ _ ?_
      clear hK K
      refine wpAny_done (by kernel_rfl) ?_ _
      refine ⟨((KeepsFrom.of_grownBy (grown_bJ HB8.out) (by simp)).trans ((KeepsOthers.setCell _ _ _).from _)), ((Bel.of_below (S := fun k => k = w.heap.size + 1) HB8.out).setCell (p := ⟨w.heap.size + 1, 0, none⟩) (.inr rfl) _), (I1.out.below HB8.out I1.out.lt).far (p := ⟨w.heap.size + 1, 0, none⟩) (by show w.heap.size ≠ w.heap.size + 1; omega) _, ?_, (I3.out.trans (HB8.out.mono I3.out.size)).setCell (p := ⟨w.heap.size + 1, 0, none⟩) (by show w.heap.size ≤ w.heap.size + 1; omega) _⟩
      rw [HM.out]
      exact J2.out.set_ 0 _
    refine AllReady.cons rfl (fun K hK => ?_) ?_
    · go_simp
      refine hK _ _ ?_
      clear hK K
      refine wpAny_ready (rs := [0, 3]) (by kernel_rfl) (by simp) ?_
      refine AllReady.cons rfl (fun K hK => ?_) ?_
      · go_simp
        refine hK _ _ ?_
        clear hK K
        refine wpAny_ready (rs := [3]) (by kernel_rfl) (by simp) ?_
        refine AllReady.cons rfl (fun K hK => ?_) AllReady.nil
        go_simp
        refine (CL.out _ I3.out.drew).mono ?_
        rintro e w8 ⟨rfl, hb8⟩
        replace hb8 : Below X.heap.size X w8 := below_undrew hb8
        have HB8 := Lib.hid hb8
        have J2 := Lib.hid (I2.out.below hb8 I2.out.lt)
        have d2 := J2.out.one.1
        have d3 := J2.out.one.2.1
        clear hb8
        refine hK _ _ ?_
        clear hK K
        refine wpAny_ready (rs := [4]) (by kernel_rfl) (by simp) ?_
        refine AllReady.cons rfl (fun K hK => ?_) AllReady.nil
        go_simp
        refine hK _ _ ?_
        clear hK K
        refine wpAny_ready (rs := [5]) (by kernel_rfl) (by simp) ?_
        refine AllReady.cons rfl (fun K hK => ?_) AllReady.nil
        go_simp
        refine hK _ _ ?_
        clear hK K
        refine wpAny_done (by kernel_rfl) ?_ _
        refine ⟨((KeepsFrom.of_grownBy (grown_bJ HB8.out) (by simp)).trans ((KeepsOthers.setCell _ _ _).from _)), ((Bel.of_below (S := fun k => k = w.heap.size + 1) HB8.out).setCell (p := ⟨w.heap.size + 1, 0, none⟩) (.inr rfl) _), (I1.out.below HB8.out I1.out.lt).far (p := ⟨w.heap.size + 1, 0, none⟩) (by show w.heap.size ≠ w.heap.size + 1; omega) _, ?_, (I3.out.trans (HB8.out.mono I3.out.size)).setCell (p := ⟨w.heap.size + 1, 0, none⟩) (by show w.heap.size ≤ w.heap.size + 1; omega) _⟩
        rw [HM.out]
        exact J2.out.set_ 0 _
      refine AllReady.cons rfl (fun K hK => ?_) ?_
      · go_simp
        refine (CL.out _ I3.out.drew).mono ?_
        rintro e w8 ⟨rfl, hb8⟩
        replace hb8 : Below X.heap.size X w8 := below_undrew hb8
        have HB8 := Lib.hid hb8
        have J2 := Lib.hid (I2.out.below hb8 I2.out.lt)
        have d2 := J2.out.one.1
        have d3 := J2.out.one.2.1
        clear hb8
        refine hK _ _ ?_
        clear hK K
        refine wpAny_ready (rs := [0]) (by kernel_rfl) (by simp) ?_
        refine AllReady.cons rfl (fun K hK => ?_) AllReady.nil
        go_simp
        refine hK _ _ ?_
        clear hK K
        refine wpAny_ready (rs := [4]) (by kernel_rfl) (by simp) ?_
        refine AllReady.cons rfl (fun K hK => ?_) AllReady.nil
        go_simp
        refine hK _ _ ?_
        clear hK K
        refine wpAny_ready (rs := [5]) (by kernel_rfl) (by simp) ?_
        refine AllReady.cons rfl (fun K hK => ?_) AllReady.nil
        go_simp
        refine hK _ _ ?_
        clear hK K
        refine wpAny_done (by kernel_rfl) ?_ _
        refine ⟨((KeepsFrom.of_grownBy (grown_bJ HB8.out) (by simp)).trans ((KeepsOthers.setCell _ _ _).from _)), ((Bel.of_below (S := fun k => k = w.heap.size + 1) HB8.out).setCell (p := ⟨w.heap.size + 1, 0, none⟩) (.inr rfl) _), (I1.out.below HB8.out I1.out.lt).far (p := ⟨w.heap.size + 1, 0, none⟩) (by show w.heap.size ≠ w.heap.size + 1; omega) _, ?_, (I3.out.trans (HB8.out.mono I3.out.size)).setCell (p := ⟨w.heap.size + 1, 0, none⟩) (by show w.heap.size ≤ w.heap.size + 1; omega) _⟩
        rw [HM.out]
        exact J2.out.set_ 0 _
      exact AllReady.nil
    exact AllReady.nil
  case done =>
    rintro D X hD ⟨i1, i2, i3⟩ hK
    have c2 := i2.one.1
    have HK := Lib.hid hK
    have HD := Lib.hid hD
    have I3 := Lib.hid i3
    clear i1 i2 i3 hK hD k1 k2 hb0
    gi_wp2
    have hgp := grownBy_putObj' X D (.deferred none)
    refine ⟨by simp, .inl ⟨_, _, rfl, run_takeDeferred HK.out, ?_⟩⟩
    exact ⟨_, results_tmp rfl _ _ _, rfl, I3.out.grown hgp I3.out.size (fun q e => by cases e; have := HD.out; omega)⟩
end Go.Proofs.Ytjdnpgilinfkgaa
