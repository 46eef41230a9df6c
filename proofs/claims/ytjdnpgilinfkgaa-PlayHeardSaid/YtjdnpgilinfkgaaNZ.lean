/-
  The least and the greatest number that the method of an interface gives.
-/
import Derived.Test.YtjdnpgilinfkgaaM4
namespace Go.Proofs.Ytjdnpgilinfkgaa
open Go.RowKit
attribute [local go_sem] Oper.semAt_some

/-- The method of an interface's value, that gives f at the numbers us, in all worlds that have grown out of w. -/
structure MetIs (w : World) (g T : Nat) (mn : String) (rv : Value) (us : List Nat) (f : Nat → Int) : Prop where
  met : ∀ (k : Nat) (W : World), (method (k + 1) T rv mn).run Try.prog W = .ok (g, rv) W
  ent : ∀ args w, (callFunc g args).run Try.prog w = .ok (.enter g args) w
  run : ∀ u ∈ us, ∀ W, Below w.heap.size w W → Calls Try.prog g #[rv, .int .i64 u] W fun e w' => e = .returned (.int .i64 (f u)) ∧ Below W.heap.size W w'
theorem MetIs.below {w w' : World} {g T : Nat} {mn : String} {rv : Value} {us : List Nat} {f : Nat → Int} (h : MetIs w g T mn rv us f) (hb : Below w.heap.size w w') : MetIs w' g T mn rv us f :=
  ⟨h.met, h.ent, fun u hu W hW => h.run u hu W (hb.trans (hW.mono hb.size))⟩

set_option maxRecDepth 100000 in
set_option maxHeartbeats 4000000 in
theorem leastM_any (gi : Nat) (lb : Array Value) (g T : Nat) (mn : String) (rv : Value) (us : List Nat) (f : Nat → Int) (w : World) (hs : SeqIs w gi lb us) (hf : MetIs w g T mn rv us f) :
    Calls Try.prog 113 #[.func (.func gi) #[] lb, .func (.method mn) #[.iface T rv] #[]] w fun e w' => e = .returned (.int .i64 (mnL f us)) ∧ Below w.heap.size w w' := by
  have HS := Lib.hid hs
  have HF := Lib.hid hf
  clear hs hf
  refine (callsIn_wide (n := 12)).1 ?_
  refine callsIn_of_wp_marks Try.func113 rfl trivial ?_ rfl
  simp only [Try.ntmps113, List.size_toArray, List.length_cons, List.length_nil, Nat.reduceAdd, Nat.reduceSub, Array.replicate_succ, Array.replicate_zero, List.push_toArray, List.append_toArray, List.nil_append, List.cons_append]
  gi_wp2_with fail
  obtain ⟨W0, hW0⟩ : ∃ W0, (w.alloc (.cells #[.func (.method mn) #[.iface T rv] #[]] 149)).alloc (.cells #[.int .i64 9223372036854775807] 2) = W0 := ⟨_, rfl⟩
  have hb0 : Below w.heap.size w W0 := by rw [← hW0]; exact ((Below.refl _ _).alloc (Nat.le_refl _) _).alloc (by simp) _
  have k1 : Blk W0 w.heap.size 149 #[.func (.method mn) #[.iface T rv] #[]] := by rw [← hW0]; exact (Blk.new _ _ _).alloc _
  have k2 : Blk W0 (w.heap.size + 1) 2 #[.int .i64 9223372036854775807] := by rw [← hW0]; exact blk_al (by simp)
  rw [hW0]
  clear hW0
  have hs0 := hb0.size
  refine wpIn_rangeAll rfl (by omega) (gf := gi) (lb := lb) rfl trivial HS.out.ent (HS.out.run (fun k => k = w.heap.size + 1) W0 hb0 (fun k hk => by omega)) (Below.refl _ _) (fun _ => rfl)
    (fun pre X => Blk X w.heap.size 149 #[.func (.method mn) #[.iface T rv] #[]] ∧ Blk X (w.heap.size + 1) 2 #[.int .i64 (mnL f pre)] ∧ Below w.heap.size w X) ?hI ?h0
    (fun pre x a' X => (Blk X w.heap.size 149 #[.func (.method mn) #[.iface T rv] #[]] ∧ Blk X (w.heap.size + 1) 2 #[.int .i64 (mnL f pre)] ∧ Below w.heap.size w X) ∧ a' = { tmps := #[.func (.func gi) #[] lb, .func (.method mn) #[.iface T rv] #[], undef, .pointer (some ⟨w.heap.size, 0, none⟩), .int .i64 0, .pointer (some ⟨w.heap.size + 1, 0, none⟩), .int .i64 x, .func (.func gi) #[] lb, .int .i64 x, undef, undef, undef, undef, undef, undef], defers := [] }) ?hAx ?assign ?body ?done
  case hI =>
    rintro s X Y row ⟨i1, i2, i3⟩ hgr hr
    have hk := fun r e => (hr r e).2
    exact ⟨blk_keptR i1 hgr hk, blk_keptR i2 hgr hk, i3.grown hgr i3.size (fun q e => by have := (hr q e).1; omega)⟩
  case h0 => exact ⟨k1, k2, hb0⟩
  case hAx =>
    rintro pre x a' s X Y row ⟨⟨i1, i2, i3⟩, h3⟩ hgr hr
    have hk := fun r e => (hr r e).2
    exact ⟨⟨blk_keptR i1 hgr hk, blk_keptR i2 hgr hk, i3.grown hgr i3.size (fun q e => by have := (hr q e).1; omega)⟩, h3⟩
  case assign =>
    rintro l' pre x X K hi hK
    gi_wp2
    exact hK _ _ (World.grownBy.refl X none) ⟨hi, rfl⟩
  case body =>
    rintro L pre x a' X hL ⟨⟨i1, i2, i3⟩, rfl⟩ hpre
    have hxm : x ∈ us := hpre.subset (by simp)
    have hent := HF.out.ent
    have hmet := HF.out.met
    have CALL := HF.out.run x hxm
    have hsn := mnL_snoc f pre x
    obtain ⟨m, hm⟩ : ∃ m, mnL f pre = m := ⟨_, rfl⟩
    obtain ⟨m', hm'⟩ : ∃ m', mnL f (pre ++ [x]) = m' := ⟨_, rfl⟩
    rw [hm] at i2 hsn
    rw [hm'] at hsn
    obtain ⟨v, hv⟩ : ∃ v, f x = v := ⟨_, rfl⟩
    rw [hv] at hsn CALL
    have hmi : (if v < m then v else m) = m' := by rw [hsn]; split <;> omega
    have I1 := Lib.hid i1
    have I2 := Lib.hid i2
    have I3 := Lib.hid i3
    have HM := Lib.hid hm'
    have CL := Lib.hid CALL
    clear hpre hxm hsn hm hm' hv CALL
    have c1 := i1.one.1
    have c2 := i2.one.1
    have c3 := i2.one.2.1
    clear i1 i2 i3
    refine wpIn_block ?_
    refine wpIn_region_round (by kernel_rfl) (by simp) (by rintro ⟨a, w, h⟩; exact h) ?_
    change wpAny _ _ _ _ _ _ _ X.drew
    refine wpAny_take (i := 2) (v := ?vv1) rfl (by kernel_rfl) (by kernel_rfl) (by kernel_rfl) (fun _ _ _ h => h) (Or.inl ⟨by rfl, ?hv1⟩) ?_
    case hv1 => intro w; go_simp; try with_reducible rfl
    simp only [Act.put, List.setIfInBounds_toArray]
    refine wpAny_ready (rs := [0, 1]) (by kernel_rfl) (by simp) ?_
    refine AllReady.cons rfl (fun K hK => ?_) ?_
    · go_simp
      refine hK _ _ ?_
      clear hK K
      refine wpAny_ready (rs := [1]) (by kernel_rfl) (by simp) ?_
      refine AllReady.cons rfl (fun K hK => ?_) AllReady.nil
      go_simp
      refine hK _ _ ?_
      clear hK K
      refine wpAny_ready (rs := [3]) (by kernel_rfl) (by simp) ?_
      refine AllReady.cons rfl (fun K hK => ?_) AllReady.nil
      go_simp
      refine (CL.out _ I3.out.drew).mono ?_
      rintro e w8 ⟨rfl, hb8⟩
      replace hb8 : Below X.heap.size X w8 := below_undrew hb8
      have HB8 := Lib.hid hb8
      have J2 := Lib.hid (I2.out.below hb8 I2.out.lt)
      have d2 := J2.out.one.1
      have d3 := J2.out.one.2.1
      clear hb8
      refine hK _ _ ?_
      clear hK K
      refine wpAny_ready (rs := [4]) (by kernel_rfl) (by simp) ?_
      refine AllReady.cons rfl (fun K hK => ?_) AllReady.nil
      go_simp
      refine hK _ _ ?_
      clear hK K
      refine wpAny_ready (rs := [5]) (by kernel_rfl) (by simp) ?_
      refine AllReady.cons rfl (fun K hK => ?_) AllReady.nil
      go_simp
      refine hK _ _ ?_
      clear hK K
      refine wpAny_done (by kernel_rfl) ?_ _
      refine ⟨((KeepsFrom.of_grownBy (grown_bJ HB8.out) (by simp)).trans ((KeepsOthers.setCell _ _ _).from _)), ((Bel.of_below (S := fun k => k = w.heap.size + 1) HB8.out).setCell (p := ⟨w.heap.size + 1, 0, none⟩) (.inr rfl) _), (I1.out.below HB8.out I1.out.lt).far (p := ⟨w.heap.size + 1, 0, none⟩) (by show w.heap.size ≠ w.heap.size + 1; omega) _, ?_, (I3.out.trans (HB8.out.mono I3.out.size)).setCell (p := ⟨w.heap.size + 1, 0, none⟩) (by show w.heap.size ≤ w.heap.size + 1; omega) _⟩
      rw [HM.out]
      exact J2.out.set_ 0 _
    refine AllReady.cons rfl (fun K hK => ?_) ?_
    · go_simp
      refine hK _ _ ?_
      clear hK K
      refine wpAny_ready (rs := [0, 3]) (by kernel_rfl) (by simp) ?_
      refine AllReady.cons rfl (fun K hK => ?_) ?_
      · go_simp
        refine hK _ _ ?_
        clear hK K
        refine wpAny_ready (rs := [3]) (by kernel_rfl) (by simp) ?_
        refine AllReady.cons rfl (fun K hK => ?_) AllReady.nil
        go_simp
        refine (CL.out _ I3.out.drew).mono ?_
        rintro e w8 ⟨rfl, hb8⟩
        replace hb8 : Below X.heap.size X w8 := below_undrew hb8
        have HB8 := Lib.hid hb8
        have J2 := Lib.hid (I2.out.below hb8 I2.out.lt)
        have d2 := J2.out.one.1
        have d3 := J2.out.one.2.1
        clear hb8
        refine hK _ _ ?_
        clear hK K
        refine wpAny_ready (rs := [4]) (by kernel_rfl) (by simp) ?_
        refine AllReady.cons rfl (fun K hK => ?_) AllReady.nil
        go_simp
        refine hK _ _ ?_
        clear hK K
        refine wpAny_ready (rs := [5]) (by kernel_rfl) (by simp) ?_
        refine AllReady.cons rfl (fun K hK => ?_) AllReady.nil
        go_simp
        refine hK _ _ ?_
        clear hK K
        refine wpAny_done (by kernel_rfl) ?_ _
        refine ⟨((KeepsFrom.of_grownBy (grown_bJ HB8.out) (by simp)).trans ((KeepsOthers.setCell _ _ _).from _)), ((Bel.of_below (S := fun k => k = w.heap.size + 1) HB8.out).setCell (p := ⟨w.heap.size + 1, 0, none⟩) (.inr rfl) _), (I1.out.below HB8.out I1.out.lt).far (p := ⟨w.heap.size + 1, 0, none⟩) (by show w.heap.size ≠ w.heap.size + 1; omega) _, ?_, (I3.out.trans (HB8.out.mono I3.out.size)).setCell (p := ⟨w.heap.size + 1, 0, none⟩) (by show w.heap.size ≤ w.heap.size + 1; omega) _⟩
        rw [HM.out]
        exact J2.out.set_ 0 _
      refine AllReady.cons rfl (fun K hK => ?_) ?_
      · go_simp
        refine (CL.out _ I3.out.drew).mono ?_
        rintro e w8 ⟨rfl, hb8⟩
        replace hb8 : Below X.heap.size X w8 := below_undrew hb8
        have HB8 := Lib.hid hb8
        have J2 := Lib.hid (I2.out.below hb8 I2.out.lt)
        have d2 := J2.out.one.1
        have d3 := J2.out.one.2.1
        clear hb8
        refine hK _ _ ?_
        clear hK K
        refine wpAny_ready (rs := [0]) (by kernel_rfl) (by simp) ?_
        refine AllReady.cons rfl (fun K hK => ?_) AllReady.nil
        go_simp
        refine hK _ _ ?_
        clear hK K
        refine wpAny_ready (rs := [4]) (by kernel_rfl) (by simp) ?_
        refine AllReady.cons rfl (fun K hK => ?_) AllReady.nil
        go_simp
        refine hK _ _ ?_
        clear hK K
        refine wpAny_ready (rs := [5]) (by kernel_rfl) (by simp) ?_
        refine AllReady.cons rfl (fun K hK => ?_) AllReady.nil
        go_simp
        refine hK _ _ ?_
        clear hK K
        refine wpAny_done (by kernel_rfl) ?_ _
        refine ⟨((KeepsFrom.of_grownBy (grown_bJ HB8.out) (by simp)).trans ((KeepsOthers.setCell _ _ _).from _)), ((Bel.of_below (S := fun k => k = w.heap.size + 1) HB8.out).setCell (p := ⟨w.heap.size + 1, 0, none⟩) (.inr rfl) _), (I1.out.below HB8.out I1.out.lt).far (p := ⟨w.heap.size + 1, 0, none⟩) (by show w.heap.size ≠ w.heap.size + 1; omega) _, ?_, (I3.out.trans (HB8.out.mono I3.out.size)).setCell (p := ⟨w.heap.size + 1, 0, none⟩) (by show w.heap.size ≤ w.heap.size + 1; omega) _⟩
        rw [HM.out]
        exact J2.out.set_ 0 _
      exact AllReady.nil
    exact AllReady.nil
  case done =>
    rintro D X hD ⟨i1, i2, i3⟩ hK
    have c2 := i2.one.1
    have HK := Lib.hid hK
    have HD := Lib.hid hD
    have I3 := Lib.hid i3
    clear i1 i2 i3 hK hD k1 k2 hb0
    gi_wp2
    have hgp := grownBy_putObj' X D (.deferred none)
    refine ⟨by simp, .inl ⟨_, _, rfl, run_takeDeferred HK.out, ?_⟩⟩
    exact ⟨_, results_tmp rfl _ _ _, rfl, I3.out.grown hgp I3.out.size (fun q e => by cases e; have := HD.out; omega)⟩

set_option maxRecDepth 100000 in
set_option maxHeartbeats 1000000 in
theorem greatest1M_any (bn : Nat) (g T : Nat) (mn : String) (rv : Value) (us : List Nat) (f : Nat → Int) (w : World) (hk : Blk w bn 149 #[.func (.method mn) #[.iface T rv] #[]]) (hf : MetIs w g T mn rv us f)
    (hb : ∀ u ∈ us, -4611686018427387904 ≤ f u ∧ f u ≤ 4611686018427387904) : FunIs w 118 #[] #[.pointer (some ⟨bn, 0, none⟩)] us (fun u => -f u) := by
  refine ⟨enters_of Try.func118 (by kernel_rfl) rfl, fun u hu W hW => ?_⟩
  have c1 := (hk.below hW hk.lt).one.1
  have hent := hf.ent
  have hmet := hf.met
  have CL := Lib.hid (hf.run u hu W hW)
  have hbu := hb u hu
  obtain ⟨v, hv⟩ : ∃ v, f u = v := ⟨_, rfl⟩
  rw [hv] at hbu CL
  have e1 : IntKind.i64.wrap (-v) = -v := IntWalk.i64_in _ (by omega)
  have HV := Lib.hid hv
  clear hk hb hv hu hf
  simp only [List.push_toArray, List.append_toArray, List.nil_append, List.cons_append]
  go_enter Try.func118, Try.ntmps118
  go_wp2_with fail
  refine CL.out.mono ?_
  rintro e w1 ⟨rfl, hb1⟩
  have HB := Lib.hid hb1
  clear hb1
  go_wp2
  go_ret
  exact ⟨ret_i (by rw [HV.out]), HB.out⟩

set_option maxRecDepth 100000 in
set_option maxHeartbeats 1000000 in
theorem greatestM_any (gi : Nat) (lb : Array Value) (g T : Nat) (mn : String) (rv : Value) (us : List Nat) (f : Nat → Int) (w : World) (hs : SeqIs w gi lb us) (hf : MetIs w g T mn rv us f) (hne : us ≠ [])
    (hb : ∀ u ∈ us, -4611686018427387904 ≤ f u ∧ f u ≤ 4611686018427387904) :
    Calls Try.prog 114 #[.func (.func gi) #[] lb, .func (.method mn) #[.iface T rv] #[]] w fun e w' => e = .returned (.int .i64 (-mnL (fun u => -f u) us)) ∧ Below w.heap.size w w' := by
  have hm : -4611686018427387904 ≤ mnL (fun u => -f u) us ∧ mnL (fun u => -f u) us ≤ 4611686018427387904 := by
    obtain ⟨u, hu, e⟩ := mnL_at (f := fun u => -f u) hne (fun u hu => by have := hb u hu; omega)
    have := hb u hu
    rw [e]; omega
  have HS := Lib.hid hs
  have HF := Lib.hid hf
  have HBD := Lib.hid hb
  obtain ⟨m, hm'⟩ : ∃ m, mnL (fun u => -f u) us = m := ⟨_, rfl⟩
  rw [hm'] at hm
  have HM := Lib.hid hm'
  have e1 : IntKind.i64.wrap (-m) = -m := IntWalk.i64_in _ (by omega)
  clear hs hf hb hne hm'
  go_enter Try.func114, Try.ntmps114
  go_wp2_with fail
  obtain ⟨W, hW⟩ : ∃ W, w.alloc (.cells #[.func (.method mn) #[.iface T rv] #[]] 149) = W := ⟨_, rfl⟩
  have hbw : Below w.heap.size w W := by rw [← hW]; exact (Below.refl _ _).alloc (Nat.le_refl _) _
  have k1 : Blk W w.heap.size 149 #[.func (.method mn) #[.iface T rv] #[]] := by rw [← hW]; exact Blk.new _ _ _
  rw [hW]
  clear hW
  have CALL := least_any gi lb _ #[] #[.pointer (some ⟨w.heap.size, 0, none⟩)] us (fun u => -f u) W (HS.out.below hbw) (greatest1M_any w.heap.size g T mn rv us f W k1 (HF.out.below hbw) HBD.out)
  rw [HM.out] at CALL
  have HB := Lib.hid hbw
  clear k1 hbw
  refine CALL.mono ?_
  rintro e w1 ⟨rfl, hb1⟩
  have HB := Lib.hid (HB.out.trans (hb1.mono HB.out.size))
  clear hb1 CALL
  go_wp2
  go_ret
  exact ⟨ret_i (by rw [HM.out]), HB.out⟩

end Go.Proofs.Ytjdnpgilinfkgaa
