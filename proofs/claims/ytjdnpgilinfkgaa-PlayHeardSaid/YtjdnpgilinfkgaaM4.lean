/-
  The greatest number that a function value gives; the edge that a stylus reads, and the one that it sweeps.
-/
import Derived.Test.YtjdnpgilinfkgaaM3
import Derived.Test.YtjdnpgilinfkgaaQ0
namespace Go.Proofs.Ytjdnpgilinfkgaa
open Go.RowKit
attribute [local go_sem] Oper.semAt_some

/-- The flanks of both sides of a tip. -/
def flk (s : List Int) : List Int := s.reverse ++ s.drop 1
theorem flk_len {s : List Int} (h : 1 ≤ s.length) : (flk s).length = 2 * s.length - 1 := by simp [flk]; omega
theorem flk_at {s : List Int} {u t : Nat} (h : dst u t < s.length) : atI (flk s) (s.length - 1 + u - t) = atI s (dst u t) := by
  have hd : dst u t = (u - t) + (t - u) := rfl
  unfold atI flk
  by_cases hut : u ≤ t
  · rw [List.getElem?_append_left (by rw [List.length_reverse]; omega), List.getElem?_reverse (by omega)]
    congr 2; omega
  · rw [List.getElem?_append_right (by rw [List.length_reverse]; omega), List.length_reverse, List.getElem?_drop]
    congr 2; omega

set_option maxRecDepth 100000 in
set_option maxHeartbeats 1000000 in
theorem greatest1_any (bn : Nat) (g : Nat) (first cap : Array Value) (us : List Nat) (f : Nat → Int) (w : World) (hk : Blk w bn 149 #[.func (.func g) first cap]) (hf : FunIs w g first cap us f)
    (hb : ∀ u ∈ us, -4611686018427387904 ≤ f u ∧ f u ≤ 4611686018427387904) : FunIs w 118 #[] #[.pointer (some ⟨bn, 0, none⟩)] us (fun u => -f u) := by
  refine ⟨enters_of Try.func118 (by kernel_rfl) rfl, fun u hu W hW => ?_⟩
  have c1 := (hk.below hW hk.lt).one.1
  have hent := hf.ent
  have CL := Lib.hid (hf.run u hu W hW)
  have hbu := hb u hu
  obtain ⟨v, hv⟩ : ∃ v, f u = v := ⟨_, rfl⟩
  rw [hv] at hbu CL
  have e1 : IntKind.i64.wrap (-v) = -v := IntWalk.i64_in _ (by omega)
  have HV := Lib.hid hv
  clear hk hb hv hu hf
  simp only [List.push_toArray, List.append_toArray, List.nil_append, List.cons_append]
  go_enter Try.func118, Try.ntmps118
  go_wp2_with fail
  refine CL.out.mono ?_
  rintro e w1 ⟨rfl, hb1⟩
  have HB := Lib.hid hb1
  clear hb1
  go_wp2
  go_ret
  exact ⟨ret_i (by rw [HV.out]), HB.out⟩

set_option maxRecDepth 100000 in
set_option maxHeartbeats 1000000 in
theorem greatest_any (gi : Nat) (lb : Array Value) (g : Nat) (first cap : Array Value) (us : List Nat) (f : Nat → Int) (w : World) (hs : SeqIs w gi lb us) (hf : FunIs w g first cap us f) (hne : us ≠ [])
    (hb : ∀ u ∈ us, -4611686018427387904 ≤ f u ∧ f u ≤ 4611686018427387904) :
    Calls Try.prog 114 #[.func (.func gi) #[] lb, .func (.func g) first cap] w fun e w' => e = .returned (.int .i64 (-mnL (fun u => -f u) us)) ∧ Below w.heap.size w w' := by
  have hm : -4611686018427387904 ≤ mnL (fun u => -f u) us ∧ mnL (fun u => -f u) us ≤ 4611686018427387904 := by
    obtain ⟨u, hu, e⟩ := mnL_at (f := fun u => -f u) hne (fun u hu => by have := hb u hu; omega)
    have := hb u hu
    rw [e]; omega
  have HS := Lib.hid hs
  have HF := Lib.hid hf
  have HBD := Lib.hid hb
  obtain ⟨m, hm'⟩ : ∃ m, mnL (fun u => -f u) us = m := ⟨_, rfl⟩
  rw [hm'] at hm
  have HM := Lib.hid hm'
  have e1 : IntKind.i64.wrap (-m) = -m := IntWalk.i64_in _ (by omega)
  clear hs hf hb hne hm'
  go_enter Try.func114, Try.ntmps114
  go_wp2_with fail
  obtain ⟨W, hW⟩ : ∃ W, w.alloc (.cells #[.func (.func g) first cap] 149) = W := ⟨_, rfl⟩
  have hbw : Below w.heap.size w W := by rw [← hW]; exact (Below.refl _ _).alloc (Nat.le_refl _) _
  have k1 : Blk W w.heap.size 149 #[.func (.func g) first cap] := by rw [← hW]; exact Blk.new _ _ _
  rw [hW]
  clear hW
  have CALL := least_any gi lb _ #[] #[.pointer (some ⟨w.heap.size, 0, none⟩)] us (fun u => -f u) W (HS.out.below hbw) (greatest1_any w.heap.size g first cap us f W k1 (HF.out.below hbw) HBD.out)
  rw [HM.out] at CALL
  have HB := Lib.hid hbw
  clear k1 hbw
  refine CALL.mono ?_
  rintro e w1 ⟨rfl, hb1⟩
  have HB := Lib.hid (HB.out.trans (hb1.mono HB.out.size))
  clear hb1 CALL
  go_wp2
  go_ret
  exact ⟨ret_i (by rw [HM.out]), HB.out⟩

set_option maxRecDepth 100000 in
set_option maxHeartbeats 2000000 in
theorem readEdge1_any (B bw br bt : Nat) (g : Nat) (first cap : Array Value) (us : List Nat) (f : Nat → Int) (s : List Int) (Af A : Option Addr) (nf cf n c t : Nat) (w : World)
    (k1 : Blk w bw 149 #[.func (.func g) first cap]) (k2 : Blk w br 110 #[.slice Af nf cf, .int .i64 ((s.length - 1 : Nat) : Int), .slice A n c]) (k3 : Blk w bt 3 #[.int .i64 t])
    (hL : LI w B Af nf (flk s)) (hB : B ≤ w.heap.size) (hf : FunIs w g first cap us f) (hs : Shp s) (hu : ∀ u ∈ us, dst u t < s.length) (hul : ∀ u ∈ us, u ≤ 1099511627776) (ht : t ≤ 1099511627776)
    (hb : ∀ u ∈ us, -1099511627776 ≤ f u ∧ f u ≤ 1099511627776) :
    FunIs w 139 #[] #[.pointer (some ⟨bw, 0, none⟩), .pointer (some ⟨br, 0, none⟩), .pointer (some ⟨bt, 0, none⟩)] us (fun u => f u + atI s (dst u t)) := by
  refine ⟨enters_of Try.func139 (by kernel_rfl) rfl, fun u hm W hW => ?_⟩
  have hbu := hb u hm
  have hdu := hu u hm
  have hle := hul u hm
  have hN := hs.nn (dst u t)
  have hT := hs.top (dst u t)
  have hP := hs.pos
  have hM := hs.many
  have hfk := flk_at hdu
  have hfl : s.length - 1 + u - t < (flk s).length := by rw [flk_len hP]; unfold dst at hdu; omega
  have hdd : dst u t = (u - t) + (t - u) := rfl
  rw [atI_eq hfl] at hfk
  have BH : Hid (∀ X, Below W.heap.size W X → Calls Try.prog 105 #[.agg #[.slice Af nf cf, .int .i64 ((s.length - 1 : Nat) : Int)], .int .i64 ((u : Int) - t)] X fun e w' => e = .returned (.int .i64 (atI s (dst u t))) ∧ Below X.heap.size X w') :=
    Lib.hid (fun X hX => by
      have h := behind_any B Af nf cf (flk s) (s.length - 1) ((u : Int) - t) (s.length - 1 + u - t) X ((hL.below hW hB).below hX (Nat.le_trans hB hW.size)) (by omega) hfl (by have := hL.1; rw [flk_len hP] at this; omega)
      rw [hfk] at h
      exact h)
  have CL := Lib.hid (fun X (hX : Below W.heap.size W X) => hf.run u hm X (hW.trans (hX.mono hW.size)))
  obtain ⟨v, hv⟩ : ∃ v, f u = v := ⟨_, rfl⟩
  obtain ⟨y, hy⟩ : ∃ y, atI s (dst u t) = y := ⟨_, rfl⟩
  obtain ⟨rc, hrc⟩ : ∃ rc, s.length - 1 = rc := ⟨_, rfl⟩
  rw [hv] at hbu CL
  rw [hy] at hN hT BH
  rw [hrc] at k2 BH
  have HV := Lib.hid (And.intro hv hy)
  have hent := hf.ent
  have e1 : IntKind.i64.wrap (v + y) = v + y := IntWalk.i64_in _ (by omega)
  have e2 : IntKind.i64.wrap ((u : Int) - t) = (u : Int) - t := IntWalk.i64_in _ (by omega)
  have c1 := (k1.below hW k1.lt).one.1
  have d0 := ((k2.below hW k2.lt).cell 0).trans rfl
  have d1 := ((k2.below hW k2.lt).cell 1).trans rfl
  have d2 := ((k2.below hW k2.lt).cell 2).trans rfl
  have c3 := (k3.below hW k3.lt).one.1
  have l1 := Lat.cell c1
  have l2 := Lat.cell d0
  have l3 := Lat.cell d1
  have l5 := Lat.cell c3
  clear hbu hdu hle hN hT hP hM hfk hfl hdd hv hy hrc c1 d0 d1 d2 c3 k1 k2 k3 hL hB hs hu hul ht hb hm hf
  simp only [List.push_toArray, List.append_toArray, List.nil_append, List.cons_append]
  go_enter Try.func139, Try.ntmps139
  go_wp2
  refine wp_region_lat (by kernel_rfl) (by kernel_rfl) ?_
  repeat (go_big_quiet_step ((first | (with_reducible exact Calls.lat (BH.out _ (Lat.below _))) | (with_reducible exact Calls.lat (CL.out _ (Lat.below _))))))
  refine wpQuiet_nil ?_
  intro _ hw'
  obtain ⟨⟨w2, hb2⟩, hw''⟩ := hw'
  subst hw''
  go_wp2
  go_ret
  exact ⟨ret_i (by rw [HV.out.1, HV.out.2]), hb2⟩
set_option maxRecDepth 100000 in
set_option maxHeartbeats 2000000 in
theorem sweepEdge1_any (B bw br bt : Nat) (g : Nat) (first cap : Array Value) (us : List Nat) (f : Nat → Int) (s : List Int) (Af A : Option Addr) (nf cf n c t : Nat) (w : World)
    (k1 : Blk w bw 149 #[.func (.func g) first cap]) (k2 : Blk w br 142 #[.slice Af nf cf, .int .i64 ((s.length - 1 : Nat) : Int), .slice A n c]) (k3 : Blk w bt 3 #[.int .i64 t])
    (hL : LI w B Af nf (flk s)) (hB : B ≤ w.heap.size) (hf : FunIs w g first cap us f) (hs : Shp s) (hu : ∀ u ∈ us, dst u t < s.length) (hul : ∀ u ∈ us, u ≤ 1099511627776) (ht : t ≤ 1099511627776)
    (hb : ∀ u ∈ us, -1099511627776 ≤ f u ∧ f u ≤ 1099511627776) :
    FunIs w 143 #[] #[.pointer (some ⟨bw, 0, none⟩), .pointer (some ⟨br, 0, none⟩), .pointer (some ⟨bt, 0, none⟩)] us (fun u => f u - atI s (dst u t)) := by
  refine ⟨enters_of Try.func143 (by kernel_rfl) rfl, fun u hm W hW => ?_⟩
  have hbu := hb u hm
  have hdu := hu u hm
  have hle := hul u hm
  have hN := hs.nn (dst u t)
  have hT := hs.top (dst u t)
  have hP := hs.pos
  have hM := hs.many
  have hfk := flk_at hdu
  have hfl : s.length - 1 + u - t < (flk s).length := by rw [flk_len hP]; unfold dst at hdu; omega
  have hdd : dst u t = (u - t) + (t - u) := rfl
  rw [atI_eq hfl] at hfk
  have BH : Hid (∀ X, Below W.heap.size W X → Calls Try.prog 105 #[.agg #[.slice Af nf cf, .int .i64 ((s.length - 1 : Nat) : Int)], .int .i64 ((u : Int) - t)] X fun e w' => e = .returned (.int .i64 (atI s (dst u t))) ∧ Below X.heap.size X w') :=
    Lib.hid (fun X hX => by
      have h := behind_any B Af nf cf (flk s) (s.length - 1) ((u : Int) - t) (s.length - 1 + u - t) X ((hL.below hW hB).below hX (Nat.le_trans hB hW.size)) (by omega) hfl (by have := hL.1; rw [flk_len hP] at this; omega)
      rw [hfk] at h
      exact h)
  have CL := Lib.hid (fun X (hX : Below W.heap.size W X) => hf.run u hm X (hW.trans (hX.mono hW.size)))
  obtain ⟨v, hv⟩ : ∃ v, f u = v := ⟨_, rfl⟩
  obtain ⟨y, hy⟩ : ∃ y, atI s (dst u t) = y := ⟨_, rfl⟩
  obtain ⟨rc, hrc⟩ : ∃ rc, s.length - 1 = rc := ⟨_, rfl⟩
  rw [hv] at hbu CL
  rw [hy] at hN hT BH
  rw [hrc] at k2 BH
  have HV := Lib.hid (And.intro hv hy)
  have hent := hf.ent
  have e1 : IntKind.i64.wrap (v - y) = v - y := IntWalk.i64_in _ (by omega)
  have e2 : IntKind.i64.wrap ((u : Int) - t) = (u : Int) - t := IntWalk.i64_in _ (by omega)
  have c1 := (k1.below hW k1.lt).one.1
  have d0 := ((k2.below hW k2.lt).cell 0).trans rfl
  have d1 := ((k2.below hW k2.lt).cell 1).trans rfl
  have d2 := ((k2.below hW k2.lt).cell 2).trans rfl
  have c3 := (k3.below hW k3.lt).one.1
  have l1 := Lat.cell c1
  have l2 := Lat.cell d0
  have l3 := Lat.cell d1
  have l5 := Lat.cell c3
  clear hbu hdu hle hN hT hP hM hfk hfl hdd hv hy hrc c1 d0 d1 d2 c3 k1 k2 k3 hL hB hs hu hul ht hb hm hf
  simp only [List.push_toArray, List.append_toArray, List.nil_append, List.cons_append]
  go_enter Try.func143, Try.ntmps143
  go_wp2
  refine wp_region_lat (by kernel_rfl) (by kernel_rfl) ?_
  repeat (go_big_quiet_step ((first | (with_reducible exact Calls.lat (BH.out _ (Lat.below _))) | (with_reducible exact Calls.lat (CL.out _ (Lat.below _))))))
  refine wpQuiet_nil ?_
  intro _ hw'
  obtain ⟨⟨w2, hb2⟩, hw''⟩ := hw'
  subst hw''
  go_wp2
  go_ret
  exact ⟨ret_i (by rw [HV.out.1, HV.out.2]), hb2⟩
set_option maxRecDepth 100000 in
set_option maxHeartbeats 2000000 in
theorem readEdge_any (B : Nat) (g : Nat) (first cap : Array Value) (f : Nat → Int) (s : List Int) (Af A : Option Addr) (nf cf n c t : Nat) (w : World) (hL : LI w B Af nf (flk s)) (hB : B ≤ w.heap.size) (hf : FunIs w g first cap (nbr t (s.length - 1) n) f) (hs : Shp s)
    (ht : t < n) (hn : n ≤ 4096) (hb : ∀ u ∈ nbr t (s.length - 1) n, -1099511627776 ≤ f u ∧ f u ≤ 1099511627776) :
    Calls Try.prog 138 #[.agg #[.slice Af nf cf, .int .i64 ((s.length - 1 : Nat) : Int), .slice A n c], .func (.func g) first cap, .int .i64 t] w fun e w' => e = .returned (.int .i64 (mnL (fun u => f u + atI s (dst u t)) (nbr t (s.length - 1) n))) ∧ Below w.heap.size w w' := by
  have hm := hs.many
  have HF := Lib.hid hf
  have HL := Lib.hid hL
  have HSH := Lib.hid hs
  have HBD := Lib.hid hb
  have HNE := Lib.hid (nbr_ne ht (s.length - 1))
  obtain ⟨R, hR⟩ : ∃ R, mnL (fun u => f u + atI s (dst u t)) (nbr t (s.length - 1) n) = R := ⟨_, rfl⟩
  rw [hR]
  have HR := Lib.hid hR
  obtain ⟨rc, hrc⟩ : ∃ rc, s.length - 1 = rc := ⟨_, rfl⟩
  have HRC := Lib.hid hrc
  rw [hrc]
  have hrl : rc ≤ 64 := by omega
  clear hf hL hs hb hR hrc hm
  go_enter Try.func138, Try.ntmps138
  go_wp2_with fail
  obtain ⟨W, hW⟩ : ∃ W, ((w.alloc (.cells #[.slice Af nf cf, .int .i64 rc, .slice A n c] 110)).alloc (.cells #[.func (.func g) first cap] 149)).alloc (.cells #[.int .i64 t] 3) = W := ⟨_, rfl⟩
  have hbw : Below w.heap.size w W := by rw [← hW]; exact (((Below.refl _ _).alloc (Nat.le_refl _) _).alloc (by simp) _).alloc (by simp; omega) _
  have k2 : Blk W w.heap.size 110 #[.slice Af nf cf, .int .i64 rc, .slice A n c] := by rw [← hW]; exact ((Blk.new _ _ _).alloc _).alloc _
  have k1 : Blk W (w.heap.size + 1) 149 #[.func (.func g) first cap] := by rw [← hW]; exact (blk_al (by simp)).alloc _
  have k3 : Blk W (w.heap.size + 1 + 1) 3 #[.int .i64 t] := by rw [← hW]; exact blk_al (by simp)
  rw [hW]
  clear hW
  refine (around_any t rc n W).mono ?_
  rintro e W2 ⟨rfl, hW2⟩
  have hb2 : Below W.heap.size W W2 := by rw [← hW2]; exact (((Below.refl _ _).alloc (Nat.le_refl _) _).alloc (by simp) _).alloc (by simp; omega) _
  have q1 : Blk W2 W.heap.size 3 #[.int .i64 t] := by rw [← hW2]; exact ((Blk.new _ _ _).alloc _).alloc _
  have q2 : Blk W2 (W.heap.size + 1) 3 #[.int .i64 rc] := by rw [← hW2]; exact (blk_al (by simp)).alloc _
  have q3 : Blk W2 (W.heap.size + 1 + 1) 3 #[.int .i64 n] := by rw [← hW2]; exact blk_al (by simp)
  have p1 := k1.below hb2 k1.lt
  have p2 := k2.below hb2 k2.lt
  have p3 := k3.below hb2 k3.lt
  have HBW := Lib.hid (hbw.trans (hb2.mono hbw.size))
  have SI : SeqIs W2 95 #[.pointer (some ⟨W.heap.size, 0, none⟩), .pointer (some ⟨W.heap.size + 1, 0, none⟩), .pointer (some ⟨W.heap.size + 1 + 1, 0, none⟩)] (nbr t rc n) :=
    ⟨enters_of Try.func95 (by kernel_rfl) rfl, fun gg X hX hg => around1_all (12 - 1) _ _ _ t rc n gg X (by omega) (q1.below hX q1.lt) (q2.below hX q2.lt) (q3.below hX q3.lt)
      (fun h => by have := hg _ h; have := q1.lt; omega) (fun h => by have := hg _ h; have := q2.lt; omega) (fun h => by have := hg _ h; have := q3.lt; omega) (by omega) (by omega) (by omega)⟩
  have hf2 := HF.out.below HBW.out
  rw [HRC.out] at hf2
  have FI := readEdge1_any B _ _ _ g first cap (nbr t rc n) f s Af A nf cf n c t W2 p1 (by rw [HRC.out]; exact p2) p3 (HL.out.below HBW.out hB) (Nat.le_trans hB HBW.out.size) hf2 HSH.out (fun u hu => by
    have := (nbr_mem.1 hu).2; have := HRC.out; have := HSH.out.pos; omega) (fun u hu => by have := (nbr_mem.1 hu).1; omega) (by omega) (by have h := HBD.out; rw [HRC.out] at h; exact h)
  have CALL := least_any _ _ _ _ _ _ _ W2 SI FI
  have hR2 := HR.out
  rw [HRC.out] at hR2
  rw [hR2] at CALL
  have CALL := Lib.hid CALL
  clear SI FI p1 p2 p3 q1 q2 q3 k1 k2 k3 hW2 hb2 hbw hf2 hR2
  go_wp2_with fail
  refine CALL.out.mono ?_
  rintro e w1 ⟨rfl, hb1⟩
  have HB := Lib.hid (HBW.out.trans (hb1.mono HBW.out.size))
  clear hb1 CALL
  go_wp2
  go_ret
  exact ⟨rfl, HB.out⟩

set_option maxRecDepth 100000 in
set_option maxHeartbeats 2000000 in
theorem sweepEdge_any (B : Nat) (g : Nat) (first cap : Array Value) (f : Nat → Int) (s : List Int) (Af A : Option Addr) (nf cf n c t : Nat) (w : World) (hL : LI w B Af nf (flk s)) (hB : B ≤ w.heap.size) (hf : FunIs w g first cap (nbr t (s.length - 1) n) f) (hs : Shp s)
    (ht : t < n) (hn : n ≤ 4096) (hb : ∀ u ∈ nbr t (s.length - 1) n, -1099511627776 ≤ f u ∧ f u ≤ 1099511627776) :
    Calls Try.prog 142 #[.agg #[.slice Af nf cf, .int .i64 ((s.length - 1 : Nat) : Int), .slice A n c], .func (.func g) first cap, .int .i64 t] w fun e w' => e = .returned (.int .i64 (-mnL (fun u => -(f u - atI s (dst u t))) (nbr t (s.length - 1) n))) ∧ Below w.heap.size w w' := by
  have hm := hs.many
  have HF := Lib.hid hf
  have HL := Lib.hid hL
  have HSH := Lib.hid hs
  have HBD := Lib.hid hb
  have HNE := Lib.hid (nbr_ne ht (s.length - 1))
  obtain ⟨R, hR⟩ : ∃ R, -mnL (fun u => -(f u - atI s (dst u t))) (nbr t (s.length - 1) n) = R := ⟨_, rfl⟩
  rw [hR]
  have HR := Lib.hid hR
  obtain ⟨rc, hrc⟩ : ∃ rc, s.length - 1 = rc := ⟨_, rfl⟩
  have HRC := Lib.hid hrc
  rw [hrc]
  have hrl : rc ≤ 64 := by omega
  clear hf hL hs hb hR hrc hm
  go_enter Try.func142, Try.ntmps142
  go_wp2_with fail
  obtain ⟨W, hW⟩ : ∃ W, ((w.alloc (.cells #[.slice Af nf cf, .int .i64 rc, .slice A n c] 142)).alloc (.cells #[.func (.func g) first cap] 149)).alloc (.cells #[.int .i64 t] 3) = W := ⟨_, rfl⟩
  have hbw : Below w.heap.size w W := by rw [← hW]; exact (((Below.refl _ _).alloc (Nat.le_refl _) _).alloc (by simp) _).alloc (by simp; omega) _
  have k2 : Blk W w.heap.size 142 #[.slice Af nf cf, .int .i64 rc, .slice A n c] := by rw [← hW]; exact ((Blk.new _ _ _).alloc _).alloc _
  have k1 : Blk W (w.heap.size + 1) 149 #[.func (.func g) first cap] := by rw [← hW]; exact (blk_al (by simp)).alloc _
  have k3 : Blk W (w.heap.size + 1 + 1) 3 #[.int .i64 t] := by rw [← hW]; exact blk_al (by simp)
  rw [hW]
  clear hW
  refine (around_any t rc n W).mono ?_
  rintro e W2 ⟨rfl, hW2⟩
  have hb2 : Below W.heap.size W W2 := by rw [← hW2]; exact (((Below.refl _ _).alloc (Nat.le_refl _) _).alloc (by simp) _).alloc (by simp; omega) _
  have q1 : Blk W2 W.heap.size 3 #[.int .i64 t] := by rw [← hW2]; exact ((Blk.new _ _ _).alloc _).alloc _
  have q2 : Blk W2 (W.heap.size + 1) 3 #[.int .i64 rc] := by rw [← hW2]; exact (blk_al (by simp)).alloc _
  have q3 : Blk W2 (W.heap.size + 1 + 1) 3 #[.int .i64 n] := by rw [← hW2]; exact blk_al (by simp)
  have p1 := k1.below hb2 k1.lt
  have p2 := k2.below hb2 k2.lt
  have p3 := k3.below hb2 k3.lt
  have HBW := Lib.hid (hbw.trans (hb2.mono hbw.size))
  have SI : SeqIs W2 95 #[.pointer (some ⟨W.heap.size, 0, none⟩), .pointer (some ⟨W.heap.size + 1, 0, none⟩), .pointer (some ⟨W.heap.size + 1 + 1, 0, none⟩)] (nbr t rc n) :=
    ⟨enters_of Try.func95 (by kernel_rfl) rfl, fun gg X hX hg => around1_all (12 - 1) _ _ _ t rc n gg X (by omega) (q1.below hX q1.lt) (q2.below hX q2.lt) (q3.below hX q3.lt)
      (fun h => by have := hg _ h; have := q1.lt; omega) (fun h => by have := hg _ h; have := q2.lt; omega) (fun h => by have := hg _ h; have := q3.lt; omega) (by omega) (by omega) (by omega)⟩
  have hf2 := HF.out.below HBW.out
  rw [HRC.out] at hf2
  have FI := sweepEdge1_any B _ _ _ g first cap (nbr t rc n) f s Af A nf cf n c t W2 p1 (by rw [HRC.out]; exact p2) p3 (HL.out.below HBW.out hB) (Nat.le_trans hB HBW.out.size) hf2 HSH.out (fun u hu => by
    have := (nbr_mem.1 hu).2; have := HRC.out; have := HSH.out.pos; omega) (fun u hu => by have := (nbr_mem.1 hu).1; omega) (by omega) (by have h := HBD.out; rw [HRC.out] at h; exact h)
  have CALL := greatest_any _ _ _ _ _ _ _ W2 SI FI (by rw [← HRC.out]; exact HNE.out) (fun u hu => by
    have h1 := HBD.out u (by rw [HRC.out]; exact hu)
    have h2 := HSH.out.nn (dst u t)
    have h3 := HSH.out.top (dst u t)
    omega)
  have hR2 := HR.out
  rw [HRC.out] at hR2
  rw [hR2] at CALL
  have CALL := Lib.hid CALL
  clear SI FI p1 p2 p3 q1 q2 q3 k1 k2 k3 hW2 hb2 hbw hf2 hR2
  go_wp2_with fail
  refine CALL.out.mono ?_
  rintro e w1 ⟨rfl, hb1⟩
  have HB := Lib.hid (HBW.out.trans (hb1.mono HBW.out.size))
  clear hb1 CALL
  go_wp2
  go_ret
  exact ⟨rfl, HB.out⟩

end Go.Proofs.Ytjdnpgilinfkgaa
