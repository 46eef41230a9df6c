/-
  The iterator of around, where a round may stop; what a stylus misses: missed.
-/
import Derived.Test.YtjdnpgilinfkgaaM2
import Derived.Test.YtjdnpgilinfkgaaM5
import Derived.Test.YtjdnpgilinfkgaaIr
import Derived.Test.YtjdnpgilinfkgaaQ0
import Derived.RangeFuncOwn
namespace Go.Proofs.Ytjdnpgilinfkgaa
open Go.RowKit Go.Shelf
attribute [local go_sem] Oper.semAt_some

abbrev Nb (t far n : Nat) := { u : Nat // u ∈ nbr t far n }
abbrev encS (t far n : Nat) (x : Nb t far n) : Array Value := #[.int .i64 x.1]
theorem nbr_get {t far n j : Nat} (h : j < (nbr t far n).length) : (nbr t far n)[j] = t - far + j := by simp [nbr]

set_option maxRecDepth 100000 in
set_option maxHeartbeats 2000000 in
theorem around1_stops (m bt bf bn t far n n₀ : Nat) (W0 : World) (hm : 1 ≤ m) (k1 : Blk W0 bt 3 #[.int .i64 t]) (k2 : Blk W0 bf 3 #[.int .i64 far]) (k3 : Blk W0 bn 3 #[.int .i64 n])
    (g1 : bt < n₀) (g2 : bf < n₀) (g3 : bn < n₀) (ht : t ≤ 1099511627776) (hf : far ≤ 1099511627776) (hn : n ≤ 1099511627776) :
    SeqStopsK Fence.wide m Try.prog 95 #[.pointer (some ⟨bt, 0, none⟩), .pointer (some ⟨bf, 0, none⟩), .pointer (some ⟨bn, 0, none⟩)] (encS t far n) (Below n₀) (fun xs => xs.map (·.1) = nbr t far n) (fun pre => pre.map (·.1) <+: nbr t far n) (nbr t far n).length W0 := fun l J Jx W hW hJ hJx hY h0 => by
  have c1 : W.cell? ⟨bt, 0, none⟩ = some (.int .i64 t) := (hW.cell (p := ⟨bt, 0, none⟩) k1.lt).trans k1.one.1
  have c2 : W.cell? ⟨bf, 0, none⟩ = some (.int .i64 far) := (hW.cell (p := ⟨bf, 0, none⟩) k2.lt).trans k2.one.1
  have c3 : W.cell? ⟨bn, 0, none⟩ = some (.int .i64 n) := (hW.cell (p := ⟨bn, 0, none⟩) k3.lt).trans k3.one.1
  have e1 : IntKind.i64.wrap ((t : Int) - far) = (t : Int) - far := IntWalk.i64_in _ (by omega)
  have e2 : IntKind.i64.wrap ((t : Int) + far) = (t : Int) + far := IntWalk.i64_in _ (by omega)
  have e3 : IntKind.i64.wrap ((t : Int) + far + 1) = (t : Int) + far + 1 := IntWalk.i64_in _ (by omega)
  obtain ⟨lo, hlo⟩ : ∃ lo, t - far = lo := ⟨_, rfl⟩
  obtain ⟨hi, hhi⟩ : ∃ hi, min n (t + far + 1) = hi := ⟨_, rfl⟩
  have e4 : (if far < t then (t : Int) - far else 0) = (lo : Int) := by split <;> omega
  have e5 : (if (t : Int) + far + 1 < (n : Int) then (t : Int) + far + 1 else (n : Int)) = (hi : Int) := by split <;> omega
  have hlen := nbr_len t far n
  have HGET : Hid (∀ j (h : j < (nbr t far n).length), (nbr t far n)[j] = lo + j) := Lib.hid (fun j h => by rw [← hlo]; exact nbr_get h)
  rw [hlo, hhi] at hlen
  have hb : hi ≤ 1099511627776 := by omega
  have hlb : lo ≤ 1099511627776 := by omega
  have HC := Lib.hid (And.intro c1 (And.intro c2 c3))
  have HL := Lib.hid hlen
  have HY := Lib.hid hY
  clear hlo hhi k1 k2 k3 ht hf hn hlen hW hY
  refine callsIn_of_wp Try.func95 rfl trivial ?_ rfl
  simp only [Try.ntmps95, List.size_toArray, List.length_cons, List.length_nil, Nat.reduceAdd, Nat.reduceSub, Array.replicate_succ, Array.replicate_zero, List.push_toArray, List.append_toArray, List.nil_append, List.cons_append]
  gi_wp2
  gi_loopw [5] (fun z wr => ∃ (j : Nat) (pre : List (Nb t far n)), j ≤ (nbr t far n).length ∧ z = .int .i64 ((lo + j : Nat) : Int) ∧ Hid (pre.map (·.1) = (nbr t far n).take j) ∧ Hid (J pre wr) ∧ Hid (Below n₀ W wr)) (fun z _ => (hi - intOf z).toNat)
  case atStart => exact ⟨0, [], Nat.zero_le _, by simp, Lib.hid rfl, Lib.hid h0, Lib.hid (Below.refl _ _)⟩
  case round =>
    clear c1 c2 c3 h0 e1 e4
    obtain ⟨j, pre, hj, rfl, HP, HJ, HX⟩ := hrel
    have c1 := (HX.out.cell (p := ⟨bt, 0, none⟩) g1).trans HC.out.1
    have c2 := (HX.out.cell (p := ⟨bf, 0, none⟩) g2).trans HC.out.2.1
    have c3 := (HX.out.cell (p := ⟨bn, 0, none⟩) g3).trans HC.out.2.2
    by_cases hlt : j < (nbr t far n).length
    · have hl1 : lo + j < hi := by have := HL.out; omega
      have hlp : pre.length < (nbr t far n).length := by have := congrArg List.length HP.out; simp at this; omega
      have hmem : lo + j ∈ nbr t far n := by rw [← HGET.out j hlt]; exact List.getElem_mem hlt
      have hsn : (pre ++ [(⟨lo + j, hmem⟩ : Nb t far n)]).map (fun x => x.1) = (nbr t far n).take (j + 1) := by
        rw [List.map_append, HP.out, List.take_succ_eq_append_getElem hlt, HGET.out j hlt]; rfl
      obtain ⟨fn, tmps, assign, body, hy, hR⟩ := HY.out _ (⟨lo + j, hmem⟩ : Nb t far n) wr HJ.out hlp
      dsimp only [encS] at hy
      obtain ⟨px, hpx⟩ : ∃ px, pre ++ [(⟨lo + j, hmem⟩ : Nb t far n)] = px := ⟨_, rfl⟩
      rw [hpx] at hR hsn
      have HSN := Lib.hid hsn
      obtain ⟨u, hu⟩ : ∃ u, lo + j = u := ⟨_, rfl⟩
      rw [hu] at hy hl1
      have HU := Lib.hid hu
      clear hsn hpx hlp
      rw [hu]
      clear hu hmem
      have hl2 : (u : Int) < (hi : Int) := by omega
      have e6 : IntKind.i64.wrap ((u : Int) + 1) = (u : Int) + 1 := IntWalk.i64_in _ (by omega)
      gi_wp2
      refine hR.mono ?_
      rintro e W3 (⟨rfl, hJ3, hk3⟩ | ⟨rfl, hJx3⟩)
      · gi_wp2
        go_roundw
        case rel => exact ⟨j + 1, px, by omega, by have := HU.out; congr 1; omega, HSN, Lib.hid hJ3, Lib.hid (HX.out.trans hk3)⟩
        case measure => simp [intOf]; omega
      · gi_wp2
        refine bodyPost_ret (results_none rfl _ _ _) rfl ?_
        exact ⟨⟨_, rfl⟩, .inr ⟨_, by rw [HSN.out]; exact List.take_prefix _ _, hJx3⟩⟩
    · have hje : j = (nbr t far n).length := by omega
      have hl1 : ¬ (((lo + j : Nat) : Int) < (hi : Int)) := by have := HL.out; omega
      have HPF : Hid (pre.map (·.1) = nbr t far n) := Lib.hid (by rw [HP.out, hje, List.take_length])
      obtain ⟨u, hu⟩ : ∃ u, lo + j = u := ⟨_, rfl⟩
      rw [hu] at hl1 ⊢
      clear hu hje
      gi_wp2
      go_end0
      exact ⟨⟨_, rfl⟩, .inl ⟨_, HPF.out, HJ.out⟩⟩

theorem grown_bM {X Y : World} (h : Below X.heap.size X Y) : X.grownBy Y none := ⟨h.os, h.tape, h.output, h.size, fun i hi _ => h.block i hi⟩
/-- A region in a round, walked in the text's order: reads, and calls that make memory. -/
theorem wpIn_region_lat_round {P : Program} {id L n : Nat} {l : List Oper} {Q : Exit → Act → World → Prop} {a : Act} {w : World} (hm : P.follows .mixedOrders = true) (hd : ∀ o ∈ l, ∀ c, o.op ≠ .defer c) (hQ : ¬ LetsOut Q) (hB : Region.lexB .any l.toArray = true)
    (h : wpQuiet P l.toArray (fun w' => ∃ x : Lat w, w' = x.w) (fun a' => ∀ w', (∃ x : Lat w, w' = x.w) → Q .normal a' w') l a) : (Code.region id l.toArray true).wpIn (Fence.wide.inRound L) n P Q a w := by
  simp only [Region.lexB, Bool.and_eq_true] at hB
  refine wpIn_region_round hm hd hQ (wpAny_of_quiet (C := fun w' => ∃ x : Lat w, w' = x.w) (Q := fun a' => ∀ w', (∃ x : Lat w, w' = x.w) → Q .normal a' w') (fun _ w' hw' h => h w' hw') _ _ _ _ ⟨⟨w.drew, (Below.refl _ _).drew⟩, rfl⟩ ?_)
  have := wpAnyQ_lex (C := fun w' => ∃ x : Lat w, w' = x.w) (md := .any) hB.1 l 0 (Array.replicate l.toArray.size false) a (by simp) (by simpa using hB.2) h
  simpa using this

/-- Whether a stylus misses t because of u. -/
def missB (s : List Int) (l : List Smp) (t u : Nat) : Bool := decide (outW l u + atI s (dst u t) < outW l t) || decide (innW l u + atI s (dst u t) < innW l t)
/-- The first sample because of which it misses t. -/
def msU (s : List Int) (l : List Smp) (t : Nat) : Option Nat := (nbr t (s.length - 1) l.length).find? (missB s l t)
theorem msU_none {s : List Int} {l : List Smp} {t : Nat} (h : ∀ u ∈ nbr t (s.length - 1) l.length, missB s l t u = false) : msU s l t = none := List.find?_eq_none.2 (fun u hu => by rw [h u hu]; simp)
theorem msU_some {s : List Int} {l : List Smp} {t u : Nat} {pre : List Nat} (hp : pre ++ [u] <+: nbr t (s.length - 1) l.length) (h : ∀ v ∈ pre, missB s l t v = false) (hu : missB s l t u = true) : msU s l t = some u := by
  obtain ⟨d, hd⟩ := hp
  unfold msU
  rw [← hd, List.append_assoc, List.find?_append, List.find?_eq_none.2 (fun v hv => by rw [h v hv]; simp)]
  simp [hu]

set_option maxRecDepth 100000 in
set_option maxHeartbeats 8000000 in
theorem missed_any (B : Nat) (s : List Int) (Af A : Option Addr) (nf cf n c t : Nat) (l : List Smp) (w : World) (hL : LI w B Af nf (flk s)) (h0 : RS w B A n l) (hB : B ≤ w.heap.size) (hs : Shp s) (he : Edg l) (ht : t < n) (hn : n ≤ 4096) :
    Calls Try.prog 83 #[.agg #[.slice Af nf cf, .int .i64 ((s.length - 1 : Nat) : Int)], .slice A n c, .int .i64 t] w fun e w' => e = .returned (.tuple #[.int .i64 ((msU s l t).getD 0 : Nat), .bool (msU s l t).isSome]) ∧ Below w.heap.size w w' := by
  have HN := Lib.hid h0.1
  have HSH := Lib.hid hs
  have BH : Hid (∀ u, u ∈ nbr t (s.length - 1) n → ∀ X, Below w.heap.size w X → Calls Try.prog 105 #[.agg #[.slice Af nf cf, .int .i64 ((s.length - 1 : Nat) : Int)], .int .i64 ((u : Int) - t)] X fun e w' => e = .returned (.int .i64 (atI s (dst u t))) ∧ Below X.heap.size X w') :=
    Lib.hid (fun u hu X hX => by
      have hdu : dst u t < s.length := by have := (nbr_mem.1 hu).2; have := hs.pos; omega
      have hfk := flk_at hdu
      have hfl : s.length - 1 + u - t < (flk s).length := by rw [flk_len hs.pos]; unfold dst at hdu; omega
      rw [atI_eq hfl] at hfk
      have hdd : dst u t = (u - t) + (t - u) := rfl
      have hsp := hs.pos
      have hsm := hs.many
      have h := behind_any B Af nf cf (flk s) (s.length - 1) ((u : Int) - t) (s.length - 1 + u - t) X (hL.below hX hB) (by omega) hfl (by have := hL.1; rw [flk_len hs.pos] at this; omega)
      rw [hfk] at h
      exact h)
  have OU := Lib.hid (fun (u : Nat) (hu : u < l.length) X (hX : Below w.heap.size w X) => lineOuter_any B A n c l u X (h0.below hX hB) hu)
  have IN := Lib.hid (fun (u : Nat) (hu : u < l.length) X (hX : Below w.heap.size w X) => lineInner_any B A n c l u X (h0.below hX hB) hu he)
  have HE := Lib.hid he
  have HLT : Hid (t < l.length) := Lib.hid (by have := h0.1; omega)
  have hm := hs.many
  have HMS : Hid (∀ pre : List Nat, pre = nbr t (s.length - 1) n → (∀ u ∈ pre, missB s l t u = false) → msU s l t = none) := Lib.hid (fun pre hp h => msU_none (by rw [← HN.out, ← hp]; exact h))
  have HMU : Hid (∀ (pre : List Nat) (u : Nat), pre ++ [u] <+: nbr t (s.length - 1) n → (∀ v ∈ pre, missB s l t v = false) → missB s l t u = true → msU s l t = some u) := Lib.hid (fun pre u hp h hu => msU_some (by rw [← HN.out]; exact hp) h hu)
  obtain ⟨rc, hrc⟩ : ∃ rc, s.length - 1 = rc := ⟨_, rfl⟩
  rw [hrc] at BH HMS HMU
  rw [hrc]
  have hrl : rc ≤ 64 := by omega
  clear hL h0 hB hs he hrc hm
  refine (callsIn_wide (n := 12)).1 ?_
  refine callsIn_of_wp_marks Try.func83 rfl trivial ?_ rfl
  simp only [Try.ntmps83, List.size_toArray, List.length_cons, List.length_nil, Nat.reduceAdd, Nat.reduceSub, Array.replicate_succ, Array.replicate_zero, List.push_toArray, List.append_toArray, List.nil_append, List.cons_append]
  gi_wp2_with fail
  obtain ⟨W0, hW0⟩ : ∃ W0, ((((w.alloc (.cells #[.slice Af nf cf, .int .i64 rc] 107)).alloc (.cells #[.slice A n c] 104)).alloc (.cells #[.int .i64 t] 3)).alloc (.cells #[.int .i64 0] 3)).alloc (.cells #[.bool false] 4) = W0 := ⟨_, rfl⟩
  have hb0 : Below w.heap.size w W0 := by rw [← hW0]; exact (((((Below.refl _ _).alloc (Nat.le_refl _) _).alloc (by simp) _).alloc (by simp; omega) _).alloc (by simp; omega) _).alloc (by simp; omega) _
  have k0 : Blk W0 w.heap.size 107 #[.slice Af nf cf, .int .i64 rc] := by rw [← hW0]; exact ((((Blk.new _ _ _).alloc _).alloc _).alloc _).alloc _
  have k1 : Blk W0 (w.heap.size + 1) 104 #[.slice A n c] := by rw [← hW0]; exact (((blk_al (by simp)).alloc _).alloc _).alloc _
  have k2 : Blk W0 (w.heap.size + 1 + 1) 3 #[.int .i64 t] := by rw [← hW0]; exact ((blk_al (by simp)).alloc _).alloc _
  have k3 : Blk W0 (w.heap.size + 1 + 1 + 1) 3 #[.int .i64 0] := by rw [← hW0]; exact (blk_al (by simp)).alloc _
  have k4 : Blk W0 (w.heap.size + 1 + 1 + 1 + 1) 4 #[.bool false] := by rw [← hW0]; exact blk_al (by simp)
  rw [hW0]
  clear hW0
  refine ⟨trivial, (callsIn_wide.2 (around_any t rc n W0)).mono ?_⟩
  rintro e W1 ⟨rfl, hW1⟩
  have hb1 : Below W0.heap.size W0 W1 := by rw [← hW1]; exact (((Below.refl _ _).alloc (Nat.le_refl _) _).alloc (by simp) _).alloc (by simp; omega) _
  have q1 : Blk W1 W0.heap.size 3 #[.int .i64 t] := by rw [← hW1]; exact ((Blk.new _ _ _).alloc _).alloc _
  have q2 : Blk W1 (W0.heap.size + 1) 3 #[.int .i64 rc] := by rw [← hW1]; exact (blk_al (by simp)).alloc _
  have q3 : Blk W1 (W0.heap.size + 1 + 1) 3 #[.int .i64 n] := by rw [← hW1]; exact blk_al (by simp)
  replace k0 := k0.below hb1 k0.lt
  replace k1 := k1.below hb1 k1.lt
  replace k2 := k2.below hb1 k2.lt
  replace k3 := k3.below hb1 k3.lt
  replace k4 := k4.below hb1 k4.lt
  replace hb0 := hb0.trans (hb1.mono hb0.size)
  have z1 := q1.lt
  have z2 := q2.lt
  have z3 := q3.lt
  clear hW1 hb1
  gi_wp2_with fail
  refine wpIn_rangeFunc_ownH rfl (by omega) (gf := 95) (lb := #[.pointer (some ⟨W0.heap.size, 0, none⟩), .pointer (some ⟨W0.heap.size + 1, 0, none⟩), .pointer (some ⟨W0.heap.size + 1 + 1, 0, none⟩)]) rfl trivial (enters_of Try.func95 (by kernel_rfl) rfl)
    (around1_stops (12 - 1) _ _ _ t rc n W1.heap.size W1 (by omega) q1 q2 q3 z1 z2 z3 (by omega) (by omega) (by omega)) belowK_t (belowK_b (Nat.le_refl _)) (Below.refl _ _) (fun _ => rfl)
    (fun pre X => Blk X w.heap.size 107 #[.slice Af nf cf, .int .i64 rc] ∧ Blk X (w.heap.size + 1) 104 #[.slice A n c] ∧ Blk X (w.heap.size + 1 + 1) 3 #[.int .i64 t] ∧ Blk X (w.heap.size + 1 + 1 + 1) 3 #[.int .i64 0] ∧ Blk X (w.heap.size + 1 + 1 + 1 + 1) 4 #[.bool false] ∧ (Below w.heap.size w X ∧ W1.heap.size ≤ X.heap.size) ∧ ∀ x ∈ pre, missB s l t x.1 = false)
    (fun cd pre X => cd = .ret ∧ ∃ pre0 x, pre = pre0 ++ [x] ∧ (∀ y ∈ pre0, missB s l t y.1 = false) ∧ missB s l t x.1 = true ∧ Blk X (w.heap.size + 1 + 1 + 1) 3 #[.int .i64 x.1] ∧ Blk X (w.heap.size + 1 + 1 + 1 + 1) 4 #[.bool true] ∧ Below w.heap.size w X)
    ?hI ?hIx ?h0 (fun x a' X => a' = { tmps := #[.agg #[.slice Af nf cf, .int .i64 rc], .slice A n c, .int .i64 t, .pointer (some ⟨w.heap.size, 0, none⟩), .pointer (some ⟨w.heap.size + 1, 0, none⟩), .pointer (some ⟨w.heap.size + 1 + 1, 0, none⟩), .pointer (some ⟨w.heap.size + 1 + 1 + 1, 0, none⟩), .pointer (some ⟨w.heap.size + 1 + 1 + 1 + 1, 0, none⟩), .int .i64 x.1, undef, .int .i64 t, .pointer (some ⟨w.heap.size, 1, none⟩), .int .i64 rc, .slice A n c, .int .i64 n, .func (.func 95) #[] #[.pointer (some ⟨W0.heap.size, 0, none⟩), .pointer (some ⟨W0.heap.size + 1, 0, none⟩), .pointer (some ⟨W0.heap.size + 1 + 1, 0, none⟩)], .int .i64 x.1, undef, undef, undef, undef, undef, undef, undef, undef, undef, undef, undef, undef, undef, undef, undef, undef, undef, undef, undef, undef, undef, undef, undef, undef, undef, undef], defers := [] }) ?hAx ?assign ?body ?done ?stop
  case hI =>
    rintro s_ X Y row ⟨i0, i1, i2, i3, i4, i5, i6⟩ hgr hr
    have hk := fun r e => (hr r e).2
    exact ⟨blk_keptR i0 hgr hk, blk_keptR i1 hgr hk, blk_keptR i2 hgr hk, blk_keptR i3 hgr hk, blk_keptR i4 hgr hk, ⟨i5.1.grown hgr i5.1.size (fun q e => by have := (hr q e).1; have := hb0.size; omega), Nat.le_trans i5.2 hgr.size⟩, i6⟩
  case hIx =>
    rintro cd s_ X Y row ⟨rfl, pre0, x, j1, j2, j3, i2, i3, i4⟩ hgr hr
    have hk := fun r e => (hr r e).2
    exact ⟨rfl, pre0, x, j1, j2, j3, blk_keptR i2 hgr hk, blk_keptR i3 hgr hk, i4.grown hgr i4.size (fun q e => by have := (hr q e).1; have := hb0.size; omega)⟩
  case h0 => exact ⟨k0, k1, k2, k3, k4, ⟨hb0, Nat.le_refl _⟩, fun _ h => by cases h⟩
  case hAx =>
    rintro x a' s_ X Y row h3 hgr hr
    exact h3
  case assign =>
    rintro l' pre x X K hi hK
    gi_wp2
    exact hK _ _ (KeepsFrom.of_grownBy (World.grownBy.refl X none) (by simp)) (Below.refl _ X) hi rfl
  case body =>
    rintro L pre x a' X hL hrec ⟨i0, i1, i2, i3, i4, i5, i6⟩ rfl hlen
    have hxn : x.1 < n := nbr_lt x.2
    have hxl : x.1 < l.length := by have := HN.out; omega
    have BHx := Lib.hid (BH.out x.1 x.2)
    have OT := Lib.hid (OU.out t HLT.out)
    have OX := Lib.hid (OU.out x.1 hxl)
    have IT := Lib.hid (IN.out t HLT.out)
    have IX := Lib.hid (IN.out x.1 hxl)
    have b1 := HE.out.2 t HLT.out
    have b2 := HE.out.2 x.1 hxl
    have b3 := HE.out.1 t HLT.out
    have b4 := HE.out.1 x.1 hxl
    have b5 := HSH.out.nn (dst x.1 t)
    have b6 := HSH.out.top (dst x.1 t)
    have hmb : missB s l t x.1 = (decide (outW l x.1 + atI s (dst x.1 t) < outW l t) || decide (innW l x.1 + atI s (dst x.1 t) < innW l t)) := rfl
    obtain ⟨ot, hot⟩ : ∃ z, outW l t = z := ⟨_, rfl⟩
    obtain ⟨ox, hox⟩ : ∃ z, outW l x.1 = z := ⟨_, rfl⟩
    obtain ⟨it, hit⟩ : ∃ z, innW l t = z := ⟨_, rfl⟩
    obtain ⟨ix, hix⟩ : ∃ z, innW l x.1 = z := ⟨_, rfl⟩
    obtain ⟨y, hy⟩ : ∃ z, atI s (dst x.1 t) = z := ⟨_, rfl⟩
    rw [hot] at OT b1 hmb
    rw [hox] at OX b2 hmb
    rw [hit] at IT b3 hmb
    rw [hix] at IX b4 hmb
    rw [hy] at BHx b5 b6 hmb
    have HMB := Lib.hid hmb
    have w1 : IntKind.i64.wrap ((x.1 : Int) - t) = (x.1 : Int) - t := IntWalk.i64_in _ (by omega)
    have w2 : IntKind.i64.wrap (ox + y) = ox + y := IntWalk.i64_in _ (by omega)
    have w3 : IntKind.i64.wrap (ix + y) = ix + y := IntWalk.i64_in _ (by omega)
    have I0 := Lib.hid i0
    have I1 := Lib.hid i1
    have I2 := Lib.hid i2
    have I3 := Lib.hid i3
    have I4 := Lib.hid i4
    have I5 := Lib.hid i5
    have I6 := Lib.hid i6
    have p0 := (i0.cell 0).trans rfl
    have p1 := (i0.cell 1).trans rfl
    have p2 := i2.one.1
    have f84 : Fence.wide.fn 105 := trivial
    clear hot hox hit hix hy hmb i0 i1 i2 i3 i4 i5 i6 hlen hxn hxl k0 k1 k2 k3 k4 hb0 q1 q2 q3 b1 b2 b3 b4 b5 b6
    by_cases c1 : ox + y < ot
    · have d1 : decide (ox + y < ot) = true := by simpa using c1
      have HM1 : Hid (missB s l t x.1 = true) := Lib.hid (by rw [HMB.out, d1]; rfl)
      have D1 := Lib.hid d1
      clear c1 d1
      gi_wp2_with (gi_at_call 105; refine (CallsIn.inRound L (callsIn_wide.2 (BHx.out _ I5.out.1))).mono ?_; rintro e w8 ⟨rfl, hb8⟩; have HB8 := Lib.hid hb8; clear hb8)
      have J1 := Lib.hid (I1.out.below HB8.out I1.out.lt)
      have J2 := Lib.hid (I2.out.below HB8.out I2.out.lt)
      have HBB := Lib.hid (I5.out.1.trans (HB8.out.mono I5.out.1.size))
      have OTL : Hid (∀ z : Lat w8, Calls Try.prog 106 #[.slice A n c, .int .i64 t] z.w (fun e w'' => e = .returned (.int .i64 ot) ∧ ∃ y : Lat w8, w'' = y.w)) := Lib.hid (fun z => Calls.lat_ (OT.out _ (HBB.out.trans (z.below.mono HBB.out.size))))
      have OXL : Hid (∀ z : Lat w8, Calls Try.prog 106 #[.slice A n c, .int .i64 x.1] z.w (fun e w'' => e = .returned (.int .i64 ox) ∧ ∃ y : Lat w8, w'' = y.w)) := Lib.hid (fun z => Calls.lat_ (OX.out _ (HBB.out.trans (z.below.mono HBB.out.size))))
      have ITL : Hid (∀ z : Lat w8, Calls Try.prog 107 #[.slice A n c, .int .i64 t] z.w (fun e w'' => e = .returned (.int .i64 it) ∧ ∃ y : Lat w8, w'' = y.w)) := Lib.hid (fun z => Calls.lat_ (IT.out _ (HBB.out.trans (z.below.mono HBB.out.size))))
      have IXL : Hid (∀ z : Lat w8, Calls Try.prog 107 #[.slice A n c, .int .i64 x.1] z.w (fun e w'' => e = .returned (.int .i64 ix) ∧ ∃ y : Lat w8, w'' = y.w)) := Lib.hid (fun z => Calls.lat_ (IX.out _ (HBB.out.trans (z.below.mono HBB.out.size))))
      have r1 := Lat.cell J1.out.one.1
      have r2 := Lat.cell J2.out.one.1
      clear w1 p0 p1 p2
      have d1 := D1.out
      try have d2 := D2.out
      refine wpIn_region_lat_round (by kernel_rfl) (by simp) (by rintro ⟨a, w, h⟩; exact h) (by kernel_rfl) ?_
      repeat (go_big_quiet_step ((first | (with_reducible exact OTL.out _) | (with_reducible exact OXL.out _) | (with_reducible exact ITL.out _) | (with_reducible exact IXL.out _))))
      refine wpQuiet_nil ?_
      intro W2 hw'
      have hb2 := lat_out hw'
      replace HBB := Lib.hid (HBB.out.trans (hb2.mono HBB.out.size))
      have L3 := Lib.hid ((I3.out.below HB8.out I3.out.lt).below hb2 (I3.out.below HB8.out I3.out.lt).lt)
      have L4 := Lib.hid ((I4.out.below HB8.out I4.out.lt).below hb2 (I4.out.below HB8.out I4.out.lt).lt)
      have HB2 := Lib.hid (HB8.out.trans (hb2.mono HB8.out.size))
      clear hb2 hw' r1 r2
      obtain ⟨g0, g1, g2⟩ := L3.out.one
      obtain ⟨g3, g4, g5⟩ := L4.out.one
      gi_wp2
      have n1 : w.heap.size + 1 + 1 + 1 ≠ w.heap.size + 1 + 1 + 1 + 1 := by omega
      refine ⟨((KeepsFrom.of_grownBy (grown_bM HB2.out) (by simp)).trans ((KeepsOthers.setCell _ _ _).from _)).trans ((KeepsOthers.setCell _ _ _).from _), rfl, pre, x, rfl, I6.out, HM1.out, ?_, ?_, ?_⟩
      · exact (L3.out.set_ 0 (.int .i64 x.1)).far (p := ⟨w.heap.size + 1 + 1 + 1 + 1, 0, none⟩) n1 _
      · exact (L4.out.far (p := ⟨w.heap.size + 1 + 1 + 1, 0, none⟩) n1.symm _).set_ 0 (.bool true)
      · exact (HBB.out.setCell (p := ⟨w.heap.size + 1 + 1 + 1, 0, none⟩) (by show w.heap.size ≤ w.heap.size + 1 + 1 + 1; omega) _).setCell (p := ⟨w.heap.size + 1 + 1 + 1 + 1, 0, none⟩) (by show w.heap.size ≤ w.heap.size + 1 + 1 + 1 + 1; omega) _
    · have d1 : decide (ox + y < ot) = false := by simpa using c1
      by_cases c2 : ix + y < it
      · have d2 : decide (ix + y < it) = true := by simpa using c2
        have HM1 : Hid (missB s l t x.1 = true) := Lib.hid (by rw [HMB.out, d1, d2]; rfl)
        have D1 := Lib.hid d1
        have D2 := Lib.hid d2
        clear c1 c2 d1 d2
        gi_wp2_with (gi_at_call 105; refine (CallsIn.inRound L (callsIn_wide.2 (BHx.out _ I5.out.1))).mono ?_; rintro e w8 ⟨rfl, hb8⟩; have HB8 := Lib.hid hb8; clear hb8)
        have J1 := Lib.hid (I1.out.below HB8.out I1.out.lt)
        have J2 := Lib.hid (I2.out.below HB8.out I2.out.lt)
        have HBB := Lib.hid (I5.out.1.trans (HB8.out.mono I5.out.1.size))
        have OTL : Hid (∀ z : Lat w8, Calls Try.prog 106 #[.slice A n c, .int .i64 t] z.w (fun e w'' => e = .returned (.int .i64 ot) ∧ ∃ y : Lat w8, w'' = y.w)) := Lib.hid (fun z => Calls.lat_ (OT.out _ (HBB.out.trans (z.below.mono HBB.out.size))))
        have OXL : Hid (∀ z : Lat w8, Calls Try.prog 106 #[.slice A n c, .int .i64 x.1] z.w (fun e w'' => e = .returned (.int .i64 ox) ∧ ∃ y : Lat w8, w'' = y.w)) := Lib.hid (fun z => Calls.lat_ (OX.out _ (HBB.out.trans (z.below.mono HBB.out.size))))
        have ITL : Hid (∀ z : Lat w8, Calls Try.prog 107 #[.slice A n c, .int .i64 t] z.w (fun e w'' => e = .returned (.int .i64 it) ∧ ∃ y : Lat w8, w'' = y.w)) := Lib.hid (fun z => Calls.lat_ (IT.out _ (HBB.out.trans (z.below.mono HBB.out.size))))
        have IXL : Hid (∀ z : Lat w8, Calls Try.prog 107 #[.slice A n c, .int .i64 x.1] z.w (fun e w'' => e = .returned (.int .i64 ix) ∧ ∃ y : Lat w8, w'' = y.w)) := Lib.hid (fun z => Calls.lat_ (IX.out _ (HBB.out.trans (z.below.mono HBB.out.size))))
        have r1 := Lat.cell J1.out.one.1
        have r2 := Lat.cell J2.out.one.1
        clear w1 p0 p1 p2
        have d1 := D1.out
        try have d2 := D2.out
        refine wpIn_region_lat_round (by kernel_rfl) (by simp) (by rintro ⟨a, w, h⟩; exact h) (by kernel_rfl) ?_
        repeat (go_big_quiet_step ((first | (with_reducible exact OTL.out _) | (with_reducible exact OXL.out _) | (with_reducible exact ITL.out _) | (with_reducible exact IXL.out _))))
        refine wpQuiet_nil ?_
        intro W2 hw'
        have hb2 := lat_out hw'
        replace HBB := Lib.hid (HBB.out.trans (hb2.mono HBB.out.size))
        have L3 := Lib.hid ((I3.out.below HB8.out I3.out.lt).below hb2 (I3.out.below HB8.out I3.out.lt).lt)
        have L4 := Lib.hid ((I4.out.below HB8.out I4.out.lt).below hb2 (I4.out.below HB8.out I4.out.lt).lt)
        have HB2 := Lib.hid (HB8.out.trans (hb2.mono HB8.out.size))
        clear hb2 hw' r1 r2
        obtain ⟨g0, g1, g2⟩ := L3.out.one
        obtain ⟨g3, g4, g5⟩ := L4.out.one
        gi_wp2
        have n1 : w.heap.size + 1 + 1 + 1 ≠ w.heap.size + 1 + 1 + 1 + 1 := by omega
        refine ⟨((KeepsFrom.of_grownBy (grown_bM HB2.out) (by simp)).trans ((KeepsOthers.setCell _ _ _).from _)).trans ((KeepsOthers.setCell _ _ _).from _), rfl, pre, x, rfl, I6.out, HM1.out, ?_, ?_, ?_⟩
        · exact (L3.out.set_ 0 (.int .i64 x.1)).far (p := ⟨w.heap.size + 1 + 1 + 1 + 1, 0, none⟩) n1 _
        · exact (L4.out.far (p := ⟨w.heap.size + 1 + 1 + 1, 0, none⟩) n1.symm _).set_ 0 (.bool true)
        · exact (HBB.out.setCell (p := ⟨w.heap.size + 1 + 1 + 1, 0, none⟩) (by show w.heap.size ≤ w.heap.size + 1 + 1 + 1; omega) _).setCell (p := ⟨w.heap.size + 1 + 1 + 1 + 1, 0, none⟩) (by show w.heap.size ≤ w.heap.size + 1 + 1 + 1 + 1; omega) _
      · have d2 : decide (ix + y < it) = false := by simpa using c2
        have HM0 : Hid (missB s l t x.1 = false) := Lib.hid (by rw [HMB.out, d1, d2]; rfl)
        have D1 := Lib.hid d1
        have D2 := Lib.hid d2
        clear c1 c2 d1 d2
        gi_wp2_with (gi_at_call 105; refine (CallsIn.inRound L (callsIn_wide.2 (BHx.out _ I5.out.1))).mono ?_; rintro e w8 ⟨rfl, hb8⟩; have HB8 := Lib.hid hb8; clear hb8)
        have J1 := Lib.hid (I1.out.below HB8.out I1.out.lt)
        have J2 := Lib.hid (I2.out.below HB8.out I2.out.lt)
        have HBB := Lib.hid (I5.out.1.trans (HB8.out.mono I5.out.1.size))
        have OTL : Hid (∀ z : Lat w8, Calls Try.prog 106 #[.slice A n c, .int .i64 t] z.w (fun e w'' => e = .returned (.int .i64 ot) ∧ ∃ y : Lat w8, w'' = y.w)) := Lib.hid (fun z => Calls.lat_ (OT.out _ (HBB.out.trans (z.below.mono HBB.out.size))))
        have OXL : Hid (∀ z : Lat w8, Calls Try.prog 106 #[.slice A n c, .int .i64 x.1] z.w (fun e w'' => e = .returned (.int .i64 ox) ∧ ∃ y : Lat w8, w'' = y.w)) := Lib.hid (fun z => Calls.lat_ (OX.out _ (HBB.out.trans (z.below.mono HBB.out.size))))
        have ITL : Hid (∀ z : Lat w8, Calls Try.prog 107 #[.slice A n c, .int .i64 t] z.w (fun e w'' => e = .returned (.int .i64 it) ∧ ∃ y : Lat w8, w'' = y.w)) := Lib.hid (fun z => Calls.lat_ (IT.out _ (HBB.out.trans (z.below.mono HBB.out.size))))
        have IXL : Hid (∀ z : Lat w8, Calls Try.prog 107 #[.slice A n c, .int .i64 x.1] z.w (fun e w'' => e = .returned (.int .i64 ix) ∧ ∃ y : Lat w8, w'' = y.w)) := Lib.hid (fun z => Calls.lat_ (IX.out _ (HBB.out.trans (z.below.mono HBB.out.size))))
        have r1 := Lat.cell J1.out.one.1
        have r2 := Lat.cell J2.out.one.1
        clear w1 p0 p1 p2
        have d1 := D1.out
        try have d2 := D2.out
        refine wpIn_region_lat_round (by kernel_rfl) (by simp) (by rintro ⟨a, w, h⟩; exact h) (by kernel_rfl) ?_
        repeat (go_big_quiet_step ((first | (with_reducible exact OTL.out _) | (with_reducible exact OXL.out _) | (with_reducible exact ITL.out _) | (with_reducible exact IXL.out _))))
        refine wpQuiet_nil ?_
        intro W2 hw'
        have hb2 := lat_out hw'
        replace HBB := Lib.hid (HBB.out.trans (hb2.mono HBB.out.size))
        have L3 := Lib.hid ((I3.out.below HB8.out I3.out.lt).below hb2 (I3.out.below HB8.out I3.out.lt).lt)
        have L4 := Lib.hid ((I4.out.below HB8.out I4.out.lt).below hb2 (I4.out.below HB8.out I4.out.lt).lt)
        have HB2 := Lib.hid (HB8.out.trans (hb2.mono HB8.out.size))
        clear hb2 hw' r1 r2
        gi_wp2
        have hb2 := HB2.out
        refine ⟨KeepsFrom.of_grownBy (grown_bM hb2) (by simp), hb2.mono I5.out.2, I0.out.below hb2 I0.out.lt, I1.out.below hb2 I1.out.lt, I2.out.below hb2 I2.out.lt, I3.out.below hb2 I3.out.lt, I4.out.below hb2 I4.out.lt, ⟨I5.out.1.trans (hb2.mono I5.out.1.size), Nat.le_trans I5.out.2 hb2.size⟩, fun y hy => ?_⟩
        rcases List.mem_append.1 hy with hy | hy
        · exact I6.out y hy
        · rw [List.mem_singleton.1 hy]; exact HM0.out
  case done =>
    rintro D xs X hD hS ⟨i0, i1, i2, i3, i4, i5, i6⟩ hK
    have HF : Hid (msU s l t = none) := Lib.hid (HMS.out _ hS (fun u hu => by
      obtain ⟨y, hy, rfl⟩ := List.mem_map.1 hu
      exact i6 y hy))
    have I3 := Lib.hid i3
    have I4 := Lib.hid i4
    have I5 := Lib.hid i5
    have HK := Lib.hid hK
    have HD := Lib.hid hD
    have hw1 := hb0.size
    obtain ⟨g0, g1, g2⟩ := i3.one
    obtain ⟨g3, g4, g5⟩ := i4.one
    clear i0 i1 i2 i3 i4 i5 i6 hK hS hD k0 k1 k2 k3 k4 q1 q2 q3 hb0
    gi_wp2
    have n1 : w.heap.size + 1 + 1 + 1 ≠ w.heap.size + 1 + 1 + 1 + 1 := by omega
    have hK2 : ((X.setCell ⟨w.heap.size + 1 + 1 + 1, 0, none⟩ (.int .i64 0)).setCell ⟨w.heap.size + 1 + 1 + 1 + 1, 0, none⟩ (.bool false)).heap[D]? = some (.deferred (some [])) := (KeepsOthers.setCell _ _ _).same D _ ((KeepsOthers.setCell _ _ _).same D _ HK.out rfl) rfl
    have hgp := grownBy_putObj' ((X.setCell ⟨w.heap.size + 1 + 1 + 1, 0, none⟩ (.int .i64 0)).setCell ⟨w.heap.size + 1 + 1 + 1 + 1, 0, none⟩ (.bool false)) D (.deferred none)
    have hkp : ∀ r', some D = some r' → ∃ o : Obj, ((X.setCell ⟨w.heap.size + 1 + 1 + 1, 0, none⟩ (.int .i64 0)).setCell ⟨w.heap.size + 1 + 1 + 1 + 1, 0, none⟩ (.bool false)).heap[r']? = some o ∧ o.isCells = false := fun r' e => by cases e; exact ⟨_, hK2, rfl⟩
    have e2 := blk_keptR ((I3.out.set_ 0 (.int .i64 0)).far (p := ⟨w.heap.size + 1 + 1 + 1 + 1, 0, none⟩) n1 (.bool false)) hgp hkp
    have e3 := blk_keptR ((I4.out.far (p := ⟨w.heap.size + 1 + 1 + 1, 0, none⟩) n1.symm (.int .i64 0)).set_ 0 (.bool false)) hgp hkp
    have hbl := ((I5.out.1.setCell (p := ⟨w.heap.size + 1 + 1 + 1, 0, none⟩) (by show w.heap.size ≤ w.heap.size + 1 + 1 + 1; omega) (.int .i64 0)).setCell (p := ⟨w.heap.size + 1 + 1 + 1 + 1, 0, none⟩) (by show w.heap.size ≤ w.heap.size + 1 + 1 + 1 + 1; omega) (.bool false)).grown hgp (by have := I5.out.1.size; simp; omega) (fun q e => by cases e; have := HD.out; omega)
    have c2 := (e2.cell 0).trans rfl
    have c3 := (e3.cell 0).trans rfl
    refine ⟨by simp, .inl ⟨_, _, rfl, run_takeDeferred hK2, ?_⟩⟩
    refine ⟨.tuple #[.int .i64 0, .bool false], ?_, by rw [HF.out]; rfl, hbl⟩
    simp [results, Try.results83, go_sem, c2, c3]
  case stop =>
    rintro D cd pre X hD hS ⟨rfl, pre0, x, rfl, j2, j3, j4, j5, j6⟩ hK
    have HF : Hid (msU s l t = some x.1) := Lib.hid (HMU.out (pre0.map (fun z => z.1)) x.1 (by rw [List.map_append] at hS; exact hS) (fun v hv => by
      obtain ⟨y, hy, rfl⟩ := List.mem_map.1 hv
      exact j2 y hy) j3)
    have hw1 := hb0.size
    have hgp := grownBy_putObj' X D (.deferred none)
    have hkp : ∀ r', some D = some r' → ∃ o : Obj, X.heap[r']? = some o ∧ o.isCells = false := fun r' e => by cases e; exact ⟨_, hK, rfl⟩
    have e2 := blk_keptR j4 hgp hkp
    have e3 := blk_keptR j5 hgp hkp
    have hbl := j6.grown hgp j6.size (fun q e => by cases e; omega)
    have C2 := Lib.hid ((e2.cell 0).trans rfl)
    have C3 := Lib.hid ((e3.cell 0).trans rfl)
    have HK := Lib.hid hK
    have HBL := Lib.hid hbl
    clear j2 j3 j4 j5 j6 hK e2 e3 hbl hS hgp hkp k0 k1 k2 k3 k4 q1 q2 q3 hb0
    gi_wp2
    refine ⟨by simp, .inl ⟨_, _, rfl, run_takeDeferred HK.out, ?_⟩⟩
    refine ⟨.tuple #[.int .i64 x.1, .bool true], ?_, by rw [HF.out]; rfl, HBL.out⟩
    have c2 := C2.out
    have c3 := C3.out
    simp [results, Try.results83, go_sem, c2, c3]
end Go.Proofs.Ytjdnpgilinfkgaa
