/-
  The greatest fair gains: Gains of package filter.
-/
import Derived.Test.YtilihdkfflfniaaUC
import Derived.Test.YtilihdkfflfniaaUD
import Derived.Test.YtilihdkfflfniaaIr
namespace Go.Proofs.Ytilihdkfflfniaa
open Go.RowKit Go.Shelf
attribute [local go_sem] Oper.semAt_some

/-- The second one of a pair can be no greater than the first one and a step. -/
def relax (st : Int) (g : List Int) (p : Nat × Nat) : List Int := g.set p.2 (min (g[p.2]?.getD 0) (g[p.1]?.getD 0 + st))
def gainsL (ns : List Int) (st : Int) : List Int := (prs ns.length).foldl (relax st) ns
def Lim (g : List Int) : Prop := ∀ x ∈ g, 0 ≤ x ∧ x ≤ 256
theorem relax_len (st : Int) (g : List Int) (p : Nat × Nat) : (relax st g p).length = g.length := by simp [relax]
theorem relaxes_len (st : Int) : ∀ (ps : List (Nat × Nat)) (g : List Int), (ps.foldl (relax st) g).length = g.length
  | [], _ => rfl
  | p :: ps, g => by rw [List.foldl_cons, relaxes_len st ps, relax_len]
theorem Lim.at_ {g : List Int} (h : Lim g) (i : Nat) : 0 ≤ g[i]?.getD 0 ∧ g[i]?.getD 0 ≤ 256 := by
  cases e : g[i]? with
  | none => simp
  | some x => exact h x (List.mem_of_getElem? e)
theorem relax_lim {st : Int} {g : List Int} {p : Nat × Nat} (h : Lim g) (hs : 0 ≤ st) : Lim (relax st g p) := by
  intro x hx
  rcases List.mem_or_eq_of_mem_set hx with hx | rfl
  · exact h x hx
  · have a := h.at_ p.2
    have b := h.at_ p.1
    omega
theorem relaxes_lim {st : Int} (hs : 0 ≤ st) : ∀ (ps : List (Nat × Nat)) (g : List Int), Lim g → Lim (ps.foldl (relax st) g)
  | [], _, h => h
  | p :: ps, g, h => by rw [List.foldl_cons]; exact relaxes_lim hs ps _ (relax_lim h hs)
def gnRes (xs : List Smp) (ce st : Int) : List Int := if ckLi xs ce st = 0 then gainsL (xs.map (need1 · ce)) st else []
theorem ckLi_ok {xs : List Smp} {ce st : Int} (h : ckLi xs ce st = 0) : (xs.length ≤ 4096 ∧ vss xs = true) ∧ (1 ≤ ce ∧ ce ≤ 32767) ∧ 0 ≤ st ∧ st ≤ 256 := by
  have o2 : ∀ a b : Int, orL [a, b] = 0 → a = 0 ∧ b = 0 := by
    intro a b h
    unfold orL at h
    split at h
    · rename_i h1
      unfold orL at h
      split at h
      · exact ⟨h1, by assumption⟩
      · rename_i h2; exact absurd h h2
    · rename_i h1; exact absurd h h1
  have r : ∀ x lo hi, rngE x lo hi = 0 → lo ≤ x ∧ x ≤ hi := by
    intro x lo hi h
    unfold rngE at h
    split at h
    · cases h
    · omega
  obtain ⟨h1, h2⟩ := o2 _ _ h
  obtain ⟨h3, h4⟩ := o2 _ _ h1
  refine ⟨?_, r _ _ _ h4, r _ _ _ h2⟩
  unfold ckQ at h3
  split at h3
  · cases h3
  · split at h3
    · exact ⟨by omega, by assumption⟩
    · cases h3

set_option maxRecDepth 100000 in
set_option maxHeartbeats 4000000 in
theorem Gains_ok (B : Nat) (A : Option Addr) (n c : Nat) (xs : List Smp) (ce st : Int) (w : World) (h0 : RS w B A n xs) (hB : B ≤ w.heap.size) (hl : n ≤ 9223372036854775807) (hok : ckLi xs ce st = 0) :
    Calls Try.prog 33 #[.slice A n c, .int .i64 ce, .int .i64 st] w (OutPost w.heap.size w (gainsL (xs.map (need1 · ce)) st) 0) := by
  obtain ⟨⟨hx4, hvs⟩, ⟨c1, c2⟩, s1, s2⟩ := ckLi_ok hok
  have HN := Lib.hid h0.1
  have H := Lib.hid (h0.more hB)
  have HV := Lib.hid hvs
  have HOK := Lib.hid hok
  have hn4 : n ≤ 4096 := by have := h0.1; omega
  have HLM : Hid (Lim (xs.map (need1 · ce))) := Lib.hid (fun y hy => by
    obtain ⟨s, hs, rfl⟩ := List.mem_map.1 hy
    obtain ⟨k, hk, rfl⟩ := List.getElem_of_mem hs
    exact need1_bd (vss_at hvs hk) c1)
  clear h0 hB hvs hok hx4
  obtain ⟨R, hR⟩ : ∃ R, gainsL (xs.map (need1 · ce)) st = R := ⟨_, rfl⟩
  rw [hR]
  have HR := Lib.hid hR
  clear hR
  refine (callsIn_wide (n := 12)).1 ?_
  refine callsIn_of_wp_marks Try.func33 rfl trivial ?_ rfl
  simp only [Try.ntmps33, List.size_toArray, List.length_cons, List.length_nil, Nat.reduceAdd, Nat.reduceSub, Array.replicate_succ, Array.replicate_zero, List.push_toArray, List.append_toArray, List.nil_append, List.cons_append]
  gi_wp2_with fail
  obtain ⟨W0, hW0⟩ : ∃ W0, w.alloc (.cells #[.int .i64 st] 2) = W0 := ⟨_, rfl⟩
  have hb0 : Below w.heap.size w W0 := by rw [← hW0]; exact (Below.refl _ _).alloc (Nat.le_refl _) _
  have HS : Hid (Blk W0 w.heap.size 2 #[.int .i64 st]) := Lib.hid (by rw [← hW0]; exact Blk.new _ _ _)
  rw [hW0]
  clear hW0
  have HB := Lib.hid hb0
  clear hb0
  refine ⟨trivial, (callsIn_wide.2 (checkLimiter_any _ A n c xs ce st _ (H.out.below HB.out (Nat.le_refl _)) HB.out.size hl)).mono ?_⟩
  rintro e w1 ⟨rfl, hb1⟩
  rw [HOK.out]
  have HS := Lib.hid (HS.out.below hb1 HS.out.lt)
  have HB := Lib.hid (HB.out.trans (hb1.mono HB.out.size))
  clear hb1
  have hsw1 := HS.out.lt
  gi_wp2_with fail
  refine ⟨trivial, (callsIn_wide.2 (needs_any _ A n c xs ce _ (H.out.below HB.out (Nat.le_refl _)) HB.out.size hn4 HV.out c1 c2)).mono ?_⟩
  rintro e w2 ⟨v, rfl, ho2, hb2⟩
  have HS := Lib.hid (HS.out.below hb2 HS.out.lt)
  have hsz := HB.out.size
  have HB := Lib.hid (HB.out.trans (hb2.mono hsz))
  obtain ⟨A2, c2', hv, -⟩ := own_reads ho2
  rw [List.length_map, ← HN.out] at hv ho2
  subst hv
  have HNS : Hid ((xs.map (need1 · ce)).length = n) := Lib.hid (by rw [List.length_map, ← HN.out])
  obtain ⟨ns, hns⟩ : ∃ ns, xs.map (need1 · ce) = ns := ⟨_, rfl⟩
  rw [hns] at ho2 HNS HLM HR
  have HO := Lib.hid ho2
  have HB2 := Lib.hid hb2
  have HGL2 : Hid (∀ g, (Value.slice A2 n c2').ownBlock = some g → w1.heap.size ≤ g ∧ g < w2.heap.size) := Lib.hid (fun g hg => HO.out.lt g hg)
  clear ho2 hb2 hns
  gi_wp2_with fail
  obtain ⟨W3, hW3⟩ : ∃ W3, w2.alloc (.cells #[.slice A2 n c2'] 22) = W3 := ⟨_, rfl⟩
  have hb3 : Below w2.heap.size w2 W3 := by rw [← hW3]; exact (Below.refl _ _).alloc (Nat.le_refl _) _
  have HG : Hid (Blk W3 w2.heap.size 22 #[.slice A2 n c2']) := Lib.hid (by rw [← hW3]; exact Blk.new _ _ _)
  have HS := Lib.hid (HS.out.below hb3 HS.out.lt)
  have HO := Lib.hid (own_below HO.out hb3)
  have HB := Lib.hid (HB.out.trans (hb3.mono HB.out.size))
  have HGS : w2.heap.size ≤ W3.heap.size := hb3.size
  rw [hW3]
  clear hW3 hb3
  refine ⟨trivial, (callsIn_wide.2 (forthAndBack_any _ _)).mono ?_⟩
  rintro e W4 ⟨rfl, hW4⟩
  have hb4 : Below W3.heap.size W3 W4 := by rw [← hW4]; exact (Below.refl _ _).alloc (Nat.le_refl _) _
  have HF : Hid (Blk W4 W3.heap.size 3 #[.int .i64 n]) := Lib.hid (by rw [← hW4]; exact Blk.new _ _ _)
  have HG := Lib.hid (HG.out.below hb4 HG.out.lt)
  have HS := Lib.hid (HS.out.below hb4 HS.out.lt)
  have HO4 := Lib.hid (own_below HO.out hb4)
  have HBW := Lib.hid (HB.out.trans (hb4.mono HB.out.size))
  have HGL : Hid (∀ g, (Value.slice A2 n c2').ownBlock = some g → w1.heap.size ≤ g ∧ g < w2.heap.size) := HGL2
  clear hW4 hb4 HB HO
  gi_wp2_with fail
  have hs4 : w.heap.size ≤ W4.heap.size := HBW.out.size
  have hfb := HF.out
  refine wpIn_rangeAll rfl (by omega) (gf := 87) (lb := #[.pointer (some ⟨W3.heap.size, 0, none⟩)]) rfl trivial (enters_of Try.func87 (by kernel_rfl) rfl)
    (forth1_all (12 - 1) W3.heap.size n (fun k => (Value.slice A2 n c2').ownBlock = some k) W4 (by omega) hfb (fun h => by have := (HGL.out _ h).2; have := HGS; omega) (by omega)) (Below.refl _ _) (fun _ => rfl)
    (fun pre X => Blk X w.heap.size 2 #[.int .i64 st] ∧ Blk X w2.heap.size 22 #[.slice A2 n c2'] ∧ X.ownsRow w1.heap.size 2 1 (.slice A2 n c2') n (nums (pre.foldl (relax st) ns)) ∧ Below w.heap.size w X) ?hI ?h0
    (fun pre x a' X => (Blk X w.heap.size 2 #[.int .i64 st] ∧ Blk X w2.heap.size 22 #[.slice A2 n c2'] ∧ X.ownsRow w1.heap.size 2 1 (.slice A2 n c2') n (nums (pre.foldl (relax st) ns)) ∧ Below w.heap.size w X) ∧ a' = { tmps := #[.slice A n c, .int .i64 ce, .int .i64 st, undef, undef, .pointer (some ⟨w.heap.size, 0, none⟩), .slice none 0 0, .int .i64 0, .int .i64 0, .pointer (some ⟨w2.heap.size, 0, none⟩), .int .i64 x.1, .int .i64 x.2, .slice A n c, .int .i64 ce, .int .i64 st, .int .i64 0, .int .i64 0, .bool false, undef, .slice A n c, .int .i64 ce, .slice A2 n c2', .slice A2 n c2', .int .i64 n, .func (.func 87) #[] #[.pointer (some ⟨W3.heap.size, 0, none⟩)], .int .i64 x.1, .int .i64 x.2, undef, undef, undef, undef, undef, undef, undef, undef, undef, undef, undef, undef, undef, undef, undef], defers := [] }) ?hAx ?assign ?body ?done
  case hI =>
    rintro s X Y row ⟨i1, i2, i3, i4⟩ hgr hr
    have hk := fun r e => (hr r e).2
    exact ⟨blk_keptR i1 hgr hk, blk_keptR i2 hgr hk, own_keptR i3 hgr hk, i4.grown hgr i4.size (fun q e => by have := (hr q e).1; omega)⟩
  case h0 => exact ⟨HS.out, HG.out, HO4.out, HBW.out⟩
  case hAx =>
    rintro pre x a' s X Y row ⟨⟨i1, i2, i3, i4⟩, h3⟩ hgr hr
    have hk := fun r e => (hr r e).2
    exact ⟨⟨blk_keptR i1 hgr hk, blk_keptR i2 hgr hk, own_keptR i3 hgr hk, i4.grown hgr i4.size (fun q e => by have := (hr q e).1; omega)⟩, h3⟩
  case assign =>
    rintro l' pre x X K hi hK
    gi_wp2
    exact hK _ _ (World.grownBy.refl X none) ⟨hi, rfl⟩
  case body =>
    rintro L pre x a' X hL ⟨⟨i1, i2, i3, i4⟩, rfl⟩ hpre
    have hxm : x ∈ prs n := hpre.subset (by simp)
    obtain ⟨hx1, hx2⟩ := prs_mem hxm
    have hgl : (pre.foldl (relax st) ns).length = n := by rw [relaxes_len]; exact HNS.out
    have hlim := relaxes_lim (st := st) s1 pre ns HLM.out
    have hfo : (pre ++ [x]).foldl (relax st) ns = relax st (pre.foldl (relax st) ns) x := by rw [List.foldl_append]; rfl
    obtain ⟨G, hG⟩ : ∃ G, pre.foldl (relax st) ns = G := ⟨_, rfl⟩
    rw [hG] at hgl hlim hfo i3
    clear hG
    obtain ⟨g, hA2, hgs, hc1⟩ := own_at i3 hx1
    obtain ⟨g', hA2', _, hc2⟩ := own_at i3 hx2
    rw [hA2] at hA2'
    cases hA2'
    obtain rfl := hA2
    have l1 := hlim.at_ x.1
    have l2 := hlim.at_ x.2
    replace hc1 : X.cell? ⟨g, x.1, none⟩ = some (.int .i64 (G[x.1]?.getD 0)) := by rw [hc1]; simp [nums, hgl, hx1]
    replace hc2 : X.cell? ⟨g, x.2, none⟩ = some (.int .i64 (G[x.2]?.getD 0)) := by rw [hc2]; simp [nums, hgl, hx2]
    have hrx : relax st G x = G.set x.2 (min (G[x.2]?.getD 0) (G[x.1]?.getD 0 + st)) := rfl
    obtain ⟨ga, hga⟩ : ∃ y, G[x.1]?.getD 0 = y := ⟨_, rfl⟩
    obtain ⟨gb, hgb⟩ : ∃ y, G[x.2]?.getD 0 = y := ⟨_, rfl⟩
    rw [hga] at l1 hc1 hrx
    rw [hgb] at l2 hc2 hrx
    have hfz : X.frozen? ⟨g, x.2, none⟩ = false := i3.frozenAt x.2
    have hb9 : X.cell? ⟨w2.heap.size, 0, none⟩ = some (.slice (some ⟨g, 0, none⟩) n c2') := i2.one.1
    have hb5 : X.cell? ⟨w.heap.size, 0, none⟩ = some (.int .i64 st) := i1.one.1
    obtain ⟨mn, hmn⟩ : ∃ m, min gb (ga + st) = m := ⟨_, rfl⟩
    have hmi : (if ga + st < gb then ga + st else gb) = mn := by rw [← hmn]; omega
    have e1 : IntKind.i64.wrap (ga + st) = ga + st := IntWalk.i64_in _ (by omega)
    have y1 : (x.1 : Int) < (n : Int) := by omega
    have y2 : (x.2 : Int) < (n : Int) := by omega
    have I1 := Lib.hid i1
    have I2 := Lib.hid i2
    have I3 := Lib.hid i3
    have I4 := Lib.hid i4
    have HFO := Lib.hid hfo
    have HRX := Lib.hid hrx
    have HMN := Lib.hid hmn
    have HHH := Lib.hid hgl
    clear i1 i2 i3 i4 hfo hrx hga hgb hmn hpre hxm hgl hlim
    refine wpIn_block ?_
    refine wpIn_region_still_tail_round 14 (by kernel_rfl) (by simp) (by rintro ⟨a, w, h⟩; exact h) (by kernel_rfl) ?_
    dsimp only
    simp only [List.take_succ_cons, List.take_zero, List.drop_succ_cons, List.drop_zero]
    repeat still_step
    try refine wpStill_nil ?_
    change wpList _ _ _ _ _ X.drew
    go_wp2
    obtain ⟨hg1, hg2⟩ := HGL.out g rfl
    refine ⟨((KeepsOthers.setCell X ⟨g, x.2, none⟩ (.int .i64 mn)).from _).trans ((KeepsOthers.drew _).from _), ((Bel.refl (fun k => (Value.slice (some ⟨g, 0, none⟩) n c2').ownBlock = some k) X).setCell (p := ⟨g, x.2, none⟩) (.inr rfl) _).drew, (I1.out.far (p := ⟨g, x.2, none⟩) (by show w.heap.size ≠ g; omega) _).drew, (I2.out.far (p := ⟨g, x.2, none⟩) (by show w2.heap.size ≠ g; omega) _).drew, ?_, (I4.out.setCell (p := ⟨g, x.2, none⟩) (by show w.heap.size ≤ g; omega) _).drew⟩
    have h := (I3.out.stored x.2 (.int .i64 mn)).1
    rw [HFO.out, HRX.out, HMN.out, show nums (G.set x.2 mn) = (nums G).set x.2 (.int .i64 mn) by simp [nums, List.map_set]]
    exact own_below h (Below.refl _ _).drew
  case done =>
    rintro D X hD ⟨i1, i2, i3, i4⟩ hK
    have HR2 : Hid ((prs n).foldl (relax st) ns = R) := Lib.hid (by have h := HR.out; unfold gainsL at h; rw [HNS.out] at h; exact h)
    rw [HR2.out] at i3
    have hrl : R.length = n := by rw [← HR2.out, relaxes_len]; exact HNS.out
    have HRL := Lib.hid hrl
    have hb9 : X.cell? ⟨w2.heap.size, 0, none⟩ = some (.slice A2 n c2') := i2.one.1
    have HK := Lib.hid hK
    have HD := Lib.hid hD
    have I3 := Lib.hid i3
    have I4 := Lib.hid i4
    clear i1 i2 i3 i4 hK hrl hD
    gi_wp2
    have hgp := grownBy_putObj' X D (.deferred none)
    have hkp : ∀ r', some D = some r' → ∃ o : Obj, X.heap[r']? = some o ∧ o.isCells = false := fun r' e => by cases e; exact ⟨_, HK.out, rfl⟩
    refine ⟨by simp, .inl ⟨_, _, rfl, run_takeDeferred HK.out, ?_⟩⟩
    refine ⟨_, results_tmp2 rfl _ _ _, _, rfl, ?_, I4.out.grown hgp I4.out.size (fun q e => by cases e; have := HD.out; omega)⟩
    rw [HRL.out]
    exact own_base_ (own_keptR I3.out hgp hkp) (by omega)

set_option maxRecDepth 100000 in
set_option maxHeartbeats 1000000 in
theorem Gains_any (B : Nat) (A : Option Addr) (n c : Nat) (xs : List Smp) (ce st : Int) (w : World) (h0 : RS w B A n xs) (hB : B ≤ w.heap.size) (hl : n ≤ 9223372036854775807) :
    Calls Try.prog 33 #[.slice A n c, .int .i64 ce, .int .i64 st] w (OutPost w.heap.size w (gnRes xs ce st) (ckLi xs ce st)) := by
  by_cases hok : ckLi xs ce st = 0
  · have h := Gains_ok B A n c xs ce st w h0 hB hl hok
    unfold gnRes
    rw [if_pos hok, hok]
    exact h
  · unfold gnRes
    rw [if_neg hok]
    have H := Lib.hid (h0.more hB)
    obtain ⟨er, her⟩ : ∃ e, ckLi xs ce st = e := ⟨_, rfl⟩
    rw [her] at hok ⊢
    have HE := Lib.hid her
    clear h0 hB her
    go_enter Try.func33, Try.ntmps33
    go_wp2_with fail
    refine (checkLimiter_any _ A n c xs ce st _ (H.out.below ((Below.refl _ _).alloc (Nat.le_refl _) _) (Nat.le_refl _)) (by simp) hl).mono ?_
    rintro e w1 ⟨rfl, hb1⟩
    rw [HE.out]
    go_wp2
    go_ret2
    exact ⟨_, rfl, World.ownsRow_nil _ _ _ _, ((Below.refl _ _).alloc (Nat.le_refl _) _).trans (hb1.mono (by simp))⟩
end Go.Proofs.Ytilihdkfflfniaa
