/-
  The greatest fair gains: Gains of package filter.
-/
import Derived.Test.YtjaomjbhkgijbaaMg26
import Derived.Test.YtjaomjbhkgijbaaMg25

namespace Go.Proofs.Ytjaomjbhkgijbaa
open Go.RowKit Go.Shelf
attribute [local go_sem] Oper.semAt_some

/-- The second one of a pair can be no greater than the first one and a step. -/
def relax (st : Int) (g : List Int) (p : Nat × Nat) : List Int := g.set p.2 (min (g[p.2]?.getD 0) (g[p.1]?.getD 0 + st))
def gainsL (ns : List Int) (st : Int) : List Int := (prs ns.length).foldl (relax st) ns
def Lim (g : List Int) : Prop := ∀ x ∈ g, 0 ≤ x ∧ x ≤ 256
theorem relax_len (st : Int) (g : List Int) (p : Nat × Nat) : (relax st g p).length = g.length := by simp [relax]
theorem relaxes_len (st : Int) : ∀ (ps : List (Nat × Nat)) (g : List Int), (ps.foldl (relax st) g).length = g.length
  | [], _ => rfl
  | p :: ps, g => by rw [List.foldl_cons, relaxes_len st ps, relax_len]
theorem Lim.at_ {g : List Int} (h : Lim g) (i : Nat) : 0 ≤ g[i]?.getD 0 ∧ g[i]?.getD 0 ≤ 256 := by
  cases e : g[i]? with
  | none => simp
  | some x => exact h x (List.mem_of_getElem? e)
theorem relax_lim {st : Int} {g : List Int} {p : Nat × Nat} (h : Lim g) (hs : 0 ≤ st) : Lim (relax st g p) := by
  intro x hx
  rcases List.mem_or_eq_of_mem_set hx with hx | rfl
  · exact h x hx
  · have a := h.at_ p.2
    have b := h.at_ p.1
    omega
theorem relaxes_lim {st : Int} (hs : 0 ≤ st) : ∀ (ps : List (Nat × Nat)) (g : List Int), Lim g → Lim (ps.foldl (relax st) g)
  | [], _, h => h
  | p :: ps, g, h => by rw [List.foldl_cons]; exact relaxes_lim hs ps _ (relax_lim h hs)
def gnRes (xs : List Smp) (ce st : Int) : List Int := if ckLi xs ce st = 0 then gainsL (xs.map (need1 · ce)) st else []
theorem ckLi_ok {xs : List Smp} {ce st : Int} (h : ckLi xs ce st = 0) : (xs.length ≤ 4096 ∧ vss xs = true) ∧ (1 ≤ ce ∧ ce ≤ 32767) ∧ 0 ≤ st ∧ st ≤ 256 := by
  have o2 : ∀ a b : Int, orL [a, b] = 0 → a = 0 ∧ b = 0 := by
    intro a b h
    unfold orL at h
    split at h
    · rename_i h1
      unfold orL at h
      split at h
      · exact ⟨h1, by assumption⟩
      · rename_i h2; exact absurd h h2
    · rename_i h1; exact absurd h h1
  have r : ∀ x lo hi, rngE x lo hi = 0 → lo ≤ x ∧ x ≤ hi := by
    intro x lo hi h
    unfold rngE at h
    split at h
    · cases h
    · omega
  obtain ⟨h1, h2⟩ := o2 _ _ h
  obtain ⟨h3, h4⟩ := o2 _ _ h1
  refine ⟨?_, r _ _ _ h4, r _ _ _ h2⟩
  unfold ckQ at h3
  split at h3
  · cases h3
  · split at h3
    · exact ⟨by omega, by assumption⟩
    · cases h3

set_option maxRecDepth 100000 in
set_option maxHeartbeats 4000000 in
theorem Gains_ok (B : Nat) (A : Option Addr) (n c : Nat) (xs : List Smp) (ce st : Int) (w : World) (h0 : RS w B A n xs) (hB : B ≤ w.heap.size) (hl : n ≤ 9223372036854775807) (hok : ckLi xs ce st = 0) :
    Calls Try.prog 99 #[.slice A n c, .int .i64 ce, .int .i64 st] w (OutPost w.heap.size w (gainsL (xs.map (need1 · ce)) st) 0) := by
  obtain ⟨⟨hx4, hvs⟩, ⟨c1, c2⟩, s1, s2⟩ := ckLi_ok hok
  have HN := Lib.hid h0.1
  have H := Lib.hid (h0.more hB)
  have HV := Lib.hid hvs
  have HOK := Lib.hid hok
  have hn4 : n ≤ 4096 := by have := h0.1; omega
  have HLM : Hid (Lim (xs.map (need1 · ce))) := Lib.hid (fun y hy => by
    obtain ⟨s, hs, rfl⟩ := List.mem_map.1 hy
    obtain ⟨k, hk, rfl⟩ := List.getElem_of_mem hs
    exact need1_bd (vss_at hvs hk) c1)
  clear h0 hB hvs hok hx4
  obtain ⟨R, hR⟩ : ∃ R, gainsL (xs.map (need1 · ce)) st = R := ⟨_, rfl⟩
  rw [hR]
  have HR := Lib.hid hR
  clear hR
  refine (callsIn_wide (n := 12)).1 ?_
  refine callsIn_of_wp_marks Try.func99 rfl trivial ?_ rfl
  simp only [Try.ntmps99, List.size_toArray, List.length_cons, List.length_nil, Nat.reduceAdd, Nat.reduceSub, Array.replicate_succ, Array.replicate_zero, List.push_toArray, List.append_toArray, List.nil_append, List.cons_append]
  gi_wp2_with fail
  obtain ⟨W0, hW0⟩ : ∃ W0, w.alloc (.cells #[.int .i64 st] 2) = W0 := ⟨_, rfl⟩
  have hb0 : Below w.heap.size w W0 := by rw [← hW0]; exact (Below.refl _ _).alloc (Nat.le_refl _) _
  have HS : Hid (Blk W0 w.heap.size 2 #[.int .i64 st]) := Lib.hid (by rw [← hW0]; exact Blk.new _ _ _)
  rw [hW0]
  clear hW0
  have HB := Lib.hid hb0
  clear hb0
  refine ⟨trivial, (callsIn_wide.2 (checkLimiter_any _ A n c xs ce st _ (H.out.below HB.out (Nat.le_refl _)) HB.out.size hl)).mono ?_⟩
  rintro e w1 ⟨rfl, hb1⟩
  rw [HOK.out]
  have HS := Lib.hid (HS.out.below hb1 HS.out.lt)
  have HB := Lib.hid (HB.out.trans (hb1.mono HB.out.size))
  clear hb1
  have hsw1 := HS.out.lt
  gi_wp2_with fail
  refine ⟨trivial, (callsIn_wide.2 (needs_any _ A n c xs ce _ (H.out.below HB.out (Nat.le_refl _)) HB.out.size hn4 HV.out c1 c2)).mono ?_⟩
  rintro e w2 ⟨v, rfl, ho2, hb2⟩
  have HS := Lib.hid (HS.out.below hb2 HS.out.lt)
  have hsz := HB.out.size
  have HB := Lib.hid (HB.out.trans (hb2.mono hsz))
  obtain ⟨A2, c2', hv, -⟩ := own_reads ho2
  rw [List.length_map, ← HN.out] at hv ho2
  subst hv
  have HNS : Hid ((xs.map (need1 · ce)).length = n) := Lib.hid (by rw [List.length_map, ← HN.out])
  obtain ⟨ns, hns⟩ : ∃ ns, xs.map (need1 · ce) = ns := ⟨_, rfl⟩
  rw [hns] at ho2 HNS HLM HR
  have HO := Lib.hid ho2
  have HB2 := Lib.hid hb2
  have HGL2 : Hid (∀ g, (Value.slice A2 n c2').ownBlock = some g → w1.heap.size ≤ g ∧ g < w2.heap.size) := Lib.hid (fun g hg => HO.out.lt g hg)
  clear ho2 hb2 hns
  gi_wp2_with fail
  obtain ⟨W3, hW3⟩ : ∃ W3, w2.alloc (.cells #[.slice A2 n c2'] 41) = W3 := ⟨_, rfl⟩
  have hb3 : Below w2.heap.size w2 W3 := by rw [← hW3]; exact (Below.refl _ _).alloc (Nat.le_refl _) _
  have HG : Hid (Blk W3 w2.heap.size 41 #[.slice A2 n c2']) := Lib.hid (by rw [← hW3]; exact Blk.new _ _ _)
  have HS := Lib.hid (HS.out.below hb3 HS.out.lt)
  have HO := Lib.hid (own_below HO.out hb3)
  have HB := Lib.hid (HB.out.trans (hb3.mono HB.out.size))
  have HGS : w2.heap.size ≤ W3.heap.size := hb3.size
  rw [hW3]
  clear hW3 hb3
  refine ⟨trivial, (callsIn_wide.2 (forthAndBack_any _ _)).mono ?_⟩
  rintro e W4 ⟨rfl, hW4⟩
  have hb4 : Below W3.heap.size W3 W4 := by rw [← hW4]; exact (Below.refl _ _).alloc (Nat.le_refl _) _
  have HF : Hid (Blk W4 W3.heap.size 3 #[.int .i64 n]) := Lib.hid (by rw [← hW4]; exact Blk.new _ _ _)
  have HG := Lib.hid (HG.out.below hb4 HG.out.lt)
  have HS := Lib.hid (HS.out.below hb4 HS.out.lt)
  have HO4 := Lib.hid (own_below HO.out hb4)
  have HBW := Lib.hid (HB.out.trans (hb4.mono HB.out.size))
  have HGL : Hid (∀ g, (Value.slice A2 n c2').ownBlock = some g → w1.heap.size ≤ g ∧ g < w2.heap.size) := HGL2
  clear hW4 hb4 HB HO
  gi_wp2_with fail
  have hs4 : w.heap.size ≤ W4.heap.size := HBW.out.size
  have hfb := HF.out
  refine wpIn_rangeAll rfl (by omega) (gf := 187) (lb := #[.pointer (some ⟨W3.heap.size, 0, none⟩)]) rfl trivial (enters_of Try.func187 (by kernel_rfl) rfl)
    (forth1_all (12 - 1) W3.heap.size n (fun k => (Value.slice A2 n c2').ownBlock = some k) W4 (by omega) hfb (fun h => by have := (HGL.out _ h).2; have := HGS; omega) (by omega)) (Below.refl _ _) (fun _ => rfl)
    (fun pre X => Blk X w.heap.size 2 #[.int .i64 st] ∧ Blk X w2.heap.size 41 #[.slice A2 n c2'] ∧ X.ownsRow w1.heap.size 2 1 (.slice A2 n c2') n (nums (pre.foldl (relax st) ns)) ∧ Below w.heap.size w X) ?hI ?h0
    (fun pre x a' X => (Blk X w.heap.size 2 #[.int .i64 st] ∧ Blk X w2.heap.size 41 #[.slice A2 n c2'] ∧ X.ownsRow w1.heap.size 2 1 (.slice A2 n c2') n (nums (pre.foldl (relax st) ns)) ∧ Below w.heap.size w X) ∧ a' = { tmps := #[.slice A n c, .int .i64 ce, .int .i64 st, undef, undef, .pointer (some ⟨w.heap.size, 0, none⟩), .slice none 0 0, .int .i64 0, .int .i64 0, .pointer (some ⟨w2.heap.size, 0, none⟩), .int .i64 x.1, .int .i64 x.2, .slice A n c, .int .i64 ce, .int .i64 st, .int .i64 0, .int .i64 0, .bool false, undef, .slice A n c, .int .i64 ce, .slice A2 n c2', .slice A2 n c2', .int .i64 n, .func (.func 187) #[] #[.pointer (some ⟨W3.heap.size, 0, none⟩)], .int .i64 x.1, .int .i64 x.2, undef, undef, undef, undef, undef, undef, undef, undef, undef, undef, undef, undef, undef, undef, undef], defers := [] }) ?hAx ?assign ?body ?done
  case hI =>
    rintro s X Y row ⟨i1, i2, i3, i4⟩ hgr hr
    have hk := fun r e => (hr r e).2
    exact ⟨blk_keptR i1 hgr hk, blk_keptR i2 hgr hk, own_keptR i3 hgr hk, i4.grown hgr i4.size (fun q e => by have := (hr q e).1; omega)⟩
  case h0 => exact ⟨HS.out, HG.out, HO4.out, HBW.out⟩
  case hAx =>
    rintro pre x a' s X Y row ⟨⟨i1, i2, i3, i4⟩, h3⟩ hgr hr
    have hk := fun r e => (hr r e).2
    exact ⟨⟨blk_keptR i1 hgr hk, blk_keptR i2 hgr hk, own_keptR i3 hgr hk, i4.grown hgr i4.size (fun q e => by have := (hr q e).1; omega)⟩, h3⟩
  case assign =>
    rintro l' pre x X K hi hK
    gi_wp2
    exact hK _ _ (World.grownBy.refl X none) ⟨hi, rfl⟩
  case body =>
    rintro L pre x a' X hL ⟨⟨i1, i2, i3, i4⟩, rfl⟩ hpre
    have hxm : x ∈ prs n := hpre.subset (by simp)
    obtain ⟨hx1, hx2⟩ := prs_mem hxm
    have hgl : (pre.foldl (relax st) ns).length = n := by rw [relaxes_len]; exact HNS.out
    have hlim := relaxes_lim (st := st) s1 pre ns HLM.out
    have hfo : (pre ++ [x]).foldl (relax st) ns = relax st (pre.foldl (relax st) ns) x := by rw [List.foldl_append]; rfl
    obtain ⟨G, hG⟩ : ∃ G, pre.foldl (relax st) ns = G := ⟨_, rfl⟩
    rw [hG] at hgl hlim hfo i3
    clear hG
    obtain ⟨g, hA2, hgs, hc1⟩ := own_at i3 hx1
    obtain ⟨g', hA2', _, hc2⟩ := own_at i3 hx2
    rw [hA2] at hA2'
    cases hA2'
    obtain rfl := hA2
    have l1 := hlim.at_ x.1
    have l2 := hlim.at_ x.2
    replace hc1 : X.cell? ⟨g, x.1, none⟩ = some (.int .i64 (G[x.1]?.getD 0)) := by rw [hc1]; simp [nums, hgl, hx1]
    replace hc2 : X.cell? ⟨g, x.2, none⟩ = some (.int .i64 (G[x.2]?.getD 0)) := by rw [hc2]; simp [nums, hgl, hx2]
    have hrx : relax st G x = G.set x.2 (min (G[x.2]?.getD 0) (G[x.1]?.getD 0 + st)) := rfl
    obtain ⟨ga, hga⟩ : ∃ y, G[x.1]?.getD 0 = y := ⟨_, rfl⟩
    obtain ⟨gb, hgb⟩ : ∃ y, G[x.2]?.getD 0 = y := ⟨_, rfl⟩
    rw [hga] at l1 hc1 hrx
    rw [hgb] at l2 hc2 hrx
    have hfz : X.frozen? ⟨g, x.2, none⟩ = false := i3.frozenAt x.2
    have hb9 : X.cell? ⟨w2.heap.size, 0, none⟩ = some (.slice (some ⟨g, 0, none⟩) n c2') := i2.one.1
    have hb5 : X.cell? ⟨w.heap.size, 0, none⟩ = some (.int .i64 st) := i1.one.1
    obtain ⟨mn, hmn⟩ : ∃ m, min gb (ga + st) = m := ⟨_, rfl⟩
    have hmi : (if ga + st < gb then ga + st else gb) = mn := by rw [← hmn]; omega
    have e1 : IntKind.i64.wrap (ga + st) = ga + st := IntWalk.i64_in _ (by omega)
    have y1 : (x.1 : Int) < (n : Int) := by omega
    have y2 : (x.2 : Int) < (n : Int) := by omega
    have I1 := Lib.hid i1
    have I2 := Lib.hid i2
    have I3 := Lib.hid i3
    have I4 := Lib.hid i4
    have HFO := Lib.hid hfo
    have HRX := Lib.hid hrx
    have HMN := Lib.hid hmn
    have HHH := Lib.hid hgl
    clear i1 i2 i3 i4 hfo hrx hga hgb hmn hpre hxm hgl hlim
    refine wpIn_block ?_
    refine wpIn_region_still_tail_round 14 (by kernel_rfl) (by simp) (by rintro ⟨a, w, h⟩; exact h) (by kernel_rfl) ?_
    dsimp only
    simp only [List.take_succ_cons, List.take_zero, List.drop_succ_cons, List.drop_zero]
    repeat still_step
    try refine wpStill_nil ?_
    change wpList _ _ _ _ _ X.drew
    go_wp2
    obtain ⟨hg1, hg2⟩ := HGL.out g rfl
    refine ⟨((KeepsOthers.setCell X ⟨g, x.2, none⟩ (.int .i64 mn)).from _).trans ((KeepsOthers.drew _).from _), ((Bel.refl (fun k => (Value.slice (some ⟨g, 0, none⟩) n c2').ownBlock = some k) X).setCell (p := ⟨g, x.2, none⟩) (.inr rfl) _).drew, (I1.out.far (p := ⟨g, x.2, none⟩) (by show w.heap.size ≠ g; omega) _).drew, (I2.out.far (p := ⟨g, x.2, none⟩) (by show w2.heap.size ≠ g; omega) _).drew, ?_, (I4.out.setCell (p := ⟨g, x.2, none⟩) (by show w.heap.size ≤ g; omega) _).drew⟩
    have h := (I3.out.stored x.2 (.int .i64 mn)).1
    rw [HFO.out, HRX.out, HMN.out, show nums (G.set x.2 mn) = (nums G).set x.2 (.int .i64 mn) by simp [nums, List.map_set]]
    exact own_below h (Below.refl _ _).drew
  case done =>
    rintro D X hD ⟨i1, i2, i3, i4⟩ hK
    have HR2 : Hid ((prs n).foldl (relax st) ns = R) := Lib.hid (by have h := HR.out; unfold gainsL at h; rw [HNS.out] at h; exact h)
    rw [HR2.out] at i3
    have hrl : R.length = n := by rw [← HR2.out, relaxes_len]; exact HNS.out
    have HRL := Lib.hid hrl
    have hb9 : X.cell? ⟨w2.heap.size, 0, none⟩ = some (.slice A2 n c2') := i2.one.1
    have HK := Lib.hid hK
    have HD := Lib.hid hD
    have I3 := Lib.hid i3
    have I4 := Lib.hid i4
    clear i1 i2 i3 i4 hK hrl hD
    gi_wp2
    have hgp := grownBy_putObj' X D (.deferred none)
    have hkp : ∀ r', some D = some r' → ∃ o : Obj, X.heap[r']? = some o ∧ o.isCells = false := fun r' e => by cases e; exact ⟨_, HK.out, rfl⟩
    refine ⟨by simp, .inl ⟨_, _, rfl, run_takeDeferred HK.out, ?_⟩⟩
    refine ⟨_, results_tmp2 rfl _ _ _, _, rfl, ?_, I4.out.grown hgp I4.out.size (fun q e => by cases e; have := HD.out; omega)⟩
    rw [HRL.out]
    exact own_base_ (own_keptR I3.out hgp hkp) (by omega)

set_option maxRecDepth 100000 in
set_option maxHeartbeats 1000000 in
theorem Gains_any (B : Nat) (A : Option Addr) (n c : Nat) (xs : List Smp) (ce st : Int) (w : World) (h0 : RS w B A n xs) (hB : B ≤ w.heap.size) (hl : n ≤ 9223372036854775807) :
    Calls Try.prog 99 #[.slice A n c, .int .i64 ce, .int .i64 st] w (OutPost w.heap.size w (gnRes xs ce st) (ckLi xs ce st)) := by
  by_cases hok : ckLi xs ce st = 0
  · have h := Gains_ok B A n c xs ce st w h0 hB hl hok
    unfold gnRes
    rw [if_pos hok, hok]
    exact h
  · unfold gnRes
    rw [if_neg hok]
    have H := Lib.hid (h0.more hB)
    obtain ⟨er, her⟩ : ∃ e, ckLi xs ce st = e := ⟨_, rfl⟩
    rw [her] at hok ⊢
    have HE := Lib.hid her
    clear h0 hB her
    go_enter Try.func99, Try.ntmps99
    go_wp2_with fail
    refine (checkLimiter_any _ A n c xs ce st _ (H.out.below ((Below.refl _ _).alloc (Nat.le_refl _) _) (Nat.le_refl _)) (by simp) hl).mono ?_
    rintro e w1 ⟨rfl, hb1⟩
    rw [HE.out]
    go_wp2
    go_ret2
    exact ⟨_, rfl, World.ownsRow_nil _ _ _ _, ((Below.refl _ _).alloc (Nat.le_refl _) _).trans (hb1.mono (by simp))⟩
end Go.Proofs.Ytjaomjbhkgijbaa

/-
  The document's Same of two lists of numbers; the examples of layer 2 (Works).
-/
namespace Go.Proofs.Ytjaomjbhkgijbaa
open Go.RowKit

/-- Whether two lists are equal. -/
def sameI (xs ys : List Int) : Bool := decide (xs = ys)
theorem sameI_ne {xs ys : List Int} (h : xs.length ≠ ys.length) : sameI xs ys = false := decide_eq_false (fun e => h (by rw [e]))
theorem sameI_at {xs ys : List Int} {k : Nat} (h : k < xs.length) (h' : k < ys.length) (hne : xs[k] ≠ ys[k]) : sameI xs ys = false := decide_eq_false (fun e => hne (by subst e; rfl))
theorem sameI_self (xs : List Int) : sameI xs xs = true := decide_eq_true rfl

set_option maxRecDepth 100000 in
set_option maxHeartbeats 1000000 in
theorem refSame_any (B : Nat) (A A' : Option Addr) (n c n' c' : Nat) (xs ys : List Int) (w : World) (h0 : LI w B A n xs) (h0' : LI w B A' n' ys) (hB : B ≤ w.heap.size) (hl : n ≤ 9223372036854775807) (hl' : n' ≤ 9223372036854775807) :
    Calls Try.prog 37 #[.slice A n c, .slice A' n' c'] w fun e w' => e = .returned (.bool (sameI xs ys)) ∧ Below w.heap.size w w' := by
  have H := Lib.hid (h0.more hB)
  have H' := Lib.hid (h0'.more hB)
  have HN := Lib.hid h0.1
  have HN' := Lib.hid h0'.1
  clear h0 h0' hB
  by_cases hne : n = n'
  · subst hne
    have q1 : ((n : Int) != (n : Int)) = false := by simp
    go_enter Try.func37, Try.ntmps37
    go_wp2
    go_loopw [5] (fun i wr => ∃ k : Nat, k ≤ n ∧ i = .int .i64 k ∧ Below w.heap.size w wr ∧ Hid (xs.take k = ys.take k)) (fun i wr => n - (intOf i).toNat)
    case atStart => exact ⟨0, Nat.zero_le _, rfl, Below.refl _ _, Lib.hid rfl⟩
    case round =>
      clear q1
      obtain ⟨k, hk, rfl, hb, HV⟩ := hrel
      by_cases hlt : k < n
      · have hx : k < xs.length := by have := HN.out; omega
        have hy : k < ys.length := by have := HN'.out; omega
        obtain ⟨ad, hA, _, p1⟩ := (H.out.below hb (Nat.le_refl _)).at_ hx
        obtain ⟨ad', hA', _, p2⟩ := (H'.out.below hb (Nat.le_refl _)).at_ hy
        obtain rfl := hA
        obtain rfl := hA'
        have HB := Lib.hid hb
        clear hb
        by_cases he : xs[k] = ys[k]
        · have HT : Hid (xs.take (k + 1) = ys.take (k + 1)) := Lib.hid (by rw [List.take_succ_eq_append_getElem hx, List.take_succ_eq_append_getElem hy, HV.out, he])
          rw [he] at p1
          clear he
          obtain ⟨y, hyy⟩ : ∃ y, ys[k] = y := ⟨_, rfl⟩
          rw [hyy] at p1 p2
          clear hyy
          have r1 : (y != y) = false := by simp
          go_wp2_with fail
          go_quiet (fail)
          go_wp2
          go_roundw
          case rel => exact ⟨k + 1, by omega, by go_num, below_drewN_ HB.out _, HT⟩
          case measure => simp [intOf]; omega
        · have HF := Lib.hid (sameI_at hx hy he)
          have r1 : (xs[k] != ys[k]) = true := by rw [bne_iff_ne]; exact he
          have r2 : (xs[k] == ys[k]) = false := beq_eq_false_iff_ne.2 he
          clear he
          go_wp2_with fail
          go_quiet (fail)
          go_wp2
          go_ret
          exact ⟨ret_b HF.out.symm, below_drewN_ HB.out _⟩
      · go_wp2
        go_ret
        have h := HV.out
        rw [List.take_of_length_le (by have := HN.out; omega), List.take_of_length_le (by have := HN'.out; omega)] at h
        exact ⟨ret_b (by rw [h, sameI_self]), hb⟩
  · have q1 : ((n : Int) != (n' : Int)) = true := by rw [bne_iff_ne]; omega
    have q2 : ((n : Int) == (n' : Int)) = false := beq_eq_false_iff_ne.2 (by omega)
    have HF : Hid (sameI xs ys = false) := Lib.hid (sameI_ne (by have := HN.out; have := HN'.out; omega))
    go_enter Try.func37, Try.ntmps37
    go_wp2
    go_ret
    exact ⟨ret_b HF.out.symm, Below.refl _ _⟩
theorem ex_apply : oneRes true ⟨[64], [128], 256⟩ [100, 0, 0, -3] = [100, 75, 37, 15] ∧ oneErr true ⟨[64], [128], 256⟩ [100, 0, 0, -3] = 0 := by decide
theorem ex_gains : gnRes [(50, 0), (400, -100), (0, 0)] 100 50 = [114, 64, 114] ∧ ckLi [(50, 0), (400, -100), (0, 0)] 100 50 = 0 := by decide

set_option maxRecDepth 100000 in
set_option maxHeartbeats 2000000 in
theorem works_any (w : World) : Calls Try.prog 32 #[] w fun e w' => e = .returned (.bool true) ∧ Below w.heap.size w w' := by
  go_enter Try.func32, Try.ntmps32
  go_wp2_with fail
  obtain ⟨W, hW⟩ : ∃ W, ((w.alloc (.cells #[.int .i64 64] 2)).alloc (.cells #[.int .i64 128] 2)).alloc (.cells #[.int .i64 100, .int .i64 0, .int .i64 0, .int .i64 (-3)] 2) = W := ⟨_, rfl⟩
  have hb : Below w.heap.size w W := by rw [← hW]; exact (((Below.refl _ _).alloc (Nat.le_refl _) _).alloc (by simp) _).alloc (by simp; omega) _
  have k1 : Blk W w.heap.size 2 #[.int .i64 64] := by rw [← hW]; exact ((Blk.new _ _ _).alloc _).alloc _
  have k2 : Blk W (w.heap.size + 1) 2 #[.int .i64 128] := by rw [← hW]; exact (blk_al (by simp)).alloc _
  have k3 : Blk W (w.heap.size + 1 + 1) 2 #[.int .i64 100, .int .i64 0, .int .i64 0, .int .i64 (-3)] := by rw [← hW]; exact blk_al (by simp)
  rw [hW]
  clear hW
  have l3 := k3.lt
  have AP := Apply_any W.heap.size ⟨some ⟨w.heap.size, 0, none⟩, 1, 1, some ⟨w.heap.size + 1, 0, none⟩, 1, 1, ⟨[64], [128], 256⟩⟩ (some ⟨w.heap.size + 1 + 1, 0, none⟩) 4 4 [100, 0, 0, -3] W
    ⟨li_blk k1 k1.lt rfl rfl, li_blk k2 k2.lt rfl rfl⟩ (li_blk k3 k3.lt rfl rfl) (Nat.le_refl _) (by omega) ⟨by show 1 ≤ _; omega, by show 1 ≤ _; omega⟩
  rw [ex_apply.1, ex_apply.2] at AP
  have AP := Lib.hid AP
  have HB := Lib.hid hb
  clear k1 k2 k3 hb
  refine AP.out.mono ?_
  rintro e w1 ⟨v1, rfl, ho1, hb1⟩
  have HO1 := Lib.hid ho1
  have HB := Lib.hid (HB.out.trans (hb1.mono HB.out.size))
  clear ho1 hb1 AP
  go_wp2_with fail
  obtain ⟨W2, hW2⟩ : ∃ W2, w1.alloc (.cells #[.int .i64 50, .int .i64 0, .int .i64 400, .int .i64 (-100), .int .i64 0, .int .i64 0] 75) = W2 := ⟨_, rfl⟩
  have hb2 : Below w1.heap.size w1 W2 := by rw [← hW2]; exact (Below.refl _ _).alloc (Nat.le_refl _) _
  have k4 : Blk W2 w1.heap.size 75 #[.int .i64 50, .int .i64 0, .int .i64 400, .int .i64 (-100), .int .i64 0, .int .i64 0] := by rw [← hW2]; exact Blk.new _ _ _
  rw [hW2]
  clear hW2
  have GN := Gains_any W2.heap.size (some ⟨w1.heap.size, 0, none⟩) 3 3 [(50, 0), (400, -100), (0, 0)] 100 50 W2 (rs_blk k4 k4.lt rfl rfl) (Nat.le_refl _) (by omega)
  rw [ex_gains.1, ex_gains.2] at GN
  have GN := Lib.hid GN
  have HO1 := Lib.hid (own_below HO1.out hb2)
  have HB := Lib.hid (HB.out.trans (hb2.mono HB.out.size))
  clear k4 hb2
  refine GN.out.mono ?_
  rintro e w2 ⟨v2, rfl, ho2, hb3⟩
  obtain ⟨A1, c1, rfl, hL1⟩ := li_own (own_below HO1.out hb3)
  obtain ⟨A2, c2, rfl, hL2⟩ := li_own ho2
  have HB := Lib.hid (HB.out.trans (hb3.mono HB.out.size))
  have HL1 := Lib.hid hL1
  have HL2 := Lib.hid hL2
  clear ho2 hb3 hL1 hL2 GN HO1
  go_wp2_with fail
  have h5 : LI (w2.alloc (.cells #[.int .i64 100, .int .i64 75, .int .i64 37, .int .i64 15] 2)) (w2.heap.size + 1) (some ⟨w2.heap.size, 0, none⟩) 4 [100, 75, 37, 15] := li_new w2 [100, 75, 37, 15]
  obtain ⟨W3, hW3⟩ : ∃ W3, w2.alloc (.cells #[.int .i64 100, .int .i64 75, .int .i64 37, .int .i64 15] 2) = W3 := ⟨_, rfl⟩
  have hb4 : Below w2.heap.size w2 W3 := by rw [← hW3]; exact (Below.refl _ _).alloc (Nat.le_refl _) _
  have hs3 : W3.heap.size = w2.heap.size + 1 := by rw [← hW3]; simp
  rw [hW3] at h5 ⊢
  clear hW3
  have HL2 := Lib.hid (HL2.out.below hb4 (Nat.le_refl _))
  have HB := Lib.hid (HB.out.trans (hb4.mono HB.out.size))
  have SM := refSame_any W3.heap.size A1 (some ⟨w2.heap.size, 0, none⟩) 4 c1 4 4 [100, 75, 37, 15] [100, 75, 37, 15] W3 ((HL1.out.below hb4 (Nat.le_refl _)).more hb4.size) (h5.more (by omega)) (Nat.le_refl _) (by omega) (by omega)
  rw [sameI_self] at SM
  have SM := Lib.hid SM
  have hz1 : w2.heap.size ≤ W3.heap.size := hb4.size
  clear h5 hb4 HL1 hs3
  refine SM.out.mono ?_
  rintro e w3 ⟨rfl, hb5⟩
  have hsz := HB.out.size
  have HL2 := Lib.hid (HL2.out.below hb5 hz1)
  have hz2 : w2.heap.size ≤ w3.heap.size := Nat.le_trans hz1 hb5.size
  have HB := Lib.hid (HB.out.trans (hb5.mono HB.out.size))
  clear hb5 SM
  go_wp2_with fail
  have h5 : LI (w3.alloc (.cells #[.int .i64 114, .int .i64 64, .int .i64 114] 2)) (w3.heap.size + 1) (some ⟨w3.heap.size, 0, none⟩) 3 [114, 64, 114] := li_new w3 [114, 64, 114]
  obtain ⟨W4, hW4⟩ : ∃ W3, w3.alloc (.cells #[.int .i64 114, .int .i64 64, .int .i64 114] 2) = W3 := ⟨_, rfl⟩
  have hb4 : Below w3.heap.size w3 W4 := by rw [← hW4]; exact (Below.refl _ _).alloc (Nat.le_refl _) _
  have hs3 : W4.heap.size = w3.heap.size + 1 := by rw [← hW4]; simp
  rw [hW4] at h5 ⊢
  clear hW4
  have HB := Lib.hid (HB.out.trans (hb4.mono HB.out.size))
  have SM := refSame_any W4.heap.size A2 (some ⟨w3.heap.size, 0, none⟩) 3 c2 3 3 [114, 64, 114] [114, 64, 114] W4 ((HL2.out.below hb4 hz2).more (Nat.le_trans hz2 hb4.size)) (h5.more (by omega)) (Nat.le_refl _) (by omega) (by omega)
  rw [sameI_self] at SM
  have SM := Lib.hid SM
  clear h5 hb4 HL2 hs3
  refine SM.out.mono ?_
  rintro e w5 ⟨rfl, hb5⟩
  have HB := Lib.hid (HB.out.trans (hb5.mono HB.out.size))
  go_wp2
  go_ret
  exact ⟨rfl, HB.out⟩
end Go.Proofs.Ytjaomjbhkgijbaa

