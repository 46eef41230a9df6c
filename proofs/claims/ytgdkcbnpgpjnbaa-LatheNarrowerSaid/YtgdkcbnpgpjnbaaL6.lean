/-
  The first edge that a cut breaks.
-/
import Derived.Test.YtgdkcbnpgpjnbaaL5
import Derived.Test.YtgdkcbnpgpjnbaaLY
import Derived.Test.YtgdkcbnpgpjnbaaLK
import Derived.Test.YtgdkcbnpgpjnbaaLZ
namespace Go.Proofs.Ytgdkcbnpgpjnbaa
open Go.RowKit Go.Shelf
attribute [local go_sem] Oper.semAt_some

theorem ed_bds {b : Bk} {P : List Smp} {R : List Int} {e : Ed} (hb : BkOk b) (hP : PsOk P) (hR : RsOk R) (he : e ∈ edsAll b P) :
    (e.2.2.1 = -1 ∨ (0 ≤ e.2.2.1 ∧ e.2.2.1 < (P.length : Nat))) ∧ (e.2.2.2.1 = -1 ∨ (0 ≤ e.2.2.2.1 ∧ e.2.2.2.1 < (P.length : Nat))) ∧ (-1073741824 ≤ e.2.2.2.2 ∧ e.2.2.2.2 ≤ 1073741824) ∧ (-1152921504606846976 ≤ rad R e.2.2.1 ∧ rad R e.2.2.1 ≤ 1152921504606846976) := by
  unfold edsAll edsUp at he
  rw [List.mem_flatMap] at he
  obtain ⟨i, hi, he⟩ := he
  have hi := List.mem_range.1 hi
  have a1 := hb.per1
  have a2 := hb.rim
  have a3 := hb.core
  have a4 := hb.corim
  have a5 := hb.land1
  have a6 := hb.land2
  have a7 := hb.slow
  have a8 := hb.slowfast
  have a9 := hb.fast
  have b1 := hP.at_ i
  have b2 := hP.at_ (i - b.per.toNat)
  have hrd : ∀ j : Nat, -1152921504606846976 ≤ rad R (j : Int) ∧ rad R (j : Int) ≤ 1152921504606846976 := fun j => by
    rw [rad_nat]; have := hR.fx j; omega
  cases isEd_of hb he with
  | rim => exact ⟨.inl rfl, .inr (by dsimp only; omega), by dsimp only; omega, by dsimp only; rw [rad_none]; omega⟩
  | core => exact ⟨.inr (by dsimp only; omega), .inl rfl, by dsimp only; omega, hrd _⟩
  | slow h => exact ⟨.inr (by dsimp only; omega), .inr (by dsimp only; omega), by dsimp only; omega, hrd _⟩
  | fast h => exact ⟨.inr (by dsimp only; omega), .inr (by dsimp only; omega), by dsimp only; omega, hrd _⟩
  | land h => exact ⟨.inr (by dsimp only; omega), .inr (by dsimp only; omega), by dsimp only; unfold wLand; omega, hrd _⟩

set_option maxHeartbeats 1000000 in
theorem CheckCut1_any (br B : Nat) (A : Option Addr) (n c : Nat) (b : Bk) (P : List Smp) (R : List Int) (e : Ed) (w : World) (hk : Blk w br 25 #[.slice A n c]) (h0 : LI w B A n R) (hB : B ≤ w.heap.size)
    (hn : n = P.length) (hb : BkOk b) (hP : PsOk P) (hR : RsOk R) (he : e ∈ edsAll b P) :
    Calls Try.prog 46 #[edCells e, .pointer (some ⟨br, 0, none⟩)] w fun ee w' => ee = .returned (.bool (!kptE R e)) ∧ Below w.heap.size w w' := by
  obtain ⟨d1, d2, d3, d4⟩ := ed_bds hb hP hR he
  rw [← hn] at d1 d2
  obtain ⟨e1, e2, e3, e4, e5⟩ := e
  have HC := Lib.hid (fun (W : World) (h : Below w.heap.size w W) => keptBy_any B A n c R e1 e2 e3 e4 e5 W (h0.below h (by omega)) (by have := h.size; omega) d1 d2 d3 d4)
  have HKK := Lib.hid hk
  have t0 := ((below_a w (.cells #[.int .i64 e1, .int .i64 e2, .int .i64 e3, .int .i64 e4, .int .i64 e5] 78)).cell (p := ⟨br, 0, none⟩) hk.lt).trans hk.one.1
  have HBA := Lib.hid (below_a w (.cells #[.int .i64 e1, .int .i64 e2, .int .i64 e3, .int .i64 e4, .int .i64 e5] 78))
  clear d1 d2 d3 d4 he h0 hk hn
  have hq0 : kptE R (e1, e2, e3, e4, e5) = kpt R e3 e4 e5 := rfl
  rw [hq0]
  obtain ⟨q, hq⟩ : ∃ q, kpt R e3 e4 e5 = q := ⟨_, rfl⟩
  rw [hq] at HC ⊢
  replace HC := Lib.hid HC.out
  clear hq hq0
  unfold edCells
  dsimp only
  go_enter Try.func46, Try.ntmps46
  go_wp2_with fail
  refine (HC.out _ HBA.out).mono ?_
  rintro e w1 ⟨rfl, hb1⟩
  have HB1 := Lib.hid hb1
  clear hb1 t0
  go_wp2
  go_ret
  exact ⟨rfl, HBA.out.trans (HB1.out.mono HBA.out.size)⟩

theorem fin_six {w W : World} {t u : TypeId} {u0 u1 u2 u3 u4 u5 a b c d e z : Value} (hb : Below w.heap.size w W) (hk : Blk W (w.heap.size + 1) t #[u0, u1, u2, u3, u4]) (hl : Blk W (w.heap.size + 1 + 1) u #[u5]) :
    ∃ V, Blk V (w.heap.size + 1) t #[a, b, c, d, e] ∧ Blk V (w.heap.size + 1 + 1) u #[z] ∧ Below w.heap.size w V ∧ (∀ B, KeepsFrom B W V) ∧ W.heap.size ≤ V.heap.size ∧
      V = (((((W.setCell ⟨w.heap.size + 1, 0, none⟩ a).setCell ⟨w.heap.size + 1, 1, none⟩ b).setCell ⟨w.heap.size + 1, 2, none⟩ c).setCell ⟨w.heap.size + 1, 3, none⟩ d).setCell ⟨w.heap.size + 1, 4, none⟩ e).setCell ⟨w.heap.size + 1 + 1, 0, none⟩ z := by
  have n1 : w.heap.size + 1 ≠ w.heap.size + 1 + 1 := by omega
  refine ⟨_, (((((hk.set_ 0 a).set_ 1 b).set_ 2 c).set_ 3 d).set_ 4 e).far (p := ⟨w.heap.size + 1 + 1, 0, none⟩) n1 _, ?_,
    (((((hb.setCell (by simp) _).setCell (by simp) _).setCell (by simp) _).setCell (by simp) _).setCell (by simp) _).setCell (by simp; omega) _, fun B => ?_, ?_, rfl⟩
  · exact ((((((hl.far (p := ⟨w.heap.size + 1, 0, none⟩) n1.symm _).far (p := ⟨w.heap.size + 1, 1, none⟩) n1.symm _).far (p := ⟨w.heap.size + 1, 2, none⟩) n1.symm _).far (p := ⟨w.heap.size + 1, 3, none⟩) n1.symm _).far (p := ⟨w.heap.size + 1, 4, none⟩) n1.symm _).set_ 0 z)
  · exact ((((((KeepsOthers.setCell _ _ _).from B).trans ((KeepsOthers.setCell _ _ _).from B)).trans ((KeepsOthers.setCell _ _ _).from B)).trans ((KeepsOthers.setCell _ _ _).from B)).trans ((KeepsOthers.setCell _ _ _).from B)).trans ((KeepsOthers.setCell _ _ _).from B)
  · simp [World.setCell]

def edV : Option Ed → Value
  | none => .tuple #[.agg #[.int .i64 0, .int .i64 0, .int .i64 0, .int .i64 0, .int .i64 0], .bool false]
  | some e => .tuple #[edCells e, .bool true]

set_option maxRecDepth 100000 in
set_option maxHeartbeats 8000000 in
theorem firstE_any (bs br B : Nat) (A AR : Option Addr) (n c m d : Nat) (b : Bk) (P : List Smp) (R : List Int) (w : World) (hs : Blk w bs 69 #[.int .i64 b.per, .int .i64 b.rim, .int .i64 b.core, .int .i64 b.land, .int .i64 b.slow, .int .i64 b.fast, .slice A n c]) (hr : Blk w br 25 #[.slice AR m d])
    (h0 : RS w B A n P) (h1 : LI w B AR m R) (hB : B ≤ w.heap.size) (hn : n ≤ 1000000) (CI : CutIs b P R) :
    Calls Try.prog 44 #[.func (.func 69) #[] #[.pointer (some ⟨bs, 0, none⟩)], .func (.func 46) #[] #[.pointer (some ⟨br, 0, none⟩)]] w fun e w' => e = .returned (edV (brkE b P R)) ∧ Below w.heap.size w w' := by
  have HS := Lib.hid hs
  have HR := Lib.hid hr
  have HP := Lib.hid h0
  have HL := Lib.hid h1
  have CI := Lib.hid CI
  have HMN : Hid (m = P.length) := Lib.hid (by rw [h1.1]; exact CI.out.len)
  clear hs hr h0 h1
  refine (callsIn_wide (n := 12)).1 ?_
  refine callsIn_of_wp_marks Try.func44 rfl trivial ?_ rfl
  simp only [Try.ntmps44, List.size_toArray, List.length_cons, List.length_nil, Nat.reduceAdd, Nat.reduceSub, Array.replicate_succ, Array.replicate_zero, List.push_toArray, List.append_toArray, List.nil_append, List.cons_append]
  gi_wp2_with fail
  obtain ⟨W1, hW1⟩ : ∃ W1, ((w.alloc (.cells #[.func (.func 46) #[] #[.pointer (some ⟨br, 0, none⟩)]] 85)).alloc (.cells #[.int .i64 0, .int .i64 0, .int .i64 0, .int .i64 0, .int .i64 0] 78)).alloc (.cells #[.bool false] 4) = W1 := ⟨_, rfl⟩
  have hb1 : Below w.heap.size w W1 := by rw [← hW1]; exact (((Below.refl _ _).alloc (Nat.le_refl _) _).alloc (by simp) _).alloc (by simp; omega) _
  have k1 : Blk W1 w.heap.size 85 #[.func (.func 46) #[] #[.pointer (some ⟨br, 0, none⟩)]] := by rw [← hW1]; exact ((Blk.new _ _ _).alloc _).alloc _
  have k2 : Blk W1 (w.heap.size + 1) 78 #[.int .i64 0, .int .i64 0, .int .i64 0, .int .i64 0, .int .i64 0] := by rw [← hW1]; exact (blk_al (by simp)).alloc _
  have k3 : Blk W1 (w.heap.size + 1 + 1) 4 #[.bool false] := by rw [← hW1]; exact blk_al (by simp)
  have hz : w.heap.size + 1 + 1 < W1.heap.size := k3.lt
  have hsW : Blk W1 bs 69 #[.int .i64 b.per, .int .i64 b.rim, .int .i64 b.core, .int .i64 b.land, .int .i64 b.slow, .int .i64 b.fast, .slice A n c] := HS.out.below hb1 HS.out.lt
  have hslt := HS.out.lt
  rw [hW1]
  clear hW1
  have hcut := edges1_cut (12 - 1) bs (fun _ => False) B A n c b P W1 (by omega) hsW (fun h => h) (fun k h => h.elim) (HP.out.below hb1 (by omega)) (by omega) (fun _ _ h => h) hn CI.out.bk CI.out.ps
  refine wpIn_rangeCut rfl (by omega) (gf := 69) (lb := #[.pointer (some ⟨bs, 0, none⟩)]) rfl trivial (enters_of Try.func69 (by kernel_rfl) rfl)
    hcut (Below.refl _ _) (fun _ => rfl)
    (fun pre X => Blk X w.heap.size 85 #[.func (.func 46) #[] #[.pointer (some ⟨br, 0, none⟩)]] ∧ Blk X (w.heap.size + 1) 78 #[.int .i64 0, .int .i64 0, .int .i64 0, .int .i64 0, .int .i64 0] ∧ Blk X (w.heap.size + 1 + 1) 4 #[.bool false] ∧ (Below w.heap.size w X ∧ W1.heap.size ≤ X.heap.size) ∧ ∀ e ∈ pre, kptE R e = true)
    (fun pre X => ∃ pre0 x, pre = pre0 ++ [x] ∧ (∀ e ∈ pre0, kptE R e = true) ∧ kptE R x = false ∧ Blk X (w.heap.size + 1) 78 #[.int .i64 x.1, .int .i64 x.2.1, .int .i64 x.2.2.1, .int .i64 x.2.2.2.1, .int .i64 x.2.2.2.2] ∧ Blk X (w.heap.size + 1 + 1) 4 #[.bool true] ∧ Below w.heap.size w X)
    ?hI ?hIx ?h0 (fun pre x a' X => (Blk X w.heap.size 85 #[.func (.func 46) #[] #[.pointer (some ⟨br, 0, none⟩)]] ∧ Blk X (w.heap.size + 1) 78 #[.int .i64 0, .int .i64 0, .int .i64 0, .int .i64 0, .int .i64 0] ∧ Blk X (w.heap.size + 1 + 1) 4 #[.bool false] ∧ (Below w.heap.size w X ∧ W1.heap.size ≤ X.heap.size) ∧ ∀ e ∈ pre, kptE R e = true) ∧ ∃ bp, W1.heap.size ≤ bp ∧ Blk X bp 78 #[.int .i64 x.1, .int .i64 x.2.1, .int .i64 x.2.2.1, .int .i64 x.2.2.2.1, .int .i64 x.2.2.2.2] ∧ a' = { tmps := #[.func (.func 69) #[] #[.pointer (some ⟨bs, 0, none⟩)], .func (.func 46) #[] #[.pointer (some ⟨br, 0, none⟩)], undef, .pointer (some ⟨w.heap.size, 0, none⟩), .pointer (some ⟨w.heap.size + 1, 0, none⟩), .pointer (some ⟨w.heap.size + 1 + 1, 0, none⟩), .pointer (some ⟨bp, 0, none⟩), undef, .func (.func 69) #[] #[.pointer (some ⟨bs, 0, none⟩)], edCells x, undef, undef, undef, undef, undef], defers := [] }) ?hAx ?assign ?body ?done ?stop
  case hI =>
    rintro s X Y row ⟨i1, i2, i3, i4, i5⟩ hgr hr
    have hk := fun r e => (hr r e).2
    exact ⟨blk_keptR i1 hgr hk, blk_keptR i2 hgr hk, blk_keptR i3 hgr hk, ⟨i4.1.grown hgr i4.1.size (fun q e => by have := (hr q e).1; omega), Nat.le_trans i4.2 hgr.size⟩, i5⟩
  case hIx =>
    rintro s X Y row ⟨pre0, x, j1, j2, j3, i2, i3, i4⟩ hgr hr
    have hk := fun r e => (hr r e).2
    exact ⟨pre0, x, j1, j2, j3, blk_keptR i2 hgr hk, blk_keptR i3 hgr hk, i4.grown hgr i4.size (fun q e => by have := (hr q e).1; omega)⟩
  case h0 => exact ⟨k1, k2, k3, ⟨hb1, Nat.le_refl _⟩, fun _ h => by cases h⟩
  case hAx =>
    rintro pre x a' s X Y row ⟨⟨i1, i2, i3, i4, i5⟩, bp, h1, h2, h3⟩ hgr hr
    have hk := fun r e => (hr r e).2
    exact ⟨⟨blk_keptR i1 hgr hk, blk_keptR i2 hgr hk, blk_keptR i3 hgr hk, ⟨i4.1.grown hgr i4.1.size (fun q e => by have := (hr q e).1; omega), Nat.le_trans i4.2 hgr.size⟩, i5⟩, bp, h1, blk_keptR h2 hgr hk, h3⟩
  case assign =>
    rintro l' pre ⟨e1, e2, e3, e4, e5⟩ X K ⟨i1, i2, i3, i4, i5⟩ hK
    simp only [encE, edCells] at hK ⊢
    gi_wp2
    have hG := World.grownBy_alloc X (.cells #[.int .i64 e1, .int .i64 e2, .int .i64 e3, .int .i64 e4, .int .i64 e5] 78) none
    exact hK _ _ hG ⟨⟨i1.alloc _, i2.alloc _, i3.alloc _, ⟨i4.1.alloc i4.1.size _, Nat.le_trans i4.2 hG.size⟩, i5⟩, X.heap.size, i4.2, Blk.new _ _ _, rfl⟩
  case body =>
    rintro L pre ⟨e1, e2, e3, e4, e5⟩ a' X hL ⟨⟨i1, i2, i3, i4, i5⟩, bp, hbp, hBx, rfl⟩ hpre
    have I1 := Lib.hid i1
    have I2 := Lib.hid i2
    have I3 := Lib.hid i3
    have I4 := Lib.hid i4
    have I5 := Lib.hid i5
    have I6 := Lib.hid hBx
    obtain ⟨p0, p1, p2⟩ := i1.one
    obtain ⟨x0, x1, x2, x3, x4, -, -, -, -, -, xl⟩ := hBx.five
    have hmem : (e1, e2, e3, e4, e5) ∈ edsAll b P := hpre.subset (List.mem_append_right pre (List.mem_singleton.2 rfl))
    have CL := CheckCut1_any br B AR m d b P R (e1, e2, e3, e4, e5) X (HR.out.below i4.1 HR.out.lt) (HL.out.below i4.1 hB) (by have := i4.1.size; omega) HMN.out CI.out.bk CI.out.ps CI.out.rs hmem
    have f46 : Fence.wide.fn 46 := trivial
    obtain ⟨z, hz0⟩ : ∃ z, kptE R (e1, e2, e3, e4, e5) = z := ⟨_, rfl⟩
    have HZ := Lib.hid hz0
    rw [hz0] at CL
    have CL := Lib.hid CL
    clear i1 i2 i3 i4 i5 hBx k1 k2 k3 hb1 hsW hz0 hcut hpre hmem
    unfold edCells at CL ⊢
    dsimp only at x0 x1 x2 x3 x4 CL ⊢
    cases z with
    | true =>
      gi_wp2_with (gi_at_call 46; refine (CallsIn.inRound L (callsIn_wide.2 CL.out)).mono ?_; rintro e w8 ⟨rfl, hb8⟩; have HB8 := Lib.hid hb8; clear hb8)
      have hb8 := HB8.out
      refine ⟨KeepsFrom.of_grownBy (grown_bE hb8) (by simp), Bel.of_below hb8, I1.out.below hb8 I1.out.lt, I2.out.below hb8 I2.out.lt, I3.out.below hb8 I3.out.lt, ⟨I4.out.1.trans (hb8.mono I4.out.1.size), Nat.le_trans I4.out.2 hb8.size⟩, fun y hy => ?_⟩
      rcases List.mem_append.1 hy with hy | hy
      · exact I5.out y hy
      · rw [List.mem_singleton.1 hy]; exact HZ.out
    | false =>
      have n1 : w.heap.size + 1 ≠ w.heap.size + 1 + 1 := by omega
      gi_wp2_with (gi_at_call 46; refine (CallsIn.inRound L (callsIn_wide.2 CL.out)).mono ?_; rintro e w8 ⟨rfl, hb8⟩; have HB8 := Lib.hid hb8; have r0 := (hb8.cell (p := ⟨bp, 0, none⟩) xl).trans x0; have r1 := (hb8.cell (p := ⟨bp, 1, none⟩) xl).trans x1; have r2 := (hb8.cell (p := ⟨bp, 2, none⟩) xl).trans x2; have r3 := (hb8.cell (p := ⟨bp, 3, none⟩) xl).trans x3; have r4 := (hb8.cell (p := ⟨bp, 4, none⟩) xl).trans x4; obtain ⟨g0, g1, g2, g3, g4, g5, g6, g7, g8, g9, g10⟩ := (I2.out.below hb8 I2.out.lt).five; obtain ⟨f0, f1, f2⟩ := (I3.out.below hb8 I3.out.lt).one; clear hb8)
      have hb8 := HB8.out
      obtain ⟨V, v1, v2, v3, v4, v5, hV⟩ := fin_six (a := .int .i64 e1) (b := .int .i64 e2) (c := .int .i64 e3) (d := .int .i64 e4) (e := .int .i64 e5) (z := .bool true) (I4.out.1.trans (hb8.mono I4.out.1.size)) (I2.out.below hb8 I2.out.lt) (I3.out.below hb8 I3.out.lt)
      rw [← hV]
      exact ⟨(KeepsFrom.of_grownBy (grown_bE hb8) (by simp)).trans (v4 _), pre, (e1, e2, e3, e4, e5), rfl, I5.out, HZ.out, v1, v2, v3⟩
  case done =>
    rintro D X hD ⟨i1, i2, i3, i4, i5⟩ hK
    have HF : Hid (brkE b P R = none) := Lib.hid (brkE_none_of i5)
    have I2 := Lib.hid i2
    have I3 := Lib.hid i3
    have I4 := Lib.hid i4
    have HK := Lib.hid hK
    have HD := Lib.hid hD
    have hXD : D < X.heap.size := (Array.getElem?_eq_some_iff.1 hK).1
    have z0 : Blk (X.alloc (.cells #[.int .i64 0, .int .i64 0, .int .i64 0, .int .i64 0, .int .i64 0] 78)) (w.heap.size + 1) 78 #[.int .i64 0, .int .i64 0, .int .i64 0, .int .i64 0, .int .i64 0] := i2.alloc _
    have z1 : Blk (X.alloc (.cells #[.int .i64 0, .int .i64 0, .int .i64 0, .int .i64 0, .int .i64 0] 78)) (w.heap.size + 1 + 1) 4 #[.bool false] := i3.alloc _
    have Z0 := Lib.hid z0
    have Z1 := Lib.hid z1
    obtain ⟨g0, g1, g2, g3, g4, g5, g6, g7, g8, g9, g10⟩ := z0.five
    obtain ⟨f0, f1, f2⟩ := z1.one
    clear i1 i2 i3 i4 i5 hK hb1 hsW hcut k1 k2 k3 hD z0 z1
    gi_wp2
    obtain ⟨V, v1, v2, v3, v4, v5, hV⟩ := fin_six (a := .int .i64 0) (b := .int .i64 0) (c := .int .i64 0) (d := .int .i64 0) (e := .int .i64 0) (z := .bool false) (I4.out.1.alloc I4.out.1.size (.cells #[.int .i64 0, .int .i64 0, .int .i64 0, .int .i64 0, .int .i64 0] 78)) Z0.out Z1.out
    rw [← hV]
    have hK2 : V.heap[D]? = some (.deferred (some [])) := (v4 0).same D _ (Nat.zero_le _) ((Below.heap_alloc _ _ _ hXD).trans HK.out) rfl
    have hgp := grownBy_putObj' V D (.deferred none)
    have hkp : ∀ r', some D = some r' → ∃ o : Obj, V.heap[r']? = some o ∧ o.isCells = false := fun r' e => by cases e; exact ⟨_, hK2, rfl⟩
    have e2 := blk_keptR v1 hgp hkp
    have e3 := blk_keptR v2 hgp hkp
    have hbl := v3.grown hgp v3.size (fun q e => by cases e; have := HD.out; omega)
    have c3 := (e3.cell 0).trans rfl
    obtain ⟨c0, c1, c2, c4, c5, -, -, -, -, -, -⟩ := e2.five
    clear hV
    refine ⟨by simp, .inl ⟨_, _, rfl, run_takeDeferred hK2, ?_⟩⟩
    refine ⟨edV none, ?_, by rw [HF.out], hbl⟩
    unfold edV
    simp [results, Try.results44, go_sem, c0, c1, c2, c3, c4, c5]
  case stop =>
    rintro D pre x X hD hpx ⟨pre0, x', hx, j2, j3, j4, j5, j6⟩ hK
    obtain ⟨rfl, rfl⟩ : pre = pre0 ∧ x = x' := by
      have := List.append_inj' hx rfl
      exact ⟨this.1, by simpa using this.2⟩
    have HF : Hid (brkE b P R = some x) := Lib.hid (brkE_some hpx j2 j3)
    have hgp := grownBy_putObj' X D (.deferred none)
    have hkp : ∀ r', some D = some r' → ∃ o : Obj, X.heap[r']? = some o ∧ o.isCells = false := fun r' e => by cases e; exact ⟨_, hK, rfl⟩
    have e2 := blk_keptR j4 hgp hkp
    have e3 := blk_keptR j5 hgp hkp
    have hbl := j6.grown hgp j6.size (fun q e => by cases e; omega)
    have E2 := Lib.hid e2
    have C3 := Lib.hid ((e3.cell 0).trans rfl)
    have HK := Lib.hid hK
    have HBL := Lib.hid hbl
    clear j2 j3 j4 j5 j6 hK e2 e3 hbl hgp hkp hb1 hsW hcut k1 k2 k3 hx
    gi_wp2
    refine ⟨by simp, .inl ⟨_, _, rfl, run_takeDeferred HK.out, ?_⟩⟩
    refine ⟨edV (some x), ?_, by rw [HF.out], HBL.out⟩
    have c3 := C3.out
    obtain ⟨c0, c1, c2, c4, c5, -, -, -, -, -, -⟩ := E2.out.five
    unfold edV edCells
    simp [results, Try.results44, go_sem, c0, c1, c2, c3, c4, c5]
end Go.Proofs.Ytgdkcbnpgpjnbaa
