/-
  Contracts of sounds and of the iterator that it returns.
-/
import Derived.Test.YtbcahkklhdnboaaC1
import Derived.Test.YtbcahkklhdnboaaCM
namespace Go.Proofs.Ytbcahkklhdnboaa
open Go.RowKit Go.Shelf
attribute [local go_sem] Oper.semAt_some

set_option maxHeartbeats 400000 in
theorem sounds_any (A A' : Option Addr) (m c m' c' : Nat) (t : Int) (w : World) :
    Calls Try.prog 53 #[.slice A' m' c', .slice A m c, .int .i64 t] w fun e w' => e = .returned (.func (.func 76) #[] #[.pointer (some ⟨w.heap.size + 1, 0, none⟩), .pointer (some ⟨w.heap.size + 1 + 1, 0, none⟩), .pointer (some ⟨w.heap.size, 0, none⟩)]) ∧
      ((w.alloc (.cells #[.slice A' m' c'] 22)).alloc (.cells #[.slice A m c] 68)).alloc (.cells #[.int .i64 t] 3) = w' := by
  go_enter Try.func53, Try.ntmps53
  go_wp2
  go_ret
  exact ⟨rfl, rfl⟩

theorem blk_kept {X Y : World} {g : Nat} {t : TypeId} {cs : Array Value} {row : Option Nat} (h : Blk X g t cs) (hg : X.grownBy Y row) (hr : ∀ r, row = some r → ∃ o : Obj, X.heap[r]? = some o ∧ o.isCells = false) : Blk Y g t cs := by
  refine (hg.block g h.lt (fun e => ?_)).trans h
  obtain ⟨o, ho, hc⟩ := hr g e.symm
  rw [show X.heap[g]? = _ from h] at ho
  cases ho; cases hc

theorem Blk.bel {w w' : World} {gg : Nat → Prop} {g : Nat} {t : TypeId} {cs : Array Value} (h : Blk w g t cs) (hb : Bel gg w w') (hg : ¬ gg g) : Blk w' g t cs := hb.block g _ h rfl hg
theorem yield_wide {m m' l L : Nat} {args : Array Value} {W : World} {R : Ending → World → Prop} (h : YieldAt Fence.wide m Try.prog l args W R) :
    ∃ fn tmps assign body, (Instr.yield l args).run Try.prog W = .ok (.round l fn tmps assign body) W ∧ RoundIn (Fence.wide.inRound L) m' Try.prog l fn tmps assign body W R := by
  obtain ⟨fn, tmps, assign, body, hy, hR⟩ := h
  exact ⟨fn, tmps, assign, body, hy, hR.1, fun c cs _ => hR.2 c cs (room_wide _)⟩

set_option maxRecDepth 100000 in
set_option maxHeartbeats 4000000 in
theorem sounds1_all (n : Nat) (bq bt bl gg B : Nat) (A A' : Option Addr) (m c m' c' : Nat) (l : List TV) (R : List Pl) (t : Int) (w : World) (hn : 5 ≤ n)
    (hq : Blk w bq 68 #[.slice A m c]) (ht : Blk w bt 3 #[.int .i64 t]) (hl : Blk w bl 22 #[.slice A' m' c']) (hR : RQ w B A m R) (hT : RT w B A' m' l) (hB : B ≤ w.heap.size)
    (hgg : gg < w.heap.size) (ngq : bq ≠ gg) (ngt : bt ≠ gg) (ngl : bl ≠ gg)
    (ngA : ∀ ad, A = some ad → ad.block ≠ gg) (ngT : ∀ ad, A' = some ad → ad.block ≠ gg) (ngX : ∀ x ∈ l, ∀ ad, x.A = some ad → ad.block ≠ gg)
    (hok : ∀ q ∈ R, PlOk q) (hsd : ∀ q ∈ R, SdOk l q) (h32 : R.length ≤ 32) (ht0 : -1000000 ≤ t) (ht1 : t ≤ 1000000) :
    SeqAll Fence.wide n Try.prog 76 #[.pointer (some ⟨bq, 0, none⟩), .pointer (some ⟨bt, 0, none⟩), .pointer (some ⟨bl, 0, none⟩)] encS (· = gg) ((sndL R t).map (sndOf l)) w := by
  intro l₀ J W hW hJ hY h0
  have hWB : Bel (· = gg) w W := Bel.of_below hW
  have hsz := hWB.size
  have h1 : 1 ≤ n := by omega
  have HY := Lib.hid hY
  have HJ := Lib.hid hJ
  have HW := Lib.hid hW
  have HOK := Lib.hid hok
  have HSD := Lib.hid hsd
  have HR := Lib.hid (hR.bel hWB ngA)
  have cq := hWB.cell hq.one.1 ngq
  have ct := hWB.cell ht.one.1 ngt
  have cl := hWB.cell hl.one.1 ngl
  have HA := Lib.hid ngA
  have HAT := Lib.hid ngT
  have HAX := Lib.hid ngX
  have HT := Lib.hid hT
  have H32 := Lib.hid h32
  have f61 : Fence.wide.fn 47 := trivial
  clear hY hJ hW hok hsd hR ngA ngT ngX hT h32 hq ht hl
  refine callsIn_of_wp_marks Try.func76 rfl trivial ?_ rfl
  simp only [Try.ntmps76, List.size_toArray, List.length_cons, List.length_nil, Nat.reduceAdd, Nat.reduceSub, Array.replicate_succ, Array.replicate_zero, List.push_toArray, List.append_toArray, List.nil_append, List.cons_append]
  have hbqW : bq < W.heap.size := World.block_lt_of_cell? W ⟨bq, 0, none⟩ cq
  have hbtW : bt < W.heap.size := World.block_lt_of_cell? W ⟨bt, 0, none⟩ ct
  have hblW : bl < W.heap.size := World.block_lt_of_cell? W ⟨bl, 0, none⟩ cl
  gi_wp2_with (gi_at_call 47; refine (callsIn_wide.2 (sounding_any _ _ _ _ _)).mono ?_; rintro e w' ⟨rfl, rfl⟩)
  have hsd : ∀ x ∈ sndL R t, x.1 ∈ R ∧ 0 ≤ x.2 ∧ x.2 < x.1.len := by
    intro x hx
    simp only [sndL, List.mem_map, List.mem_filter] at hx
    obtain ⟨q, ⟨hq1, hq2⟩, rfl⟩ := hx
    simp only [sndB, Bool.and_eq_true, decide_eq_true_eq] at hq2
    refine ⟨hq1, by show 0 ≤ t - q.st; omega, ?_⟩
    have := hq2.2
    simp only [Pl.end_, Pl.len] at *
    show t - q.st < q.p.to - q.p.fr
    omega
  have HSN := Lib.hid hsd
  obtain ⟨W3, hW3⟩ : ∃ W3, ((W.alloc (.cells #[.func (.yield l₀) #[] #[]] 112)).alloc (.cells #[.slice A m c] 68)).alloc (.cells #[.int .i64 t] 3) = W3 := ⟨_, rfl⟩
  have b4 : Blk W3 W.heap.size 112 #[.func (.yield l₀) #[] #[]] := by rw [← hW3]; exact ((Blk.new _ _ _).alloc _).alloc _
  have b5 : Blk W3 (W.heap.size + 1) 68 #[.slice A m c] := by
    rw [← hW3]; have := (Blk.new (W.alloc (.cells #[.func (.yield l₀) #[] #[]] 112)) 68 #[.slice A m c]).alloc (.cells #[.int .i64 t] 3); rwa [World.size_alloc] at this
  have b6 : Blk W3 (W.heap.size + 1 + 1) 3 #[.int .i64 t] := by
    rw [← hW3]; have := Blk.new ((W.alloc (.cells #[.func (.yield l₀) #[] #[]] 112)).alloc (.cells #[.slice A m c] 68)) 3 #[.int .i64 t]; rwa [World.size_alloc, World.size_alloc] at this
  have hB3 : Below W.heap.size W W3 := by rw [← hW3]; exact (((Below.refl _ _).alloc (Nat.le_refl _) _).alloc (by simp) _).alloc (by simp; omega) _
  have hs3 : W3.heap.size = W.heap.size + 3 := by rw [← hW3]; simp
  rw [hW3]
  clear hW3
  refine wpIn_rangeAll rfl h1 (gf := 71) (lb := #[.pointer (some ⟨W.heap.size + 1, 0, none⟩), .pointer (some ⟨W.heap.size + 1 + 1, 0, none⟩)]) rfl trivial (enters_of Try.func71 (by kernel_rfl) rfl)
    (sounding1_all (n - 1) (W.heap.size + 1) (W.heap.size + 1 + 1) (· = gg) W3.heap.size A m c R t W3 (by omega) b5 b6 (((HR.out.below hB3 (by omega))).more (by omega)) (Nat.le_refl _) (by omega) (by show ¬ _ = gg; omega) (by show ¬ _ = gg; omega) HA.out HOK.out H32.out ht0 ht1) (Below.refl _ _) (fun _ => rfl)
    (fun pre X => J (pre.map (sndOf l)) X ∧ Bel (· = gg) W X ∧ Blk X W.heap.size 112 #[.func (.yield l₀) #[] #[]])
    ?hI ?h0 (fun pre x a' X => (J (pre.map (sndOf l)) X ∧ Bel (· = gg) W X ∧ Blk X W.heap.size 112 #[.func (.yield l₀) #[] #[]]) ∧ ∃ bp, W.heap.size ≤ bp ∧ Blk X bp 71 #[.int .i64 x.1.p.tk, .int .i64 x.1.p.fr, .int .i64 x.1.p.to, .int .i64 x.1.p.gp, .int .i64 x.1.p.fi, .int .i64 x.1.p.fo, .int .i64 x.1.p.lv, .int .i64 x.1.ix, .int .i64 x.1.st] ∧ a' = { tmps := #[.func (.yield l₀) #[] #[], .pointer (some ⟨bq, 0, none⟩), .pointer (some ⟨bt, 0, none⟩), .pointer (some ⟨bl, 0, none⟩), .pointer (some ⟨W.heap.size, 0, none⟩), .pointer (some ⟨bp, 0, none⟩), .int .i64 x.2, .slice A m c, .int .i64 t, .func (.func 71) #[] #[.pointer (some ⟨W.heap.size + 1, 0, none⟩), .pointer (some ⟨W.heap.size + 1 + 1, 0, none⟩)], .agg #[.int .i64 x.1.p.tk, .int .i64 x.1.p.fr, .int .i64 x.1.p.to, .int .i64 x.1.p.gp, .int .i64 x.1.p.fi, .int .i64 x.1.p.fo, .int .i64 x.1.p.lv, .int .i64 x.1.ix, .int .i64 x.1.st], .int .i64 x.2, undef, undef, undef, undef, undef, undef, undef], defers := [] }) ?hAx ?assign ?body ?done
  case hI =>
    rintro s X Y row ⟨i1, i2, i3⟩ hgr hr
    exact ⟨HJ.out _ X Y row i1 hgr (fun r e => ⟨by have := (hr r e).1; omega, (hr r e).2⟩), i2.grown hgr (fun k e => .inr (.inr (hr k e).2)), blk_kept i3 hgr (fun r e => (hr r e).2)⟩
  case h0 => exact ⟨HJ.out [] W W3 none h0 (grown_of_below hB3) (by simp), Bel.of_below hB3, b4⟩
  case hAx =>
    rintro pre x a' s X Y row ⟨⟨i1, i2, i3⟩, bp, h1, h2, h3⟩ hgr hr
    exact ⟨⟨HJ.out _ X Y row i1 hgr (fun r e => ⟨by have := (hr r e).1; omega, (hr r e).2⟩), i2.grown hgr (fun k e => .inr (.inr (hr k e).2)), blk_kept i3 hgr (fun r e => (hr r e).2)⟩, bp, h1, blk_kept h2 hgr (fun r e => (hr r e).2), h3⟩
  case assign =>
    rintro l' pre x X K ⟨i1, i2, i3⟩ hK
    gi_wp2
    have hG := World.grownBy_alloc X (.cells #[.int .i64 x.1.p.tk, .int .i64 x.1.p.fr, .int .i64 x.1.p.to, .int .i64 x.1.p.gp, .int .i64 x.1.p.fi, .int .i64 x.1.p.fo, .int .i64 x.1.p.lv, .int .i64 x.1.ix, .int .i64 x.1.st] 71) none
    exact hK _ _ hG ⟨⟨HJ.out _ _ _ none i1 hG (by simp), i2.alloc _, i3.alloc _⟩, X.heap.size, i2.size, Blk.new _ _ _, rfl⟩
  case body =>
    rintro L pre ⟨⟨⟨tk, fr, to, gp, fi, fo, lv⟩, ix, st⟩, i⟩ a' X hL ⟨⟨j1, j2, j3⟩, bp, hbp, hBq, rfl⟩ hpre
    have hmem := hpre.subset (List.mem_append_right pre (List.mem_singleton.2 rfl))
    obtain ⟨hqR, hi0, hi1⟩ := HSN.out _ hmem
    obtain ⟨ho, hf, mm, hmm, htk, hto, hn4, hnx, hxs⟩ := HSD.out _ hqR
    simp only [Pl.len] at hi0 hi1 htk hto hBq
    obtain rfl : tk = (mm : Int) := htk
    have hTX := HT.out.bel (hWB.trans j2) HAT.out HAX.out
    have hXs : w.heap.size ≤ X.heap.size := (hWB.trans j2).size
    obtain ⟨ad, hA, hbl, y0, y1, hRS⟩ := hTX.at_ hmm
    have hfr : 0 ≤ fr := ho.1
    obtain ⟨j, hj⟩ : ∃ j : Nat, fr + i = (j : Int) := ⟨(fr + i).toNat, by omega⟩
    have hjn : j < l[mm].n := by omega
    obtain ⟨ad2, hA2, hbl2, y2, y3⟩ := hRS.at_ (k := j) (by omega)
    rw [hA2] at y1
    have hsB := hxs _ (List.getElem_mem (show j < l[mm].xs.length by omega))
    have hmn : mm < m' := by have := HT.out.1; omega
    have hse : sndOf l ((⟨⟨(mm : Int), fr, to, gp, fi, fo, lv⟩, ix, st⟩ : Pl), i) = snd ⟨mm, fr, to, gp, fi, fo, lv⟩ (to - fr) i (l[mm].xs[j]'(by omega)) := by
      simp only [sndOf, Int.toNat_natCast, List.getElem?_eq_getElem hmm, hj, List.getElem?_eq_getElem (show j < l[mm].xs.length by omega), Pl.len]
    obtain rfl := hA
    have SS := Lib.hid (sound_any ad ad2 m' c' mm l[mm] _ fr to gp fi fo lv ix st i j X.drew (by show ad.block < X.heap.size; omega) (by show ad2.block < X.heap.size; omega) hmn y1 y2 y3 hj hjn hn4 hsB.1 hsB.2 ho hf hi0 hi1)
    have hpm := hpre.map (sndOf l)
    rw [List.map_append, List.map_singleton, hse] at hpm
    have HSE : Hid ((pre ++ [((⟨⟨(mm : Int), fr, to, gp, fi, fo, lv⟩, ix, st⟩ : Pl), i)]).map (sndOf l) = pre.map (sndOf l) ++ [snd ⟨mm, fr, to, gp, fi, fo, lv⟩ (to - fr) i (l[mm].xs[j]'(by omega))]) := Lib.hid (by rw [List.map_append, List.map_singleton, hse])
    obtain ⟨sv, hsv⟩ : ∃ sv, snd ⟨mm, fr, to, gp, fi, fo, lv⟩ (to - fr) i (l[mm].xs[j]'(by omega)) = sv := ⟨_, rfl⟩
    rw [hsv] at SS HSE hpm
    have HPM := Lib.hid hpm
    have c4 := j3.one.1
    have hbs : W.heap.size < X.heap.size := j3.lt
    have g0 := (hBq.cell 0).trans rfl
    have g1 := (hBq.cell 1).trans rfl
    have g2 := (hBq.cell 2).trans rfl
    have g3 := (hBq.cell 3).trans rfl
    have g4 := (hBq.cell 4).trans rfl
    have g5 := (hBq.cell 5).trans rfl
    have g6 := (hBq.cell 6).trans rfl
    have g7 := (hBq.cell 7).trans rfl
    have g8 := (hBq.cell 8).trans rfl
    have cl' := j2.cell cl ngl
    have HJ1 := Lib.hid j1
    have HJ2 := Lib.hid j2
    have HJ3 := Lib.hid j3
    have HHJ := HJ
    have hmx : Try.prog.follows .mixedOrders = true := by kernel_rfl
    have f89 : Fence.wide.fn 50 := trivial
    have hdp : 1 ≤ n - 1 - 1 := by omega
    have hdp2 : 1 ≤ n - 1 - 1 - 1 := by omega
    clear hsv hse hpm hmem hqR hTX hRS y0 y1 y2 y3 hsB hmn hj hjn hA2 hbl hbl2 ho hf hn4 hnx hxs hto hi0 hi1 hpre j1 j2 j3 hBq cq ct cl hfr hXs
    gi_wp2
    gi_region_with_o (first | (gi_at_call 50; refine (CallsIn.inRound L (callsIn_wide.2 SS.out)).mono ?_; rintro e w1 ⟨rfl, hb1⟩; have d4 := (hb1.cell (p := ⟨W.heap.size, 0, none⟩) hbs).trans c4; have HBL := Lib.hid (Bel.of_below (S := (· = gg)) (((Below.refl X.heap.size X).drew).trans hb1)); have HKF := Lib.hid (KeepsFrom.of_grownBy (B := W3.heap.size) (grown_of_below (((Below.refl X.heap.size X).drew).trans hb1)) (by simp)); have HJ5 := Lib.hid (HHJ.out _ _ _ none HJ1.out (grown_of_below (((Below.refl X.heap.size X).drew).trans hb1)) (by simp)); have HB5 := Lib.hid (HJ3.out.drew.below hb1 hbs); clear hb1; obtain ⟨fn, tm, as_, bo, hy, hR⟩ := yield_wide (m' := n - 1 - 1 - 1) (L := L) (HY.out _ sv _ HJ5.out HPM.out); dsimp only [encS] at hy) | (refine hR.mono ?_; rintro e w2 ⟨rfl, hj2, hb2, hk2⟩; have HJ6 := Lib.hid hj2; have HBL2 := Lib.hid (HBL.out.trans hb2); have HK6 := Lib.hid hk2; have HB6 := Lib.hid hb2; clear hj2 hb2 hk2))
    all_goals gi_wp2
    all_goals exact ⟨(HKF.out).trans ⟨HK6.out.size, fun k o hk => HK6.out.same k o (by omega)⟩, HBL2.out, by rw [HSE.out]; exact HJ6.out, HJ2.out.trans HBL2.out, HB5.out.bel HB6.out (by omega)⟩
  case done =>
    rintro D X hD ⟨i1, _, _⟩ hK
    gi_wp2
    refine ⟨by simp, .inl ⟨_, _, rfl, run_takeDeferred hK, ?_⟩⟩
    refine ⟨.tuple #[], by simp [results, go_sem], ⟨_, rfl⟩, ?_⟩
    exact HJ.out _ X _ (some D) i1 (grownBy_putObj' _ D (.deferred none)) (fun r e => by cases e; exact ⟨by omega, _, hK, rfl⟩)
end Go.Proofs.Ytbcahkklhdnboaa
