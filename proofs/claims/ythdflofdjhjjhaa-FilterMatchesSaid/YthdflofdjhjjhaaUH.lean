/-
  UndoAll and Undo.
-/
import Derived.Test.YthdflofdjhjjhaaUG
namespace Go.Proofs.Ythdflofdjhjjhaa
open Go.RowKit Go.Shelf
attribute [local go_sem] Oper.semAt_some

theorem map_nil_eq {α β : Type} {l : List α} {m : List β} (h : l.length = m.length) : l.map (fun _ => ([] : List (Int × Int))) = m.map fun _ => [] := by
  rw [List.map_const', List.map_const', h]

set_option maxRecDepth 100000 in
set_option maxHeartbeats 8000000 in
theorem UndoAll_ok (B : Nat) (A : Option Addr) (n k : Nat) (l : List CV) (Ax : Option Addr) (nx kx : Nat) (xs : List Int) (w : World) (h0 : RC w B A n l) (hX : LI w B Ax nx xs) (hB : B ≤ w.heap.size) (hl : n ≤ 9223372036854775807) (hlx : nx ≤ 9223372036854775807) (hs : CSm l) (hok : chEr (l.map CV.c) xs = 0) :
    Calls Try.prog 18 #[.slice A n k, .slice Ax nx kx] w (OptPost w.heap.size w (chain false (l.map CV.c) xs)) := by
  have HN := Lib.hid h0.1
  have H := Lib.hid (h0.more hB)
  have HX := Lib.hid (hX.more hB)
  have HNX := Lib.hid hX.1
  have HS := Lib.hid hs
  obtain ⟨⟨hl8, hcs⟩, hx4, hxw⟩ := chEr_ok hok
  have HCS := Lib.hid hcs
  have HXW := Lib.hid hxw
  have hn8 : n ≤ 8 := by have := HN.out; simp at hl8; omega
  have hnx4 : nx ≤ 4096 := by have := HNX.out; omega
  clear h0 hX hB hs hcs hxw hl8 hx4
  have CC := Lib.hid (fun W (hb : Below w.heap.size w W) => checkCurves_any w.heap.size A n k l W (H.out.below hb (Nat.le_refl _)) hb.size hl HS.out)
  have CX := Lib.hid (fun W (hb : Below w.heap.size w W) => checkSignal_any w.heap.size Ax nx kx xs W (HX.out.below hb (Nat.le_refl _)) hb.size hlx)
  obtain ⟨e1, he1⟩ : ∃ e, ckCs (l.map CV.c) = e := ⟨_, rfl⟩
  obtain ⟨e2, he2⟩ : ∃ e, ckX xs = e := ⟨_, rfl⟩
  have HOR := Lib.hid (fun B A n c W h1 h2 h3 h4 => cmpOr_any B A n c [e1, e2] W h1 h2 h3 h4)
  have her : orL [e1, e2] = 0 := by rw [← he1, ← he2]; exact hok
  rw [he1] at CC
  rw [he2] at CX
  rw [her] at HOR
  clear he1 he2 her hok
  obtain ⟨R, hR⟩ : ∃ R, chain false (l.map CV.c) xs = R := ⟨_, rfl⟩
  rw [hR]
  have HR := Lib.hid hR
  clear hR
  obtain ⟨i0, hi0, hz0, hz1, hz2⟩ := info_parts info_step
  have HI0 := Lib.hid hi0
  have HZ0 := Lib.hid hz0
  have HZ1 := Lib.hid hz1
  have HZ2 := Lib.hid hz2
  clear hi0 hz0 hz1 hz2
  refine (callsIn_wide (n := 12)).1 ?_
  refine callsIn_of_wp_marks Try.func18 rfl trivial ?_ rfl
  simp only [Try.ntmps18, List.size_toArray, List.length_cons, List.length_nil, Nat.reduceAdd, Nat.reduceSub, Array.replicate_succ, Array.replicate_zero, List.push_toArray, List.append_toArray, List.nil_append, List.cons_append]
  gi_wp2_with fail
  refine ⟨trivial, (callsIn_wide.2 (CC.out _ (Below.refl _ _))).mono ?_⟩
  rintro e w1 ⟨rfl, hb1⟩
  gi_wp2_with fail
  refine ⟨trivial, (callsIn_wide.2 (CX.out _ hb1)).mono ?_⟩
  rintro e w2 ⟨rfl, hb2⟩
  have HB := Lib.hid (hb1.trans (hb2.mono hb1.size))
  clear hb1 hb2
  gi_wp2_with fail
  refine ⟨trivial, (callsIn_wide.2 (HOR.out _ _ _ _ _ rfl (reads_cells (blk_al rfl) (Nat.lt_succ_self _) (by rfl) (by rfl)) (by simp) (by simp))).mono ?_⟩
  rintro e w' ⟨rfl, rfl⟩
  obtain ⟨W2, hW2⟩ : ∃ W2, w2.alloc (.cells #[.int .i64 e1, .int .i64 e2] 29) = W2 := ⟨_, rfl⟩
  have HB : Hid (Below w.heap.size w W2) := Lib.hid (by rw [← hW2]; exact HB.out.alloc HB.out.size _)
  rw [hW2]
  clear hW2 CC CX HOR
  gi_wp2_with fail
  obtain ⟨W3, hW3⟩ : ∃ W3, W2.alloc (.cells #[.slice none 0 0] 55) = W3 := ⟨_, rfl⟩
  have hb3 : Below W2.heap.size W2 W3 := by rw [← hW3]; exact (Below.refl _ _).alloc (Nat.le_refl _) _
  have HB7 : Hid (Blk W3 W2.heap.size 55 #[.slice none 0 0]) := Lib.hid (by rw [← hW3]; exact Blk.new _ _ _)
  have hsb7 : w.heap.size ≤ W2.heap.size := HB.out.size
  have HB := Lib.hid (HB.out.trans (hb3.mono HB.out.size))
  rw [hW3]
  clear hW3 hb3
  refine ⟨trivial, (callsIn_wide.2 (Backward_any A n k _)).mono ?_⟩
  rintro e W4 ⟨rfl, hW4⟩
  have hb4 : Below W3.heap.size W3 W4 := by rw [← hW4]; exact (Below.refl _ _).alloc (Nat.le_refl _) _
  have HBL : Hid (Blk W4 W3.heap.size 26 #[.slice A n k]) := Lib.hid (by rw [← hW4]; exact Blk.new _ _ _)
  have HB7 := Lib.hid (HB7.out.below hb4 HB7.out.lt)
  have hsbl : w.heap.size ≤ W3.heap.size := HB.out.size
  have HB := Lib.hid (HB.out.trans (hb4.mono HB.out.size))
  clear hW4 hb4
  gi_wp2_with fail
  have hs4 : w.heap.size ≤ W4.heap.size := HB.out.size
  have hfb := HBL.out
  obtain ⟨b7, hb7⟩ : ∃ b, W2.heap.size = b := ⟨_, rfl⟩
  obtain ⟨bl, hbl⟩ : ∃ b, W3.heap.size = b := ⟨_, rfl⟩
  rw [hb7] at HB7 hsb7 ⊢
  rw [hbl] at hfb hsbl ⊢
  clear hb7 hbl HBL
  refine wpIn_rangeAll rfl (by omega) (gf := 53) (lb := #[.pointer (some ⟨bl, 0, none⟩)]) rfl trivial (enters_of Try.func53 (by kernel_rfl) rfl)
    (backward1_all (12 - 1) bl w.heap.size A n k l (fun q => w.heap.size ≤ q ∧ q ≠ bl) W4 (by omega) hfb (fun h => h.2 rfl) (H.out.below HB.out (Nat.le_refl _)) (fun b hb h => by omega) hs4 (by omega)) (Below.refl _ _) (fun _ => rfl)
    (fun pre X => UndI w b7 pre X ∧ Blk X bl 26 #[.slice A n k]) ?hI ?h0
    (fun pre x a' X => (UndI w b7 pre X ∧ Blk X bl 26 #[.slice A n k]) ∧ ∃ bp, Blk X bp 24 #[.slice x.2.Af x.2.nf x.2.kf, .slice x.2.Ab x.2.nb x.2.kb, .int .i64 x.2.c.share] ∧ a' = { tmps := #[.slice A n k, .slice Ax nx kx, undef, undef, .slice none 0 0, .int .i64 0, .int .i64 0, .pointer (some ⟨b7, 0, none⟩), undef, .pointer (some ⟨bp, 0, none⟩), .slice A n k, .int .i64 e1, .slice Ax nx kx, .int .i64 e2, .slice (some ⟨w2.heap.size, 0, none⟩) 2 2, .int .i64 0, .int .i64 0, .bool false, undef, .slice A n k, .func (.func 53) #[] #[.pointer (some ⟨bl, 0, none⟩)], .int .i64 x.1, .agg #[.slice x.2.Af x.2.nf x.2.kf, .slice x.2.Ab x.2.nb x.2.kb, .int .i64 x.2.c.share], undef, undef, undef, undef, undef, undef, undef, undef, undef, undef], defers := [] }) ?hAx ?assign ?body ?done
  case hI =>
    rintro s X Y row ⟨i1, i2⟩ hgr hr
    exact ⟨i1.kept hgr (fun r e => ⟨Nat.le_trans hs4 (hr r e).1, (hr r e).2⟩), blk_keptR i2 hgr (fun r e => (hr r e).2)⟩
  case h0 => exact ⟨⟨_, [], HB7.out, rfl, rfl, World.ownsRow_nil _ _ _ _, Lives.nil_, HB.out, hsb7⟩, hfb⟩
  case hAx =>
    rintro pre x a' s X Y row ⟨⟨i1, i2⟩, bp, h1, h2⟩ hgr hr
    exact ⟨⟨i1.kept hgr (fun r e => ⟨Nat.le_trans hs4 (hr r e).1, (hr r e).2⟩), blk_keptR i2 hgr (fun r e => (hr r e).2)⟩, bp, blk_keptR h1 hgr (fun r e => (hr r e).2), h2⟩
  case assign =>
    rintro l' pre x X K ⟨i1, i2⟩ hK
    gi_wp2
    have hG := World.grownBy_alloc X (.cells #[.slice x.2.Af x.2.nf x.2.kf, .slice x.2.Ab x.2.nb x.2.kb, .int .i64 x.2.c.share] 24) none
    exact hK _ _ hG ⟨⟨i1.kept hG (by simp), i2.alloc _⟩, X.heap.size, Blk.new _ _ _, rfl⟩
  case body =>
    rintro L pre x a' X hL ⟨⟨⟨sv, rs, i1, i2, i3, i4, i5, i6, i7⟩, ib⟩, bp, hBx, rfl⟩ hpre
    have hxm : x ∈ bkw l := hpre.subset (by simp)
    have hxl := bkw_mem hxm
    have hpl : pre.length < n := by have h := hpre.length_le; rw [bkw_len] at h; simp at h; have := HN.out; omega
    have hci : CI X w.heap.size x.2 := (H.out.2.2 _ hxl).below i6 (Nat.le_refl _)
    have hco : CurOk x.2.c := HCS.out _ (List.mem_map.2 ⟨_, hxl, rfl⟩)
    have HFIN := Lib.hid (fun gd g w8 w9 v' r1 r2 hb8 hd8 hs8 hown hgrow => UndI.go (gd := gd) (g := g) (w8 := w8) (w9 := w9) (v' := v') i1 i2 i3 i4 i5 i6 i7 ib hci hco r1 r2 hb8 hd8 hs8 hown hgrow)
    have HB79 := Lib.hid (fun (u : Value) w8 w9 hb8 hgrow => b7_after (w8 := w8) (w9 := w9) (u := u) i1 i4 hb8 hgrow)
    have HI4 := Lib.hid i4
    have HI1 := Lib.hid i1
    have HBX := Lib.hid i6
    have HON : Hid (∀ (s : SR), ∀ u ∈ [SR.val false s], u.oneCell' = true) := Lib.hid (fun s u hu => by rw [List.mem_singleton.1 hu]; rfl)
    have hc7 : X.cell? ⟨b7, 0, none⟩ = some sv := i1.one.1
    obtain ⟨d0, d1, d2⟩ := hBx.three_
    have hp8 : pre.length ≤ 8 := by omega
    clear hci hco i1 i2 i3 i4 i5 i6 i7 ib hBx hxm hxl hpre hpl
    refine wpIn_block ?_
    refine wpIn_region_round (by kernel_rfl) (by simp) (by rintro ⟨a, w, h⟩; exact h) ?_
    dsimp only
    change wpAny _ _ _ _ 6 (Array.replicate 6 false) _ _
    refine wpAny_ready (rs := [0, 1]) (by kernel_rfl) (by simp) ?_
    refine AllReady.cons rfl (fun K' hK => ?_) (AllReady.cons rfl (fun K' hK => ?_) (AllReady.nil))
    · go_simp
      refine hK _ _ ?_
      clear hK K'
      refine wpAny_ready (rs := [1]) (by kernel_rfl) (by simp) ?_
      refine AllReady.cons rfl (fun K' hK => ?_) (AllReady.nil)
      · go_simp
        refine hK _ _ ?_
        clear hK K'
        refine wpAny_ready (rs := [2]) (by kernel_rfl) (by simp) ?_
        refine AllReady.cons rfl (fun K' hK => ?_) (AllReady.nil)
        · go_simp
          refine (run_back_any x.2.Af x.2.Ab x.2.nf x.2.kf x.2.nb x.2.kb x.2.c.share _).mono ?_
          rintro e w8 ⟨gd, g, rfl, r1, r2, r3, hb8, hd8, hs8⟩
          have hb8 := Below.of_drew hb8
          have c7 : w8.cell? ⟨b7, 0, none⟩ = some sv := (hb8.cell (p := ⟨b7, 0, none⟩) HI1.out.lt).trans hc7
          have hlt7 : b7 < w8.heap.size := Nat.lt_of_lt_of_le HI1.out.lt hb8.size
          have hz8 : X.heap.size ≤ w8.heap.size := hb8.size
          refine hK _ _ ?_
          clear hK K'
          refine wpAny_ready (rs := [3]) (by kernel_rfl) (by simp) ?_
          refine AllReady.cons rfl (fun K' hK => ?_) (AllReady.nil)
          · go_simp
            refine hK _ _ ?_
            clear hK K'
            refine wpAny_ready (rs := [4]) (by kernel_rfl) (by simp) ?_
            refine AllReady.cons rfl (fun K' hK => ?_) (AllReady.nil)
            · refine step_append_any _ rfl (.tmp 23) (.tmp 26) 55 rfl w.heap.size 57 i0 _ 1 8 Try.underlying55 HI0.out HZ0.out HZ1.out HZ2.out rfl (by omega) sv pre.length _ rfl ((own_below HI4.out hb8).alloc _) (w8.heap.size + 1) (some ⟨w8.heap.size, 0, none⟩) 1 1 [SR.val false (⟨gd, g, x.2.Af, x.2.Ab, x.2.nf, x.2.kf, x.2.nb, x.2.kb, x.2.c⟩ : SR)] rfl ⟨rfl, fun _ => ⟨_, rfl, Nat.lt_succ_self _, nine_new w8 _ _⟩⟩ (HON.out _) (by unfold maxLen; omega) (by omega) (by have := HBX.out.size; simp; omega) ?_
              intro v' w9 hown' hgrow hblk
              obtain ⟨A9, c9, rfl, -⟩ := own_reads hown'
              obtain ⟨n7, f7⟩ := HB79.out _ w8 w9 hb8 hgrow
              refine hK _ _ ?_
              clear hK K'
              refine wpAny_ready (rs := [5]) (by kernel_rfl) (by simp) ?_
              refine AllReady.cons rfl (fun K' hK => ?_) (AllReady.nil)
              · go_simp
                refine hK _ _ ?_
                clear hK K'
                refine wpAny_done (by kernel_rfl) ?_ _
                obtain ⟨f1, f2, f3, f4⟩ := HFIN.out gd g w8 w9 _ r1 r2 hb8 hd8 hs8 hown' hgrow
                exact ⟨f1 _, f2, f4, f3⟩
    · go_simp
      refine hK _ _ ?_
      clear hK K'
      refine wpAny_ready (rs := [0, 2]) (by kernel_rfl) (by simp) ?_
      refine AllReady.cons rfl (fun K' hK => ?_) (AllReady.cons rfl (fun K' hK => ?_) (AllReady.nil))
      · go_simp
        refine hK _ _ ?_
        clear hK K'
        refine wpAny_ready (rs := [2]) (by kernel_rfl) (by simp) ?_
        refine AllReady.cons rfl (fun K' hK => ?_) (AllReady.nil)
        · go_simp
          refine (run_back_any x.2.Af x.2.Ab x.2.nf x.2.kf x.2.nb x.2.kb x.2.c.share _).mono ?_
          rintro e w8 ⟨gd, g, rfl, r1, r2, r3, hb8, hd8, hs8⟩
          have hb8 := Below.of_drew hb8
          have c7 : w8.cell? ⟨b7, 0, none⟩ = some sv := (hb8.cell (p := ⟨b7, 0, none⟩) HI1.out.lt).trans hc7
          have hlt7 : b7 < w8.heap.size := Nat.lt_of_lt_of_le HI1.out.lt hb8.size
          have hz8 : X.heap.size ≤ w8.heap.size := hb8.size
          refine hK _ _ ?_
          clear hK K'
          refine wpAny_ready (rs := [3]) (by kernel_rfl) (by simp) ?_
          refine AllReady.cons rfl (fun K' hK => ?_) (AllReady.nil)
          · go_simp
            refine hK _ _ ?_
            clear hK K'
            refine wpAny_ready (rs := [4]) (by kernel_rfl) (by simp) ?_
            refine AllReady.cons rfl (fun K' hK => ?_) (AllReady.nil)
            · refine step_append_any _ rfl (.tmp 23) (.tmp 26) 55 rfl w.heap.size 57 i0 _ 1 8 Try.underlying55 HI0.out HZ0.out HZ1.out HZ2.out rfl (by omega) sv pre.length _ rfl ((own_below HI4.out hb8).alloc _) (w8.heap.size + 1) (some ⟨w8.heap.size, 0, none⟩) 1 1 [SR.val false (⟨gd, g, x.2.Af, x.2.Ab, x.2.nf, x.2.kf, x.2.nb, x.2.kb, x.2.c⟩ : SR)] rfl ⟨rfl, fun _ => ⟨_, rfl, Nat.lt_succ_self _, nine_new w8 _ _⟩⟩ (HON.out _) (by unfold maxLen; omega) (by omega) (by have := HBX.out.size; simp; omega) ?_
              intro v' w9 hown' hgrow hblk
              obtain ⟨A9, c9, rfl, -⟩ := own_reads hown'
              obtain ⟨n7, f7⟩ := HB79.out _ w8 w9 hb8 hgrow
              refine hK _ _ ?_
              clear hK K'
              refine wpAny_ready (rs := [5]) (by kernel_rfl) (by simp) ?_
              refine AllReady.cons rfl (fun K' hK => ?_) (AllReady.nil)
              · go_simp
                refine hK _ _ ?_
                clear hK K'
                refine wpAny_done (by kernel_rfl) ?_ _
                obtain ⟨f1, f2, f3, f4⟩ := HFIN.out gd g w8 w9 _ r1 r2 hb8 hd8 hs8 hown' hgrow
                exact ⟨f1 _, f2, f4, f3⟩
      · go_simp
        refine (run_back_any x.2.Af x.2.Ab x.2.nf x.2.kf x.2.nb x.2.kb x.2.c.share _).mono ?_
        rintro e w8 ⟨gd, g, rfl, r1, r2, r3, hb8, hd8, hs8⟩
        have hb8 := Below.of_drew hb8
        have c7 : w8.cell? ⟨b7, 0, none⟩ = some sv := (hb8.cell (p := ⟨b7, 0, none⟩) HI1.out.lt).trans hc7
        have hlt7 : b7 < w8.heap.size := Nat.lt_of_lt_of_le HI1.out.lt hb8.size
        have hz8 : X.heap.size ≤ w8.heap.size := hb8.size
        refine hK _ _ ?_
        clear hK K'
        refine wpAny_ready (rs := [0, 3]) (by kernel_rfl) (by simp) ?_
        refine AllReady.cons rfl (fun K' hK => ?_) (AllReady.cons rfl (fun K' hK => ?_) (AllReady.nil))
        · go_simp
          refine hK _ _ ?_
          clear hK K'
          refine wpAny_ready (rs := [3]) (by kernel_rfl) (by simp) ?_
          refine AllReady.cons rfl (fun K' hK => ?_) (AllReady.nil)
          · go_simp
            refine hK _ _ ?_
            clear hK K'
            refine wpAny_ready (rs := [4]) (by kernel_rfl) (by simp) ?_
            refine AllReady.cons rfl (fun K' hK => ?_) (AllReady.nil)
            · refine step_append_any _ rfl (.tmp 23) (.tmp 26) 55 rfl w.heap.size 57 i0 _ 1 8 Try.underlying55 HI0.out HZ0.out HZ1.out HZ2.out rfl (by omega) sv pre.length _ rfl ((own_below HI4.out hb8).alloc _) (w8.heap.size + 1) (some ⟨w8.heap.size, 0, none⟩) 1 1 [SR.val false (⟨gd, g, x.2.Af, x.2.Ab, x.2.nf, x.2.kf, x.2.nb, x.2.kb, x.2.c⟩ : SR)] rfl ⟨rfl, fun _ => ⟨_, rfl, Nat.lt_succ_self _, nine_new w8 _ _⟩⟩ (HON.out _) (by unfold maxLen; omega) (by omega) (by have := HBX.out.size; simp; omega) ?_
              intro v' w9 hown' hgrow hblk
              obtain ⟨A9, c9, rfl, -⟩ := own_reads hown'
              obtain ⟨n7, f7⟩ := HB79.out _ w8 w9 hb8 hgrow
              refine hK _ _ ?_
              clear hK K'
              refine wpAny_ready (rs := [5]) (by kernel_rfl) (by simp) ?_
              refine AllReady.cons rfl (fun K' hK => ?_) (AllReady.nil)
              · go_simp
                refine hK _ _ ?_
                clear hK K'
                refine wpAny_done (by kernel_rfl) ?_ _
                obtain ⟨f1, f2, f3, f4⟩ := HFIN.out gd g w8 w9 _ r1 r2 hb8 hd8 hs8 hown' hgrow
                exact ⟨f1 _, f2, f4, f3⟩
        · go_simp
          refine hK _ _ ?_
          clear hK K'
          refine wpAny_ready (rs := [0]) (by kernel_rfl) (by simp) ?_
          refine AllReady.cons rfl (fun K' hK => ?_) (AllReady.nil)
          · go_simp
            refine hK _ _ ?_
            clear hK K'
            refine wpAny_ready (rs := [4]) (by kernel_rfl) (by simp) ?_
            refine AllReady.cons rfl (fun K' hK => ?_) (AllReady.nil)
            · refine step_append_any _ rfl (.tmp 23) (.tmp 26) 55 rfl w.heap.size 57 i0 _ 1 8 Try.underlying55 HI0.out HZ0.out HZ1.out HZ2.out rfl (by omega) sv pre.length _ rfl ((own_below HI4.out hb8).alloc _) (w8.heap.size + 1) (some ⟨w8.heap.size, 0, none⟩) 1 1 [SR.val false (⟨gd, g, x.2.Af, x.2.Ab, x.2.nf, x.2.kf, x.2.nb, x.2.kb, x.2.c⟩ : SR)] rfl ⟨rfl, fun _ => ⟨_, rfl, Nat.lt_succ_self _, nine_new w8 _ _⟩⟩ (HON.out _) (by unfold maxLen; omega) (by omega) (by have := HBX.out.size; simp; omega) ?_
              intro v' w9 hown' hgrow hblk
              obtain ⟨A9, c9, rfl, -⟩ := own_reads hown'
              obtain ⟨n7, f7⟩ := HB79.out _ w8 w9 hb8 hgrow
              refine hK _ _ ?_
              clear hK K'
              refine wpAny_ready (rs := [5]) (by kernel_rfl) (by simp) ?_
              refine AllReady.cons rfl (fun K' hK => ?_) (AllReady.nil)
              · go_simp
                refine hK _ _ ?_
                clear hK K'
                refine wpAny_done (by kernel_rfl) ?_ _
                obtain ⟨f1, f2, f3, f4⟩ := HFIN.out gd g w8 w9 _ r1 r2 hb8 hd8 hs8 hown' hgrow
                exact ⟨f1 _, f2, f4, f3⟩
  case done =>
    rintro D X hD ⟨⟨sv, rs, i1, i2, i3, i4, i5, i6, i7⟩, ib⟩ hK
    have hlen : (bkw l).length = n := by rw [bkw_len]; exact HN.out.symm
    rw [hlen] at i4 i2
    obtain ⟨A', c', rfl, -⟩ := own_reads i4
    have hch : thr false 32767 (rs.map SR.c) (rs.map fun _ => []) xs = R := by
      rw [← HR.out]
      unfold chain
      rw [i3, bkw_cs, map_nil_eq (m := l.map CV.c) (by rw [i2, List.length_map]; exact HN.out)]
      rfl
    obtain ⟨E, hE⟩ : ∃ E : Int, (if R = none then 4 else 0) = E := ⟨_, rfl⟩
    have TH := Lib.hid (through_any false w.heap.size w.heap.size A' n c' rs (rs.map fun _ => []) Ax nx kx xs 32767 X i4 i2.symm i5 (HX.out.below i6 (Nat.le_refl _)) i6.size hn8 hnx4 HXW.out (by omega) (by omega))
    rw [hch] at TH
    have TH2 : Hid (Calls Try.prog 32 #[.slice A' n c', .slice Ax nx kx, .int .i64 32767] X (fun e w' => OutPost w.heap.size X (R.getD []) E e w' ∧ KeepsOthers X w')) := Lib.hid (by rw [← hE]; exact TH.out)
    have hc7 : X.cell? ⟨b7, 0, none⟩ = some (.slice A' n c') := i1.one.1
    have HKX := Lib.hid hK
    have HDX := Lib.hid hD
    have HBX := Lib.hid i6
    have HEE := Lib.hid hE
    clear i1 i2 i3 i4 i5 i6 i7 ib hK hD hch hE TH hlen
    gi_wp2_with fail
    refine ⟨trivial, (callsIn_wide.2 TH2.out).mono ?_⟩
    rintro e w5 ⟨⟨v, rfl, ho5, hb5⟩, hko⟩
    have HK5 : Hid (w5.heap[D]? = some (.deferred (some []))) := Lib.hid (hko.same D _ HKX.out rfl)
    have HO5 := Lib.hid ho5
    have HB5 := Lib.hid (HBX.out.trans hb5)
    clear ho5 hb5 hko hc7
    gi_wp2
    have hgp := grownBy_putObj' w5 D (.deferred none)
    have hkp : ∀ r', some D = some r' → ∃ o : Obj, w5.heap[r']? = some o ∧ o.isCells = false := fun r' e => by cases e; exact ⟨_, HK5.out, rfl⟩
    refine ⟨by simp, .inl ⟨_, _, rfl, run_takeDeferred HK5.out, ?_⟩⟩
    refine ⟨_, results_tmp2 rfl _ _ _, ?_⟩
    unfold OptPost
    rw [HEE.out]
    exact ⟨_, rfl, own_keptR HO5.out hgp hkp, HB5.out.grown hgp HB5.out.size (fun q e => by cases e; have := HDX.out; omega)⟩

set_option maxRecDepth 100000 in
set_option maxHeartbeats 1000000 in
theorem UndoAll_any (B : Nat) (A : Option Addr) (n k : Nat) (l : List CV) (Ax : Option Addr) (nx kx : Nat) (xs : List Int) (w : World) (h0 : RC w B A n l) (hX : LI w B Ax nx xs) (hB : B ≤ w.heap.size) (hl : n ≤ 9223372036854775807) (hlx : nx ≤ 9223372036854775807) (hs : CSm l) :
    Calls Try.prog 18 #[.slice A n k, .slice Ax nx kx] w (OutPost w.heap.size w (chRes false (l.map CV.c) xs) (chErr false (l.map CV.c) xs)) := by
  by_cases hok : chEr (l.map CV.c) xs = 0
  · have h := UndoAll_ok B A n k l Ax nx kx xs w h0 hX hB hl hlx hs hok
    unfold chRes chErr
    rw [if_pos hok, if_pos hok]
    exact h
  · unfold chRes chErr
    rw [if_neg hok, if_neg hok]
    have H := Lib.hid (h0.more hB)
    have HX := Lib.hid (hX.more hB)
    have HS := Lib.hid hs
    clear h0 hX hB hs
    have CC := Lib.hid (fun W (hb : Below w.heap.size w W) => checkCurves_any w.heap.size A n k l W (H.out.below hb (Nat.le_refl _)) hb.size hl HS.out)
    have CX := Lib.hid (fun W (hb : Below w.heap.size w W) => checkSignal_any w.heap.size Ax nx kx xs W (HX.out.below hb (Nat.le_refl _)) hb.size hlx)
    obtain ⟨e1, he1⟩ : ∃ e, ckCs (l.map CV.c) = e := ⟨_, rfl⟩
    obtain ⟨e2, he2⟩ : ∃ e, ckX xs = e := ⟨_, rfl⟩
    have HOR := Lib.hid (fun B A n c W h1 h2 h3 h4 => cmpOr_any B A n c [e1, e2] W h1 h2 h3 h4)
    have HER : Hid (chEr (l.map CV.c) xs = orL [e1, e2]) := Lib.hid (by unfold chEr; rw [he1, he2])
    rw [he1] at CC
    rw [he2] at CX
    clear he1 he2
    obtain ⟨er, her⟩ : ∃ e, orL [e1, e2] = e := ⟨_, rfl⟩
    rw [her] at HOR HER
    rw [HER.out] at hok ⊢
    clear her
    go_enter Try.func18, Try.ntmps18
    go_wp2_with fail
    refine (CC.out _ (Below.refl _ _)).mono ?_
    rintro e w1 ⟨rfl, hb1⟩
    go_wp2_with fail
    refine (CX.out _ hb1).mono ?_
    rintro e w2 ⟨rfl, hb2⟩
    have HB := Lib.hid (hb1.trans (hb2.mono hb1.size))
    clear hb1 hb2
    go_wp2_with fail
    refine (HOR.out _ _ _ _ _ rfl (reads_cells (blk_al rfl) (Nat.lt_succ_self _) (by rfl) (by rfl)) (by simp) (by simp)).mono ?_
    rintro e w' ⟨rfl, rfl⟩
    go_wp2
    go_ret2
    exact ⟨_, rfl, World.ownsRow_nil _ _ _ _, HB.out.alloc HB.out.size _⟩

set_option maxRecDepth 100000 in
set_option maxHeartbeats 1000000 in
theorem Undo_any (B : Nat) (t : CV) (Ax : Option Addr) (nx kx : Nat) (xs : List Int) (w : World) (hc : CI w B t) (hX : LI w B Ax nx xs) (hB : B ≤ w.heap.size) (hlx : nx ≤ 9223372036854775807) (hs : t.nf ≤ 9223372036854775807 ∧ t.nb ≤ 9223372036854775807) :
    Calls Try.prog 13 #[.agg #[.slice t.Af t.nf t.kf, .slice t.Ab t.nb t.kb, .int .i64 t.c.share], .slice Ax nx kx] w (OutPost w.heap.size w (oneRes false t.c xs) (oneErr false t.c xs)) := by
  have HC := Lib.hid (hc.more hB)
  have HX := Lib.hid (hX.more hB)
  have HS := Lib.hid (show CSm [t] from fun u hu => by rw [List.mem_singleton.1 hu]; exact hs)
  clear hc hX hB hs
  obtain ⟨R, hR⟩ : ∃ R, oneRes false t.c xs = R := ⟨_, rfl⟩
  obtain ⟨E, hE⟩ : ∃ R, oneErr false t.c xs = R := ⟨_, rfl⟩
  rw [hR, hE]
  have HR := Lib.hid hR
  have HE := Lib.hid hE
  clear hR hE
  go_enter Try.func13, Try.ntmps13
  go_upto_region 1 with fail
  obtain ⟨W, hW⟩ : ∃ W, w.alloc (.cells #[.slice t.Af t.nf t.kf, .slice t.Ab t.nb t.kb, .int .i64 t.c.share] 24) = W := ⟨_, rfl⟩
  have hbw : Below w.heap.size w W := by rw [← hW]; exact (Below.refl _ _).alloc (Nat.le_refl _) _
  have hk : Blk W w.heap.size 24 #[.slice t.Af t.nf t.kf, .slice t.Ab t.nb t.kb, .int .i64 t.c.share] := by rw [← hW]; exact Blk.new _ _ _
  rw [hW]
  clear hW
  have HBW := Lib.hid hbw
  obtain ⟨c0, c1, c2⟩ := hk.three_
  clear hk hbw
  go_wp2_with fail
  obtain ⟨V, hV⟩ : ∃ V, W.alloc (.cells #[.slice t.Af t.nf t.kf, .slice t.Ab t.nb t.kb, .int .i64 t.c.share] 24) = V := ⟨_, rfl⟩
  have hbv : Below W.heap.size W V := by rw [← hV]; exact (Below.refl _ _).alloc (Nat.le_refl _) _
  have hk : Blk V W.heap.size 24 #[.slice t.Af t.nf t.kf, .slice t.Ab t.nb t.kb, .int .i64 t.c.share] := by rw [← hV]; exact Blk.new _ _ _
  rw [hV]
  clear hV
  have hbw := HBW.out.trans (hbv.mono HBW.out.size)
  have hlt := hk.lt
  have hsw := HBW.out.size
  have AA := UndoAll_any V.heap.size (some ⟨W.heap.size, 0, none⟩) 1 1 [t] Ax nx kx xs V (rc_one hk hlt ((HC.out.below hbw (Nat.le_refl _)).more hbw.size)) ((HX.out.below hbw (Nat.le_refl _)).more hbw.size) (Nat.le_refl _) (by omega) hlx HS.out
  have AA' : Calls Try.prog 18 #[.slice (some ⟨W.heap.size, 0, none⟩) 1 1, .slice Ax nx kx] V (OutPost V.heap.size V R E) := by rw [← HR.out, ← HE.out]; exact AA
  clear AA
  have AX := Lib.hid AA'
  have HBV := Lib.hid hbw
  clear AA' hbw hbv hk HC HX HS HR HE
  refine AX.out.mono ?_
  rintro e w5 ⟨v, rfl, ho5, hb5⟩
  go_wp2
  go_ret2
  exact ⟨_, rfl, own_base_ ho5 HBV.out.size, HBV.out.trans (hb5.mono HBV.out.size)⟩
end Go.Proofs.Ythdflofdjhjjhaa
