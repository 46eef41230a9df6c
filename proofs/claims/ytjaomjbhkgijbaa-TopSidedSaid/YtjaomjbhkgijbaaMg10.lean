/-
  Contract of Render.
-/
import Derived.Test.YtjaomjbhkgijbaaMg9

namespace Go.Proofs.Ytjaomjbhkgijbaa
open Go.RowKit Go.Shelf
attribute [local go_sem] Oper.semAt_some

set_option maxRecDepth 100000 in
set_option maxHeartbeats 60000000 in
theorem Render_loop (B : Nat) (A A' : Option Addr) (n c n' c' : Nat) (l : List TV) (ps : List Prt) (w : World) (h0 : RT w B A n l) (g0 : RP w B A' n' ps) (hB : B ≤ w.heap.size)
    (hl : n ≤ 9223372036854775807) (hl' : n' ≤ 9223372036854775807) (hs : TSm l) (hc : ckP l ps = 0) :
    Calls Try.prog 72 #[.slice A n c, .slice A' n' c'] w (RnPost w (if vss (rend l (placeL ps 0 0)) = true then 0 else 4) (if vss (rend l (placeL ps 0 0)) = true then rend l (placeL ps 0 0) else [])) := by
  have H := Lib.hid (h0.more hB)
  have G := Lib.hid (g0.more hB)
  have HS := Lib.hid hs
  have HC := Lib.hid hc
  obtain ⟨z1, z2, z3, z4⟩ := ckP_zero l ps hc
  have HPR : Hid (∀ p ∈ ps, PrOk p) := Lib.hid (fun p hp => prOk_of l z1 p (List.all_eq_true.1 z3 p hp))
  have HOK : Hid (∀ q ∈ placeL ps 0 0, PlOk q) := Lib.hid (placeL_ok ps HPR.out 0 0 (by omega) (by omega))
  have HSD : Hid (∀ q ∈ placeL ps 0 0, SdOk l q) := Lib.hid (sdOk_of l w _ n A h0 ps z1 z3)
  have H32 := Lib.hid z2
  have HPOS := Lib.hid (ckT_pos l z1)
  have HRL : Hid ((placeL ps 0 0).length ≤ 32) := Lib.hid (by rw [placeL_length]; exact z2)
  obtain ⟨N, hN⟩ : ∃ N : Nat, lenP (placeL ps 0 0) = (N : Int) := ⟨(lenP (placeL ps 0 0)).toNat, by have := (lenP_bd _ z4 HOK.out).1; omega⟩
  have hN4 : N ≤ 4096 := by have := (lenP_bd _ z4 HOK.out).2; omega
  have HN := Lib.hid hN
  clear h0 g0 hs hc z1 z2 z3 z4 hN
  obtain ⟨R, hR⟩ : ∃ R, placeL ps 0 0 = R := ⟨_, rfl⟩
  rw [hR] at HOK HSD HN HRL ⊢
  have HR := Lib.hid hR
  clear hR
  obtain ⟨er, her⟩ : ∃ er : Int, (if vss (rend l R) = true then 0 else 4) = er := ⟨_, rfl⟩
  obtain ⟨xs, hxs⟩ : ∃ xs : List Smp, (if vss (rend l R) = true then rend l R else []) = xs := ⟨_, rfl⟩
  rw [her, hxs]
  have HER := Lib.hid her
  have HXS := Lib.hid hxs
  clear her hxs
  obtain ⟨i0, hi0, hz0, hz1, hz2⟩ := info_parts info_smp
  have hmk := fun W => run_make_rowN (P := Try.prog) 55 75 i0 _ Try.underlying55 hi0 hz0 .i64 .i64 0 N (Nat.zero_le _) (by rw [hz2]; omega) (by omega) W
  rw [hz1] at hmk
  simp only [Int.natCast_zero] at hmk
  have HI0 := Lib.hid hi0
  have HZ0 := Lib.hid hz0
  have HZ1 := Lib.hid hz1
  have HZ2 := Lib.hid hz2
  clear hi0 hz0 hz1 hz2
  refine (callsIn_wide (n := 12)).1 ?_
  refine callsIn_of_wp_marks Try.func72 rfl trivial ?_ rfl
  simp only [Try.ntmps72, List.size_toArray, List.length_cons, List.length_nil, Nat.reduceAdd, Nat.reduceSub, Array.replicate_succ, Array.replicate_zero, List.push_toArray, List.append_toArray, List.nil_append, List.cons_append]
  gi_wp2_with fail
  refine ⟨trivial, (callsIn_wide.2 (CheckProgramme_any _ _ _ _ _ _ _ l ps _ H.out G.out (Nat.le_refl _) hl hl' HS.out)).mono ?_⟩
  rintro e w1 ⟨rfl, hb1⟩
  rw [HC.out]
  gi_wp2_with fail
  refine ⟨trivial, (callsIn_wide.2 (place_any _ _ _ _ ps _ (G.out.below hb1 (Nat.le_refl _)) hb1.size H32.out HPR.out)).mono ?_⟩
  rintro e w2 ⟨A2, c2, rfl, hq, hb2⟩
  rw [HR.out] at hq ⊢
  have HQ := Lib.hid hq
  have HBW : Hid (Below w.heap.size w w2) := Lib.hid (hb1.trans (hb2.mono hb1.size))
  clear hq hb1 hb2
  gi_wp2_with fail
  refine ⟨trivial, (callsIn_wide.2 (length_any _ _ _ _ R _ HQ.out (Nat.le_refl _) HRL.out HOK.out)).mono ?_⟩
  rintro e w3 ⟨rfl, hb3⟩
  rw [HN.out]
  have HQ3 := Lib.hid ((HQ.out.below hb3 (Nat.le_refl _)).more hb3.size)
  clear HQ
  have HBW := Lib.hid (HBW.out.trans (hb3.mono HBW.out.size))
  clear hb3
  gi_wp2_with fail
  refine ⟨trivial, (callsIn_wide.2 (length_any _ _ _ _ R _ (HQ3.out.below (((Below.refl _ _).alloc (Nat.le_refl _) _) : Below w3.heap.size w3 _) (Nat.le_refl _)) (by simp) HRL.out HOK.out)).mono ?_⟩
  rintro e w4 ⟨rfl, hb4⟩
  rw [HN.out]
  gi_wp2_with fail
  have HB4 : Hid (Below w3.heap.size w3 w4) := Lib.hid (((Below.refl _ _).alloc (Nat.le_refl _) _).trans (hb4.mono (by simp)))
  have HO4 := Lib.hid (own_below (World.ownsRow_made (base := w3.heap.size) (e := 75) (size := 2) w3 (madeCells (Value.agg #[Value.int IntKind.i64 0, Value.int IntKind.i64 0]).cells (N * 2)) N (Nat.le_refl _) (by unfold maxLen; omega) (by rw [size_madeCells])) hb4)
  clear hb4 hmk
  refine wpIn_loop (fun a wr => ∃ (k : Nat) (v : Value) (ds : List Nat) (u9 u10 u11 u26 u27 u28 u29 u30 u31 u32 u33 u34 u35 u36 u37 u38 u39 u40 : Value), a = { tmps := #[.slice A n c, .slice A' n' c', undef, undef, .slice none 0 0, .int .i64 0, .int .i64 0, .slice A2 R.length c2, v, u9, u10, u11, .slice A n c, .slice A' n' c', .int .i64 0, .int .i64 0, .bool false, undef, .slice A' n' c', .slice A2 R.length c2, .slice A2 R.length c2, .int .i64 N, .slice (some ⟨w3.heap.size, 0, none⟩) 0 N, .slice A2 R.length c2, .int .i64 N, .int .i64 k, u26, u27, u28, u29, u30, u31, u32, u33, u34, u35, u36, u37, u38, u39, u40, undef, undef, undef, undef], defers := Marks ds } ∧ k ≤ N ∧ wr.ownsRow w3.heap.size 75 2 v k (smpCells ((List.range k).map (rendAt l R))) ∧ Below w3.heap.size w3 wr ∧ ds.Nodup ∧ ∀ D ∈ ds, w3.heap.size ≤ D ∧ wr.heap[D]? = some (.deferred (some []))) (fun a _ => N - (intOf (a.tmps.getD 25 undef)).toNat) ?start ?round
  case start =>
    exact ⟨0, _, [], _, _, _, _, _, _, _, _, _, _, _, _, _, _, _, _, _, _, rfl, Nat.zero_le _, HO4.out, HB4.out, by simp, by simp⟩
  case round =>
    rintro a wr ⟨k, v, ds, u9, u10, u11, u26, u27, u28, u29, u30, u31, u32, u33, u34, u35, u36, u37, u38, u39, u40, rfl, hk, hown, hb, hnd, hds⟩
    have HO := Lib.hid hown
    have HB := Lib.hid hb
    have HND := Lib.hid hnd
    have HDS := Lib.hid hds
    have z3 := hb.size
    clear hown hb hnd hds
    by_cases hlt : k < N
    · gi_wp2_with fail
      refine ⟨trivial, (callsIn_wide.2 (sounds_any _ _ _ _ _ _ _ _)).mono ?_⟩
      rintro e w5 ⟨rfl, rfl⟩
      gi_wp2_with fail
      obtain ⟨W1, hW1⟩ : ∃ W1, ((((wr.alloc (.cells #[.int .i64 0, .int .i64 0] 75)).alloc (.cells #[.slice A n c] 22)).alloc (.cells #[.slice A2 R.length c2] 114)).alloc (.cells #[.int .i64 k] 3)) = W1 := ⟨_, rfl⟩
      have b0 : Blk W1 wr.heap.size 75 #[.int .i64 0, .int .i64 0] := by rw [← hW1]; exact (((Blk.new _ _ _).alloc _).alloc _).alloc _
      have b1 : Blk W1 (wr.heap.size + 1) 22 #[.slice A n c] := by
        rw [← hW1]; have := ((Blk.new (wr.alloc (.cells #[.int .i64 0, .int .i64 0] 75)) 22 #[.slice A n c]).alloc (.cells #[.slice A2 R.length c2] 114)).alloc (.cells #[.int .i64 k] 3); rwa [World.size_alloc] at this
      have b2 : Blk W1 (wr.heap.size + 1 + 1) 114 #[.slice A2 R.length c2] := by
        rw [← hW1]; have := (Blk.new ((wr.alloc (.cells #[.int .i64 0, .int .i64 0] 75)).alloc (.cells #[.slice A n c] 22)) 114 #[.slice A2 R.length c2]).alloc (.cells #[.int .i64 k] 3); rwa [World.size_alloc, World.size_alloc] at this
      have b3 : Blk W1 (wr.heap.size + 1 + 1 + 1) 3 #[.int .i64 k] := by
        rw [← hW1]; have := Blk.new (((wr.alloc (.cells #[.int .i64 0, .int .i64 0] 75)).alloc (.cells #[.slice A n c] 22)).alloc (.cells #[.slice A2 R.length c2] 114)) 3 #[.int .i64 k]; rwa [World.size_alloc, World.size_alloc, World.size_alloc] at this
      have hB5 : Below wr.heap.size wr W1 := by rw [← hW1]; exact ((((Below.refl _ _).alloc (Nat.le_refl _) _).alloc (by simp) _).alloc (by simp; omega) _).alloc (by simp; omega) _
      have hs5 : W1.heap.size = wr.heap.size + 4 := by rw [← hW1]; simp
      rw [hW1]
      clear hW1
      have HB5 := Lib.hid hB5
      have hR5 : RQ W1 w3.heap.size A2 R.length R := (HQ3.out.below HB.out (Nat.le_refl _)).below hB5 (by omega)
      have hT5 : RT W1 w3.heap.size A n l := (((H.out.below (HBW.out.trans (HB.out.mono HBW.out.size)) (Nat.le_refl _)).below hB5 (by have := HBW.out.size; omega))).more (by have := HBW.out.size; omega)
      have hRpos : 0 < R.length := by
        rcases Nat.eq_zero_or_pos R.length with h0 | h0
        · have : lenP R = 0 := by unfold lenP; rw [List.getElem?_eq_none (by omega)]
          have := HN.out; omega
        · exact h0
      have hwr := hB5.size
      have ngA : ∀ ad, A2 = some ad → ad.block ≠ wr.heap.size := by
        intro ad hA
        obtain ⟨ad', e, hlt', _⟩ := hR5.2.2 hRpos
        rw [hA] at e; cases e; omega
      have ngT : ∀ ad, A = some ad → ad.block ≠ wr.heap.size := by
        intro ad hA
        obtain ⟨ad', e, hlt', _⟩ := hT5.2.1.2 (by have := hT5.1; have := HPOS.out.1; omega)
        rw [hA] at e; cases e; omega
      have ngX : ∀ x ∈ l, ∀ ad, x.A = some ad → ad.block ≠ wr.heap.size := by
        intro x hx ad hA
        obtain ⟨ad', e, hlt', _⟩ := (hT5.2.2 x hx).2.2 (HPOS.out.2 x hx)
        rw [hA] at e; cases e; omega
      have hseq := sounds1_all (12 - 1) (wr.heap.size + 1 + 1) (wr.heap.size + 1 + 1 + 1) (wr.heap.size + 1) wr.heap.size w3.heap.size A2 A R.length c2 n c l R k W1 (by omega) b2 b3 b1 hR5 hT5 (by omega) (by omega) (by omega) (by omega) (by omega) ngA ngT ngX HOK.out HSD.out HRL.out (by omega) (by omega)
      clear hR5 hT5 ngA ngT ngX b1 b2 b3 hB5
      refine wpIn_rangeAll rfl (by omega) (gf := 176) (lb := #[.pointer (some ⟨wr.heap.size + 1 + 1, 0, none⟩), .pointer (some ⟨wr.heap.size + 1 + 1 + 1, 0, none⟩), .pointer (some ⟨wr.heap.size + 1, 0, none⟩)]) rfl trivial (enters_of Try.func176 (by kernel_rfl) rfl)
        hseq (Below.refl _ _) (fun _ => rfl) (fun pre X => (Blk X wr.heap.size 75 #[.int .i64 (sumS pre).1, .int .i64 (sumS pre).2] ∧ W1.grownBy X (some wr.heap.size))) ?hI ?h0 (fun pre x a' X => (Blk X wr.heap.size 75 #[.int .i64 (sumS pre).1, .int .i64 (sumS pre).2] ∧ W1.grownBy X (some wr.heap.size)) ∧ ∃ bp, W1.heap.size ≤ bp ∧ Blk X bp 75 #[.int .i64 x.1, .int .i64 x.2] ∧ a' = { tmps := #[.slice A n c, .slice A' n' c', undef, undef, .slice none 0 0, .int .i64 0, .int .i64 0, .slice A2 R.length c2, v, .int .i64 k, .pointer (some ⟨wr.heap.size, 0, none⟩), .pointer (some ⟨bp, 0, none⟩), .slice A n c, .slice A' n' c', .int .i64 0, .int .i64 0, .bool false, undef, .slice A' n' c', .slice A2 R.length c2, .slice A2 R.length c2, .int .i64 N, .slice (some ⟨w3.heap.size, 0, none⟩) 0 N, .slice A2 R.length c2, .int .i64 N, .int .i64 k, .bool true, .int .i64 k, .slice A n c, .slice A2 R.length c2, .int .i64 k, .func (.func 176) #[] #[.pointer (some ⟨wr.heap.size + 1 + 1, 0, none⟩), .pointer (some ⟨wr.heap.size + 1 + 1 + 1, 0, none⟩), .pointer (some ⟨wr.heap.size + 1, 0, none⟩)], .agg #[.int .i64 x.1, .int .i64 x.2], u33, u34, u35, u36, u37, u38, u39, u40, undef, undef, undef, undef], defers := [] }) ?hAx ?assign ?body ?done
      case hI =>
        rintro s X Y row ⟨i1, i2⟩ hgr hr
        exact ⟨blk_kept i1 hgr (fun r e => (hr r e).2), grown_turn i2 hgr (fun r e => (hr r e).1)⟩
      case h0 => exact ⟨b0, grown_refl _ _⟩
      case hAx =>
        rintro pre x a' s X Y row ⟨⟨i1, i2⟩, bp, h1, h2, h3⟩ hgr hr
        exact ⟨⟨blk_kept i1 hgr (fun r e => (hr r e).2), grown_turn i2 hgr (fun r e => (hr r e).1)⟩, bp, h1, blk_kept h2 hgr (fun r e => (hr r e).2), h3⟩
      case assign =>
        rintro l' pre x X K ⟨i1, i2⟩ hK
        gi_wp2
        have hG := World.grownBy_alloc X (.cells #[.int .i64 x.1, .int .i64 x.2] 75) none
        exact hK _ _ hG ⟨⟨i1.alloc _, grown_turn i2 hG (by simp)⟩, X.heap.size, i2.size, Blk.new _ _ _, rfl⟩
      case body =>
        rintro L pre x a' X hL ⟨⟨i1, i2⟩, bp, hbp, hBx, rfl⟩ hpre
        obtain ⟨s0, s1, f0, f1, hgl⟩ := i1.two
        obtain ⟨x0, x1, -, -, -⟩ := hBx.two
        have I1 := Lib.hid i1
        have I2 := Lib.hid i2
        have HSS := Lib.hid (sumS_snoc pre x)
        obtain ⟨sp, hsp⟩ : ∃ sp, sumS pre = sp := ⟨_, rfl⟩
        rw [hsp] at s0 s1 I1 HSS
        clear i1 i2 hBx hsp hpre
        have f93 : Fence.wide.fn 138 := trivial
        gi_wp2_with (gi_at_call 138; refine (CallsIn.inRound L (callsIn_wide.2 (add_any _ _ _ _ _))).mono ?_; rintro e w8 ⟨rfl, hb8⟩; have I3 := Lib.hid (I1.out.below hb8 I1.out.lt); obtain ⟨t0, t1, g0, g1, hgl8⟩ := I3.out.two; have HB8 := Lib.hid hb8; clear hb8)
        refine ⟨?_, ((Bel.of_below (S := (· = wr.heap.size)) HB8.out).setCell (p := ⟨wr.heap.size, 0, none⟩) (.inr rfl) _).setCell (p := ⟨wr.heap.size, 1, none⟩) (.inr rfl) _, ?_, grown_set (grown_set (grown_then_below I2.out HB8.out) _ _) _ _⟩
        · exact ((KeepsFrom.of_grownBy (grown_of_below HB8.out) (by simp)).trans ((KeepsOthers.setCell _ _ _).from _)).trans ((KeepsOthers.setCell _ _ _).from _)
        · rw [HSS.out]
          exact (I3.out.set_ 0 _).set_ 1 _
      case done =>
        rintro D X hD ⟨i1, i2⟩ hK
        have HBX : Hid (Below wr.heap.size wr X) := Lib.hid (HB5.out.trans ⟨i2.os, i2.tape, i2.output, i2.size, fun j hj => i2.block j (by omega) (by simp; omega)⟩)
        have HOX := Lib.hid (own_below HO.out HBX.out)
        have zx := HBX.out.size
        have HKD := Lib.hid hK
        have hDlt : D < X.heap.size := by
          rcases Nat.lt_or_ge D X.heap.size with h | h
          · exact h
          · rw [Array.getElem?_eq_none h] at hK; cases hK
        have HS1 := Lib.hid (rend_snoc l R k)
        have HS2 : Hid (rendAt l R k = sumS ((sndL R k).map (sndOf l))) := Lib.hid rfl
        obtain ⟨s0, s1, f0, f1, hgl⟩ := i1.two
        obtain ⟨sp, hsp⟩ : ∃ sp, sumS ((sndL R k).map (sndOf l)) = sp := ⟨_, rfl⟩
        rw [hsp] at s0 s1 HS2
        clear i1 i2 hK hsp b0 hseq
        gi_wp2_with (gi_at_builtin; refine wpListIn_append_own _ rfl (.tmp 36) (.tmp 38) _ rfl w3.heap.size 75 i0 _ 2 16 Try.underlying55 HI0.out HZ0.out HZ1.out HZ2.out rfl (by omega) _ k (smpCells ((List.range k).map (rendAt l R))) rfl (HOX.out.alloc _) ⟨X.heap.size, 0, none⟩ 1 1 [.int .i64 sp.1, .int .i64 sp.2] rfl rfl (two_new _ _ _ _) ?c1 ?c2 ?c3 ?c4 ?_)
        case c1 => intro u hu; simp at hu; rcases hu with rfl | rfl <;> rfl
        case c2 => unfold maxLen; omega
        case c3 => omega
        case c4 => first | omega | (simp; omega)
        intro v' w7 hown' hgrow _
        have HO' := Lib.hid hown'
        have HG := Lib.hid hgrow
        clear hown' hgrow
        gi_wp2
        refine ⟨⟨k + 1, v', D :: ds, ?_⟩, ?_⟩
        rotate_left
        · simp [intOf]; omega
        iterate 18 apply Exists.intro
        refine ⟨?_, by omega, ?_, ?_, ?_, ?_⟩
        · rw [show ((k + 1 : Nat) : Int) = (k : Int) + 1 from by omega]; rfl
        · rw [HS1.out, smpCells_snoc, HS2.out]; exact HO'.out
        · exact ((HB.out.trans (HBX.out.mono z3)).alloc (by omega) _).grown HG.out (by simp; omega) fun j hj => (HOX.out.lt j hj).1
        · refine List.nodup_cons.2 ⟨fun hm => ?_, HND.out⟩
          have hx := (HDS.out D hm).2
          have : D < wr.heap.size := (Array.getElem?_eq_some_iff.1 hx).1
          omega
        · have hne : ∀ D' : Nat, X.heap[D']? = some (Obj.deferred (some [])) → w7.heap[D']? = some (Obj.deferred (some [])) := by
            intro D' h'
            have hlt' : D' < X.heap.size := (Array.getElem?_eq_some_iff.1 h').1
            refine (HG.out.block D' (by simp; omega) (fun e => ?_)).trans ((Below.heap_alloc _ _ _ hlt').trans h')
            obtain ⟨o, ho, hoc⟩ := own_cells HOX.out e.symm
            rw [h'] at ho; cases ho; cases hoc
          intro D' hm
          rcases List.mem_cons.1 hm with rfl | hm
          · exact ⟨by omega, hne _ HKD.out⟩
          · have hx := HDS.out D' hm
            exact ⟨hx.1, hne _ ((HBX.out.block D' (Array.getElem?_eq_some_iff.1 hx.2).1).trans hx.2)⟩
    · obtain rfl : N = k := by omega
      have hvv : (List.range N).map (rendAt l R) = rend l R := by unfold rend; rw [HN.out]; simp
      rw [hvv] at HO
      have HXL : Hid ((rend l R).length = N) := Lib.hid (by rw [← hvv]; simp)
      obtain ⟨Av, cv, hv0, hrd⟩ := own_reads HO.out
      obtain rfl := hv0
      have HRS : Hid (RS wr wr.heap.size Av N (rend l R)) := Lib.hid ⟨HXL.out.symm, hrd⟩
      clear hvv hrd
      cases hvs : vss (rend l R)
      all_goals
        have HVS := Lib.hid hvs
        clear hvs
        gi_wp2_with fail
        refine ⟨trivial, (callsIn_wide.2 (validSamples_any _ _ _ _ (rend l R) _ HRS.out (Nat.le_refl _) (by omega))).mono ?_⟩
        rintro e w6 ⟨rfl, hb6⟩
        rw [HVS.out]
        have HB6 := Lib.hid hb6
        clear hb6
        gi_wp2_with fail
        have hall : ∀ D ∈ ds, w6.heap[D]? = some (.deferred (some [])) := fun D hD => (HB6.out.block D (Array.getElem?_eq_some_iff.1 (HDS.out D hD).2).1).trans (HDS.out D hD).2
        refine leaves_marks ds w6 HND.out hall (fun W' hs => ?_)
        have hbw : Below w.heap.size w W' := below_shut ((HBW.out.trans (HB.out.mono HBW.out.size)).trans (HB6.out.mono (by have := HBW.out.size; omega))) hs (fun D hD => by have := (HDS.out D hD).1; have := HBW.out.size; omega)
      · have e1 : er = 4 := by rw [← HER.out, HVS.out]; rfl
        have e2 : xs = [] := by rw [← HXS.out, HVS.out]; rfl
        subst e1 e2
        exact ⟨_, results_tmp2 rfl _ _ _, ⟨_, rfl, World.ownsRow_nil _ _ _ _, hbw⟩⟩
      · have e1 : er = 0 := by rw [← HER.out, HVS.out]; rfl
        have e2 : xs = rend l R := by rw [← HXS.out, HVS.out]; rfl
        subst e1 e2
        refine ⟨_, results_tmp2 rfl _ _ _, ⟨_, rfl, ?_, hbw⟩⟩
        rw [HXL.out]
        exact own_base (own_shut (own_below HO.out HB6.out) hs hall) HBW.out.size

def rnEr (l : List TV) (ps : List Prt) : Int := if ckP l ps = 0 then (if vss (rend l (placeL ps 0 0)) = true then 0 else 4) else ckP l ps
def rnRes (l : List TV) (ps : List Prt) : List Smp := if ckP l ps = 0 then (if vss (rend l (placeL ps 0 0)) = true then rend l (placeL ps 0 0) else []) else []

set_option maxHeartbeats 1000000 in
theorem Render_any (B : Nat) (A A' : Option Addr) (n c n' c' : Nat) (l : List TV) (ps : List Prt) (w : World) (h0 : RT w B A n l) (g0 : RP w B A' n' ps) (hB : B ≤ w.heap.size)
    (hl : n ≤ 9223372036854775807) (hl' : n' ≤ 9223372036854775807) (hs : TSm l) :
    Calls Try.prog 72 #[.slice A n c, .slice A' n' c'] w (RnPost w (rnEr l ps) (rnRes l ps)) := by
  unfold rnEr rnRes
  by_cases hc : ckP l ps = 0
  · rw [if_pos hc, if_pos hc]
    exact Render_loop B A A' n c n' c' l ps w h0 g0 hB hl hl' hs hc
  · rw [if_neg hc, if_neg hc]
    have H := Lib.hid (h0.more hB)
    have G := Lib.hid (g0.more hB)
    have HS := Lib.hid hs
    have hc1 : (ckP l ps == 0) = false := by simpa using hc
    have hc2 : (ckP l ps != 0) = true := by simpa using hc
    clear hc h0 g0 hs
    obtain ⟨q, hq⟩ : ∃ q, q = ckP l ps := ⟨_, rfl⟩
    rw [← hq] at hc1 hc2 ⊢
    have HQ := Lib.hid hq
    clear hq
    go_enter Try.func72, Try.ntmps72
    go_wp2_with fail
    refine (CheckProgramme_any _ _ _ _ _ _ _ l ps _ H.out G.out (Nat.le_refl _) hl hl' HS.out).mono ?_
    rintro e w1 ⟨rfl, hb1⟩
    rw [← HQ.out]
    go_wp2
    go_ret2
    exact ⟨_, rfl, World.ownsRow_nil _ _ _ _, hb1⟩
end Go.Proofs.Ytjaomjbhkgijbaa

