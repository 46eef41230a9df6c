/-
  The walk of TakeSounds where the programme is too loud.
-/
import Derived.Test.YtbcahkklhdnboaaVH
namespace Go.Proofs.Ytbcahkklhdnboaa
open Go.RowKit

set_option maxRecDepth 100000 in
set_option maxHeartbeats 40000000 in
theorem sounds_4 (A A' : Option Addr) (n c n' c' : Nat) (l : List TV) (ps : List Prt) (R : List Pl) (N : Nat) (er : Int) (xs : List Smp) (w : World) (hez : er = 4) (h0 : RT w w.heap.size A n l) (g0 : RP w w.heap.size A' n' ps)
    (hl : n ≤ 9223372036854775807) (hl' : n' ≤ 9223372036854775807) (hs : TSm l) (hi : I64t l) (hc : ckP l ps = 0) (hR : placeL ps 0 0 = R) (hN : lenP R = (N : Int))
    (hx : (vss (rend l R) = true ∧ er = 0 ∧ xs = rend l R) ∨ (vss (rend l R) = false ∧ er = 4 ∧ xs = [])) (hrn : rnEr l ps = er ∧ rnRes l ps = xs) :
    Calls Try.prog 6 #[.slice A n c, .slice A' n' c'] w fun e w' => e = .returned (.bool true) ∧ Below w.heap.size w w' := by
  have H := Lib.hid h0
  have G := Lib.hid g0
  have HS := Lib.hid hs
  have HI := Lib.hid hi
  have HC := Lib.hid hc
  obtain ⟨z1, z2, z3, z4⟩ := ckP_zero l ps hc
  have HPR : Hid (∀ p ∈ ps, PrOk p) := Lib.hid (fun p hp => prOk_of l z1 p (List.all_eq_true.1 z3 p hp))
  have HOK : Hid (∀ q ∈ R, PlOk q) := Lib.hid (hR ▸ placeL_ok ps HPR.out 0 0 (by omega) (by omega))
  have HSD : Hid (∀ q ∈ R, SdOk l q) := Lib.hid (hR ▸ sdOk_of l w _ n A h0 ps z1 z3)
  have HRL : Hid (R.length = n') := Lib.hid (by rw [← hR, placeL_length]; exact g0.1.symm)
  have HPN : Hid (ps.length = n') := Lib.hid g0.1.symm
  have n32 : n' ≤ 32 := by have := g0.1; omega
  have HBD := lenP_bd _ z4 (hR ▸ HOK.out)
  rw [hR] at HBD z4
  have HPC := Lib.hid (poss_pc R z4)
  have N4 : N ≤ 4096 := by omega
  have HIX := Lib.hid (placeL_ix' ps R hR)
  have HTW := Lib.hid (sndL_two ps R hR HPC.out)
  have SA := Lib.hid (fun W (h : RT W W.heap.size A n l) (g : RP W W.heap.size A' n' ps) => starts_any _ A A' n c n' c' l ps W h g (Nat.le_refl _) hl hl' HS.out)
  have RA := Lib.hid (fun W (h : RT W W.heap.size A n l) (g : RP W W.heap.size A' n' ps) => Render_any _ A A' n c n' c' l ps W h g (Nat.le_refl _) hl hl' HS.out)
  have PR := Lib.hid (fun W (h : RT W W.heap.size A n l) (g : RP W W.heap.size A' n' ps) => refCheckProgramme_any _ A A' n c n' c' l ps W h g (Nat.le_refl _) hl hl' HS.out HI.out)
  have OA := Lib.hid (fun (t : Int) W (h : RT W W.heap.size A n l) (g : RP W W.heap.size A' n' ps) => sources_any _ A A' n c n' c' l ps t W h g (Nat.le_refl _) hl hl' HS.out)
  have HGR := Lib.hid (great_any _ A A' n c n' c' l w H.out (Nat.le_refl _) hl hl' HS.out)
  have hsr : stsR l ps = R := by unfold stsR; rw [if_pos hc, hR]
  rw [hc, hsr] at SA
  rw [hc] at PR
  rw [hrn.1, hrn.2] at RA
  have HSO : Hid (∀ t : Int, 0 ≤ t → t < N → soEr l ps t = 0 ∧ soL l ps t = sndL R t) := Lib.hid (fun t h1 h2 => by
    have e1 : soEr l ps t = 0 := by unfold soEr; rw [if_pos hc, if_neg (by omega), hR, hN, if_neg (by omega)]
    exact ⟨e1, by unfold soL; rw [e1, if_pos rfl, hR]⟩)
  have HR := Lib.hid hR
  have HN := Lib.hid hN
  have hx' : (vss (rend l R) = true ∧ er = 0 ∧ xs = rend l R ∧ xs.length = N) ∨ (vss (rend l R) = false ∧ er = 4 ∧ xs = [] ∧ xs.length = 0) := by
    rcases hx with ⟨h1, h2, rfl⟩ | ⟨h1, h2, rfl⟩
    · exact .inl ⟨h1, h2, rfl, by unfold rend; rw [List.length_map, List.length_range, hN]; simp⟩
    · exact .inr ⟨h1, h2, rfl, rfl⟩
  have HX := Lib.hid hx'
  clear h0 g0 hs hi hc z1 z2 z3 z4 HBD hsr hrn hR hN hx' hx
  obtain ⟨i0, hi0, hz0, hz1, hz2⟩ := info_parts info_int
  have hmk := fun W => run_make_rowN (P := Try.prog) 26 3 i0 _ Try.underlying26 hi0 hz0 .i64 .i64 n' n' (Nat.le_refl _) (by rw [hz2]; omega) (by omega) W
  rw [hz1] at hmk
  clear hi0 hz0 hz1 hz2
  have hN0 : decide ((N : Int) < 0) = false := by simp
  have hN4 : decide ((4096 : Int) < (N : Int)) = false := by simp; omega
  rcases HX.out with ⟨hv, he, hxs, hxl⟩ | ⟨hv, he, hxs, hxl⟩
  · exfalso; omega
  all_goals
    subst he
    clear hez
    have HV := Lib.hid hv
    have HXS := Lib.hid hxs
    have HXL := Lib.hid hxl
    clear hv hxs hxl
    go_enter Try.func6, Try.ntmps6
    go_wp2_with fail
    refine HGR.out.mono ?_
    rintro e w1 ⟨b, rfl, hb1⟩
    have HB1 := Lib.hid hb1
    clear hb1
    cases b
    rotate_left
    · go_wp2_with fail
      refine (Works_any _).mono ?_
      rintro e w2 ⟨rfl, hb2⟩
      go_wp2
      go_ret
      exact ⟨rfl, HB1.out.trans (hb2.mono HB1.out.size)⟩
    go_wp2_with fail
    refine (PR.out _ ((H.out.below HB1.out (Nat.le_refl _)).more HB1.out.size) ((G.out.below HB1.out (Nat.le_refl _)).more HB1.out.size)).mono ?_
    rintro e w2 ⟨rfl, hb2⟩
    have HB2 := Lib.hid (HB1.out.trans (hb2.mono HB1.out.size))
    clear hb2
    go_wp2_with fail
    refine (SA.out _ ((H.out.below HB2.out (Nat.le_refl _)).more HB2.out.size) ((G.out.below HB2.out (Nat.le_refl _)).more HB2.out.size)).mono ?_
    rintro e w3 ⟨A1, c1, rfl, hr1, hb3⟩
    rw [HN.out]
    rw [HRL.out] at hr1 ⊢
    have HB3 := Lib.hid (HB2.out.trans (hb3.mono HB2.out.size))
    have RB := Lib.hid hr1
    clear hb3 hr1
    go_wp2_with fail
    refine (RA.out _ ((H.out.below HB3.out (Nat.le_refl _)).more HB3.out.size) ((G.out.below HB3.out (Nat.le_refl _)).more HB3.out.size)).mono ?_
    rintro e w4 ⟨v, rfl, ho4, hb4⟩
    obtain ⟨A2, c2, rfl, hr4⟩ := own_reads ho4
    have HB4 := Lib.hid (HB3.out.trans (hb4.mono HB3.out.size))
    have RB := Lib.hid ((RB.out.below hb4 (Nat.le_refl _)).more hb4.size)
    have RX := Lib.hid hr4
    clear hb4 hr4 ho4
    rw [HXL.out]
    rw [HXL.out] at RX
    go_wp2_with fail
    have hw4 : (w4.alloc (.cells (madeCells #[Value.int .i64 0] n') 3)).heap.size = w4.heap.size + 1 := by simp
    clear hmk hw4
    have n0' : (0 : Int) ≤ (n' : Int) := by omega
    go_loopw [11, 12] (fun lo i wr => ∃ k : Nat, k ≤ N ∧ i = .int .i64 k ∧ lo = .bool (!(vss ((rend l R).take k))) ∧ Hid (Blk wr w4.heap.size 3 (mCells R [] (k : Int)).toArray) ∧ Hid (Below w4.heap.size w4 wr)) (fun _ i wr => N - (intOf i).toNat)
    case atStart => exact ⟨0, Nat.zero_le _, rfl, by simp [vss], Lib.hid ((Blk.new w4 3 (madeCells #[Value.int .i64 0] n')).cast (by rw [made_zeros R n' HRL.out, ← mCells_0 R HPC.out HOK.out]; rfl)), Lib.hid ((Below.refl _ _).alloc (Nat.le_refl _) _)⟩
    case round =>
      obtain ⟨k, hk, rfl, rfl, HM, HW⟩ := hrel
      obtain ⟨bo, hbo⟩ : ∃ b, (!(vss ((rend l R).take k))) = b := ⟨_, rfl⟩
      rw [hbo]
      have HBO := Lib.hid hbo
      clear hbo
      have HB := Lib.hid (HB4.out.trans (HW.out.mono HB4.out.size))
      have zb4 := HB4.out.size
      by_cases hlt : k < N
      · have zz := HW.out.size
        have hgm := HM.out.lt
        have e12 := HSO.out (k : Int) (by omega) (by omega)
        go_wp2_with fail
        have hoc := OA.out (k : Int) _ ((H.out.below HB.out (Nat.le_refl _)).more HB.out.size) ((G.out.below HB.out (Nat.le_refl _)).more HB.out.size)
        rw [e12.1, e12.2] at hoc
        clear e12
        refine hoc.mono ?_
        rintro e w5 ⟨v5, rfl, ho5, hb5⟩
        clear hoc
        obtain ⟨L, hL⟩ : ∃ L, sndL R (k : Int) = L := ⟨_, rfl⟩
        obtain ⟨A5, c5, rfl, -⟩ := own_reads ho5
        have htw := HTW.out (k : Int)
        rw [hL] at ho5 htw ⊢
        have HL := Lib.hid hL
        obtain ⟨d, hd⟩ : ∃ d, L.length = d := ⟨_, rfl⟩
        rw [hd] at ho5 htw ⊢
        have HDL := Lib.hid hd
        have hd2 : decide ((2 : Int) < (d : Int)) = false := by simp; omega
        have HO := Lib.hid ho5
        have HM := Lib.hid (HM.out.below hb5 hgm)
        have HW5 := Lib.hid (HW.out.trans (hb5.mono HW.out.size))
        have zz5 := hb5.size
        have HG5 : Hid (∀ g, 0 < d → A5 = some ⟨g, 0, none⟩ → g < w5.heap.size) := Lib.hid (fun g hd hA => by
          obtain ⟨g', h1, -, h3, -⟩ := own_form ho5 hd
          rw [hA] at h1
          injection h1 with h1
          injection h1 with h1
          omega)
        clear hL hd ho5 hb5
        go_wp2
        have HS0 := Lib.hid (Blk.new w5 39 #[.int .i64 0, .int .i64 0])
        have zw5 : w4.heap.size < w5.heap.size := by omega
        go_loopw [16] (fun j wi => ∃ i : Nat, i ≤ d ∧ j = .int .i64 i ∧ Hid (Blk wi w5.heap.size 39 #[.int .i64 (sumS ((L.take i).map (sndOf l))).1, .int .i64 (sumS ((L.take i).map (sndOf l))).2]) ∧
            Hid (Blk wi w4.heap.size 3 (mCells R (L.take i) (k : Int)).toArray) ∧ Hid (wi.ownsRow wr.heap.size 36 3 (.slice A5 d c5) d (srcCells L)) ∧ Hid (Below w4.heap.size w4 wi)) (fun j wi => d - (intOf j).toNat)
        case atStart => exact ⟨0, Nat.zero_le _, rfl, HS0, Lib.hid (HM.out.alloc _), Lib.hid (HO.out.alloc _), Lib.hid (HW5.out.alloc (by omega) _)⟩
        case round =>
          clear HS0 HM HO HW5
          obtain ⟨i, hi, rfl, HS1, HM, HO, HWI⟩ := hrel
          have HBI := Lib.hid (HB4.out.trans (HWI.out.mono zb4))
          by_cases hli : i < d
          · have hiL : i < L.length := by have := HDL.out; omega
            obtain ⟨j, hj, hxe, hsj⟩ := sndL_mem R (k : Int) (L[i]'hiL) (by rw [HL.out]; exact List.getElem_mem hiL)
            have hjn : j < n' := by have := HRL.out; omega
            have hjp : j < ps.length := by have := HPN.out; omega
            obtain ⟨p, hpp⟩ : ∃ p, p = ps[j]'hjp := ⟨_, rfl⟩
            obtain ⟨e3, -⟩ := placeL_p ps R HR.out j hjp hj
            obtain ⟨st, hst⟩ : ∃ st, st = (R[j]'hj).st := ⟨_, rfl⟩
            have hsd := sndB_iff hsj
            rw [← hst] at hsd
            obtain ⟨kk, hkk⟩ : ∃ x, x = (k : Int) - st := ⟨_, rfl⟩
            obtain ⟨ix, hix⟩ : ∃ x, x = p.fr + kk := ⟨_, rfl⟩
            have hsrc : src (L[i]'hiL) = [.int .i64 (j : Int), .int .i64 p.tk, .int .i64 ix] := by
              rw [hxe, hix, hkk, hst, hpp, ← e3]
              unfold src
              rw [HIX.out j hj]
            obtain ⟨g5, hA5, hg5, hg5', hc5⟩ := own_form HO.out (by omega)
            obtain rfl := hA5
            have hx0 : (srcCells L)[i * 3 + 0]? = some (.int .i64 (j : Int)) := by rw [srcCells_at L i hiL 0 (by omega), hsrc]; rfl
            have hx1 : (srcCells L)[i * 3 + 1]? = some (.int .i64 p.tk) := by rw [srcCells_at L i hiL 1 (by omega), hsrc]; rfl
            have hx2 : (srcCells L)[i * 3 + 2]? = some (.int .i64 ix) := by rw [srcCells_at L i hiL 2 (by omega), hsrc]; rfl
            have x0 := hc5 _ _ hx0
            have x1 := hc5 _ _ hx1
            have x2 := hc5 _ _ hx2
            simp only [Nat.add_zero] at x0
            obtain ⟨ad, hA', -⟩ := G.out.2.2 (by omega)
            obtain ⟨ao, hAo, hbao, -⟩ := RB.out.2 (by omega)
            obtain rfl := hA'
            obtain rfl := hAo
            obtain ⟨p0, p1, p2, p3, p4, p5, p6⟩ := (G.out.below HBI.out (Nat.le_refl _)).cells hjp hpp
            have y0 := st_cell (RB.out.below HWI.out (Nat.le_refl _)) hj hst
            have HPP := Lib.hid hpp
            have HST := Lib.hid hst
            have HKK := Lib.hid hkk
            have HIXX := Lib.hid hix
            have HSJ := Lib.hid hsj
            have HXE := Lib.hid hxe
            have HHC := Lib.hid hc5
            have E3 := Lib.hid e3
            clear hx0 hx1 hx2 hc5 hsrc hpp hst hkk hix hsj hxe e3
            have HK0 : Hid (0 ≤ kk ∧ kk ≤ 4096) := Lib.hid (by have h1 := HKK.out; have h2 := (HOK.out _ (List.getElem_mem hj)).1; have h3 := hsd.2; have h4 := E3.out; have h5 := HST.out; obtain ⟨_, _, _, _, _⟩ := h2; simp only [Pl.end_] at h3; omega)
            obtain ⟨kk0, kk4⟩ := HK0.out
            have hpo : PrOk p := HPP.out ▸ HPR.out _ (List.getElem_mem hjp)
            obtain ⟨pf0, pf1, pf2, _, _⟩ := hpo
            have hst6 : -1000000 ≤ st ∧ st ≤ 1000000 := by rw [HST.out]; exact (HOK.out _ (List.getElem_mem hj)).2
            obtain ⟨st1, st2⟩ := hst6
            have hM : (mCells R (L.take i) (k : Int))[j]? = some (.int .i64 kk) := by
              rw [mCells_at R _ _ j hj]
              have h1 := inL_take R (k : Int) HIX.out i (by rw [HL.out]; exact hiL)
              have h2 : (sndL R (k : Int))[i]'(by rw [HL.out]; exact hiL) = L[i]'hiL := by congr 1
              rw [h2, HXE.out, HL.out] at h1
              unfold mv
              rw [h1, mq_snd _ _ HSJ.out, ← HST.out, ← HKK.out]; simp
            have m0 : wr.cell? ⟨w4.heap.size, j, none⟩ = some (.int .i64 kk) := by rw [HM.out.cell j]; simpa using hM
            have HMM := Lib.hid hM
            have HWK : Hid (ix - p.fr = kk) := Lib.hid (by have := HIXX.out; omega)
            go_wp2
            obtain ⟨W1, hW1⟩ : ∃ W1, wr.alloc (.cells #[.int .i64 (j : Int), .int .i64 p.tk, .int .i64 ix] 36) = W1 := ⟨_, rfl⟩
            have HBX : Hid (Blk W1 wr.heap.size 36 #[.int .i64 (j : Int), .int .i64 p.tk, .int .i64 ix]) := Lib.hid (by rw [← hW1]; exact Blk.new _ _ _)
            have hbw : Below wr.heap.size wr W1 := by rw [← hW1]; exact (Below.refl _ _).alloc (Nat.le_refl _) _
            have HS1 := Lib.hid (HS1.out.below hbw HS1.out.lt)
            have HM := Lib.hid (HM.out.below hbw HM.out.lt)
            have HO := Lib.hid (own_below HO.out hbw)
            have HBW1 := Lib.hid hbw
            have b0 := Lat.cell ((HBX.out.cell 0).trans rfl)
            have b1 := Lat.cell ((HBX.out.cell 1).trans rfl)
            have b2 := Lat.cell ((HBX.out.cell 2).trans rfl)
            have p0 := Lat.cell (Below.cell_keep hbw p0)
            have p1 := Lat.cell (Below.cell_keep hbw p1)
            have y0 := Lat.cell (Below.cell_keep hbw y0)
            have m0 := Lat.cell (Below.cell_keep hbw m0)
            have hjn0 : (0 : Int) ≤ (j : Int) := by omega
            have hjn1 : (j : Int) < (n' : Int) := by omega
            have hjd0 : decide ((j : Int) < 0) = false := by simp
            have hjd1 : decide (n' ≤ j) = false := by simp; omega
            clear hM hbw p2 p3 p4 p5 p6
            rw [hW1]
            clear hW1
            have hwk : IntKind.i64.wrap (ix - p.fr) = kk := by rw [HWK.out]; exact IntWalk.i64_in _ (by omega)
            obtain ⟨i1, hi1⟩ : ∃ i1, i1 = i - 1 := ⟨_, rfl⟩
            by_cases i0' : i = 0
            case' pos =>
              have hi0 : decide (0 < i) = false := by simp; omega
              refine wp_region_lat (by kernel_rfl) (by kernel_rfl) ?_
              repeat (go_big_quiet_step (fail))
              refine wpQuiet_nil ?_
              intro W2 hw2
              have hb2 := lat_out hw2
              clear hi0
            case' neg =>
              have hi0 : 0 < i := by omega
              have hi11 : i1 < L.length := by omega
              have hi12 : i1 < d := by omega
              obtain ⟨j', hj', hxe', -⟩ := sndL_mem R (k : Int) (L[i1]'hi11) (by rw [HL.out]; exact List.getElem_mem hi11)
              have hlt' : j' < j := by
                have h1 := sndL_lt R (k : Int) HIX.out i1 i (by rw [HL.out]; exact hiL) (by omega)
                have h2 : (sndL R (k : Int))[i]'(by rw [HL.out]; exact hiL) = L[i]'hiL := by congr 1
                have h3 : (sndL R (k : Int))[i1]'(by rw [HL.out]; exact hi11) = L[i1]'hi11 := by congr 1
                rw [h2, h3, HXE.out, hxe', HIX.out j hj, HIX.out j' hj'] at h1
                omega
              have hsrc' : (src (L[i1]'hi11))[0]? = some (.int .i64 (j' : Int)) := by
                rw [hxe']
                unfold src
                rw [HIX.out j' hj']; rfl
              have hx' : (srcCells L)[i1 * 3 + 0]? = some (.int .i64 (j' : Int)) := by rw [srcCells_at L i1 hi11 0 (by omega), hsrc']
              have n0 := Lat.cell (Below.cell_keep HBW1.out (HHC.out _ _ hx'))
              simp only [Nat.add_zero] at n0
              have hw1 : IntKind.i64.wrap ((i : Int) - 1) = (i1 : Int) := by rw [show (i : Int) - 1 = (i1 : Int) by omega]; exact IntWalk.i64_in _ (by omega)
              have hjl : decide (j ≤ j') = false := by simp; omega
              have hjl' : decide ((j : Int) ≤ (j' : Int)) = false := by simp; omega
              have hjl2 : ¬ (j ≤ j') := by omega
              clear hsrc' hx' hxe' hi1
              refine wp_region_lat (by kernel_rfl) (by kernel_rfl) ?_
              repeat (go_big_quiet_step (fail))
              refine wpQuiet_nil ?_
              intro W2 hw2
              have hb2 := lat_out hw2
              clear hi0 n0 hw1 hjl hjl' hjl2
            all_goals
              go_wp2
              refine wp_region_lat_ hb2 (by kernel_rfl) (by kernel_rfl) ?_
              repeat (go_big_quiet_step (fail))
              refine wpQuiet_nil ?_
              intro W3 hw3
              have hb3 := lat_out hw3
              have d0 := Lat.to_ b0 hb3
              have d1 := Lat.to_ m0 hb3
              have d2 := Lat.to_ y0 hb3
              have HS3 := Lib.hid (HS1.out.below hb3 HS1.out.lt)
              have HM3 := Lib.hid (HM.out.below hb3 HM.out.lt)
              have HX3 := Lib.hid (HBX.out.below hb3 HBX.out.lt)
              have HO3 := Lib.hid (own_below HO.out hb3)
              have HW3 : Hid (Below w4.heap.size w4 W3) := Lib.hid ((HWI.out.trans (HBW1.out.mono HWI.out.size)).trans (hb3.mono (by have := HWI.out.size; have := HBW1.out.size; omega)))
              have f1 := HM3.out.frozen j
              have hwk2 : IntKind.i64.wrap ((k : Int) - st) = kk := by rw [← HKK.out]; exact IntWalk.i64_in _ (by omega)
              clear hwk hw2 hw3 hb2 hb3 b0 b1 b2 p0 p1 y0 m0
              go_wp2_with fail
              have hj4 : kk < (R[j]'hj).len := by
                have h1 := hsd.2
                have h2 := HKK.out
                have h3 := HST.out
                simp only [Pl.end_, Pl.len] at *
                omega
              have HW4 : Hid (Below w4.heap.size w4 (W3.setCell ⟨w4.heap.size, j, none⟩ (.int .i64 (kk + 1)))) := Lib.hid (HW3.out.setCell (p := ⟨w4.heap.size, j, none⟩) (Nat.le_refl _) _)
              have HBS := Lib.hid (HB4.out.trans (HW4.out.mono zb4))
              have HM4 : Hid (Blk (W3.setCell ⟨w4.heap.size, j, none⟩ (.int .i64 (kk + 1))) w4.heap.size 3 (mCells R (L.take (i + 1)) (k : Int)).toArray) := Lib.hid ((HM3.out.set_ j (.int .i64 (kk + 1))).cast (by
                have h2 : (sndL R (k : Int))[i]'(by rw [HL.out]; exact hiL) = L[i]'hiL := by congr 1
                have h3 := mCells_step R (k : Int) HIX.out i (by rw [HL.out]; exact hiL) j hj (by rw [h2, HXE.out])
                rw [HL.out] at h3
                have h4 : mv (L.take i) (k : Int) (R[j]'hj) = kk := by
                  have h5 := HMM.out
                  rw [mCells_at R _ _ j hj] at h5
                  simpa using h5
                rw [h4] at h3
                rw [← h3]; simp))
              have HS4 := Lib.hid (HS3.out.far (p := ⟨w4.heap.size, j, none⟩) (by show w5.heap.size ≠ w4.heap.size; omega) (.int .i64 (kk + 1)))
              have HO4 := Lib.hid (HO3.out.kept (grown_set (grown_refl W3 (some w4.heap.size)) j (.int .i64 (kk + 1))) (.inr (by simp [Value.ownBlock]; omega)))
              clear d0 d1 d2 f1 hwk2 HM3 HS3 HO3
              refine (soundAll_ok _ _ _ _ _ _ _ l ps R j kk _ (H.out.below HBS.out (Nat.le_refl _)) (G.out.below HBS.out (Nat.le_refl _)) HBS.out.size hl hl' HS.out HC.out HR.out hj kk0 hj4).mono ?_
              rintro e W5 ⟨rfl, hb5⟩
              obtain ⟨sv, hsv⟩ : ∃ s, sndOf l ((R[j]'hj), kk) = s := ⟨_, rfl⟩
              rw [hsv]
              have HSV := Lib.hid hsv
              have HW5' : Hid (Below w4.heap.size w4 W5) := Lib.hid (HW4.out.trans (hb5.mono HW4.out.size))
              have HM5 := Lib.hid (HM4.out.below hb5 HM4.out.lt)
              have HS5 := Lib.hid (HS4.out.below hb5 HS4.out.lt)
              have HO5 := Lib.hid (own_below HO4.out hb5)
              clear hsv hb5 hj4
              obtain ⟨sp, hsp⟩ : ∃ s, sumS ((L.take i).map (sndOf l)) = s := ⟨_, rfl⟩
              rw [hsp] at HS5
              have HSP := Lib.hid hsp
              obtain ⟨q0, q1, q2, q3, q4⟩ := (HS5.out.alloc (.cells #[.int .i64 sv.1, .int .i64 sv.2] 39)).two
              clear hsp
              go_wp2
              go_roundw
              case rel =>
                have hg := HG5.out g5 (by omega) rfl
                refine ⟨i + 1, by omega, by go_num, Lib.hid ?_, Lib.hid ?_, Lib.hid ?_, Lib.hid ?_⟩
                · refine (((HS5.out.alloc _).set_ 0 _).set_ 1 _).cast ?_
                  rw [sumS_take l L i hiL, HSP.out, HXE.out, ← HST.out, ← HKK.out, HSV.out]
                  simp [addS]
                · exact ((HM5.out.alloc _).far (p := ⟨w5.heap.size, 0, none⟩) (by show w4.heap.size ≠ w5.heap.size; omega) _).far (p := ⟨w5.heap.size, 1, none⟩) (by show w4.heap.size ≠ w5.heap.size; omega) _
                · exact ((HO5.out.alloc _).kept (grown_set (grown_refl _ (some w5.heap.size)) 0 _) (.inr (by simp [Value.ownBlock]; omega))).kept (grown_set (grown_refl _ (some w5.heap.size)) 1 _) (.inr (by simp [Value.ownBlock]; omega))
                · exact ((HW5'.out.alloc HW5'.out.size _).setCell (p := ⟨w5.heap.size, 0, none⟩) (by show w4.heap.size ≤ w5.heap.size; omega) _).setCell (p := ⟨w5.heap.size, 1, none⟩) (by show w4.heap.size ≤ w5.heap.size; omega) _
              case measure => simp [intOf]; omega
          · have hdi : d = i := by omega
            have hLt : L.take i = L := by rw [List.take_of_length_le]; have := HDL.out; omega
            rw [hLt] at HS1 HM
            have hMk : mCells R L (k : Int) = mCells R [] ((k + 1 : Nat) : Int) := by rw [← HL.out, mv_done R (k : Int) HIX.out HOK.out]; push_cast; rfl
            rw [hMk] at HM
            obtain ⟨sp, hsp⟩ : ∃ s, s = rendAt l R k := ⟨_, rfl⟩
            have hsl : sumS (L.map (sndOf l)) = sp := by rw [hsp, ← HL.out]; rfl
            have hbb : BdS 262660536136000 sp := by
              rw [← hsl]
              refine sumS_bd _ (by rw [List.length_map]; have := HDL.out; omega) (fun s hs => ?_)
              obtain ⟨x, hx, rfl⟩ := List.mem_map.1 hs
              obtain ⟨j, hj, rfl, hsj⟩ := sndL_mem R (k : Int) x (by rw [HL.out]; exact hx)
              have h1 := sndB_iff hsj
              refine sndOf_bd l _ _ (HSD.out _ (List.getElem_mem hj)) (by omega) ?_
              have := h1.2
              simp only [Pl.end_, Pl.len] at *
              omega
            rw [hsl] at HS1
            have hrl : k < (rend l R).length := by unfold rend; rw [List.length_map, List.length_range, HN.out]; simpa using hlt
            have hrk : (rend l R)[k]'hrl = sp := by rw [hsp]; simp [rend]
            have hvs := vss_take (rend l R) k hrl
            rw [hrk, vs_am] at hvs
            obtain ⟨⟨u1, u2⟩, u3, u4⟩ := hbb
            obtain ⟨a1, ha1⟩ : ∃ x, x = am sp.1 := ⟨_, rfl⟩
            obtain ⟨a2, ha2⟩ : ∃ x, x = am sp.2 := ⟨_, rfl⟩
            rw [← ha1, ← ha2] at hvs
            obtain ⟨v', hv'⟩ : ∃ b, (!(vss ((rend l R).take (k + 1)))) = b := ⟨_, rfl⟩
            have hcs : (bo = true ∧ v' = true) ∨ (bo = false ∧ decide (32767 < a1) = true ∧ v' = true) ∨ (bo = false ∧ decide (32767 < a1) = false ∧ decide (32767 < a2) = true ∧ v' = true) ∨ (bo = false ∧ decide (32767 < a1) = false ∧ decide (32767 < a2) = false ∧ v' = false) := by
              rw [← hv', hvs, ← HBO.out]
              cases vss ((rend l R).take k) <;> cases decide (32767 < a1) <;> cases decide (32767 < a2) <;> simp
            have HVV := Lib.hid hv'
            have g1 := Lib.hid (fun W => lawAmount_b (x := sp.1) (y := a1) (by omega) (by omega) ha1 W)
            have g2 := Lib.hid (fun W => lawAmount_b (x := sp.2) (y := a2) (by omega) (by omega) ha2 W)
            obtain ⟨q0, q1, -, -, -⟩ := HS1.out.two
            have hq := eq_smp sp.1 sp.2
            have HRK := Lib.hid hrk
            have HRX : Hid (xs.length = N → ∃ ad, A2 = some ad ∧ wr.cell? (ad.add (k * 2)) = some (.int .i64 sp.1) ∧ wr.cell? ⟨(ad.add (k * 2)).block, (ad.add (k * 2)).off + 1, none⟩ = some (.int .i64 sp.2)) := Lib.hid (fun hx => by
              have hxr : xs = rend l R := by
                rcases HX.out with ⟨-, -, h, -⟩ | ⟨-, -, -, h⟩
                · exact h
                · omega
              have hrx : Reads wr w4.heap.size 2 A2 xs.length (smpCells xs) := by
                have h1 := RX.out.below HWI.out (Nat.le_refl _)
                rw [HXL.out]
                exact h1
              rw [hxr] at hrx
              obtain ⟨ad, hA2, -, h1, h2⟩ := RS.at_ ⟨rfl, hrx⟩ hrl
              rw [HRK.out] at h1 h2
              exact ⟨ad, hA2, h1, h2⟩)
            have kk0 : (0 : Int) ≤ (k : Int) := by omega
            have kk1 : (k : Int) < (N : Int) := by omega
            clear hLt hMk hsp hsl hvs ha1 ha2 hv' hrk u1 u2 u3 u4 HS1 HO
            rcases hcs with ⟨rfl, rfl⟩ | ⟨rfl, hc1, rfl⟩ | ⟨rfl, hc1, hc2, rfl⟩ | ⟨rfl, hc1, hc2, rfl⟩
            all_goals
              try (have hz : xs.length = N := HXL.out; obtain ⟨ad, hA2, y0, y1⟩ := HRX.out hz; obtain rfl := hA2; clear hz)
              go_wp2_with fail
              repeat (first | (refine (g1.out _).mono ?_; rintro e _ ⟨rfl, rfl⟩; go_wp2_with fail) | (refine (g2.out _).mono ?_; rintro e _ ⟨rfl, rfl⟩; go_wp2_with fail))
              clear g1 g2
              go_big_quiet (fail)
              go_wp2
              go_roundw
              case rel => exact ⟨k + 1, by omega, by go_num, by rw [HVV.out], Lib.hid (HM.out.drewN _), Lib.hid (below_drewN_ HWI.out _)⟩
              case measure => simp [intOf]; omega
      · have hkn : k = N := by omega
        have hbo' : bo = decide (vss (rend l R) = false) := by
          rw [← HBO.out, List.take_of_length_le (by unfold rend; rw [List.length_map, List.length_range, HN.out]; omega)]
          cases vss (rend l R) <;> rfl
        rw [HV.out] at hbo'
        have hbo2 := hbo'
        simp at hbo2
        obtain rfl := hbo2
        obtain rfl := hkn
        clear hbo'
        have zz := HW.out.size
        go_wp2_with fail
        rename World => W6
        go_loopw [21] (fun i wr => ∃ j : Nat, j ≤ n' ∧ i = .int .i64 j ∧ Hid (Below W6.heap.size W6 wr)) (fun i _ => n' - (intOf i).toNat)
        case atStart => exact ⟨0, Nat.zero_le _, rfl, Lib.hid (Below.refl _ _)⟩
        case round =>
          obtain ⟨j, hj, rfl, HY⟩ := hrel
          have HBY := Lib.hid (HB.out.trans (HY.out.mono HB.out.size))
          by_cases hjl : j < n'
          · have hjR : j < R.length := by have := HRL.out; omega
            have hjp : j < ps.length := by have := HPN.out; omega
            obtain ⟨p, hpp⟩ : ∃ p, p = ps[j]'hjp := ⟨_, rfl⟩
            obtain ⟨e3, -⟩ := placeL_p ps R HR.out j hjp hjR
            obtain ⟨ad, hA', -⟩ := G.out.2.2 (by omega)
            obtain rfl := hA'
            obtain ⟨p0, p1, p2, p3, p4, p5, p6⟩ := (G.out.below HBY.out (Nat.le_refl _)).cells hjp hpp
            have hm : wr.cell? ⟨w4.heap.size, j, none⟩ = some (.int .i64 (p.to - p.fr)) := by
              rw [(HM.out.below HY.out HM.out.lt).cell j]
              have h1 := mv_end ps R HR.out HPC.out HOK.out j hjR
              rw [HN.out] at h1
              have h2 := mCells_at R [] (k : Int) j hjR
              rw [h1, e3, ← hpp] at h2
              simpa using h2
            have hpo : PrOk p := hpp ▸ HPR.out _ (List.getElem_mem hjp)
            obtain ⟨pf0, pf1, pf2, _, _⟩ := hpo
            have hwk : IntKind.i64.wrap (p.to - p.fr) = p.to - p.fr := IntWalk.i64_in _ (by omega)
            have k0 : (0 : Int) ≤ (j : Int) := by omega
            have k1 : (j : Int) < (n' : Int) := by omega
            clear hpp e3 p0 p3 p4 p5 p6
            go_wp2
            go_big_quiet (fail)
            go_wp2
            go_roundw
            case rel => exact ⟨j + 1, by omega, by go_num, Lib.hid (below_drewN_ HY.out _)⟩
            case measure => simp [intOf]; omega
          · go_wp2_with fail
            refine (Works_any _).mono ?_
            rintro e w9 ⟨rfl, hb9⟩
            go_wp2
            go_ret
            exact ⟨rfl, HBY.out.trans (hb9.mono HBY.out.size)⟩
end Go.Proofs.Ytbcahkklhdnboaa
