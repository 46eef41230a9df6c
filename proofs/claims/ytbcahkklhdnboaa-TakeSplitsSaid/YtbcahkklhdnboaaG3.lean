/-
  Contract of the document's possible.
-/
import Derived.Test.YtbcahkklhdnboaaG2
import Derived.Test.YtbcahkklhdnboaaB7
import Derived.Test.YtbcahkklhdnboaaQ0
namespace Go.Proofs.Ytbcahkklhdnboaa
open Go.RowKit

theorem RP.cells {w : World} {B : Nat} {ad : Addr} {n : Nat} {l : List Prt} (h : RP w B (some ad) n l) {k : Nat} (hk : k < l.length) {p : Prt} (hp : p = l[k]) :
    w.cell? (ad.add (k * 7)) = some (.int .i64 p.tk) ∧ w.cell? ⟨(ad.add (k * 7)).block, (ad.add (k * 7)).off + 1, none⟩ = some (.int .i64 p.fr) ∧
      w.cell? ⟨(ad.add (k * 7)).block, (ad.add (k * 7)).off + 2, none⟩ = some (.int .i64 p.to) ∧ w.cell? ⟨(ad.add (k * 7)).block, (ad.add (k * 7)).off + 3, none⟩ = some (.int .i64 p.gp) ∧
      w.cell? ⟨(ad.add (k * 7)).block, (ad.add (k * 7)).off + 4, none⟩ = some (.int .i64 p.fi) ∧ w.cell? ⟨(ad.add (k * 7)).block, (ad.add (k * 7)).off + 5, none⟩ = some (.int .i64 p.fo) ∧
      w.cell? ⟨(ad.add (k * 7)).block, (ad.add (k * 7)).off + 6, none⟩ = some (.int .i64 p.lv) := by
  obtain ⟨ad', hA, _, h⟩ := h.at_ hk
  cases hA
  rw [hp]; exact h
theorem st_cell {w : World} {B n : Nat} {ao : Addr} {R : List Pl} (h : Reads w B 1 (some ao) n (stCells R)) {k : Nat} (hk : k < R.length) {s : Int} (hs : s = R[k].st) : w.cell? (ao.add k) = some (.int .i64 s) := by
  have hn := h.1
  simp [stCells] at hn
  obtain ⟨ao', hA, _, hc⟩ := h.2 (by omega)
  cases hA
  rw [hs]; exact hc k _ (stCells_at R k hk)
theorem placeL_p (ps : List Prt) (R : List Pl) (hR : placeL ps 0 0 = R) (k : Nat) (h : k < ps.length) (h' : k < R.length) : R[k].p = ps[k] ∧ True := by
  cases k with
  | zero => exact ⟨(placeL_0 ps R hR h h').1, trivial⟩
  | succ k => exact ⟨(placeL_s ps R hR k h h').1, trivial⟩
theorem pcC_1' (R : List Pl) (k : Nat) (q : Pl) (h : k < 2) : pcC R k q = false := by simp [pcC, h]
theorem refLong_b {p : Prt} {ln : Int} (hl : ln = p.to - p.fr) (hp : PrOk p) (w : World) :
    Calls Try.prog 51 #[.agg #[.int .i64 p.tk, .int .i64 p.fr, .int .i64 p.to, .int .i64 p.gp, .int .i64 p.fi, .int .i64 p.fo, .int .i64 p.lv]] w
      fun e w' => e = .returned (.int .i64 ln) ∧ Below w.heap.size w w' := by
  obtain ⟨_, _, _, _, _⟩ := hp
  rw [hl]; exact refLong_any p w (by omega) (by omega) (by omega) (by omega)

set_option maxRecDepth 100000 in
set_option maxHeartbeats 8000000 in
theorem refPossible_any (B : Nat) (A : Option Addr) (n c : Nat) (ps : List Prt) (w : World) (h0 : RP w B A n ps) (hB : B ≤ w.heap.size) (h32 : ps.length ≤ 32) (hp : ∀ p ∈ ps, PrOk p) :
    Calls Try.prog 46 #[.slice A n c] w fun e w' => e = .returned (.bool (poss (placeL ps 0 0))) ∧ Below w.heap.size w w' := by
  have G := Lib.hid (h0.more hB)
  obtain ⟨hn, -⟩ := h0
  have HN := Lib.hid hn
  have n32 : n ≤ 32 := by omega
  have HP := Lib.hid hp
  have H32 := Lib.hid h32
  have HRL : Hid ((placeL ps 0 0).length = n) := Lib.hid (by rw [placeL_length]; omega)
  clear hn hB hp h32
  obtain ⟨R, hR⟩ : ∃ R, placeL ps 0 0 = R := ⟨_, rfl⟩
  have HST := Lib.hid (refStarts_any _ _ _ c ps w G.out (Nat.le_refl _) H32.out HP.out)
  have HOK : Hid (∀ q ∈ placeL ps 0 0, PlOk q) := Lib.hid (placeL_ok ps HP.out 0 0 (by have := H32.out; omega) (by have := H32.out; omega))
  rw [hR] at HST HRL HOK ⊢
  have HR := Lib.hid hR
  clear hR
  go_enter Try.func46, Try.ntmps46
  go_wp2_with fail
  refine HST.out.mono ?_
  rintro e w1 ⟨A1, c1, rfl, hrd, hb1⟩
  rw [HRL.out] at hrd ⊢
  have HD := Lib.hid hrd
  have HB1 := Lib.hid hb1
  clear hrd hb1 HST
  obtain ⟨en, hen⟩ : ∃ en, lenP R = en := ⟨_, rfl⟩
  rw [hen]
  have HEN := Lib.hid hen
  clear hen
  go_wp2
  go_loopw [5] (fun i wr => ∃ k : Nat, k ≤ n ∧ i = .int .i64 k ∧ Hid (Below w.heap.size w wr) ∧ Hid (Below w1.heap.size w1 wr) ∧ Hid ((List.range k).all (pc R) = true)) (fun i wr => n - (intOf i).toNat)
  case atStart => exact ⟨0, Nat.zero_le _, rfl, HB1, Lib.hid (Below.refl _ _), Lib.hid rfl⟩
  case round =>
    obtain ⟨k, hk, rfl, HB, HW, hv⟩ := hrel
    by_cases hlt : k < n
    · have hkp : k < ps.length := by have := HN.out; omega
      have hkR : k < R.length := by have := HRL.out; omega
      obtain ⟨ad, hA, _⟩ := (G.out.2.2 (by omega))
      obtain ⟨ao, hAo, _⟩ := (HD.out.2 (by omega))
      obtain rfl := hA
      obtain rfl := hAo
      obtain ⟨st, hst⟩ : ∃ st, st = (R[k]'hkR).st := ⟨_, rfl⟩
      have y0 := st_cell (HD.out.below HW.out (Nat.le_refl _)) hkR hst
      have HST := Lib.hid hst
      clear hst
      by_cases k0 : k = 0
      · have K0 := Lib.hid k0
        have K1 : ((k : Int) == 0) = true := beq_iff_eq.2 (by omega)
        have K2 : decide (0 < k) = false := by simp; omega
        have K3 : decide ((1 : Int) < (k : Int)) = false := by simp; omega
        have HPC : Hid (pc R k = !decide (st < 0)) := Lib.hid (by
          subst k0
          obtain ⟨e1, e2⟩ := placeL_0 ps R HR.out hkp hkR
          rw [pc_0 R hkR (by rw [e2, e1]) (HOK.out _ (List.getElem_mem hkR)).1, ← HST.out])
        clear k0
        by_cases a1 : st < 0
        · have A1 : decide (st < 0) = true := decide_eq_true a1
          have HA1 := Lib.hid A1
          go_wp2
          try dsimp only [List.append]
          go_quiet (fail)
          go_wp2
          go_ret
          exact ⟨ret_b (poss_false R k hkR (by rw [HPC.out, HA1.out]; rfl)), below_drewN_ HB.out _⟩
        · have A1 : decide (st < 0) = false := decide_eq_false a1
          have HA1 := Lib.hid A1
          go_wp2
          try dsimp only [List.append]
          go_quiet (fail)
          go_wp2
          go_roundw
          case rel => exact ⟨k + 1, by omega, by go_num, Lib.hid (below_drewN_ HB.out _), Lib.hid (below_drewN_ HW.out _), Lib.hid (range_all R k hv.out (by rw [HPC.out, HA1.out]; rfl))⟩
          case measure => simp [intOf]; omega
      · obtain ⟨k1, hk1⟩ : ∃ k1 : Nat, (k : Int) - 1 = (k1 : Int) := ⟨k - 1, by omega⟩
        have hkk : k = k1 + 1 := by omega
        have hk1p : k1 < ps.length := by omega
        have hk1R : k1 < R.length := by omega
        have hk1n : (k1 : Int) < (n : Int) := by omega
        have hk10 : (0 : Int) ≤ (k1 : Int) := by omega
        obtain ⟨p, hpp⟩ : ∃ p, p = ps[k]'hkp := ⟨_, rfl⟩
        obtain ⟨r, hrr⟩ : ∃ r, r = ps[k1]'hk1p := ⟨_, rfl⟩
        have hop : PrOk p := hpp ▸ HP.out _ (List.getElem_mem hkp)
        have hor : PrOk r := hrr ▸ HP.out _ (List.getElem_mem hk1p)
        obtain ⟨lp, hlp⟩ : ∃ x, x = p.to - p.fr := ⟨_, rfl⟩
        obtain ⟨lr, hlr⟩ : ∃ x, x = r.to - r.fr := ⟨_, rfl⟩
        have LP := Lib.hid (fun W => refLong_b hlp hop W)
        have LR := Lib.hid (fun W => refLong_b hlr hor W)
        have HPC : Hid (pc R k = !(decide (p.gp < -lp) || decide (p.gp < -lr) || pcC R k (R[k]'hkR))) := Lib.hid (by
          subst hkk
          obtain ⟨e1, e2⟩ := placeL_s ps R HR.out k1 hkp hkR
          obtain ⟨e3, -⟩ := placeL_p ps R HR.out k1 hk1p hk1R
          rw [pc_s R k1 hkR (by rw [e2, e1]) (pc_st R k1 hk1R (range_pc R _ k1 hv.out (by omega)))]
          simp only [Pl.len, e1, e3, ← hpp, ← hrr, ← hlp, ← hlr])
        obtain ⟨_, _, _, _, _⟩ := hop
        obtain ⟨_, _, _, _, _⟩ := hor
        have l1 : -4096 ≤ lp ∧ lp ≤ 4096 := by omega
        have l2 : -4096 ≤ lr ∧ lr ≤ 4096 := by omega
        obtain ⟨_, _⟩ := l1
        obtain ⟨_, _⟩ := l2
        have HPP := Lib.hid hpp
        have HRR := Lib.hid hrr
        have K0 := Lib.hid k0
        have HKK := Lib.hid hkk
        have K1 : ((k : Int) == 0) = false := beq_eq_false_iff_ne.2 (by omega)
        have K2 : 0 < k := by omega
        obtain ⟨p0, p1, p2, p3, p4, p5, p6⟩ := (G.out.below HB.out (Nat.le_refl _)).cells hkp HPP.out
        obtain ⟨r0, r1, r2, r3, r4, r5, r6⟩ := (G.out.below HB.out (Nat.le_refl _)).cells hk1p HRR.out
        have y0 := Lat.cell y0
        have p0 := Lat.cell p0
        have p1 := Lat.cell p1
        have p2 := Lat.cell p2
        have p3 := Lat.cell p3
        have p4 := Lat.cell p4
        have p5 := Lat.cell p5
        have p6 := Lat.cell p6
        have r0 := Lat.cell r0
        have r1 := Lat.cell r1
        have r2 := Lat.cell r2
        have r3 := Lat.cell r3
        have r4 := Lat.cell r4
        have r5 := Lat.cell r5
        have r6 := Lat.cell r6
        clear hpp hrr k0 hkk hlp hlr
        by_cases c1 : p.gp < -lp
        · have HC1 : Hid (decide (p.gp < -lp) = true) := Lib.hid (decide_eq_true c1)
          have wlp : IntKind.i64.wrap (-lp) = -lp := IntWalk.i64_in _ (by omega)
          go_wp2
          try dsimp only [List.append]
          refine wp_region_lat (by kernel_rfl) (by kernel_rfl) ?_
          repeat (go_big_quiet_step ((first | (with_reducible exact Calls.lat (LP.out _)))))
          refine wpQuiet_nil ?_
          intro _ hw'
          obtain ⟨⟨w2, hb2⟩, hw''⟩ := hw'
          subst hw''
          clear wlp
          go_wp2
          go_ret
          exact ⟨ret_b (poss_false R k hkR (by rw [HPC.out, HC1.out]; rfl)), HB.out.trans (hb2.mono HB.out.size)⟩
        have d1 : decide (p.gp < -lp) = false := decide_eq_false c1
        by_cases c2 : p.gp < -lr
        · have HC2 : Hid (decide (p.gp < -lr) = true) := Lib.hid (decide_eq_true c2)
          have wlp : IntKind.i64.wrap (-lp) = -lp := IntWalk.i64_in _ (by omega)
          have wlr : IntKind.i64.wrap (-lr) = -lr := IntWalk.i64_in _ (by omega)
          have wk : IntKind.i64.wrap (k1 : Int) = (k1 : Int) := IntWalk.i64_in _ (by omega)
          go_wp2
          try dsimp only [List.append]
          refine wp_region_lat (by kernel_rfl) (by kernel_rfl) ?_
          repeat (go_big_quiet_step ((first | (with_reducible exact Calls.lat (LP.out _)) | (with_reducible exact Calls.lat (LR.out _)))))
          refine wpQuiet_nil ?_
          intro _ hw'
          obtain ⟨⟨w2, hb2⟩, hw''⟩ := hw'
          subst hw''
          clear wlp wlr wk
          go_wp2
          go_ret
          exact ⟨ret_b (poss_false R k hkR (by rw [HPC.out, HC2.out]; simp)), HB.out.trans (hb2.mono HB.out.size)⟩
        have d2 : decide (p.gp < -lr) = false := decide_eq_false c2
        have HC1 : Hid (decide (p.gp < -lp) = false) := Lib.hid (decide_eq_false c1)
        have HC2 : Hid (decide (p.gp < -lr) = false) := Lib.hid (decide_eq_false c2)
        by_cases kk2 : k < 2
        · have K3 : decide ((1 : Int) < (k : Int)) = false := by simp; omega
          have HPC2 : Hid (pc R k = true) := Lib.hid (by rw [HPC.out, HC1.out, HC2.out, pcC_1' R k _ (by omega)]; rfl)
          have wlp : IntKind.i64.wrap (-lp) = -lp := IntWalk.i64_in _ (by omega)
          have wlr : IntKind.i64.wrap (-lr) = -lr := IntWalk.i64_in _ (by omega)
          have wk : IntKind.i64.wrap (k1 : Int) = (k1 : Int) := IntWalk.i64_in _ (by omega)
          go_wp2
          try dsimp only [List.append]
          refine wp_region_lat (by kernel_rfl) (by kernel_rfl) ?_
          repeat (go_big_quiet_step ((first | (with_reducible exact Calls.lat (LP.out _)) | (with_reducible exact Calls.lat (LR.out _)))))
          refine wpQuiet_nil ?_
          intro _ hw'
          obtain ⟨⟨w2, hb2⟩, hw''⟩ := hw'
          subst hw''
          clear wlp wlr wk
          go_wp2
          go_roundw
          case rel => exact ⟨k + 1, by omega, by go_num, Lib.hid (HB.out.trans (hb2.mono HB.out.size)), Lib.hid (HW.out.trans (hb2.mono HW.out.size)), Lib.hid (range_all R k hv.out HPC2.out)⟩
          case measure => simp [intOf]; omega
        · obtain ⟨k2, hk2⟩ : ∃ k2 : Nat, (k : Int) - 2 = (k2 : Int) := ⟨k - 2, by omega⟩
          have hkk2 : k = k2 + 2 := by omega
          have hk2p : k2 < ps.length := by omega
          have hk2R : k2 < R.length := by omega
          have hk2n : (k2 : Int) < (n : Int) := by omega
          have hk20 : (0 : Int) ≤ (k2 : Int) := by omega
          have K3 : (1 : Int) < (k : Int) := by omega
          obtain ⟨v, hvv⟩ : ∃ v, v = ps[k2]'hk2p := ⟨_, rfl⟩
          obtain ⟨sv, hsv⟩ : ∃ st, st = (R[k2]'hk2R).st := ⟨_, rfl⟩
          have y2 := st_cell (HD.out.below HW.out (Nat.le_refl _)) hk2R hsv
          obtain ⟨v0, v1, v2, v3, v4, v5, v6⟩ := (G.out.below HB.out (Nat.le_refl _)).cells hk2p hvv
          have y2 := Lat.cell y2
          have v0 := Lat.cell v0
          have v1 := Lat.cell v1
          have v2 := Lat.cell v2
          have v3 := Lat.cell v3
          have v4 := Lat.cell v4
          have v5 := Lat.cell v5
          have v6 := Lat.cell v6
          have hov : PrOk v := hvv ▸ HP.out _ (List.getElem_mem hk2p)
          have hoq := (HOK.out _ (List.getElem_mem hk2R)).2
          rw [← hsv] at hoq
          obtain ⟨_, _⟩ := hoq
          obtain ⟨lv, hlv⟩ : ∃ x, x = v.to - v.fr := ⟨_, rfl⟩
          have LV := Lib.hid (fun W => refLong_b hlv hov W)
          have HPD : Hid (pcC R k (R[k]'hkR) = decide (st < sv + lv)) := Lib.hid (by
            subst hkk2
            obtain ⟨e3, -⟩ := placeL_p ps R HR.out k2 hk2p hk2R
            rw [pcC_2 R k2 hk2R, ← HST.out]
            simp only [Pl.end_, e3, ← hvv, ← hlv, ← hsv])
          obtain ⟨_, _, _, _, _⟩ := hov
          have l3 : -4096 ≤ lv ∧ lv ≤ 4096 := by omega
          obtain ⟨_, _⟩ := l3
          have HKK2 := Lib.hid hkk2
          have NK2 := Lib.hid kk2
          clear hvv hsv hkk2 hlv kk2
          by_cases c3 : st < sv + lv
          · have HC3 : Hid (decide (st < sv + lv) = true) := Lib.hid (decide_eq_true c3)
            have wlp : IntKind.i64.wrap (-lp) = -lp := IntWalk.i64_in _ (by omega)
            have wlr : IntKind.i64.wrap (-lr) = -lr := IntWalk.i64_in _ (by omega)
            have wlv : IntKind.i64.wrap (sv + lv) = sv + lv := IntWalk.i64_in _ (by omega)
            have wk : IntKind.i64.wrap (k1 : Int) = (k1 : Int) := IntWalk.i64_in _ (by omega)
            have wk2 : IntKind.i64.wrap (k2 : Int) = (k2 : Int) := IntWalk.i64_in _ (by omega)
            go_wp2
            try dsimp only [List.append]
            refine wp_region_lat (by kernel_rfl) (by kernel_rfl) ?_
            repeat (go_big_quiet_step ((first | (with_reducible exact Calls.lat (LP.out _)) | (with_reducible exact Calls.lat (LR.out _)) | (with_reducible exact Calls.lat (LV.out _)))))
            refine wpQuiet_nil ?_
            intro _ hw'
            obtain ⟨⟨w2, hb2⟩, hw''⟩ := hw'
            subst hw''
            clear wlp wlr wlv wk wk2
            go_wp2
            go_ret
            exact ⟨ret_b (poss_false R k hkR (by rw [HPC.out, HPD.out, HC3.out]; simp)), HB.out.trans (hb2.mono HB.out.size)⟩
          · have HC3 : Hid (decide (st < sv + lv) = false) := Lib.hid (decide_eq_false c3)
            have d3 : decide (st < sv + lv) = false := decide_eq_false c3
            have HPC2 : Hid (pc R k = true) := Lib.hid (by rw [HPC.out, HC1.out, HC2.out, HPD.out, HC3.out]; rfl)
            have wlp : IntKind.i64.wrap (-lp) = -lp := IntWalk.i64_in _ (by omega)
            have wlr : IntKind.i64.wrap (-lr) = -lr := IntWalk.i64_in _ (by omega)
            have wlv : IntKind.i64.wrap (sv + lv) = sv + lv := IntWalk.i64_in _ (by omega)
            have wk : IntKind.i64.wrap (k1 : Int) = (k1 : Int) := IntWalk.i64_in _ (by omega)
            have wk2 : IntKind.i64.wrap (k2 : Int) = (k2 : Int) := IntWalk.i64_in _ (by omega)
            go_wp2
            try dsimp only [List.append]
            refine wp_region_lat (by kernel_rfl) (by kernel_rfl) ?_
            repeat (go_big_quiet_step ((first | (with_reducible exact Calls.lat (LP.out _)) | (with_reducible exact Calls.lat (LR.out _)) | (with_reducible exact Calls.lat (LV.out _)))))
            refine wpQuiet_nil ?_
            intro _ hw'
            obtain ⟨⟨w2, hb2⟩, hw''⟩ := hw'
            subst hw''
            clear wlp wlr wlv wk wk2
            go_wp2
            go_roundw
            case rel => exact ⟨k + 1, by omega, by go_num, Lib.hid (HB.out.trans (hb2.mono HB.out.size)), Lib.hid (HW.out.trans (hb2.mono HW.out.size)), Lib.hid (range_all R k hv.out HPC2.out)⟩
            case measure => simp [intOf]; omega
    · have HALL : Hid ((List.range R.length).all (pc R) = true) := Lib.hid (by rw [HRL.out, show n = k from by omega]; exact hv.out)
      by_cases c4 : en ≤ 4096
      · have HC4 : Hid (decide (en ≤ 4096) = true) := Lib.hid (decide_eq_true c4)
        go_wp2
        go_ret
        exact ⟨ret_b (by rw [poss, HALL.out, HEN.out, HC4.out]; rfl), HB.out⟩
      · have HC4 : Hid (decide (en ≤ 4096) = false) := Lib.hid (decide_eq_false c4)
        go_wp2
        go_ret
        exact ⟨ret_b (by rw [poss, HALL.out, HEN.out, HC4.out]; rfl), HB.out⟩
end Go.Proofs.Ytbcahkklhdnboaa
