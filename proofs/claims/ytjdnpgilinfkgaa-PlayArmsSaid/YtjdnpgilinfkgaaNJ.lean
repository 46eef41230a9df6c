/-
  The document's Drop.
-/
import Derived.Test.YtjdnpgilinfkgaaNI
namespace Go.Proofs.Ytjdnpgilinfkgaa
open Go.RowKit

set_option maxRecDepth 100000 in
set_option maxHeartbeats 8000000 in
theorem refDrop_any (B : Nat) (A Ar : Option Addr) (n c nr cr : Nat) (l : List Smp) (rs : List Int) (per angle x : Int) (w : World) (h0 : RS w B A n l) (h1 : LI w B Ar nr rs) (hB : B ≤ w.heap.size) (hl : n ≤ 9223372036854775807) (hlr : nr ≤ 9223372036854775807) :
    Calls Try.prog 35 #[.slice A n c, .slice Ar nr cr, .int .i64 per, .int .i64 angle, .int .i64 x] w fun e w' => e = .returned (.tuple #[.int .i64 (drI l rs per angle x), .int .i64 (drE l rs per angle x)]) ∧ Below w.heap.size w w' := by
  have HN := Lib.hid h0.1
  have HNR := Lib.hid h1.1
  have H := Lib.hid (h0.more hB)
  have HR := Lib.hid (h1.more hB)
  clear h0 h1 hB
  have CG := Lib.hid (fun W (hb : Below w.heap.size w W) => refCheckPoints_any w.heap.size A n c l W (H.out.below hb (Nat.le_refl _)) hb.size hl)
  by_cases hg : ckG l = 0
  · rw [hg] at CG
    by_cases hne : nr = n
    · have hlen : rs.length = l.length := by have := HN.out; have := HNR.out; omega
      have hcc : ckRd l rs = if rs.all (fun r => win r (-16777216) 16777216) then 0 else 2 := by unfold ckRd; rw [if_pos hlen]
      have HC := Lib.hid hcc
      have HLEN := Lib.hid hlen
      obtain ⟨hl4, he⟩ := ckG_edg hg
      have HE := Lib.hid he
      have HG := Lib.hid hg
      have hn4 : n ≤ 4096 := by have := HN.out; omega
      subst hne
      have q1 : ((nr : Int) != (nr : Int)) = false := by simp
      clear hg hlen hcc he hl4
      go_enter Try.func35, Try.ntmps35
      go_wp2_with fail
      refine (CG.out _ (Below.refl _ _)).mono ?_
      rintro e w1 ⟨rfl, hb1⟩
      have HB := Lib.hid hb1
      clear hb1 CG
      go_wp2_with fail
      go_loopw [13] (fun z wr => ∃ k : Nat, k ≤ nr ∧ z = .int .i64 k ∧ Hid (Below w.heap.size w wr) ∧ Hid (∀ j, j < k → win (atI rs j) (-16777216) 16777216 = true)) (fun z _ => nr - (intOf z).toNat)
      case atStart => exact ⟨0, Nat.zero_le _, rfl, HB, Lib.hid (fun j hj => absurd hj (by omega))⟩
      case round =>
        clear HB q1
        obtain ⟨k, hk, rfl, HB, HV⟩ := hrel
        by_cases hlt : k < nr
        · have hx : k < rs.length := by have := HNR.out; omega
          obtain ⟨ad, hA, _, p1⟩ := (HR.out.below HB.out (Nat.le_refl _)).at_ hx
          obtain rfl := hA
          have hat := atI_eq hx
          obtain ⟨r, hr⟩ : ∃ r, rs[k] = r := ⟨_, rfl⟩
          rw [hr] at p1 hat
          have HAT := Lib.hid hat
          have HGET := Lib.hid hr
          have g1 : (k : Int) < (nr : Int) := by omega
          clear hat hr
          have HBAD : Hid (win r (-16777216) 16777216 = false → drI l rs per angle x = 0 ∧ drE l rs per angle x = 2) := Lib.hid (fun hw => by
            have h2 : ckRd l rs = 2 := by
              rw [HC.out, if_neg]
              rw [List.all_eq_true]
              intro h
              have h3 := h _ (List.getElem_mem hx)
              rw [HGET.out, hw] at h3
              cases h3
            have h3 : drEr l rs per angle = 2 := by simp [drEr, orL, HG.out, h2]
            unfold drI drE
            rw [h3]
            exact ⟨rfl, rfl⟩)
          by_cases c1 : r < -16777216
          · have d1 : decide (r < -16777216) = true := decide_eq_true c1
            have HI := Lib.hid (HBAD.out (by unfold win; rw [decide_eq_false (by omega)]; rfl))
            go_wp2
            refine bodyPost_ret (results_tmp2 rfl _ _ _) rfl ?_
            exact ⟨by rw [HI.out.1, HI.out.2]; rfl, HB.out⟩
          · have d1 : decide (r < -16777216) = false := decide_eq_false c1
            by_cases c2 : 16777216 < r
            · have d2 : decide (16777216 < r) = true := decide_eq_true c2
              have HI := Lib.hid (HBAD.out (by unfold win; rw [decide_eq_false (p := r ≤ 16777216) (by omega), Bool.and_false]))
              clear c1
              go_wp2
              refine bodyPost_ret (results_tmp2 rfl _ _ _) rfl ?_
              exact ⟨by rw [HI.out.1, HI.out.2]; rfl, HB.out⟩
            · have d2 : decide (16777216 < r) = false := decide_eq_false c2
              have HV2 : Hid (∀ j, j < k + 1 → win (atI rs j) (-16777216) 16777216 = true) := Lib.hid (fun j hj => by
                rcases Nat.lt_or_ge j k with h | h
                · exact HV.out j h
                · rw [show j = k by omega, HAT.out]
                  unfold win
                  rw [decide_eq_true (by omega), decide_eq_true (by omega)]; rfl)
              go_wp2
              go_roundw
              case rel => exact ⟨k + 1, by omega, by go_num, HB, HV2⟩
              case measure => simp [intOf]; omega
        · have g1 : ¬ ((k : Int) < (nr : Int)) := by omega
          have HCZ : Hid (ckRd l rs = 0) := Lib.hid (by
            rw [HC.out, if_pos]
            rw [List.all_eq_true]
            intro y hy
            obtain ⟨i, hi, rfl⟩ := List.getElem_of_mem hy
            have h2 := HV.out i (by have := HNR.out; omega)
            rw [atI_eq hi] at h2
            exact h2)
          have HBD := Lib.hid (ckRd_ok HCZ.out).2
          have HERA : Hid (drEr l rs per angle = ckAn per angle) := Lib.hid (by
            unfold drEr
            rw [HG.out, HCZ.out]
            by_cases h : ckAn per angle = 0
            · rw [h]; rfl
            · simp [orL]
              exact fun h2 => absurd h2 h)
          clear HV hlt
          by_cases ha : ckAn per angle = 0
          · have HI : Hid (drI l rs per angle x = (drL l rs per.toNat angle.toNat x).getD 0 ∧ drE l rs per angle x = if drL l rs per.toNat angle.toNat x = none then 5 else 0) := Lib.hid (by unfold drI drE; rw [HERA.out, if_pos ha, if_pos ha]; exact ⟨rfl, rfl⟩)
            obtain ⟨pn, an, rfl, rfl, hp1, hp2, hap⟩ := ckAn_ok ha
            have HI2 : Hid (drI l rs pn an x = (drL l rs pn an x).getD 0 ∧ drE l rs pn an x = if drL l rs pn an x = none then 5 else 0) := HI
            have s1 : ¬ ((pn : Int) < 1) := by omega
            have s2 : ¬ ((65536 : Int) < (pn : Int)) := by omega
            have s3 : ¬ ((an : Int) < 0) := by omega
            have s4 : ¬ ((pn : Int) ≤ (an : Int)) := by omega
            have t1 : decide ((pn : Int) < 1) = false := decide_eq_false s1
            have t2 : decide ((65536 : Int) < (pn : Int)) = false := decide_eq_false s2
            have t3 : decide ((an : Int) < 0) = false := decide_eq_false s3
            have t4 : decide ((pn : Int) ≤ (an : Int)) = false := decide_eq_false s4
            have t5 : decide (pn ≤ an) = false := decide_eq_false (by omega)
            have s5 : ¬ (pn ≤ an) := by omega
            have t6 : decide (65536 < pn) = false := decide_eq_false (by omega)
            have s6 : ¬ (65536 < pn) := by omega
            clear ha HI HERA HC
            go_wp2_with fail
            go_loopw [14] (fun z wr => ∃ k : Nat, k ≤ nr ∧ z = .int .i64 k ∧ Hid (Below w.heap.size w wr) ∧ Hid (∀ j, j < k → j % pn = an → drB l rs x j = false)) (fun z _ => nr - (intOf z).toNat)
            case atStart => exact ⟨0, Nat.zero_le _, rfl, HB, Lib.hid (fun j hj => absurd hj (by omega))⟩
            case round =>
              clear HB hk g1 s1 s2 s3 s4 s5 s6 t1 t2 t3 t4 t5 t6
              obtain ⟨k, hk, rfl, HB, HV⟩ := hrel
              by_cases hlt : k < nr
              · have hx : k < l.length := by have := HN.out; omega
                have hy : k < rs.length := by have := HNR.out; omega
                obtain ⟨ad, hA, _, p1, p2⟩ := (H.out.below HB.out (Nat.le_refl _)).at_ hx
                obtain ⟨ar, hAr, _, p3⟩ := (HR.out.below HB.out (Nat.le_refl _)).at_ hy
                obtain rfl := hA
                obtain rfl := hAr
                have b1 := HE.out.1 k hx
                have b2 := HE.out.2 k hx
                have b3 := HBD.out k hy
                have hdb : drB l rs x k = win x (atI rs k - innW l k) (atI rs k + outW l k) := rfl
                rw [atI_eq hy, innW_eq hx, outW_eq hx] at hdb
                rw [innW_eq hx] at b1
                rw [outW_eq hx] at b2
                rw [atI_eq hy] at b3
                obtain ⟨p, hp⟩ : ∃ p, l[k] = p := ⟨_, rfl⟩
                obtain ⟨r, hr⟩ : ∃ r, rs[k] = r := ⟨_, rfl⟩
                rw [hp] at p1 p2 b1 b2 hdb
                rw [hr] at p3 b3 hdb
                rw [Int.sub_neg] at hdb
                unfold win at hdb
                have w1 : IntKind.i64.wrap (r + p.1) = r + p.1 := IntWalk.i64_in _ (by omega)
                have w2 : IntKind.i64.wrap (r + p.2) = r + p.2 := IntWalk.i64_in _ (by omega)
                have g1 : (k : Int) < (nr : Int) := by omega
                have r1 : (k : Int).tmod (pn : Int) = ((k % pn : Nat) : Int) := by rw [Int.tmod_eq_emod_of_nonneg (by omega)]; rfl
                have r2 : (k : Int) % (pn : Int) = ((k % pn : Nat) : Int) := rfl
                have r3 : ¬ ((pn : Int) = 0) := by omega
                have r4 : ((pn : Int) == 0) = false := beq_eq_false_iff_ne.2 r3
                have hm := Nat.mod_lt k (show 0 < pn by omega)
                have HMK : Hid (k % pn = k % pn) := Lib.hid rfl
                have HDB := Lib.hid hdb
                have y1 := Lat.cell p1
                have y2 := Lat.cell p2
                have y3 := Lat.cell p3
                have HV1 : Hid ((k % pn = an → drB l rs x k = false) → ∀ j, j < k + 1 → j % pn = an → drB l rs x j = false) := Lib.hid (fun h0 j hj h9 => by
                  rcases Nat.lt_or_ge j k with h | h
                  · exact HV.out j h h9
                  · obtain rfl : j = k := by omega
                    exact h0 h9)
                have HS1 := Lib.hid (drL_some (pn := pn) (an := an) hx HV.out)
                clear b1 b2 b3 hdb hp hr p1 p2 p3
                obtain ⟨m, hme⟩ : ∃ m, k % pn = m := ⟨_, rfl⟩
                rw [hme] at r1 r2 hm HV1 HS1
                clear hme HMK
                have r5 : IntKind.i64.wrap (m : Int) = (m : Int) := IntWalk.i64_in _ (by omega)
                by_cases hma : m = an
                · subst hma
                  have q2 : ((m : Int) == (m : Int)) = true := by simp
                  by_cases c1 : r + p.1 ≤ x
                  · have d1 : decide (r + p.1 ≤ x) = true := decide_eq_true c1
                    by_cases c2 : x ≤ r + p.2
                    · have d2 : decide (x ≤ r + p.2) = true := decide_eq_true c2
                      have HS := Lib.hid (HS1.out rfl (by rw [HDB.out, d1, d2]; rfl))
                      clear HV1 HS1 hm
                      go_wp2_with fail
                      try dsimp only [List.append]
                      refine wp_region_lat (by kernel_rfl) (by kernel_rfl) ?_
                      repeat (go_big_quiet_step (fail))
                      refine wpQuiet_nil ?_
                      intro W3 hw'
                      have hb1 := lat_out hw'
                      replace HB := Lib.hid (HB.out.trans (hb1.mono HB.out.size))
                      clear hb1 hw' y1 y2 y3
                      go_wp2
                      refine bodyPost_ret (results_tmp2 rfl _ _ _) rfl ?_
                      exact ⟨by rw [HI2.out.1, HI2.out.2, HS.out]; rfl, HB.out⟩
                    · have d2 : decide (x ≤ r + p.2) = false := decide_eq_false c2
                      have HV2 := Lib.hid (HV1.out (fun _ => by rw [HDB.out, d1, d2]; rfl))
                      clear HV1 HS1 hm
                      go_wp2_with fail
                      try dsimp only [List.append]
                      refine wp_region_lat (by kernel_rfl) (by kernel_rfl) ?_
                      repeat (go_big_quiet_step (fail))
                      refine wpQuiet_nil ?_
                      intro W3 hw'
                      have hb1 := lat_out hw'
                      replace HB := Lib.hid (HB.out.trans (hb1.mono HB.out.size))
                      clear hb1 hw' y1 y2 y3
                      go_wp2
                      go_roundw
                      case rel => exact ⟨k + 1, by omega, by go_num, HB, HV2⟩
                      case measure => simp [intOf]; omega
                  · have d1 : decide (r + p.1 ≤ x) = false := decide_eq_false c1
                    have HV2 := Lib.hid (HV1.out (fun _ => by rw [HDB.out, d1]; rfl))
                    clear HV1 HS1 hm
                    go_wp2_with fail
                    try dsimp only [List.append]
                    refine wp_region_lat (by kernel_rfl) (by kernel_rfl) ?_
                    repeat (go_big_quiet_step (fail))
                    refine wpQuiet_nil ?_
                    intro W3 hw'
                    have hb1 := lat_out hw'
                    replace HB := Lib.hid (HB.out.trans (hb1.mono HB.out.size))
                    clear hb1 hw' y1 y2 y3
                    go_wp2
                    go_roundw
                    case rel => exact ⟨k + 1, by omega, by go_num, HB, HV2⟩
                    case measure => simp [intOf]; omega
                · have q2 : ((m : Int) == (an : Int)) = false := beq_eq_false_iff_ne.2 (by omega)
                  have HV2 := Lib.hid (HV1.out (fun h => absurd h hma))
                  clear HV1 HS1 hm
                  go_wp2_with fail
                  try dsimp only [List.append]
                  refine wp_region_lat (by kernel_rfl) (by kernel_rfl) ?_
                  repeat (go_big_quiet_step (fail))
                  refine wpQuiet_nil ?_
                  intro W3 hw'
                  have hb1 := lat_out hw'
                  replace HB := Lib.hid (HB.out.trans (hb1.mono HB.out.size))
                  clear hb1 hw' y1 y2 y3
                  go_wp2
                  go_roundw
                  case rel => exact ⟨k + 1, by omega, by go_num, HB, HV2⟩
                  case measure => simp [intOf]; omega
              · have HS := Lib.hid (drL_none (x := x) (rs := rs) (pn := pn) (an := an) (fun j h1 h2 => HV.out j (by have := HN.out; omega) h2))
                have g1 : ¬ ((k : Int) < (nr : Int)) := by omega
                go_wp2
                refine bodyPost_ret (results_tmp2 rfl _ _ _) rfl ?_
                exact ⟨by rw [HI2.out.1, HI2.out.2, HS.out]; rfl, HB.out⟩
          · have h3 : ckAn per angle = 3 := by
              unfold ckAn at ha ⊢
              split at ha
              · exact absurd rfl ha
              · rename_i h; rw [if_neg h]
            have HI : Hid (drI l rs per angle x = 0 ∧ drE l rs per angle x = 3) := Lib.hid (by unfold drI drE; rw [HERA.out, if_neg ha, if_neg ha]; exact ⟨rfl, h3⟩)
            have HAN := Lib.hid ha
            clear ha h3
            by_cases c1 : per < 1
            · have d1 : decide (per < 1) = true := decide_eq_true c1
              go_wp2
              refine bodyPost_ret (results_tmp2 rfl _ _ _) rfl ?_
              exact ⟨by rw [HI.out.1, HI.out.2]; rfl, HB.out⟩
            · have d1 : decide (per < 1) = false := decide_eq_false c1
              by_cases c2 : 65536 < per
              · have d2 : decide (65536 < per) = true := decide_eq_true c2
                clear c1
                go_wp2
                refine bodyPost_ret (results_tmp2 rfl _ _ _) rfl ?_
                exact ⟨by rw [HI.out.1, HI.out.2]; rfl, HB.out⟩
              · have d2 : decide (65536 < per) = false := decide_eq_false c2
                by_cases c3 : angle < 0
                · have d3 : decide (angle < 0) = true := decide_eq_true c3
                  go_wp2
                  refine bodyPost_ret (results_tmp2 rfl _ _ _) rfl ?_
                  exact ⟨by rw [HI.out.1, HI.out.2]; rfl, HB.out⟩
                · have d3 : decide (angle < 0) = false := decide_eq_false c3
                  have c4 : per ≤ angle := by
                    rcases Int.lt_or_le angle per with h | h
                    · exfalso
                      refine HAN.out ?_
                      unfold ckAn win
                      rw [if_pos]
                      simp only [Bool.and_eq_true, decide_eq_true_eq]
                      omega
                    · exact h
                  have d4 : decide (per ≤ angle) = true := decide_eq_true c4
                  go_wp2
                  refine bodyPost_ret (results_tmp2 rfl _ _ _) rfl ?_
                  exact ⟨by rw [HI.out.1, HI.out.2]; rfl, HB.out⟩
    · have q1 : ((nr : Int) != (n : Int)) = true := by rw [bne_iff_ne]; omega
      have h2 : ckRd l rs = 17 := by unfold ckRd; rw [if_neg (by have := HN.out; have := HNR.out; omega)]
      have h3 : drEr l rs per angle = 17 := by simp [drEr, orL, hg, h2]
      have HI : Hid (drI l rs per angle x = 0 ∧ drE l rs per angle x = 17) := Lib.hid (by unfold drI drE; rw [h3]; exact ⟨rfl, rfl⟩)
      clear hg h2 h3
      go_enter Try.func35, Try.ntmps35
      go_wp2_with fail
      refine (CG.out _ (Below.refl _ _)).mono ?_
      rintro e w1 ⟨rfl, hb1⟩
      have HB := Lib.hid hb1
      clear hb1
      go_wp2
      refine bodyPost_ret (results_tmp2 rfl _ _ _) rfl ?_
      exact ⟨by rw [HI.out.1, HI.out.2]; rfl, HB.out⟩
  · have hER : drEr l rs per angle = ckG l := by simp [drEr, orL, hg]
    have HI : Hid (drI l rs per angle x = 0 ∧ drE l rs per angle x = ckG l) := Lib.hid (by unfold drI drE; rw [hER, if_neg hg, if_neg hg]; exact ⟨rfl, rfl⟩)
    obtain ⟨q, hq⟩ : ∃ q, ckG l = q := ⟨_, rfl⟩
    rw [hq] at CG hg HI
    have q1 : (q != 0) = true := by rw [bne_iff_ne]; exact hg
    clear hER hg hq
    go_enter Try.func35, Try.ntmps35
    go_wp2_with fail
    refine (CG.out _ (Below.refl _ _)).mono ?_
    rintro e w1 ⟨rfl, hb1⟩
    have HB := Lib.hid hb1
    clear hb1
    go_wp2
    refine bodyPost_ret (results_tmp2 rfl _ _ _) rfl ?_
    exact ⟨by rw [HI.out.1, HI.out.2]; rfl, HB.out⟩
end Go.Proofs.Ytjdnpgilinfkgaa
