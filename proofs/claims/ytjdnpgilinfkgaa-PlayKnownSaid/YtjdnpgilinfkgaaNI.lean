/-
  checkCut, checkAngle and Drop of package play; the document's Drop.
-/
import Derived.Test.YtjdnpgilinfkgaaND
import Derived.Test.YtjdnpgilinfkgaaML
namespace Go.Proofs.Ytjdnpgilinfkgaa
open Go.RowKit

def ckAn (per angle : Int) : Int := if win per 1 65536 && win angle 0 (per - 1) then 0 else 3
def drEr (l : List Smp) (rs : List Int) (per angle : Int) : Int := orL [ckG l, ckRd l rs, ckAn per angle]
/-- The first sample at an angle between whose edges a tip is. -/
def drL (l : List Smp) (rs : List Int) (pn an : Nat) (x : Int) : Option Nat := (List.range l.length).find? fun i => decide (i % pn = an) && drB l rs x i
def drI (l : List Smp) (rs : List Int) (per angle x : Int) : Nat := if drEr l rs per angle = 0 then (drL l rs per.toNat angle.toNat x).getD 0 else 0
def drE (l : List Smp) (rs : List Int) (per angle x : Int) : Int := if drEr l rs per angle = 0 then (if drL l rs per.toNat angle.toNat x = none then 5 else 0) else drEr l rs per angle

theorem drL_none {l : List Smp} {rs : List Int} {pn an : Nat} {x : Int} (h : ∀ j, j < l.length → j % pn = an → drB l rs x j = false) : drL l rs pn an x = none := by
  unfold drL
  rw [List.find?_eq_none]
  intro j hj
  have h1 := h j (List.mem_range.1 hj)
  by_cases hm : j % pn = an
  · rw [h1 hm]; simp
  · rw [decide_eq_false hm]; simp
theorem drL_some {l : List Smp} {rs : List Int} {pn an i : Nat} {x : Int} (hi : i < l.length) (h : ∀ j, j < i → j % pn = an → drB l rs x j = false) (hm : i % pn = an) (hd : drB l rs x i = true) : drL l rs pn an x = some i := by
  unfold drL
  obtain ⟨d, hdd⟩ : ∃ d, l.length = i + (1 + d) := ⟨l.length - (i + 1), by omega⟩
  rw [hdd, List.range_add, List.find?_append, List.find?_eq_none.2 (fun j hj => by
    have h1 := h j (List.mem_range.1 hj)
    by_cases hm : j % pn = an
    · rw [h1 hm]; simp
    · rw [decide_eq_false hm]; simp)]
  rw [Nat.add_comm 1, List.range_succ_eq_map]
  simp [hm, hd]
theorem drL_get {l : List Smp} {rs : List Int} {pn an i : Nat} {x : Int} (h : drL l rs pn an x = some i) : i < l.length ∧ i % pn = an ∧ drB l rs x i = true := by
  unfold drL at h
  have h1 := List.find?_some h
  have h2 := List.mem_range.1 (List.mem_of_find?_eq_some h)
  simp only [Bool.and_eq_true, decide_eq_true_eq] at h1
  exact ⟨h2, h1.1, h1.2⟩
theorem drEr_ok {l : List Smp} {rs : List Int} {per angle : Int} (h : drEr l rs per angle = 0) : ckG l = 0 ∧ ckRd l rs = 0 ∧ ckAn per angle = 0 := by
  unfold drEr orL at h
  split at h
  · rename_i h1
    unfold orL at h
    split at h
    · rename_i h2
      unfold orL at h
      split at h
      · rename_i h3; exact ⟨h1, h2, h3⟩
      · rename_i h3; exact absurd h h3
    · rename_i h2; exact absurd h h2
  · rename_i h1; exact absurd h h1
theorem drEr_of {l : List Smp} {rs : List Int} {per angle : Int} (h1 : ckG l = 0) (h2 : ckRd l rs = 0) (h3 : ckAn per angle = 0) : drEr l rs per angle = 0 := by simp [drEr, orL, h1, h2, h3]
theorem ckRd_ok {l : List Smp} {rs : List Int} (h : ckRd l rs = 0) : rs.length = l.length ∧ ∀ i, i < rs.length → -16777216 ≤ atI rs i ∧ atI rs i ≤ 16777216 := by
  unfold ckRd at h
  split at h
  · rename_i h1
    split at h
    · rename_i h2
      rw [List.all_eq_true] at h2
      refine ⟨h1, fun i hi => ?_⟩
      have h3 := h2 _ (List.getElem_mem hi)
      rw [atI_eq hi]
      unfold win at h3
      simpa only [Bool.and_eq_true, decide_eq_true_eq] using h3
    · exact absurd h (by decide)
  · exact absurd h (by decide)
theorem ckAn_ok {per angle : Int} (h : ckAn per angle = 0) : ∃ pn an : Nat, per = pn ∧ angle = an ∧ 1 ≤ pn ∧ pn ≤ 65536 ∧ an < pn := by
  unfold ckAn win at h
  split at h
  · rename_i h1
    simp only [Bool.and_eq_true, decide_eq_true_eq] at h1
    exact ⟨per.toNat, angle.toNat, by omega, by omega, by omega, by omega, by omega⟩
  · exact absurd h (by decide)
/-- Between two samples at an angle there is none at it. -/
theorem mod_next {i j pn an : Nat} (h1 : i % pn = an) (h2 : j % pn = an) (h3 : j < i + pn) : j ≤ i := by
  have e1 := Nat.div_add_mod i pn
  have e2 := Nat.div_add_mod j pn
  rcases Nat.lt_or_ge (i / pn) (j / pn) with h | h
  · have h4 : pn * (i / pn + 1) ≤ pn * (j / pn) := Nat.mul_le_mul_left _ h
    rw [Nat.mul_add] at h4
    omega
  · have h4 : pn * (j / pn) ≤ pn * (i / pn) := Nat.mul_le_mul_left _ h
    omega

set_option maxRecDepth 100000 in
set_option maxHeartbeats 2000000 in
theorem checkCut_any (B : Nat) (A Ar : Option Addr) (n c nr cr : Nat) (l : List Smp) (rs : List Int) (w : World) (hn : n = l.length) (h1 : LI w B Ar nr rs) (hl : nr ≤ 9223372036854775807) :
    Calls Try.prog 79 #[.slice A n c, .slice Ar nr cr] w fun e w' => e = .returned (.int .i64 (ckRd l rs)) ∧ w = w' := by
  have HN := Lib.hid hn
  have HR := Lib.hid h1
  have HNR := Lib.hid h1.1
  clear h1
  by_cases hne : nr = n
  · subst hne
    have q1 : ((nr : Int) != (nr : Int)) = false := by simp
    have HC : Hid (ckRd l rs = if rs.all (fun r => win r (-16777216) 16777216) then 0 else 2) := Lib.hid (by unfold ckRd; rw [if_pos (by have := HN.out; have := HNR.out; omega)])
    clear hn
    go_enter Try.func79, Try.ntmps79
    go_wp2
    go_loop [14] (fun z => ∃ k : Nat, k ≤ nr ∧ z = .int .i64 k ∧ Hid (∀ j, j < k → win (atI rs j) (-16777216) 16777216 = true)) (fun z => nr - (intOf z).toNat)
    case atStart => exact ⟨0, Nat.zero_le _, rfl, Lib.hid (fun j hj => absurd hj (by omega))⟩
    case round =>
      clear q1
      obtain ⟨k, hk, rfl, HV⟩ := hrel
      by_cases hlt : k < nr
      · have hx : k < rs.length := by have := HNR.out; omega
        obtain ⟨ad, hA, _, p1⟩ := HR.out.at_ hx
        obtain rfl := hA
        have hat := atI_eq hx
        obtain ⟨r, hr⟩ : ∃ r, rs[k] = r := ⟨_, rfl⟩
        rw [hr] at p1 hat
        have HAT := Lib.hid hat
        have HGET := Lib.hid hr
        clear hat hr
        cases hw : win r (-16777216) 16777216
        · have HW := Lib.hid hw
          have HF : Hid (ckRd l rs = 2) := Lib.hid (by
            rw [HC.out, if_neg]
            rw [List.all_eq_true]
            intro h
            have h2 := h _ (List.getElem_mem hx)
            rw [HGET.out, hw] at h2
            cases h2)
          clear hw
          go_wp2_with ((with_reducible refine (betweenP_any _ _ _ _).mono ?_); rintro e w' ⟨rfl, rfl⟩; (try rw [HW.out]))
          go_ret
          exact ⟨ret_i HF.out.symm, rfl⟩
        · have HW := Lib.hid hw
          have HV2 : Hid (∀ j, j < k + 1 → win (atI rs j) (-16777216) 16777216 = true) := Lib.hid (fun j hj => by
            rcases Nat.lt_or_ge j k with h | h
            · exact HV.out j h
            · rw [show j = k by omega, HAT.out]; exact hw)
          clear hw
          go_wp2_with ((with_reducible refine (betweenP_any _ _ _ _).mono ?_); rintro e w' ⟨rfl, rfl⟩; (try rw [HW.out]))
          go_round
          case rel => exact ⟨k + 1, by omega, by go_num, HV2⟩
          case measure => simp [intOf]; omega
      · have HF : Hid (ckRd l rs = 0) := Lib.hid (by
          rw [HC.out, if_pos]
          rw [List.all_eq_true]
          intro y hy
          obtain ⟨i, hi, rfl⟩ := List.getElem_of_mem hy
          have h2 := HV.out i (by have := HNR.out; omega)
          rw [atI_eq hi] at h2
          exact h2)
        go_wp2
        go_ret
        exact ⟨ret_i HF.out.symm, rfl⟩
  · have q1 : ((nr : Int) != (n : Int)) = true := by rw [bne_iff_ne]; omega
    have HF : Hid (ckRd l rs = 17) := Lib.hid (by unfold ckRd; rw [if_neg (by have := HN.out; have := HNR.out; omega)])
    clear hn
    go_enter Try.func79, Try.ntmps79
    go_wp2
    go_ret
    exact ⟨ret_i HF.out.symm, rfl⟩

set_option maxHeartbeats 1000000 in
theorem checkAngle_any (per angle : Int) (w : World) :
    Calls Try.prog 80 #[.int .i64 per, .int .i64 angle] w fun e w' => e = .returned (.int .i64 (ckAn per angle)) ∧ w = w' := by
  cases h1 : win per 1 65536
  · have H1 := Lib.hid h1
    have HR : Hid (ckAn per angle = 3) := Lib.hid (by unfold ckAn; rw [h1]; rfl)
    clear h1
    go_enter Try.func80, Try.ntmps80
    go_wp2_with ((with_reducible refine (betweenP_any _ _ _ _).mono ?_); rintro e w' ⟨rfl, rfl⟩; (try rw [H1.out]))
    go_ret
    exact ⟨ret_i HR.out.symm, rfl⟩
  · have hb : 1 ≤ per ∧ per ≤ 65536 := by unfold win at h1; simpa only [Bool.and_eq_true, decide_eq_true_eq] using h1
    have e1 : IntKind.i64.wrap (per - 1) = per - 1 := IntWalk.i64_in _ (by omega)
    cases h2 : win angle 0 (per - 1)
    all_goals
      have H1 := Lib.hid h1
      have H2 := Lib.hid h2
      have hr : ckAn per angle = if win per 1 65536 && win angle 0 (per - 1) then 0 else 3 := rfl
      simp only [h1, h2, Bool.and_true, Bool.and_false, if_true, if_false, Bool.false_eq_true] at hr
      have HR := Lib.hid hr
      clear h1 h2 hr hb
      go_enter Try.func80, Try.ntmps80
      go_wp2_with ((with_reducible refine (betweenP_any _ _ _ _).mono ?_); rintro e w' ⟨rfl, rfl⟩; (try rw [H1.out]); (try rw [H2.out]))
      go_ret
      exact ⟨ret_i HR.out.symm, rfl⟩

set_option maxRecDepth 100000 in
set_option maxHeartbeats 4000000 in
theorem Drop_any (B : Nat) (A Ar : Option Addr) (n c nr cr : Nat) (l : List Smp) (rs : List Int) (per angle x : Int) (w : World) (h0 : RS w B A n l) (h1 : LI w B Ar nr rs) (hB : B ≤ w.heap.size) (hl : n ≤ 9223372036854775807) (hlr : nr ≤ 9223372036854775807) :
    Calls Try.prog 34 #[.slice A n c, .slice Ar nr cr, .int .i64 per, .int .i64 angle, .int .i64 x] w fun e w' => e = .returned (.tuple #[.int .i64 (drI l rs per angle x), .int .i64 (drE l rs per angle x)]) ∧ Below w.heap.size w w' := by
  have HN := Lib.hid h0.1
  have HNR := Lib.hid h1.1
  have H := Lib.hid (h0.more hB)
  have HR := Lib.hid (h1.more hB)
  clear h0 h1 hB
  have CG := Lib.hid (fun W (hb : Below w.heap.size w W) => CheckPoints_any w.heap.size A n c l W (H.out.below hb (Nat.le_refl _)) hb.size hl)
  have CC := Lib.hid (fun W (hb : Below w.heap.size w W) => checkCut_any w.heap.size A Ar n c nr cr l rs W HN.out (HR.out.below hb (Nat.le_refl _)) hlr)
  have CA := Lib.hid (fun W => checkAngle_any per angle W)
  have HER0 : Hid (drEr l rs per angle = orL [ckG l, ckRd l rs, ckAn per angle]) := Lib.hid rfl
  have HOK : Hid (drEr l rs per angle = 0 → ckG l = 0 ∧ ckRd l rs = 0 ∧ ckAn per angle = 0) := Lib.hid drEr_ok
  obtain ⟨e1, h1⟩ : ∃ y, ckG l = y := ⟨_, rfl⟩
  obtain ⟨e2, h2⟩ : ∃ y, ckRd l rs = y := ⟨_, rfl⟩
  obtain ⟨e3, h3⟩ : ∃ y, ckAn per angle = y := ⟨_, rfl⟩
  rw [h1] at CG
  rw [h2] at CC
  rw [h3] at CA
  rw [h1, h2, h3] at HER0
  obtain ⟨er_, h5⟩ : ∃ y, orL [e1, e2, e3] = y := ⟨_, rfl⟩
  rw [h5] at HER0
  have HER := HER0
  have HOR := Lib.hid (fun B A n c W h1 h2 h3 h4 => cmpOr_any B A n c [e1, e2, e3] W h1 h2 h3 h4)
  rw [h5] at HOR
  clear h1 h2 h3 h5 HER0
  go_enter Try.func34, Try.ntmps34
  go_wp2_with fail
  refine (CG.out _ (Below.refl _ _)).mono ?_
  rintro e w1 ⟨rfl, hb1⟩
  have HB := Lib.hid hb1
  clear hb1
  go_wp2_with fail
  refine (CC.out _ HB.out).mono ?_
  rintro e w_ ⟨rfl, rfl⟩
  go_wp2_with fail
  refine (CA.out _).mono ?_
  rintro e w_ ⟨rfl, rfl⟩
  go_wp2_with fail
  refine (HOR.out _ _ _ _ _ rfl (reads_cells (blk_al rfl) (Nat.lt_succ_self _) (by rfl) (by rfl)) (by simp) (by simp)).mono ?_
  rintro e w' ⟨rfl, rfl⟩
  obtain ⟨W2, hW2⟩ : ∃ W2, w1.alloc (.cells #[.int .i64 e1, .int .i64 e2, .int .i64 e3] 26) = W2 := ⟨_, rfl⟩
  replace HB : Hid (Below w.heap.size w W2) := Lib.hid (by rw [← hW2]; exact HB.out.alloc HB.out.size _)
  rw [hW2]
  clear hW2 CG CC CA HOR
  by_cases hz : er_ = 0
  · subst hz
    obtain ⟨hg, hc, ha⟩ := HOK.out HER.out
    obtain ⟨hl4, he⟩ := ckG_edg hg
    obtain ⟨hlen, hbd⟩ := ckRd_ok hc
    obtain ⟨pn, an, rfl, rfl, hp1, hp2, hap⟩ := ckAn_ok ha
    have HE := Lib.hid he
    have HBD := Lib.hid hbd
    have HLEN := Lib.hid hlen
    have hn4 : n ≤ 4096 := by have := HN.out; omega
    have hnr : nr = n := by have := HN.out; have := HNR.out; omega
    have HI : Hid (drI l rs pn an x = (drL l rs pn an x).getD 0 ∧ drE l rs pn an x = if drL l rs pn an x = none then 5 else 0) := Lib.hid (by unfold drI drE; rw [if_pos HER.out, if_pos HER.out]; exact ⟨rfl, rfl⟩)
    have HAM : Hid (an % pn = an) := Lib.hid (Nat.mod_eq_of_lt hap)
    subst hnr
    clear hg hc ha he hl4 hlen hbd HER HOK
    go_wp2_with fail
    go_loopw [13] (fun z wr => ∃ i : Nat, i ≤ 200000 ∧ z = .int .i64 i ∧ Hid (i % pn = an) ∧ Hid (Below w.heap.size w wr) ∧ Hid (∀ j, j < i → j < l.length → j % pn = an → drB l rs x j = false)) (fun z _ => nr - (intOf z).toNat)
    case atStart => exact ⟨an, by omega, rfl, HAM, HB, Lib.hid (fun j h1 _ h2 => absurd h1 (by
      have := Nat.mod_le j pn
      omega))⟩
    case round =>
      clear HB
      obtain ⟨i, hi, rfl, HM, HB, HV⟩ := hrel
      by_cases hlt : i < nr
      · have hx : i < l.length := by have := HN.out; omega
        have hy : i < rs.length := by have := HNR.out; omega
        obtain ⟨ad, hA, _, p1, p2⟩ := (H.out.below HB.out (Nat.le_refl _)).at_ hx
        obtain ⟨ar, hAr, _, p3⟩ := (HR.out.below HB.out (Nat.le_refl _)).at_ hy
        obtain rfl := hA
        obtain rfl := hAr
        have b1 := HE.out.1 i hx
        have b2 := HE.out.2 i hx
        have b3 := HBD.out i hy
        have hdb : drB l rs x i = win x (atI rs i - innW l i) (atI rs i + outW l i) := rfl
        rw [atI_eq hy, innW_eq hx, outW_eq hx] at hdb
        rw [innW_eq hx] at b1
        rw [outW_eq hx] at b2
        rw [atI_eq hy] at b3
        obtain ⟨p, hp⟩ : ∃ p, l[i] = p := ⟨_, rfl⟩
        obtain ⟨r, hr⟩ : ∃ r, rs[i] = r := ⟨_, rfl⟩
        rw [hp] at p1 p2 b1 b2 hdb
        rw [hr] at p3 b3 hdb
        rw [Int.sub_neg] at hdb
        have w1 : IntKind.i64.wrap (r + p.1) = r + p.1 := IntWalk.i64_in _ (by omega)
        have w2 : IntKind.i64.wrap (r + p.2) = r + p.2 := IntWalk.i64_in _ (by omega)
        have w3 : IntKind.i64.wrap ((i : Int) + pn) = (i : Int) + pn := IntWalk.i64_in _ (by omega)
        have g1 : (i : Int) < (nr : Int) := by omega
        have HDB := Lib.hid hdb
        have BL : Hid (∀ z : Lat wr, Calls Try.prog 81 #[.int .i64 (r + p.1), .int .i64 x, .int .i64 (r + p.2)] z.w (fun e w'' => e = .returned (.bool (win x (r + p.1) (r + p.2))) ∧ ∃ y : Lat wr, w'' = y.w)) := Lib.hid (fun z => Calls.lat_ (betweenP_any _ _ _ z.w))
        obtain ⟨q, hq⟩ : ∃ q, win x (r + p.1) (r + p.2) = q := ⟨_, rfl⟩
        rw [hq] at BL HDB
        have z1 := Lat.cell p1
        have z2 := Lat.cell p2
        have z3 := Lat.cell p3
        clear b1 b2 b3 hdb hp hr hq p1 p2 p3
        go_wp2_with fail
        try dsimp only [List.append]
        refine wp_region_lat (by kernel_rfl) (by kernel_rfl) ?_
        repeat (go_big_quiet_step ((with_reducible exact BL.out _)))
        refine wpQuiet_nil ?_
        intro W3 hw'
        have hb1 := lat_out hw'
        replace HB := Lib.hid (HB.out.trans (hb1.mono HB.out.size))
        clear hb1 hw' z1 z2 z3
        cases q
        · have HV2 : Hid (∀ j, j < i + pn → j < l.length → j % pn = an → drB l rs x j = false) := Lib.hid (fun j h1 h2 h3 => by
            have h4 := mod_next HM.out h3 h1
            rcases Nat.lt_or_ge j i with h | h
            · exact HV.out j h h2 h3
            · rw [show j = i by omega]; exact HDB.out)
          have HM2 : Hid ((i + pn) % pn = an) := Lib.hid (by rw [Nat.add_mod_right]; exact HM.out)
          go_wp2
          go_roundw
          case rel => exact ⟨i + pn, by omega, by go_num, HM2, HB, HV2⟩
          case measure => simp [intOf]; omega
        · have HS := Lib.hid (drL_some hx (fun j h1 h2 => HV.out j h1 (by omega) h2) HM.out HDB.out)
          go_wp2
          refine bodyPost_ret (results_tmp2 rfl _ _ _) rfl ?_
          exact ⟨by rw [HI.out.1, HI.out.2, HS.out]; rfl, HB.out⟩
      · have HS := Lib.hid (drL_none (x := x) (rs := rs) (fun j h1 h2 => HV.out j (by have := HN.out; omega) h1 h2))
        have g1 : ¬ ((i : Int) < (nr : Int)) := by omega
        go_wp2
        refine bodyPost_ret (results_tmp2 rfl _ _ _) rfl ?_
        exact ⟨by rw [HI.out.1, HI.out.2, HS.out]; rfl, HB.out⟩
  · have q1 : (er_ != 0) = true := by rw [bne_iff_ne]; exact hz
    have HI : Hid (drI l rs per angle x = 0 ∧ drE l rs per angle x = er_) := Lib.hid (by unfold drI drE; rw [HER.out, if_neg hz, if_neg hz]; exact ⟨rfl, rfl⟩)
    clear hz
    go_wp2
    refine bodyPost_ret (results_tmp2 rfl _ _ _) rfl ?_
    exact ⟨by rw [HI.out.1, HI.out.2]; rfl, HB.out⟩
end Go.Proofs.Ytjdnpgilinfkgaa
