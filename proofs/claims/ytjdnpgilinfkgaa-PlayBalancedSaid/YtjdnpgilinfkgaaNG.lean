/-
  The document's Jump and Balance.
-/
import Derived.Test.YtjdnpgilinfkgaaND
import Derived.Test.YtjdnpgilinfkgaaML
namespace Go.Proofs.Ytjdnpgilinfkgaa
open Go.RowKit

theorem jmL_at {a : Int × Int} {l : List Smp} {i : Nat} (h1 : 1 ≤ i) (h2 : i + 1 < l.length) (h : ∀ j, 1 ≤ j → j < i → jmB a (bdL l j) = 0) (hu : jmB a (bdL l i) ≠ 0) : jmL a l = some (i, jmB a (bdL l i)) := by
  have hl : i - 1 < (bns l.length).length := by rw [bns_len]; omega
  have hs := bns_snoc hl
  rw [show 1 + (i - 1) = i by omega] at hs
  refine jmL_some (pre := (bns l.length).take (i - 1)) (by rw [hs]; exact List.take_prefix _ _) (fun v hv => ?_) hu
  obtain ⟨k, hk, e⟩ := List.getElem_of_mem hv
  rw [List.getElem_take] at e
  have h3 : (bns l.length)[k]'(by rw [List.length_take] at hk; omega) = 1 + k := by simp [bns]
  rw [h3] at e
  rw [List.length_take] at hk
  exact h v (by omega) (by omega)

set_option maxRecDepth 100000 in
set_option maxHeartbeats 4000000 in
theorem refJump_any (B : Nat) (A : Option Addr) (n c : Nat) (a : Int × Int) (l : List Smp) (w : World) (h0 : RS w B A n l) (hB : B ≤ w.heap.size) (hl : n ≤ 9223372036854775807) :
    Calls Try.prog 31 #[.agg #[.int .i64 a.1, .int .i64 a.2], .slice A n c] w fun e w' => e = .returned (.tuple #[.int .i64 (jmI a l), .int .i64 (jmT a l), .int .i64 (jmE a l)]) ∧ Below w.heap.size w w' := by
  have HN := Lib.hid h0.1
  have H := Lib.hid (h0.more hB)
  clear h0 hB
  have CA := Lib.hid (fun W => refCheckArm_any a W)
  have CG := Lib.hid (fun W (hb : Below w.heap.size w W) => refCheckPoints_any w.heap.size A n c l W (H.out.below hb (Nat.le_refl _)) hb.size hl)
  have hbw : Below w.heap.size w (w.alloc (.cells #[.int .i64 a.1, .int .i64 a.2] 52)) := (Below.refl _ _).alloc (Nat.le_refl _) _
  have kw : Blk (w.alloc (.cells #[.int .i64 a.1, .int .i64 a.2] 52)) w.heap.size 52 #[.int .i64 a.1, .int .i64 a.2] := Blk.new _ _ _
  by_cases hz : ckA a = 0
  · have d1 : decide (ckA a = 0) = true := decide_eq_true hz
    rw [d1] at CA
    by_cases hg : ckG l = 0
    · have hER := jmEr_of hz hg
      have HI : Hid (jmI a l = ((jmL a l).getD (0, 0)).1 ∧ jmT a l = ((jmL a l).getD (0, 0)).2 ∧ jmE a l = if jmL a l = none then 5 else 0) := Lib.hid (by unfold jmI jmT jmE; rw [if_pos hER, if_pos hER, if_pos hER]; exact ⟨rfl, rfl, rfl⟩)
      have HAB := Lib.hid (ckA_ok hz)
      have HE := Lib.hid (ckG_edg hg).2
      have hn4 : n ≤ 4096 := by have := (ckG_edg hg).1; have := HN.out; omega
      rw [hg] at CG
      clear hER hz hg d1
      go_enter Try.func31, Try.ntmps31
      go_wp2_with fail
      refine (CA.out _).mono ?_
      rintro e w1 ⟨rfl, hb1⟩
      have K := Lib.hid (kw.below hb1 kw.lt)
      have HB := Lib.hid (hbw.trans (hb1.mono hbw.size))
      clear hb1 kw hbw
      go_wp2_with fail
      refine (CG.out _ HB.out).mono ?_
      rintro e w2 ⟨rfl, hb1⟩
      replace K := Lib.hid (K.out.below hb1 K.out.lt)
      replace HB := Lib.hid (HB.out.trans (hb1.mono HB.out.size))
      clear hb1
      go_wp2
      go_loopw [8] (fun z wr => ∃ i : Nat, 1 ≤ i ∧ (i = 1 ∨ i + 1 ≤ n) ∧ z = .int .i64 i ∧ Hid (Blk wr w.heap.size 52 #[.int .i64 a.1, .int .i64 a.2]) ∧ Hid (Below w.heap.size w wr) ∧ Hid (∀ j, 1 ≤ j → j < i → jmB a (bdL l j) = 0)) (fun z _ => n - (intOf z).toNat)
      case atStart => exact ⟨1, Nat.le_refl _, .inl rfl, rfl, K, HB, Lib.hid (fun j h1 h2 => absurd h2 (by omega))⟩
      case round =>
        clear K HB
        obtain ⟨i, hi, hi2, rfl, K, HB, HV⟩ := hrel
        have e1 : IntKind.i64.wrap ((i : Int) + 1) = (i : Int) + 1 := IntWalk.i64_in _ (by omega)
        by_cases hlt : i + 1 < n
        · have g1 : (i : Int) + 1 < (n : Int) := by omega
          have hil : i + 1 < l.length := by have := HN.out; omega
          obtain ⟨t0, t1, -, -, -⟩ := K.out.two
          have bd := bdL_bd HE.out hil
          have ab := HAB.out
          have BN := fun z : Lat wr => refBend_any w.heap.size A n c i l z.w (H.out.below (HB.out.trans (z.below.mono HB.out.size)) (Nat.le_refl _)) HE.out hn4 hi hlt
          have hjc := jmB_cases a (bdL l i)
          have hat := jmL_at (a := a) hi hil HV.out
          obtain ⟨b, hb⟩ : ∃ b, bdL l i = b := ⟨_, rfl⟩
          rw [hb] at BN bd hjc hat
          have HBB := Lib.hid hb
          have BL : Hid (∀ z : Lat wr, Calls Try.prog 45 #[.slice A n c, .int .i64 i] z.w (fun e w'' => e = .returned (.int .i64 b) ∧ ∃ y : Lat wr, w'' = y.w)) := Lib.hid (fun z => Calls.lat (BN z))
          have w1 : IntKind.i64.wrap (b - a.2) = b - a.2 := IntWalk.i64_in _ (by omega)
          have w2 : IntKind.i64.wrap (-(b - a.2)) = -(b - a.2) := IntWalk.i64_in _ (by omega)
          have HAT := Lib.hid hat
          have HJC := Lib.hid hjc
          have z1 := Lat.cell t0
          have z2 := Lat.cell t1
          clear BN hb bd ab hat hjc t0 t1
          go_wp2_with fail
          try dsimp only [List.append]
          refine wp_region_lat (by kernel_rfl) (by kernel_rfl) ?_
          repeat (go_big_quiet_step ((with_reducible exact BL.out _)))
          refine wpQuiet_nil ?_
          intro W2 hw'
          have hb1 := lat_out hw'
          replace HB := Lib.hid (HB.out.trans (hb1.mono HB.out.size))
          replace K := Lib.hid (K.out.below hb1 K.out.lt)
          obtain ⟨t0, t1, -, -, -⟩ := K.out.two
          clear hb1 hw' z1 z2
          rcases HJC.out with ⟨hj, hc⟩ | ⟨hj, hc⟩ | ⟨hj, hc, hc2⟩
          · have HS := Lib.hid (HAT.out (by rw [hj]; decide))
            rw [hj] at HS
            have d1 : decide (a.1 < b - a.2) = true := decide_eq_true hc
            go_wp2
            refine bodyPost_ret (results_tmp3 rfl _ _ _) rfl ?_
            exact ⟨by rw [HI.out.1, HI.out.2.1, HI.out.2.2, HS.out]; rfl, HB.out⟩
          · have HS := Lib.hid (HAT.out (by rw [hj]; decide))
            rw [hj] at HS
            have ab := HAB.out
            have hc1 : ¬ (a.1 < b - a.2) := by omega
            have d1 : decide (a.1 < b - a.2) = false := decide_eq_false hc1
            have hc2 : a.1 < -(b - a.2) := by omega
            have d2 : decide (a.1 < -(b - a.2)) = true := decide_eq_true hc2
            clear ab
            go_wp2
            refine bodyPost_ret (results_tmp3 rfl _ _ _) rfl ?_
            exact ⟨by rw [HI.out.1, HI.out.2.1, HI.out.2.2, HS.out]; rfl, HB.out⟩
          · have hc1 : ¬ (a.1 < b - a.2) := by omega
            have d1 : decide (a.1 < b - a.2) = false := decide_eq_false hc1
            have hc3 : ¬ (a.1 < -(b - a.2)) := by omega
            have d2 : decide (a.1 < -(b - a.2)) = false := decide_eq_false hc3
            have HV2 : Hid (∀ j, 1 ≤ j → j < i + 1 → jmB a (bdL l j) = 0) := Lib.hid (fun j h1 h2 => by
              rcases Nat.lt_or_ge j i with h | h
              · exact HV.out j h1 h
              · rw [show j = i by omega, HBB.out]; exact hj)
            go_wp2
            go_roundw
            case rel => exact ⟨i + 1, by omega, .inr (by omega), by go_num, K, HB, HV2⟩
            case measure => simp [intOf]; omega
        · have g1 : ¬ ((i : Int) + 1 < (n : Int)) := by omega
          have HS : Hid (jmL a l = none) := Lib.hid (jmL_none (fun j hj => by
            obtain ⟨h1, h2⟩ := bns_mem.1 hj
            exact HV.out j h1 (by have := HN.out; omega)))
          go_wp2
          refine bodyPost_ret (results_tmp3 rfl _ _ _) rfl ?_
          exact ⟨by rw [HI.out.1, HI.out.2.1, HI.out.2.2, HS.out]; rfl, HB.out⟩
    · have hER : jmEr a l = ckG l := by simp [jmEr, orL, hz, hg]
      have HI : Hid (jmI a l = 0 ∧ jmT a l = 0 ∧ jmE a l = ckG l) := Lib.hid (by unfold jmI jmT jmE; rw [hER, if_neg hg, if_neg hg, if_neg hg]; exact ⟨rfl, rfl, rfl⟩)
      obtain ⟨q, hq⟩ : ∃ q, ckG l = q := ⟨_, rfl⟩
      rw [hq] at CG hg HI
      have q1 : (q != 0) = true := by rw [bne_iff_ne]; exact hg
      clear hER hz hg d1 hq
      go_enter Try.func31, Try.ntmps31
      go_wp2_with fail
      refine (CA.out _).mono ?_
      rintro e w1 ⟨rfl, hb1⟩
      have HB := Lib.hid (hbw.trans (hb1.mono hbw.size))
      clear hb1 kw hbw
      go_wp2_with fail
      refine (CG.out _ HB.out).mono ?_
      rintro e w2 ⟨rfl, hb1⟩
      replace HB := Lib.hid (HB.out.trans (hb1.mono HB.out.size))
      clear hb1
      go_wp2
      refine bodyPost_ret (results_tmp3 rfl _ _ _) rfl ?_
      exact ⟨by rw [HI.out.1, HI.out.2.1, HI.out.2.2]; rfl, HB.out⟩
  · have hER : jmEr a l = ckA a := by simp [jmEr, orL, hz]
    have h2 : ckA a = 2 := by
      unfold ckA at hz ⊢
      split at hz
      · exact absurd rfl hz
      · rename_i h; rw [if_neg h]
    have HI : Hid (jmI a l = 0 ∧ jmT a l = 0 ∧ jmE a l = 2) := Lib.hid (by unfold jmI jmT jmE; rw [hER, if_neg hz, if_neg hz, if_neg hz]; exact ⟨rfl, rfl, h2⟩)
    have d1 : decide (ckA a = 0) = false := decide_eq_false hz
    rw [d1] at CA
    clear hER hz h2 d1 CG
    go_enter Try.func31, Try.ntmps31
    go_wp2_with fail
    refine (CA.out _).mono ?_
    rintro e w1 ⟨rfl, hb1⟩
    have HB := Lib.hid (hbw.trans (hb1.mono hbw.size))
    clear hb1 kw hbw
    go_wp2
    refine bodyPost_ret (results_tmp3 rfl _ _ _) rfl ?_
    exact ⟨by rw [HI.out.1, HI.out.2.1, HI.out.2.2]; rfl, HB.out⟩
end Go.Proofs.Ytjdnpgilinfkgaa
