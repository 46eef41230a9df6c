/-
  The document's Centred.
-/
import Derived.Test.YtomncopeekegoaaIV
import Derived.Test.YtomncopeekegoaaIW
namespace Go.Proofs.Ytomncopeekegoaa
open Go.RowKit

theorem sq_le {x : Nat} (h : x ≤ 288230376151711744) : x * x ≤ 83076749736557242056487941267521536 := Nat.mul_le_mul h h
set_option maxRecDepth 100000 in
set_option maxHeartbeats 8000000 in
theorem refCentred_any (a b c : Smp) (lim : Int) (w : World) :
    Calls Try.prog 36 #[.agg #[.int .i64 a.1, .int .i64 a.2], .agg #[.int .i64 b.1, .int .i64 b.2], .agg #[.int .i64 c.1, .int .i64 c.2], .int .i64 lim] w fun e w' =>
      e = .returned (.tuple #[.bool (cdV a b c lim).1, .int .i64 (cdV a b c lim).2]) ∧ Below w.heap.size w w' := by
  have hbd := @cen_bd a b c
  obtain ⟨V, hV⟩ : ∃ V, cdV a b c lim = V := ⟨_, rfl⟩
  have hcd : cdV a b c lim = if cenE a b c = 0 then (if win lim 0 262144 = true then (decide (sqN [(cenR a b c).1, (cenR a b c).2.1] ≤ sqN [lim * (cenR a b c).2.2]), 0) else (false, 2)) else (false, cenE a b c) := rfl
  rw [hV] at hcd ⊢
  have HCE : Hid (∀ W : World, Calls Try.prog 34 #[.agg #[.int .i64 a.1, .int .i64 a.2], .agg #[.int .i64 b.1, .int .i64 b.2], .agg #[.int .i64 c.1, .int .i64 c.2]] W fun e w' =>
      e = .returned (.tuple #[.int .i64 (cenR a b c).1, .int .i64 (cenR a b c).2.1, .int .i64 (cenR a b c).2.2, .int .i64 (cenE a b c)]) ∧ Below W.heap.size W w') := Lib.hid (fun W => refCentre_any a b c W)
  obtain ⟨⟨x, y, d⟩, hR⟩ : ∃ R, cenR a b c = R := ⟨_, rfl⟩
  obtain ⟨E, hE⟩ : ∃ E, cenE a b c = E := ⟨_, rfl⟩
  rw [hR, hE] at hcd hbd HCE
  dsimp only at hcd hbd
  clear hV hR hE
  by_cases h0 : E = 0
  · subst h0
    rw [if_pos rfl] at hcd
    obtain ⟨⟨x1, x2⟩, ⟨y1, y2⟩, ⟨d1, d2⟩⟩ := hbd rfl
    clear hbd
    cases hw : win lim 0 262144
    · rw [hw] at hcd
      have HV : Hid (V = (false, 2)) := Lib.hid (by rw [hcd]; rfl)
      have HW := Lib.hid hw
      clear hcd hw x1 x2 y1 y2 d1 d2
      go_enter Try.func36, Try.ntmps36
      go_upto_region 1 with fail
      obtain ⟨W, hW⟩ : ∃ W, ((w.alloc (.cells #[.int .i64 a.1, .int .i64 a.2] 66)).alloc (.cells #[.int .i64 b.1, .int .i64 b.2] 66)).alloc (.cells #[.int .i64 c.1, .int .i64 c.2] 66) = W := ⟨_, rfl⟩
      have hb0 : Below w.heap.size w W := by rw [← hW]; exact ((below_a _ _).alloc (by simp) _).alloc (by simp; omega) _
      have k0 : Blk W w.heap.size 66 #[.int .i64 a.1, .int .i64 a.2] := by rw [← hW]; exact ((Blk.new _ _ _).alloc _).alloc _
      have k1 : Blk W (w.heap.size + 1) 66 #[.int .i64 b.1, .int .i64 b.2] := by rw [← hW]; exact (blk_al (by simp)).alloc _
      have k2 : Blk W (w.heap.size + 1 + 1) 66 #[.int .i64 c.1, .int .i64 c.2] := by rw [← hW]; exact blk_al (by simp)
      rw [hW]
      obtain ⟨c0, c1⟩ := k0.two_
      obtain ⟨c2, c3⟩ := k1.two_
      obtain ⟨c4, c5⟩ := k2.two_
      have HB := Lib.hid hb0
      clear hW k0 k1 k2 hb0
      go_wp2_with fail
      refine (HCE.out W).mono ?_
      rintro e w1 ⟨rfl, hb⟩
      replace HB := Lib.hid (HB.out.trans (hb.mono HB.out.size))
      clear hb c0 c1 c2 c3 c4 c5
      go_wp2_with ((refine (within_any _ _ _ _).mono ?_); rintro e w2 ⟨rfl, rfl⟩; rw [HW.out])
      go_ret2
      rw [HV.out]
      exact ⟨rfl, HB.out⟩
    · rw [hw, if_pos rfl] at hcd
      have hl := win_iff.1 hw
      have hm := mul_bd (a := lim) (A := 262144) (b := d) (B := 1099511627776) (by omega) (by omega)
      have hq : IntKind.i64.wrap (lim * d) = lim * d := IntWalk.i64_in _ (by omega)
      obtain ⟨z, hz⟩ : ∃ z, lim * d = z := ⟨_, rfl⟩
      rw [hz] at hq hcd hm
      obtain ⟨U, hU⟩ : ∃ U, x.natAbs * x.natAbs = U := ⟨_, rfl⟩
      obtain ⟨Y, hY⟩ : ∃ U, y.natAbs * y.natAbs = U := ⟨_, rfl⟩
      obtain ⟨Z, hZ⟩ : ∃ U, z.natAbs * z.natAbs = U := ⟨_, rfl⟩
      have HQ1 : Hid (∀ W : World, Calls Try.prog 72 #[.int .i64 x] W fun e w' => e = .returned (dgV U) ∧ Below W.heap.size W w') := Lib.hid (fun W => by rw [← hU]; exact square_any x W (by omega))
      have HQ2 : Hid (∀ W : World, Calls Try.prog 72 #[.int .i64 y] W fun e w' => e = .returned (dgV Y) ∧ Below W.heap.size W w') := Lib.hid (fun W => by rw [← hY]; exact square_any y W (by omega))
      have HQ3 : Hid (∀ W : World, Calls Try.prog 72 #[.int .i64 z] W fun e w' => e = .returned (dgV Z) ∧ Below W.heap.size W w') := Lib.hid (fun W => by rw [← hZ]; exact square_any z W (by omega))
      have bU : U ≤ 83076749736557242056487941267521536 := by rw [← hU]; exact sq_le (by omega)
      have bY : Y ≤ 83076749736557242056487941267521536 := by rw [← hY]; exact sq_le (by omega)
      have hcd' : V = (decide (U + Y ≤ Z), 0) := by
        rw [hcd]
        refine Prod.ext ?_ rfl
        exact decide_eq_decide.2 (by simp only [sqN, Nat.add_zero, hU, hY, hZ])
      have g0 := @dg_0 (U + Y) Z
      have g1 := @dg_1 (U + Y) Z
      have g2 := @dg_2 (U + Y) Z
      have g3 := dg_lt (U + Y) Z
      obtain ⟨⟨u0, u1, u2⟩, hu⟩ : ∃ v, dg U = v := ⟨_, rfl⟩
      obtain ⟨⟨v0, v1, v2⟩, hv⟩ : ∃ v, dg Y = v := ⟨_, rfl⟩
      obtain ⟨⟨t0, t1, t2⟩, ht⟩ : ∃ v, dg Z = v := ⟨_, rfl⟩
      have hsum : (u0 + v0) * 288230376151711744 + (u1 + v1) * 536870912 + (u2 + v2) = U + Y := by
        unfold dg at hu hv
        simp only [Prod.mk.injEq] at hu hv
        omega
      have hbb : (u0 ≤ 288230376151711744 ∧ u1 < 536870912 ∧ u2 < 536870912) ∧ (v0 ≤ 288230376151711744 ∧ v1 < 536870912 ∧ v2 < 536870912) := by
        unfold dg at hu hv
        simp only [Prod.mk.injEq] at hu hv
        omega
      have HDG : Hid (∀ W : World, Calls Try.prog 73 #[.agg #[.int .i64 ((u0 + v0 : Nat) : Int), .int .i64 ((u1 + v1 : Nat) : Int), .int .i64 ((u2 + v2 : Nat) : Int)]] W fun e w' => e = .returned (dgV (U + Y)) ∧ Below W.heap.size W w') := Lib.hid (fun W => by
        rw [← hsum]
        exact digits_any _ _ _ W (by omega) (by omega) (by omega))
      obtain ⟨⟨s0, s1, s2⟩, hs⟩ : ∃ v, dg (U + Y) = v := ⟨_, rfl⟩
      simp only [dgV, hu, hv, ht, hs] at HQ1 HQ2 HQ3 HDG
      rw [hs, ht] at g0 g1 g2 g3
      dsimp only at g0 g1 g2 g3
      have n0 : (u0 : Int) + (v0 : Int) = ((u0 + v0 : Nat) : Int) := by omega
      have n1 : (u1 : Int) + (v1 : Int) = ((u1 + v1 : Nat) : Int) := by omega
      have n2 : (u2 : Int) + (v2 : Int) = ((u2 + v2 : Nat) : Int) := by omega
      have e0 : IntKind.i64.wrap ((u0 : Int) + (v0 : Int)) = (u0 : Int) + (v0 : Int) := IntWalk.i64_in _ (by omega)
      have e1 : IntKind.i64.wrap ((u1 : Int) + (v1 : Int)) = (u1 : Int) + (v1 : Int) := IntWalk.i64_in _ (by omega)
      have e2 : IntKind.i64.wrap ((u2 : Int) + (v2 : Int)) = (u2 : Int) + (v2 : Int) := IntWalk.i64_in _ (by omega)
      obtain ⟨r, hr⟩ : ∃ r, decide (U + Y ≤ Z) = r := ⟨_, rfl⟩
      rw [hr] at g0 g1 g2 hcd'
      have HV := Lib.hid hcd'
      have G0 := Lib.hid g0
      have G1 := Lib.hid g1
      have G2 := Lib.hid g2
      have G3 : Hid (s0 = t0 → s1 = t1 → s2 = t2 → r = true) := Lib.hid (fun h1 h2 h3 => by rw [← hr, decide_eq_true_iff]; exact Nat.le_of_eq (g3 h1 h2 h3))
      have HW := Lib.hid hw
      have HN := Lib.hid (And.intro n0 (And.intro n1 n2))
      have HE := Lib.hid (And.intro e0 (And.intro e1 e2))
      have HZQ := Lib.hid (And.intro hz hq)
      clear e0 e1 e2 hz hq hcd hcd' hw x1 x2 y1 y2 d1 d2 hl hm hU hY hZ bU bY g0 g1 g2 g3 hu hv ht hsum hbb hs hr n0 n1 n2
      go_enter Try.func36, Try.ntmps36
      go_upto_region 1 with fail
      obtain ⟨W, hW⟩ : ∃ W, ((w.alloc (.cells #[.int .i64 a.1, .int .i64 a.2] 66)).alloc (.cells #[.int .i64 b.1, .int .i64 b.2] 66)).alloc (.cells #[.int .i64 c.1, .int .i64 c.2] 66) = W := ⟨_, rfl⟩
      have hb0 : Below w.heap.size w W := by rw [← hW]; exact ((below_a _ _).alloc (by simp) _).alloc (by simp; omega) _
      have k0 : Blk W w.heap.size 66 #[.int .i64 a.1, .int .i64 a.2] := by rw [← hW]; exact ((Blk.new _ _ _).alloc _).alloc _
      have k1 : Blk W (w.heap.size + 1) 66 #[.int .i64 b.1, .int .i64 b.2] := by rw [← hW]; exact (blk_al (by simp)).alloc _
      have k2 : Blk W (w.heap.size + 1 + 1) 66 #[.int .i64 c.1, .int .i64 c.2] := by rw [← hW]; exact blk_al (by simp)
      rw [hW]
      obtain ⟨c0, c1⟩ := k0.two_
      obtain ⟨c2, c3⟩ := k1.two_
      obtain ⟨c4, c5⟩ := k2.two_
      have HB := Lib.hid hb0
      clear hW k0 k1 k2 hb0
      go_wp2_with fail
      refine (HCE.out W).mono ?_
      rintro e w1 ⟨rfl, hb⟩
      replace HB := Lib.hid (HB.out.trans (hb.mono HB.out.size))
      clear hb c0 c1 c2 c3 c4 c5
      go_wp2_with fail
      refine (within_any _ _ _ _).mono ?_
      rintro e w2 ⟨rfl, rfl⟩
      rw [HW.out]
      obtain ⟨hz, hq⟩ := HZQ.out
      clear HZQ
      go_wp2_with fail
      refine (HQ1.out _).mono ?_
      rintro e w2 ⟨rfl, hb⟩
      replace HB := Lib.hid (HB.out.trans (hb.mono HB.out.size))
      clear hb
      go_wp2_with fail
      refine (HQ2.out _).mono ?_
      rintro e w3 ⟨rfl, hb⟩
      replace HB := Lib.hid (HB.out.trans (hb.mono HB.out.size))
      clear hb
      go_wp2_with fail
      refine (HQ3.out _).mono ?_
      rintro e w4 ⟨rfl, hb⟩
      replace HB := Lib.hid (HB.out.trans (hb.mono HB.out.size))
      clear hb
      clear hq hz
      obtain ⟨e0, e1, e2⟩ := HE.out
      go_wp2_with fail
      rw [show (u0 : Int) + (v0 : Int) = ((u0 + v0 : Nat) : Int) from HN.out.1, show (u1 : Int) + (v1 : Int) = ((u1 + v1 : Nat) : Int) from HN.out.2.1, show (u2 : Int) + (v2 : Int) = ((u2 + v2 : Nat) : Int) from HN.out.2.2]
      clear e0 e1 e2
      obtain ⟨W, hW⟩ : ∃ W, ((w4.alloc (.cells #[.int .i64 u0, .int .i64 u1, .int .i64 u2] 127)).alloc (.cells #[.int .i64 v0, .int .i64 v1, .int .i64 v2] 127)).alloc (.cells #[.int .i64 t0, .int .i64 t1, .int .i64 t2] 127) = W := ⟨_, rfl⟩
      have hb0 : Below w4.heap.size w4 W := by rw [← hW]; exact ((below_a _ _).alloc (by simp) _).alloc (by simp; omega) _
      have k2 : Blk W (w4.heap.size + 1 + 1) 127 #[.int .i64 t0, .int .i64 t1, .int .i64 t2] := by rw [← hW]; exact blk_al (by simp)
      rw [hW]
      refine (HDG.out _).mono ?_
      rintro e w5 ⟨rfl, hb⟩
      have K2 := Lib.hid (k2.below hb k2.lt)
      have hs5 : w4.heap.size + 1 + 1 < w5.heap.size := K2.out.lt
      replace HB := Lib.hid (HB.out.trans ((hb0.trans (hb.mono hb0.size)).mono HB.out.size))
      clear hb hW hb0 k2
      obtain ⟨b2, hb2⟩ : ∃ b2, w4.heap.size + 1 + 1 = b2 := ⟨_, rfl⟩
      rw [hb2] at K2 hs5
      go_wp2_with fail
      obtain ⟨W5, hW5⟩ : ∃ W5, w5.alloc (.cells #[.int .i64 s0, .int .i64 s1, .int .i64 s2] 127) = W5 := ⟨_, rfl⟩
      have hb5 : Below w5.heap.size w5 W5 := by rw [← hW5]; exact below_a _ _
      have K3 : Hid (Blk W5 w5.heap.size 127 #[.int .i64 s0, .int .i64 s1, .int .i64 s2]) := Lib.hid (by rw [← hW5]; exact Blk.new _ _ _)
      replace K2 := Lib.hid (K2.out.below hb5 hs5)
      replace HB := Lib.hid (HB.out.trans (hb5.mono HB.out.size))
      rw [hW5]
      obtain ⟨b5, hb5'⟩ : ∃ b5, w5.heap.size = b5 := ⟨_, rfl⟩
      rw [hb5'] at K3 ⊢
      clear hW5 hb5 hs5 hb5' hb2
      go_loopw [18] (fun i wr => ∃ k : Nat, k ≤ 3 ∧ i = .int .i64 k ∧ Hid (Below W5.heap.size W5 wr) ∧ Hid ((0 < k → s0 = t0) ∧ (1 < k → s1 = t1) ∧ (2 < k → s2 = t2))) (fun i wr => 3 - (intOf i).toNat)
      case atStart => exact ⟨0, by omega, rfl, Lib.hid (Below.refl _ _), Lib.hid ⟨by omega, by omega, by omega⟩⟩
      case round =>
        obtain ⟨k, hk, rfl, HBR, HEQ⟩ := hrel
        have hkk : k = 0 ∨ k = 1 ∨ k = 2 ∨ k = 3 := by omega
        have KS := Lib.hid (K3.out.below HBR.out K3.out.lt)
        have KT := Lib.hid (K2.out.below HBR.out K2.out.lt)
        rcases hkk with rfl | rfl | rfl | rfl
        · have d := (KS.out.cell 0).trans rfl
          have f := (KT.out.cell 0).trans rfl
          by_cases he : s0 = t0
          · have HEN : Hid ((0 < 1 → s0 = t0) ∧ (1 < 1 → s1 = t1) ∧ (2 < 1 → s2 = t2)) := Lib.hid ⟨fun _ => he, by omega, by omega⟩
            rw [show ((s0 : Nat) : Int) = (t0 : Int) by rw [he]] at d
            have r1 : ((t0 : Int) != (t0 : Int)) = false := by simp
            clear he
            go_wp2_with fail
            go_quiet (fail)
            go_wp2
            go_roundw
            case rel => exact ⟨1, by omega, by go_num, Lib.hid (below_drewN_ HBR.out _), HEN⟩
            case measure => simp [intOf]
          · have HF := Lib.hid (G0.out  he)
            have r1 : ((s0 : Int) != (t0 : Int)) = true := by rw [bne_iff_ne]; omega
            have r2 : ((s0 : Int) == (t0 : Int)) = false := beq_eq_false_iff_ne.2 (by omega)
            clear he
            by_cases hl : s0 < t0
            · have l1 : (s0 : Int) < (t0 : Int) := by omega
              have HFF : Hid (r = true) := Lib.hid (by rw [HF.out, decide_eq_true_iff]; exact hl)
              go_wp2_with fail
              go_quiet (fail)
              go_wp2_with fail
              go_quiet (fail)
              go_wp2
              go_ret2
              rw [HV.out, HFF.out]
              exact ⟨rfl, HB.out.trans ((below_drewN_ (below_drewN_ HBR.out _) _).mono HB.out.size)⟩
            · have l1 : ¬ (s0 : Int) < (t0 : Int) := by omega
              have HFF : Hid (r = false) := Lib.hid (by rw [HF.out]; exact decide_eq_false hl)
              go_wp2_with fail
              go_quiet (fail)
              go_wp2_with fail
              go_quiet (fail)
              go_wp2
              go_ret2
              rw [HV.out, HFF.out]
              exact ⟨rfl, HB.out.trans ((below_drewN_ (below_drewN_ HBR.out _) _).mono HB.out.size)⟩
        · have d := (KS.out.cell 1).trans rfl
          have f := (KT.out.cell 1).trans rfl
          by_cases he : s1 = t1
          · have HEN : Hid ((0 < 2 → s0 = t0) ∧ (1 < 2 → s1 = t1) ∧ (2 < 2 → s2 = t2)) := Lib.hid ⟨fun _ => HEQ.out.1 (by omega), fun _ => he, by omega⟩
            rw [show ((s1 : Nat) : Int) = (t1 : Int) by rw [he]] at d
            have r1 : ((t1 : Int) != (t1 : Int)) = false := by simp
            clear he
            go_wp2_with fail
            go_quiet (fail)
            go_wp2
            go_roundw
            case rel => exact ⟨2, by omega, by go_num, Lib.hid (below_drewN_ HBR.out _), HEN⟩
            case measure => simp [intOf]
          · have HF := Lib.hid (G1.out (HEQ.out.1 (by omega)) he)
            have r1 : ((s1 : Int) != (t1 : Int)) = true := by rw [bne_iff_ne]; omega
            have r2 : ((s1 : Int) == (t1 : Int)) = false := beq_eq_false_iff_ne.2 (by omega)
            clear he
            by_cases hl : s1 < t1
            · have l1 : (s1 : Int) < (t1 : Int) := by omega
              have HFF : Hid (r = true) := Lib.hid (by rw [HF.out, decide_eq_true_iff]; exact hl)
              go_wp2_with fail
              go_quiet (fail)
              go_wp2_with fail
              go_quiet (fail)
              go_wp2
              go_ret2
              rw [HV.out, HFF.out]
              exact ⟨rfl, HB.out.trans ((below_drewN_ (below_drewN_ HBR.out _) _).mono HB.out.size)⟩
            · have l1 : ¬ (s1 : Int) < (t1 : Int) := by omega
              have HFF : Hid (r = false) := Lib.hid (by rw [HF.out]; exact decide_eq_false hl)
              go_wp2_with fail
              go_quiet (fail)
              go_wp2_with fail
              go_quiet (fail)
              go_wp2
              go_ret2
              rw [HV.out, HFF.out]
              exact ⟨rfl, HB.out.trans ((below_drewN_ (below_drewN_ HBR.out _) _).mono HB.out.size)⟩
        · have d := (KS.out.cell 2).trans rfl
          have f := (KT.out.cell 2).trans rfl
          by_cases he : s2 = t2
          · have HEN : Hid ((0 < 3 → s0 = t0) ∧ (1 < 3 → s1 = t1) ∧ (2 < 3 → s2 = t2)) := Lib.hid ⟨fun _ => HEQ.out.1 (by omega), fun _ => HEQ.out.2.1 (by omega), fun _ => he⟩
            rw [show ((s2 : Nat) : Int) = (t2 : Int) by rw [he]] at d
            have r1 : ((t2 : Int) != (t2 : Int)) = false := by simp
            clear he
            go_wp2_with fail
            go_quiet (fail)
            go_wp2
            go_roundw
            case rel => exact ⟨3, by omega, by go_num, Lib.hid (below_drewN_ HBR.out _), HEN⟩
            case measure => simp [intOf]
          · have HF := Lib.hid (G2.out (HEQ.out.1 (by omega)) (HEQ.out.2.1 (by omega)) he)
            have r1 : ((s2 : Int) != (t2 : Int)) = true := by rw [bne_iff_ne]; omega
            have r2 : ((s2 : Int) == (t2 : Int)) = false := beq_eq_false_iff_ne.2 (by omega)
            clear he
            by_cases hl : s2 < t2
            · have l1 : (s2 : Int) < (t2 : Int) := by omega
              have HFF : Hid (r = true) := Lib.hid (by rw [HF.out, decide_eq_true_iff]; exact hl)
              go_wp2_with fail
              go_quiet (fail)
              go_wp2_with fail
              go_quiet (fail)
              go_wp2
              go_ret2
              rw [HV.out, HFF.out]
              exact ⟨rfl, HB.out.trans ((below_drewN_ (below_drewN_ HBR.out _) _).mono HB.out.size)⟩
            · have l1 : ¬ (s2 : Int) < (t2 : Int) := by omega
              have HFF : Hid (r = false) := Lib.hid (by rw [HF.out]; exact decide_eq_false hl)
              go_wp2_with fail
              go_quiet (fail)
              go_wp2_with fail
              go_quiet (fail)
              go_wp2
              go_ret2
              rw [HV.out, HFF.out]
              exact ⟨rfl, HB.out.trans ((below_drewN_ (below_drewN_ HBR.out _) _).mono HB.out.size)⟩
        · have HFF : Hid (r = true) := Lib.hid (G3.out (HEQ.out.1 (by omega)) (HEQ.out.2.1 (by omega)) (HEQ.out.2.2 (by omega)))
          go_wp2
          go_ret2
          rw [HV.out, HFF.out]
          exact ⟨rfl, HB.out.trans (HBR.out.mono HB.out.size)⟩
  · rw [if_neg h0] at hcd
    have HV := Lib.hid hcd
    have q : ((E : Int) != 0) = true := by rw [bne_iff_ne]; exact h0
    clear hcd hbd
    go_enter Try.func36, Try.ntmps36
    go_upto_region 1 with fail
    obtain ⟨W, hW⟩ : ∃ W, ((w.alloc (.cells #[.int .i64 a.1, .int .i64 a.2] 66)).alloc (.cells #[.int .i64 b.1, .int .i64 b.2] 66)).alloc (.cells #[.int .i64 c.1, .int .i64 c.2] 66) = W := ⟨_, rfl⟩
    have hb0 : Below w.heap.size w W := by rw [← hW]; exact ((below_a _ _).alloc (by simp) _).alloc (by simp; omega) _
    have k0 : Blk W w.heap.size 66 #[.int .i64 a.1, .int .i64 a.2] := by rw [← hW]; exact ((Blk.new _ _ _).alloc _).alloc _
    have k1 : Blk W (w.heap.size + 1) 66 #[.int .i64 b.1, .int .i64 b.2] := by rw [← hW]; exact (blk_al (by simp)).alloc _
    have k2 : Blk W (w.heap.size + 1 + 1) 66 #[.int .i64 c.1, .int .i64 c.2] := by rw [← hW]; exact blk_al (by simp)
    rw [hW]
    obtain ⟨c0, c1⟩ := k0.two_
    obtain ⟨c2, c3⟩ := k1.two_
    obtain ⟨c4, c5⟩ := k2.two_
    have HB := Lib.hid hb0
    clear hW k0 k1 k2 hb0
    go_wp2_with fail
    refine (HCE.out W).mono ?_
    rintro e w1 ⟨rfl, hb⟩
    replace HB := Lib.hid (HB.out.trans (hb.mono HB.out.size))
    clear hb c0 c1 c2 c3 c4 c5
    go_wp2
    go_ret2
    rw [HV.out]
    exact ⟨rfl, HB.out⟩
end Go.Proofs.Ytomncopeekegoaa
