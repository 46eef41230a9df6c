/-
  The document's Correction.
-/
import Derived.Test.YthdflofdjhjjhaaUK
import Derived.Deep.QuietTactic
import Derived.BigQuiet
namespace Go.Proofs.Ythdflofdjhjjhaa
open Go.RowKit

set_option maxRecDepth 100000 in
set_option maxHeartbeats 8000000 in
theorem Correction_any (B : Nat) (t : CV) (Ax Ay : Option Addr) (T kx ky : Nat) (xs ys : List Int) (w : World) (hc : CI w B t) (hX : LI w B Ax T xs) (hY : LI w B Ay T ys) (hB : B ≤ w.heap.size) (hT : T ≤ 1099511627776) (hok : CurOk t.c) (hh : Small (mts xs ys)) :
    Calls Try.prog 60 #[.agg #[.slice t.Af t.nf t.kf, .slice t.Ab t.nb t.kb, .int .i64 t.c.share], .slice Ax T kx, .slice Ay T ky, .int .i64 T] w fun e w' => e = .returned (.int .i64 (cor t.c (mts xs ys))) ∧ Below w.heap.size w w' := by
  have nf8 : t.nf ≤ 8 := by have := hc.f.1; have := hok.1; omega
  have nb8 : t.nb ≤ 8 := by have := hc.b.1; have := hok.2.1; omega
  obtain ⟨c1, c2, c3, c4, c5, c6⟩ := hok
  have HC3 := Lib.hid c3
  have HC4 := Lib.hid c4
  have HH := Lib.hid hh
  obtain ⟨W, hW⟩ : ∃ W, w.alloc (.cells #[.slice t.Af t.nf t.kf, .slice t.Ab t.nb t.kb, .int .i64 t.c.share] 24) = W := ⟨_, rfl⟩
  have hb : Below w.heap.size w W := by rw [← hW]; exact (Below.refl _ _).alloc (Nat.le_refl _) _
  have HK : Hid (Blk W w.heap.size 24 #[.slice t.Af t.nf t.kf, .slice t.Ab t.nb t.kb, .int .i64 t.c.share]) := Lib.hid (by rw [← hW]; exact Blk.new _ _ _)
  have HF := Lib.hid ((hc.f.below hb hB).more (Nat.le_trans hB hb.size))
  have HBK := Lib.hid ((hc.b.below hb hB).more (Nat.le_trans hB hb.size))
  have HX := Lib.hid ((hX.below hb hB).more (Nat.le_trans hB hb.size))
  have HY := Lib.hid ((hY.below hb hB).more (Nat.le_trans hB hb.size))
  have HB := Lib.hid hb
  clear hc hX hY hB hb c3 c4 hh c1 c2
  go_enter Try.func60, Try.ntmps60
  go_upto_region 1 with fail
  try rw [hW]
  clear hW
  have HB0 : Hid (Below W.heap.size W W) := Lib.hid (Below.refl _ _)
  go_wp2
  go_loopw [9, 10] (fun v i wr => ∃ j : Nat, j ≤ t.nf ∧ i = .int .i64 j ∧ v = .int .i64 (sumTo t.c.feed (fun i => (hAt (mts xs ys) i).1) j) ∧ Hid (Below W.heap.size W wr)) (fun _ i wr => t.nf - (intOf i).toNat)
  case atStart => exact ⟨0, Nat.zero_le _, rfl, by simp [sumTo], HB0⟩
  case round =>
    clear HB0
    obtain ⟨j, hj, rfl, rfl, HBR⟩ := hrel
    obtain ⟨c0, c1, c2⟩ := (HK.out.below HBR.out HK.out.lt).three_
    by_cases hlt : j < t.nf
    · have hjl : j < t.c.feed.length := by have := HF.out.1; omega
      obtain ⟨ad, hA, hbl, h1⟩ := (HF.out.below HBR.out (Nat.le_refl _)).at_ (k := j) hjl
      have HA := Lib.hid hA
      clear hA
      have t1 := sum_small HC3.out (fun i => (HH.out.at_ i).1) (k := j) (by omega)
      have t2 := sum_small HC3.out (fun i => (HH.out.at_ i).1) (k := j + 1) (by omega)
      have t3 := prod_small (HC3.out _ (List.getElem_mem hjl)) (HH.out.at_ j).1
      rw [sum_step _ _ hjl] at t2
      have es : Hid (sumTo t.c.feed (fun i => (hAt (mts xs ys) i).1) (j + 1) = sumTo t.c.feed (fun i => (hAt (mts xs ys) i).1) j + t.c.feed[j] * (hAt (mts xs ys) j).1) := Lib.hid (sum_step _ _ hjl)
      try dsimp only at t1 t2
      have w1 : IntKind.i64.wrap ((T : Int) - 1) = (T : Int) - 1 := IntWalk.i64_in _ (by omega)
      have w2 : IntKind.i64.wrap ((T : Int) - 1 - j) = (T : Int) - 1 - j := IntWalk.i64_in _ (by omega)
      by_cases hge : j < T
      · have hjT : T - 1 - j < xs.length := by have := HX.out.1; have := HY.out.1; omega
        obtain ⟨ad2, hA2, hbl2, h2⟩ := (HX.out.below HBR.out (Nat.le_refl _)).at_ (k := T - 1 - j) hjT
        have hm : (hAt (mts xs ys) j).1 = xs[T - 1 - j] := by
          have e := HX.out.1
          subst e
          rw [mts_at (by rw [← HX.out.1, HY.out.1]) (by omega)]
        have i1 : 0 ≤ (T : Int) - 1 - j := by omega
        have i2 : ((T : Int) - 1 - j).toNat = T - 1 - j := by omega
        have i3 : (T : Int) - 1 - j < (T : Int) := by omega
        obtain ⟨sm, hsm⟩ : ∃ s, sumTo t.c.feed (fun i => (hAt (mts xs ys) i).1) j = s := ⟨_, rfl⟩
        obtain ⟨x, hx⟩ : ∃ x, t.c.feed[j] = x := ⟨_, rfl⟩
        obtain ⟨y, hy⟩ : ∃ y, xs[T - 1 - j] = y := ⟨_, rfl⟩
        rw [hm, hx, hy] at es t3
        rw [hsm] at t1 t2 es ⊢
        rw [hm, hx, hy] at t2
        rw [hx] at h1
        rw [hy] at h2
        have e1 : IntKind.i64.wrap (x * y) = x * y := IntWalk.i64_in _ (by omega)
        have e2 : IntKind.i64.wrap (sm + x * y) = sm + x * y := IntWalk.i64_in _ (by omega)
        have A1 := HA.out
        rw [A1] at c0
        have HA2 := Lib.hid hA2
        clear hm hx hy hsm A1 hA2
        obtain rfl := HA2.out
        go_wp2_with fail
        go_quiet (fail)
        go_wp2
        go_roundw
        case rel => exact ⟨j + 1, by omega, by go_num, by rw [es.out], Lib.hid (below_drewN_ HBR.out _)⟩
        case measure => simp [intOf]; omega
      · have hm : (hAt (mts xs ys) j).1 = 0 := by rw [mts_out (by have := HX.out.1; omega)]
        have i1 : ¬ 0 ≤ (T : Int) - 1 - j := by omega
        rw [hm, Int.mul_zero, Int.add_zero] at es
        clear hm t2 t3
        go_wp2
        go_roundw
        case rel => exact ⟨j + 1, by omega, by go_num, by rw [es.out], HBR⟩
        case measure => simp [intOf]; omega
    · have HJ : Hid (j = t.c.feed.length) := Lib.hid (by have := HF.out.1; omega)
      have d0 := sum_small HC3.out (fun i => (HH.out.at_ i).1) (k := j) (by omega)
      try dsimp only at d0
      obtain ⟨sf, hsf⟩ : ∃ s, sumTo t.c.feed (fun i => (hAt (mts xs ys) i).1) j = s := ⟨_, rfl⟩
      rw [hsf] at d0 ⊢
      have HSF := Lib.hid hsf
      clear hsf
      go_wp2
      clear c0 c1 c2
      go_loopw [9, 11] (fun v i wr => ∃ j : Nat, j ≤ t.nb ∧ i = .int .i64 j ∧ v = .int .i64 (sf + sumTo t.c.back (fun i => (hAt (mts xs ys) i).2) j) ∧ Hid (Below W.heap.size W wr)) (fun _ i wr => t.nb - (intOf i).toNat)
      case atStart => exact ⟨0, Nat.zero_le _, rfl, by simp [sumTo], HBR⟩
      case round =>
        clear HBR
        obtain ⟨j, hj, rfl, rfl, HBR⟩ := hrel
        obtain ⟨c0, c1, c2⟩ := (HK.out.below HBR.out HK.out.lt).three_
        by_cases hlt : j < t.nb
        · have hjl : j < t.c.back.length := by have := HBK.out.1; omega
          obtain ⟨ad, hA, hbl, h1⟩ := (HBK.out.below HBR.out (Nat.le_refl _)).at_ (k := j) hjl
          have HA := Lib.hid hA
          clear hA
          have t1 := sum_small HC4.out (fun i => (HH.out.at_ i).2) (k := j) (by omega)
          have t2 := sum_small HC4.out (fun i => (HH.out.at_ i).2) (k := j + 1) (by omega)
          have t3 := prod_small (HC4.out _ (List.getElem_mem hjl)) (HH.out.at_ j).2
          rw [sum_step _ _ hjl] at t2
          have es : Hid (sumTo t.c.back (fun i => (hAt (mts xs ys) i).2) (j + 1) = sumTo t.c.back (fun i => (hAt (mts xs ys) i).2) j + t.c.back[j] * (hAt (mts xs ys) j).2) := Lib.hid (sum_step _ _ hjl)
          try dsimp only at t1 t2
          have w1 : IntKind.i64.wrap ((T : Int) - 1) = (T : Int) - 1 := IntWalk.i64_in _ (by omega)
          have w2 : IntKind.i64.wrap ((T : Int) - 1 - j) = (T : Int) - 1 - j := IntWalk.i64_in _ (by omega)
          by_cases hge : j < T
          · have hjT : T - 1 - j < ys.length := by have := HX.out.1; have := HY.out.1; omega
            obtain ⟨ad2, hA2, hbl2, h2⟩ := (HY.out.below HBR.out (Nat.le_refl _)).at_ (k := T - 1 - j) hjT
            have hm : (hAt (mts xs ys) j).2 = ys[T - 1 - j] := by
              have e := HX.out.1
              subst e
              rw [mts_at (by rw [← HX.out.1, HY.out.1]) (by omega)]
            have i1 : 0 ≤ (T : Int) - 1 - j := by omega
            have i2 : ((T : Int) - 1 - j).toNat = T - 1 - j := by omega
            have i3 : (T : Int) - 1 - j < (T : Int) := by omega
            obtain ⟨sm, hsm⟩ : ∃ s, sumTo t.c.back (fun i => (hAt (mts xs ys) i).2) j = s := ⟨_, rfl⟩
            obtain ⟨x, hx⟩ : ∃ x, t.c.back[j] = x := ⟨_, rfl⟩
            obtain ⟨y, hy⟩ : ∃ y, ys[T - 1 - j] = y := ⟨_, rfl⟩
            rw [hm, hx, hy] at es t3
            rw [hsm] at t1 t2 es ⊢
            rw [hm, hx, hy] at t2
            rw [hx] at h1
            rw [hy] at h2
            have e1 : IntKind.i64.wrap (x * y) = x * y := IntWalk.i64_in _ (by omega)
            have e2 : IntKind.i64.wrap (sf + sm + x * y) = sf + sm + x * y := IntWalk.i64_in _ (by omega)
            have A1 := HA.out
            rw [A1] at c1
            have HA2 := Lib.hid hA2
            clear hm hx hy hsm A1 hA2
            obtain rfl := HA2.out
            go_wp2_with fail
            go_quiet (fail)
            go_wp2
            go_roundw
            case rel => exact ⟨j + 1, by omega, by go_num, by rw [es.out, Int.add_assoc], Lib.hid (below_drewN_ HBR.out _)⟩
            case measure => simp [intOf]; omega
          · have hm : (hAt (mts xs ys) j).2 = 0 := by rw [mts_out (by have := HX.out.1; omega)]
            have i1 : ¬ 0 ≤ (T : Int) - 1 - j := by omega
            rw [hm, Int.mul_zero, Int.add_zero] at es
            clear hm t2 t3
            go_wp2
            go_roundw
            case rel => exact ⟨j + 1, by omega, by go_num, by rw [es.out], HBR⟩
            case measure => simp [intOf]; omega
        · have HJ2 : Hid (j = t.c.back.length) := Lib.hid (by have := HBK.out.1; omega)
          have d1 := sum_small HC4.out (fun i => (HH.out.at_ i).2) (k := j) (by omega)
          try dsimp only at d1
          obtain ⟨sb, hsb⟩ : ∃ s, sumTo t.c.back (fun i => (hAt (mts xs ys) i).2) j = s := ⟨_, rfl⟩
          rw [hsb] at d1 ⊢
          have HSB := Lib.hid hsb
          clear hsb
          go_wp2_with ((with_reducible refine (refDown_any _ _ _ (by omega) (by omega) (by omega) (by omega)).mono ?_); rintro e w2 ⟨rfl, rfl⟩)
          go_ret
          refine ⟨ret_i ?_, HB.out.trans (HBR.out.mono HB.out.size)⟩
          unfold cor corS
          rw [← HJ.out, ← HJ2.out, HSF.out, HSB.out]
end Go.Proofs.Ythdflofdjhjjhaa
