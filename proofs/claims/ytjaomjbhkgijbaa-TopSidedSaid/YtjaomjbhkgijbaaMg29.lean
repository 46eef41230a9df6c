/-
  chains and long of the statements of layer 2; the document's Down and Correction.
-/
import Derived.Test.YtjaomjbhkgijbaaMg28
import Derived.Deep.QuietTactic
import Derived.BigQuiet

namespace Go.Proofs.Ytjaomjbhkgijbaa
open Go.RowKit

def big (c : Cur) : Bool := decide (20 < c.feed.length) || decide (20 < c.back.length)
/-- Whether a list of curves is too long for a statement. -/
def chnB (l : List Cur) : Bool := decide (12 < l.length) || l.any big
theorem any_take_ (l : List Cur) (k : Nat) (h : k < l.length) : (l.take (k + 1)).any big = ((l.take k).any big || big l[k]) := by
  rw [List.take_succ_eq_append_getElem h, List.any_append]; simp
theorem any_true_ (l : List Cur) (k : Nat) (h : k < l.length) (hb : big l[k] = true) : l.any big = true := List.any_eq_true.2 ⟨_, List.getElem_mem h, hb⟩
set_option maxHeartbeats 1000000 in
theorem chains_any (B : Nat) (A : Option Addr) (n c : Nat) (l : List CV) (w : World) (h0 : RC w B A n l) (hB : B ≤ w.heap.size) (hl : n ≤ 9223372036854775807) (hs : CSm l) :
    Calls Try.prog 30 #[.slice A n c] w fun e w' => e = .returned (.bool (chnB (l.map CV.c))) ∧ w = w' := by
  have H := Lib.hid (h0.more hB)
  have HN := Lib.hid h0.1
  have HS := Lib.hid hs
  clear h0 hB hs
  by_cases hl12 : 12 < n
  · go_enter Try.func30, Try.ntmps30
    go_wp2
    go_ret
    exact ⟨ret_b (by unfold chnB; rw [decide_eq_true (by have := HN.out; simp; omega)]; rfl), rfl⟩
  · have HCK : Hid (chnB (l.map CV.c) = (l.map CV.c).any big) := Lib.hid (by unfold chnB; rw [decide_eq_false (by have := HN.out; simp; omega)]; rfl)
    go_enter Try.func30, Try.ntmps30
    go_wp2
    go_loop [3] (fun i => ∃ k : Nat, k ≤ n ∧ i = .int .i64 k ∧ Hid (((l.map CV.c).take k).any big = false)) (fun i => n - (intOf i).toNat)
    case atStart => exact ⟨0, Nat.zero_le _, rfl, Lib.hid rfl⟩
    case round =>
      obtain ⟨k, hk, rfl, HV⟩ := hrel
      by_cases hlt : k < n
      · have hkl : k < l.length := by have := HN.out; omega
        obtain ⟨ad, hA, _, p0, p1, _, hci⟩ := H.out.at_ hkl
        obtain rfl := hA
        obtain ⟨s1, s2⟩ := HS.out _ (List.getElem_mem hkl)
        have hkm : k < (l.map CV.c).length := by simpa using hkl
        have HT := Lib.hid (any_take_ (l.map CV.c) k hkm)
        have HF := Lib.hid (any_true_ (l.map CV.c) k hkm)
        have hbg : big (l.map CV.c)[k] = (decide (20 < l[k].nf) || decide (20 < l[k].nb)) := by
          rw [List.getElem_map]; unfold big; rw [← hci.f.1, ← hci.b.1]
        rw [hbg] at HT HF
        obtain ⟨t, ht⟩ : ∃ t, l[k] = t := ⟨_, rfl⟩
        rw [ht] at p0 p1 s1 s2 HT HF
        clear ht hbg hci
        by_cases h1 : 20 < t.nf
        · go_wp2
          go_ret
          exact ⟨ret_b (by rw [HCK.out, HF.out (by rw [decide_eq_true h1]; rfl)]), rfl⟩
        · by_cases h2 : 20 < t.nb
          · go_wp2
            go_ret
            exact ⟨ret_b (by rw [HCK.out, HF.out (by rw [decide_eq_true h2, Bool.or_true])]), rfl⟩
          · go_wp2
            go_round
            case rel => exact ⟨k + 1, by omega, by go_num, Lib.hid (by rw [HT.out, HV.out, decide_eq_false h1, decide_eq_false h2]; rfl)⟩
            case measure => simp [intOf]; omega
      · go_wp2
        go_ret
        have h := HV.out
        rw [List.take_of_length_le (by have := HN.out; simp; omega)] at h
        exact ⟨ret_b (by rw [HCK.out, h]), rfl⟩
/-- Whether a list has too many elements for a statement. -/
def lngB (n most : Nat) : Bool := (decide (most < n) && decide (n ≤ 4096)) || decide (4116 < n)
set_option maxHeartbeats 400000 in
theorem long_any (n most : Nat) (w : World) : Calls Try.prog 31 #[.int .i64 n, .int .i64 most] w fun e w' => e = .returned (.bool (lngB n most)) ∧ w = w' := by
  unfold lngB
  by_cases h1 : most < n <;> by_cases h2 : n ≤ 4096 <;> by_cases h3 : 4116 < n <;> first | omega | skip
  all_goals
    go_enter Try.func31, Try.ntmps31
    go_wp2
    go_ret
    exact ⟨ret_b (by first | (simp [h1, h2, h3]; done) | (simp [h1, h2, h3]; omega)), rfl⟩

set_option maxHeartbeats 400000 in
theorem refDown_any (a b : Int) (w : World) (hb : 0 < b) (hb2 : b ≤ 1099511627776) (h0 : -1152921504606846976 ≤ a) (h1 : a ≤ 1152921504606846976) :
    Calls Try.prog 165 #[.int .i64 a, .int .i64 b] w fun e w' => e = .returned (.int .i64 (a / b)) ∧ w = w' := by
  have hq := quo_down (a := a) hb
  have hbd : -1152921504606846976 ≤ a.tdiv b ∧ a.tdiv b ≤ 1152921504606846976 := by
    rcases Int.le_total 0 a with h | h
    · rw [Int.tdiv_eq_ediv_of_nonneg h]
      have := Int.ediv_nonneg h (show 0 ≤ b by omega)
      have := Int.ediv_le_self b h
      omega
    · have e : a.tdiv b = -((-a).tdiv b) := by rw [Int.neg_tdiv, Int.neg_neg]
      rw [e, Int.tdiv_eq_ediv_of_nonneg (show 0 ≤ -a by omega)]
      have := Int.ediv_nonneg (show 0 ≤ -a by omega) (show 0 ≤ b by omega)
      have := Int.ediv_le_self b (show 0 ≤ -a by omega)
      omega
  have hbt : -b < a.tmod b ∧ a.tmod b < b := ⟨by
      rcases Int.le_total 0 a with h | h
      · have := Int.tmod_nonneg b h; omega
      · have := Int.tmod_lt_of_pos (-a) hb
        rw [Int.neg_tmod] at this; omega, Int.tmod_lt_of_pos a hb⟩
  obtain ⟨q, hqq⟩ : ∃ q, a.tdiv b = q := ⟨_, rfl⟩
  obtain ⟨r, hr⟩ : ∃ q, a.tmod b = q := ⟨_, rfl⟩
  rw [hqq, hr] at hq
  rw [hqq] at hbd
  rw [hr] at hbt
  have e0 : IntKind.i64.wrap q = q := IntWalk.i64_in _ (by omega)
  have e1 : IntKind.i64.wrap (q - 1) = q - 1 := IntWalk.i64_in _ (by omega)
  have e2 : IntKind.i64.wrap r = r := IntWalk.i64_in _ (by omega)
  have nb : ¬ b = 0 := by omega
  have HQ := Lib.hid hq
  clear hq hbd hbt
  by_cases hr0 : r < 0
  · go_enter Try.func165, Try.ntmps165
    go_wp2
    go_ret
    have hfin : q - 1 = a / b := by have h := HQ.out; rw [if_pos (by omega)] at h; exact h
    exact ⟨ret_i hfin, rfl⟩
  · go_enter Try.func165, Try.ntmps165
    go_wp2
    go_ret
    have hfin : q = a / b := by have h := HQ.out; rw [if_neg (by omega)] at h; exact h
    exact ⟨ret_i hfin, rfl⟩
/-- The moments of two lists, the last one first. -/
def mts (xs ys : List Int) : List (Int × Int) := (xs.zip ys).reverse
theorem mts_at {xs ys : List Int} (h : xs.length = ys.length) {k : Nat} (hk : k < xs.length) : hAt (mts xs ys) k = (xs[xs.length - 1 - k]'(by omega), ys[xs.length - 1 - k]'(by omega)) := by
  unfold hAt mts
  have hz : (xs.zip ys).length = xs.length := by simp [h]
  rw [List.getElem?_reverse (by omega), List.getElem?_eq_getElem (by omega)]
  simp [hz]
theorem mts_out {xs ys : List Int} {k : Nat} (hk : xs.length ≤ k) : hAt (mts xs ys) k = (0, 0) := by
  unfold hAt mts
  rw [List.getElem?_eq_none (by simp; omega)]; rfl
theorem mts_snoc (xs ys : List Int) (h : xs.length = ys.length) (x y : Int) : mts (xs ++ [x]) (ys ++ [y]) = (x, y) :: mts xs ys := by
  unfold mts
  rw [List.zip_append h]
  simp
end Go.Proofs.Ytjaomjbhkgijbaa

/-
  The document's Correction.
-/
namespace Go.Proofs.Ytjaomjbhkgijbaa
open Go.RowKit

set_option maxRecDepth 100000 in
set_option maxHeartbeats 8000000 in
theorem Correction_any (B : Nat) (t : CV) (Ax Ay : Option Addr) (T kx ky : Nat) (xs ys : List Int) (w : World) (hc : CI w B t) (hX : LI w B Ax T xs) (hY : LI w B Ay T ys) (hB : B ≤ w.heap.size) (hT : T ≤ 1099511627776) (hok : CurOk t.c) (hh : Small (mts xs ys)) :
    Calls Try.prog 188 #[.agg #[.slice t.Af t.nf t.kf, .slice t.Ab t.nb t.kb, .int .i64 t.c.share], .slice Ax T kx, .slice Ay T ky, .int .i64 T] w fun e w' => e = .returned (.int .i64 (cor t.c (mts xs ys))) ∧ Below w.heap.size w w' := by
  have nf8 : t.nf ≤ 8 := by have := hc.f.1; have := hok.1; omega
  have nb8 : t.nb ≤ 8 := by have := hc.b.1; have := hok.2.1; omega
  obtain ⟨c1, c2, c3, c4, c5, c6⟩ := hok
  have HC3 := Lib.hid c3
  have HC4 := Lib.hid c4
  have HH := Lib.hid hh
  obtain ⟨W, hW⟩ : ∃ W, w.alloc (.cells #[.slice t.Af t.nf t.kf, .slice t.Ab t.nb t.kb, .int .i64 t.c.share] 43) = W := ⟨_, rfl⟩
  have hb : Below w.heap.size w W := by rw [← hW]; exact (Below.refl _ _).alloc (Nat.le_refl _) _
  have HK : Hid (Blk W w.heap.size 43 #[.slice t.Af t.nf t.kf, .slice t.Ab t.nb t.kb, .int .i64 t.c.share]) := Lib.hid (by rw [← hW]; exact Blk.new _ _ _)
  have HF := Lib.hid ((hc.f.below hb hB).more (Nat.le_trans hB hb.size))
  have HBK := Lib.hid ((hc.b.below hb hB).more (Nat.le_trans hB hb.size))
  have HX := Lib.hid ((hX.below hb hB).more (Nat.le_trans hB hb.size))
  have HY := Lib.hid ((hY.below hb hB).more (Nat.le_trans hB hb.size))
  have HB := Lib.hid hb
  clear hc hX hY hB hb c3 c4 hh c1 c2
  go_enter Try.func188, Try.ntmps188
  go_upto_region 1 with fail
  try rw [hW]
  clear hW
  have HB0 : Hid (Below W.heap.size W W) := Lib.hid (Below.refl _ _)
  go_wp2
  go_loopw [9, 10] (fun v i wr => ∃ j : Nat, j ≤ t.nf ∧ i = .int .i64 j ∧ v = .int .i64 (sumTo t.c.feed (fun i => (hAt (mts xs ys) i).1) j) ∧ Hid (Below W.heap.size W wr)) (fun _ i wr => t.nf - (intOf i).toNat)
  case atStart => exact ⟨0, Nat.zero_le _, rfl, by simp [sumTo], HB0⟩
  case round =>
    clear HB0
    obtain ⟨j, hj, rfl, rfl, HBR⟩ := hrel
    obtain ⟨c0, c1, c2⟩ := (HK.out.below HBR.out HK.out.lt).three_
    by_cases hlt : j < t.nf
    · have hjl : j < t.c.feed.length := by have := HF.out.1; omega
      obtain ⟨ad, hA, hbl, h1⟩ := (HF.out.below HBR.out (Nat.le_refl _)).at_ (k := j) hjl
      have HA := Lib.hid hA
      clear hA
      have t1 := sum_small HC3.out (fun i => (HH.out.at_ i).1) (k := j) (by omega)
      have t2 := sum_small HC3.out (fun i => (HH.out.at_ i).1) (k := j + 1) (by omega)
      have t3 := prod_small (HC3.out _ (List.getElem_mem hjl)) (HH.out.at_ j).1
      rw [sum_step _ _ hjl] at t2
      have es : Hid (sumTo t.c.feed (fun i => (hAt (mts xs ys) i).1) (j + 1) = sumTo t.c.feed (fun i => (hAt (mts xs ys) i).1) j + t.c.feed[j] * (hAt (mts xs ys) j).1) := Lib.hid (sum_step _ _ hjl)
      try dsimp only at t1 t2
      have w1 : IntKind.i64.wrap ((T : Int) - 1) = (T : Int) - 1 := IntWalk.i64_in _ (by omega)
      have w2 : IntKind.i64.wrap ((T : Int) - 1 - j) = (T : Int) - 1 - j := IntWalk.i64_in _ (by omega)
      by_cases hge : j < T
      · have hjT : T - 1 - j < xs.length := by have := HX.out.1; have := HY.out.1; omega
        obtain ⟨ad2, hA2, hbl2, h2⟩ := (HX.out.below HBR.out (Nat.le_refl _)).at_ (k := T - 1 - j) hjT
        have hm : (hAt (mts xs ys) j).1 = xs[T - 1 - j] := by
          have e := HX.out.1
          subst e
          rw [mts_at (by rw [← HX.out.1, HY.out.1]) (by omega)]
        have i1 : 0 ≤ (T : Int) - 1 - j := by omega
        have i2 : ((T : Int) - 1 - j).toNat = T - 1 - j := by omega
        have i3 : (T : Int) - 1 - j < (T : Int) := by omega
        obtain ⟨sm, hsm⟩ : ∃ s, sumTo t.c.feed (fun i => (hAt (mts xs ys) i).1) j = s := ⟨_, rfl⟩
        obtain ⟨x, hx⟩ : ∃ x, t.c.feed[j] = x := ⟨_, rfl⟩
        obtain ⟨y, hy⟩ : ∃ y, xs[T - 1 - j] = y := ⟨_, rfl⟩
        rw [hm, hx, hy] at es t3
        rw [hsm] at t1 t2 es ⊢
        rw [hm, hx, hy] at t2
        rw [hx] at h1
        rw [hy] at h2
        have e1 : IntKind.i64.wrap (x * y) = x * y := IntWalk.i64_in _ (by omega)
        have e2 : IntKind.i64.wrap (sm + x * y) = sm + x * y := IntWalk.i64_in _ (by omega)
        have A1 := HA.out
        rw [A1] at c0
        have HA2 := Lib.hid hA2
        clear hm hx hy hsm A1 hA2
        obtain rfl := HA2.out
        go_wp2_with fail
        go_quiet (fail)
        go_wp2
        go_roundw
        case rel => exact ⟨j + 1, by omega, by go_num, by rw [es.out], Lib.hid (below_drewN_ HBR.out _)⟩
        case measure => simp [intOf]; omega
      · have hm : (hAt (mts xs ys) j).1 = 0 := by rw [mts_out (by have := HX.out.1; omega)]
        have i1 : ¬ 0 ≤ (T : Int) - 1 - j := by omega
        rw [hm, Int.mul_zero, Int.add_zero] at es
        clear hm t2 t3
        go_wp2
        go_roundw
        case rel => exact ⟨j + 1, by omega, by go_num, by rw [es.out], HBR⟩
        case measure => simp [intOf]; omega
    · have HJ : Hid (j = t.c.feed.length) := Lib.hid (by have := HF.out.1; omega)
      have d0 := sum_small HC3.out (fun i => (HH.out.at_ i).1) (k := j) (by omega)
      try dsimp only at d0
      obtain ⟨sf, hsf⟩ : ∃ s, sumTo t.c.feed (fun i => (hAt (mts xs ys) i).1) j = s := ⟨_, rfl⟩
      rw [hsf] at d0 ⊢
      have HSF := Lib.hid hsf
      clear hsf
      go_wp2
      clear c0 c1 c2
      go_loopw [9, 11] (fun v i wr => ∃ j : Nat, j ≤ t.nb ∧ i = .int .i64 j ∧ v = .int .i64 (sf + sumTo t.c.back (fun i => (hAt (mts xs ys) i).2) j) ∧ Hid (Below W.heap.size W wr)) (fun _ i wr => t.nb - (intOf i).toNat)
      case atStart => exact ⟨0, Nat.zero_le _, rfl, by simp [sumTo], HBR⟩
      case round =>
        clear HBR
        obtain ⟨j, hj, rfl, rfl, HBR⟩ := hrel
        obtain ⟨c0, c1, c2⟩ := (HK.out.below HBR.out HK.out.lt).three_
        by_cases hlt : j < t.nb
        · have hjl : j < t.c.back.length := by have := HBK.out.1; omega
          obtain ⟨ad, hA, hbl, h1⟩ := (HBK.out.below HBR.out (Nat.le_refl _)).at_ (k := j) hjl
          have HA := Lib.hid hA
          clear hA
          have t1 := sum_small HC4.out (fun i => (HH.out.at_ i).2) (k := j) (by omega)
          have t2 := sum_small HC4.out (fun i => (HH.out.at_ i).2) (k := j + 1) (by omega)
          have t3 := prod_small (HC4.out _ (List.getElem_mem hjl)) (HH.out.at_ j).2
          rw [sum_step _ _ hjl] at t2
          have es : Hid (sumTo t.c.back (fun i => (hAt (mts xs ys) i).2) (j + 1) = sumTo t.c.back (fun i => (hAt (mts xs ys) i).2) j + t.c.back[j] * (hAt (mts xs ys) j).2) := Lib.hid (sum_step _ _ hjl)
          try dsimp only at t1 t2
          have w1 : IntKind.i64.wrap ((T : Int) - 1) = (T : Int) - 1 := IntWalk.i64_in _ (by omega)
          have w2 : IntKind.i64.wrap ((T : Int) - 1 - j) = (T : Int) - 1 - j := IntWalk.i64_in _ (by omega)
          by_cases hge : j < T
          · have hjT : T - 1 - j < ys.length := by have := HX.out.1; have := HY.out.1; omega
            obtain ⟨ad2, hA2, hbl2, h2⟩ := (HY.out.below HBR.out (Nat.le_refl _)).at_ (k := T - 1 - j) hjT
            have hm : (hAt (mts xs ys) j).2 = ys[T - 1 - j] := by
              have e := HX.out.1
              subst e
              rw [mts_at (by rw [← HX.out.1, HY.out.1]) (by omega)]
            have i1 : 0 ≤ (T : Int) - 1 - j := by omega
            have i2 : ((T : Int) - 1 - j).toNat = T - 1 - j := by omega
            have i3 : (T : Int) - 1 - j < (T : Int) := by omega
            obtain ⟨sm, hsm⟩ : ∃ s, sumTo t.c.back (fun i => (hAt (mts xs ys) i).2) j = s := ⟨_, rfl⟩
            obtain ⟨x, hx⟩ : ∃ x, t.c.back[j] = x := ⟨_, rfl⟩
            obtain ⟨y, hy⟩ : ∃ y, ys[T - 1 - j] = y := ⟨_, rfl⟩
            rw [hm, hx, hy] at es t3
            rw [hsm] at t1 t2 es ⊢
            rw [hm, hx, hy] at t2
            rw [hx] at h1
            rw [hy] at h2
            have e1 : IntKind.i64.wrap (x * y) = x * y := IntWalk.i64_in _ (by omega)
            have e2 : IntKind.i64.wrap (sf + sm + x * y) = sf + sm + x * y := IntWalk.i64_in _ (by omega)
            have A1 := HA.out
            rw [A1] at c1
            have HA2 := Lib.hid hA2
            clear hm hx hy hsm A1 hA2
            obtain rfl := HA2.out
            go_wp2_with fail
            go_quiet (fail)
            go_wp2
            go_roundw
            case rel => exact ⟨j + 1, by omega, by go_num, by rw [es.out, Int.add_assoc], Lib.hid (below_drewN_ HBR.out _)⟩
            case measure => simp [intOf]; omega
          · have hm : (hAt (mts xs ys) j).2 = 0 := by rw [mts_out (by have := HX.out.1; omega)]
            have i1 : ¬ 0 ≤ (T : Int) - 1 - j := by omega
            rw [hm, Int.mul_zero, Int.add_zero] at es
            clear hm t2 t3
            go_wp2
            go_roundw
            case rel => exact ⟨j + 1, by omega, by go_num, by rw [es.out], HBR⟩
            case measure => simp [intOf]; omega
        · have HJ2 : Hid (j = t.c.back.length) := Lib.hid (by have := HBK.out.1; omega)
          have d1 := sum_small HC4.out (fun i => (HH.out.at_ i).2) (k := j) (by omega)
          try dsimp only at d1
          obtain ⟨sb, hsb⟩ : ∃ s, sumTo t.c.back (fun i => (hAt (mts xs ys) i).2) j = s := ⟨_, rfl⟩
          rw [hsb] at d1 ⊢
          have HSB := Lib.hid hsb
          clear hsb
          go_wp2_with ((with_reducible refine (refDown_any _ _ _ (by omega) (by omega) (by omega) (by omega)).mono ?_); rintro e w2 ⟨rfl, rfl⟩)
          go_ret
          refine ⟨ret_i ?_, HB.out.trans (HBR.out.mono HB.out.size)⟩
          unfold cor corS
          rw [← HJ.out, ← HJ2.out, HSF.out, HSB.out]
end Go.Proofs.Ytjaomjbhkgijbaa

