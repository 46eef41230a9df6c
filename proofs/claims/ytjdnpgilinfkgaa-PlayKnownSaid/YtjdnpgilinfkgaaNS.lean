/-
  The document's root, round and Round; the statements' shapes.
-/
import Derived.Test.YtjdnpgilinfkgaaNR
namespace Go.Proofs.Ytjdnpgilinfkgaa
open Go.RowKit

set_option maxRecDepth 100000 in
set_option maxHeartbeats 2000000 in
theorem refRoot_any (n : Nat) (w : World) (hn : n ≤ 1099511627776) :
    Calls Try.prog 90 #[.int .i64 n] w fun e w' => e = .returned (.int .i64 (isq n)) ∧ w = w' := by
  have h0 : isq n ≤ 1048576 := by have := isq_mono hn; rw [show (1099511627776 : Nat) = 1048576 * 1048576 by decide, isq_sq] at this; exact this
  have HS := Lib.hid (isq_is n)
  go_enter Try.func90, Try.ntmps90
  go_wp2_with fail
  go_loop [3, 4] (fun u v => ∃ i j : Nat, i ≤ isq n ∧ isq n ≤ j ∧ j ≤ 1048576 ∧ u = .int .i64 i ∧ v = .int .i64 j) (fun u v => (intOf v).toNat - (intOf u).toNat)
  case atStart => exact ⟨0, 1048576, Nat.zero_le _, h0, Nat.le_refl _, rfl, rfl⟩
  case round =>
    obtain ⟨i, j, hi, hj, hjn, rfl, rfl⟩ := hrel
    by_cases hlt : i < j
    · have g1 : (i : Int) < (j : Int) := by omega
      have e1 : IntKind.i64.wrap ((i : Int) + j) = (i : Int) + j := IntWalk.i64_in _ (by omega)
      have e2 : IntKind.i64.wrap ((i : Int) + j + 1) = (i : Int) + j + 1 := IntWalk.i64_in _ (by omega)
      obtain ⟨m, hm⟩ : ∃ m, (i + j + 1) / 2 = m := ⟨_, rfl⟩
      have e3 : ((i : Int) + j + 1).tdiv 2 = (m : Int) := by rw [Int.tdiv_eq_ediv_of_nonneg (by omega)]; omega
      have e4 : ((i : Int) + j + 1) / 2 = (m : Int) := by omega
      have e5 : IntKind.i64.wrap (m : Int) = (m : Int) := IntWalk.i64_in _ (by omega)
      have hmm : m * m ≤ 1048576 * 1048576 := Nat.mul_le_mul (by omega) (by omega)
      have m1 : (m : Int) * m = ((m * m : Nat) : Int) := by simp
      have hs := HS.out
      have hle : m * m ≤ n → m ≤ isq n := fun h => by
        rcases Nat.lt_or_ge (isq n) m with h2 | h2
        · have := sq_le (a := isq n + 1) (b := m) h2; omega
        · exact h2
      have hgt : ¬ m * m ≤ n → isq n < m := fun h => by
        rcases Nat.lt_or_ge (isq n) m with h2 | h2
        · exact h2
        · have := sq_le h2; omega
      obtain ⟨x, hx⟩ : ∃ x, m * m = x := ⟨_, rfl⟩
      rw [hx] at hmm m1 hle hgt
      have e6 : IntKind.i64.wrap (x : Int) = (x : Int) := IntWalk.i64_in _ (by omega)
      have e7 : IntKind.i64.wrap ((m : Int) - 1) = ((m - 1 : Nat) : Int) := by rw [show (m : Int) - 1 = ((m - 1 : Nat) : Int) by omega]; exact IntWalk.i64_in _ (by omega)
      clear hs hx
      by_cases c : x ≤ n
      · have h2 := hle c
        have g2 : (x : Int) ≤ (n : Int) := by omega
        clear hle hgt
        go_wp2
        go_round
        case rel => exact ⟨m, j, h2, hj, hjn, rfl, rfl⟩
        case measure => simp [intOf]; omega
      · have h2 := hgt c
        have g2 : ¬ (x : Int) ≤ (n : Int) := by omega
        clear hle hgt
        go_wp2
        go_round
        case rel => exact ⟨i, m - 1, hi, by omega, by omega, rfl, rfl⟩
        case measure => simp [intOf]; omega
    · obtain rfl : i = isq n := by omega
      go_wp2
      go_ret
      exact ⟨rfl, rfl⟩

set_option maxRecDepth 100000 in
set_option maxHeartbeats 4000000 in
theorem refRound1_any (R a : Nat) (up : Bool) (w : World) (hR : R ≤ 1024) (ha : 1 ≤ a) (ha2 : a ≤ 4194304) :
    Calls Try.prog 52 #[.int .i64 R, .int .i64 a, .bool up] w fun e w' => ∃ A k, e = .returned (.slice A (min (R / a + 1) 65) k) ∧ LI w' w'.heap.size A (min (R / a + 1) 65) ((rndL R a up).take 65) ∧ min (R / a + 1) 65 ≤ k ∧ Below w.heap.size w w' ∧ ∀ ad, A = some ad → w.heap.size ≤ ad.block := by
  have HAT := Lib.hid (fun (k : Nat) (h : k < R / a + 1) => show (rndL R a up).take (k + 1) = (rndL R a up).take k ++ [bhL R (k * a) up] from by
    have hr : k < (rndL R a up).length := by rw [rndL_len]; exact h
    have h2 := rndL_at (up := up) h
    rw [atI_eq hr] at h2
    rw [List.take_succ_eq_append_getElem hr, h2])
  have HKA := Lib.hid (fun (k : Nat) (h : k < R / a + 1) => rndL_in h)
  have HOUT : Hid (R < (R / a + 1) * a) := Lib.hid (by rw [Nat.mul_comm]; exact Nat.lt_mul_div_succ R ha)
  have HLEN := Lib.hid (rndL_len R a up)
  have hd : R / a ≤ R := Nat.div_le_self R a
  obtain ⟨d, hdd⟩ : ∃ d, R / a + 1 = d := ⟨_, rfl⟩
  rw [hdd] at HAT HKA HOUT HLEN
  rw [hdd]
  have hd2 : d ≤ 1025 := by omega
  obtain ⟨n, hnn⟩ : ∃ n, min d 65 = n := ⟨_, rfl⟩
  rw [hnn]
  clear hdd hd
  obtain ⟨i0, hi0, hz0, hz1, hz2⟩ := info_parts info_i64
  have HI0 := Lib.hid hi0
  have HZ0 := Lib.hid hz0
  have HZ1 := Lib.hid hz1
  have HZ2 := Lib.hid hz2
  clear hi0 hz0 hz1 hz2
  go_enter Try.func52, Try.ntmps52
  go_wp2_with fail
  go_loopw [7, 8] (fun v z wr => ∃ (j : Nat) (sv : Value), j ≤ n ∧ z = .int .i64 j ∧ sv = v ∧ Hid (wr.ownsRow w.heap.size 2 1 sv j (nums ((rndL R a up).take j))) ∧ Hid (Below w.heap.size w wr)) (fun v z wr => n - (intOf z).toNat)
  case atStart => exact ⟨0, _, Nat.zero_le _, rfl, rfl, Lib.hid (World.ownsRow_nil _ _ _ _), Lib.hid (Below.refl _ _)⟩
  case round =>
    obtain ⟨j, sv, hj, rfl, rfl, HO, HB⟩ := hrel
    have hjm : j * a ≤ 1025 * 4194304 := Nat.mul_le_mul (by omega) ha2
    have m1 : (j : Int) * a = ((j * a : Nat) : Int) := by simp
    have e1 : IntKind.i64.wrap ((j * a : Nat) : Int) = ((j * a : Nat) : Int) := IntWalk.i64_in _ (by omega)
    have e2 : IntKind.i64.wrap ((j : Int) + 1) = (j : Int) + 1 := IntWalk.i64_in _ (by omega)
    by_cases hlt : j < n
    · have HT := Lib.hid (HAT.out j (by omega))
      have hka := HKA.out j (by omega)
      have hbT := bh_case R (j * a) up
      have hqq := sq_le hka
      have hRR : R * R ≤ 1048576 := Nat.mul_le_mul hR hR
      have hsR : isq (R * R - j * a * (j * a)) ≤ R := by have := isq_mono (show R * R - j * a * (j * a) ≤ R * R by omega); rw [isq_sq] at this; exact this
      have his := isq_is (R * R - j * a * (j * a))
      have m0 : (R : Int) * R = ((R * R : Nat) : Int) := by simp
      have hbk : j * a * j ≤ j * a * (j * a) := Nat.mul_le_mul_left _ (Nat.le_mul_of_pos_right _ ha)
      have m3' : j * a * j * a = j * a * (j * a) := Nat.mul_assoc _ _ _
      obtain ⟨b, hb⟩ : ∃ x, j * a = x := ⟨_, rfl⟩
      rw [hb] at HT hka hbT hqq hsR his m1 e1 hbk m3'
      have m2 : (b : Int) * j = ((b * j : Nat) : Int) := by simp
      have m3 : ((b * j : Nat) : Int) * a = ((b * j * a : Nat) : Int) := by simp
      rw [m3'] at m3
      obtain ⟨bj, hbj⟩ : ∃ x, b * j = x := ⟨_, rfl⟩
      rw [hbj] at m2 m3 hbk
      obtain ⟨bb, hbb⟩ : ∃ x, b * b = x := ⟨_, rfl⟩
      rw [hbb] at m3 hbk hbT hqq hsR his
      obtain ⟨RR, hrr⟩ : ∃ x, R * R = x := ⟨_, rfl⟩
      rw [hrr] at m0 hRR hbT hqq hsR his
      obtain ⟨sq, hsq⟩ : ∃ x, RR - bb = x := ⟨_, rfl⟩
      rw [hsq] at hbT hsR his
      have CALL := refRoot_any sq wr (by omega)
      obtain ⟨s, hs⟩ : ∃ x, isq sq = x := ⟨_, rfl⟩
      rw [hs] at hbT hsR his CALL
      have m4 : (s : Int) * s = ((s * s : Nat) : Int) := by simp
      obtain ⟨ss, hss⟩ : ∃ x, s * s = x := ⟨_, rfl⟩
      rw [hss] at m4 hbT his
      have w1 : IntKind.i64.wrap (RR : Int) = (RR : Int) := IntWalk.i64_in _ (by omega)
      have w2' : IntKind.i64.wrap (bj : Int) = (bj : Int) := IntWalk.i64_in _ (by omega)
      have w3 : IntKind.i64.wrap (bb : Int) = (bb : Int) := IntWalk.i64_in _ (by omega)
      have w4 : IntKind.i64.wrap ((RR : Int) - bb) = (sq : Int) := by rw [show (RR : Int) - bb = sq by omega]; exact IntWalk.i64_in _ (by omega)
      have w5 : IntKind.i64.wrap (ss : Int) = (ss : Int) := IntWalk.i64_in _ (by omega)
      have w6 : IntKind.i64.wrap ((s : Int) + 1) = (s : Int) + 1 := IntWalk.i64_in _ (by omega)
      have w7 : IntKind.i64.wrap ((R : Int) - s) = (R : Int) - s := IntWalk.i64_in _ (by omega)
      have w8 : IntKind.i64.wrap ((R : Int) - (s + 1)) = (R : Int) - (s + 1) := IntWalk.i64_in _ (by omega)
      have g1 : (b : Int) ≤ (R : Int) := by omega
      have g2 : (j : Int) ≤ 64 := by omega
      have d1 : decide ((b : Int) ≤ (R : Int)) = true := decide_eq_true g1
      have d2 : decide ((j : Int) ≤ 64) = true := decide_eq_true g2
      have hbV : (up = true ∨ ss = sq → bhL R b up = (R : Int) - s) ∧ (up = false → ss ≠ sq → bhL R b up = (R : Int) - (s + 1)) := by
        refine ⟨fun h => ?_, fun h1 h2 => ?_⟩
        · rw [hbT, if_pos (by rcases h with h | h <;> simp [h])]; omega
        · rw [hbT, if_neg (by simp [h1, h2])]; omega
      have HBV := Lib.hid hbV
      have hse : ss ≤ sq := his.1
      clear hb hbj hbb hrr hsq hs hss hbT hbV his hka hqq hsR hbk m3' hRR hjm
      cases up
      · by_cases c : ss < sq
        · have HV := Lib.hid (HBV.out.2 rfl (by omega))
          have g3 : (ss : Int) < (sq : Int) := by omega
          have d3 : decide ((ss : Int) < (sq : Int)) = true := decide_eq_true g3
          go_wp2_with fail
          refine CALL.mono ?_
          rintro e w_ ⟨rfl, rfl⟩
          have hs1 := HB.out.size
          go_wp2_with (at_builtin; refine wpList_append_own _ rfl (.tmp 46) (.tmp 50) _ rfl w.heap.size 2 i0 _ 1 8 Try.underlying22 HI0.out HZ0.out HZ1.out HZ2.out rfl (by omega) _ j (nums ((rndL R a false).take j)) rfl (HO.out.alloc _) ⟨wr.heap.size, 0, none⟩ 1 1 [.int .i64 ((R : Int) - (s + 1))] rfl rfl (nine_new _ _ _) ?c1 ?c2 ?c3 ?c4 ?_)
          case c1 => first | rfl | (intro x hx; simp at hx; subst hx; rfl)
          case c2 => simp only [maxLen]; omega
          case c3 => omega
          case c4 => first | omega | (simp; omega)
          intro v' w4 hown' hgrow _
          have HON : Hid (w4.ownsRow w.heap.size 2 1 v' (j + 1) (nums ((rndL R a false).take (j + 1)))) := Lib.hid (by
            rw [HT.out, HV.out]; simpa [nums] using hown')
          have hne := fun g hg => (HO.out.lt g hg).1
          have HBN := Lib.hid ((HB.out.alloc HB.out.size (.cells #[.int .i64 ((R : Int) - (s + 1))] 2)).grown hgrow (by simp; omega) (fun g hg => by have := hne g hg; omega))
          clear hown' hgrow hne
          go_wp2
          go_roundw
          case rel => exact ⟨j + 1, v', by omega, by go_num, rfl, HON, HBN⟩
          case measure => simp [intOf]; omega
        · have HV := Lib.hid (HBV.out.1 (.inr (by omega)))
          have g3 : ¬ (ss : Int) < (sq : Int) := by omega
          have d3 : decide ((ss : Int) < (sq : Int)) = false := decide_eq_false g3
          go_wp2_with fail
          refine CALL.mono ?_
          rintro e w_ ⟨rfl, rfl⟩
          have hs1 := HB.out.size
          go_wp2_with (at_builtin; refine wpList_append_own _ rfl (.tmp 46) (.tmp 50) _ rfl w.heap.size 2 i0 _ 1 8 Try.underlying22 HI0.out HZ0.out HZ1.out HZ2.out rfl (by omega) _ j (nums ((rndL R a false).take j)) rfl (HO.out.alloc _) ⟨wr.heap.size, 0, none⟩ 1 1 [.int .i64 ((R : Int) - s)] rfl rfl (nine_new _ _ _) ?c1 ?c2 ?c3 ?c4 ?_)
          case c1 => first | rfl | (intro x hx; simp at hx; subst hx; rfl)
          case c2 => simp only [maxLen]; omega
          case c3 => omega
          case c4 => first | omega | (simp; omega)
          intro v' w4 hown' hgrow _
          have HON : Hid (w4.ownsRow w.heap.size 2 1 v' (j + 1) (nums ((rndL R a false).take (j + 1)))) := Lib.hid (by
            rw [HT.out, HV.out]; simpa [nums] using hown')
          have hne := fun g hg => (HO.out.lt g hg).1
          have HBN := Lib.hid ((HB.out.alloc HB.out.size (.cells #[.int .i64 ((R : Int) - s)] 2)).grown hgrow (by simp; omega) (fun g hg => by have := hne g hg; omega))
          clear hown' hgrow hne
          go_wp2
          go_roundw
          case rel => exact ⟨j + 1, v', by omega, by go_num, rfl, HON, HBN⟩
          case measure => simp [intOf]; omega
      · have HV := Lib.hid (HBV.out.1 (.inl rfl))
        go_wp2_with fail
        refine CALL.mono ?_
        rintro e w_ ⟨rfl, rfl⟩
        have hs1 := HB.out.size
        go_wp2_with (at_builtin; refine wpList_append_own _ rfl (.tmp 46) (.tmp 50) _ rfl w.heap.size 2 i0 _ 1 8 Try.underlying22 HI0.out HZ0.out HZ1.out HZ2.out rfl (by omega) _ j (nums ((rndL R a true).take j)) rfl (HO.out.alloc _) ⟨wr.heap.size, 0, none⟩ 1 1 [.int .i64 ((R : Int) - s)] rfl rfl (nine_new _ _ _) ?c1 ?c2 ?c3 ?c4 ?_)
        case c1 => first | rfl | (intro x hx; simp at hx; subst hx; rfl)
        case c2 => simp only [maxLen]; omega
        case c3 => omega
        case c4 => first | omega | (simp; omega)
        intro v' w4 hown' hgrow _
        have HON : Hid (w4.ownsRow w.heap.size 2 1 v' (j + 1) (nums ((rndL R a true).take (j + 1)))) := Lib.hid (by
          rw [HT.out, HV.out]; simpa [nums] using hown')
        have hne := fun g hg => (HO.out.lt g hg).1
        have HBN := Lib.hid ((HB.out.alloc HB.out.size (.cells #[.int .i64 ((R : Int) - s)] 2)).grown hgrow (by simp; omega) (fun g hg => by have := hne g hg; omega))
        clear hown' hgrow hne
        go_wp2
        go_roundw
        case rel => exact ⟨j + 1, v', by omega, by go_num, rfl, HON, HBN⟩
        case measure => simp [intOf]; omega
    · obtain rfl : j = n := by omega
      obtain ⟨Ao, co, hsv, hL, hc⟩ := own_readsU HO.out
      subst hsv
      have hLt : (rndL R a up).take j = (rndL R a up).take 65 := by
        rcases Nat.lt_or_ge d 65 with h | h
        · rw [List.take_of_length_le (by rw [HLEN.out]; omega), List.take_of_length_le (by rw [HLEN.out]; omega)]
        · rw [show j = 65 by omega]
      rw [hLt] at hL
      have HLI := Lib.hid hL
      have HNEW : Hid (∀ ad, Ao = some ad → w.heap.size ≤ ad.block) := Lib.hid (fun ad e => by
        subst e
        exact (HO.out.lt ad.block rfl).1)
      clear hL hLt
      obtain ⟨b, hb⟩ : ∃ x, j * a = x := ⟨_, rfl⟩
      rw [hb] at m1 e1
      by_cases c : b ≤ R
      · have g1 : (b : Int) ≤ (R : Int) := by omega
        have d1 : decide ((b : Int) ≤ (R : Int)) = true := decide_eq_true g1
        have hj65 : j = 65 := by
          rcases Nat.lt_or_ge d 65 with h | h
          · have h2 : j = d := by omega
            have := HOUT.out
            rw [← h2, hb] at this; omega
          · omega
        have g2 : ¬ (j : Int) ≤ 64 := by omega
        have d2 : decide ((j : Int) ≤ 64) = false := decide_eq_false g2
        clear hj65 hb
        go_wp2
        go_ret
        exact ⟨Ao, co, rfl, HLI.out, hc, HB.out, HNEW.out⟩
      · have g1 : ¬ (b : Int) ≤ (R : Int) := by omega
        have d1 : decide ((b : Int) ≤ (R : Int)) = false := decide_eq_false g1
        clear hb
        go_wp2
        go_ret
        exact ⟨Ao, co, rfl, HLI.out, hc, HB.out, HNEW.out⟩

set_option maxRecDepth 100000 in
set_option maxHeartbeats 4000000 in
theorem refRound_any (radius arc : Int) (up : Bool) (w : World) :
    Calls Try.prog 17 #[.int .i64 radius, .int .i64 arc, .bool up] w (RndPost w (ckRn radius arc) (rnRes radius arc up)) := by
  have hbw : Below w.heap.size w (w.alloc (.cells #[.slice none 0 0] 24)) := (Below.refl _ _).alloc (Nat.le_refl _) _
  have kw : Blk (w.alloc (.cells #[.slice none 0 0] 24)) w.heap.size 24 #[.slice none 0 0] := Blk.new _ _ _
  cases hw1 : win radius 0 1024 && win arc 1 4194304
  · have hz : ckRn radius arc = 3 := by unfold ckRn; rw [hw1]; rfl
    have hres : rnRes radius arc up = [] := if_neg (by rw [hz]; decide)
    rw [hz, hres]
    have hbad : ¬ ((0 ≤ radius ∧ radius ≤ 1024) ∧ 1 ≤ arc ∧ arc ≤ 4194304) := fun h => by
      unfold win at hw1
      rw [decide_eq_true h.1.1, decide_eq_true h.1.2, decide_eq_true h.2.1, decide_eq_true h.2.2] at hw1
      cases hw1
    clear hw1 hz hres
    have K := Lib.hid kw
    have HB := Lib.hid hbw
    clear kw hbw
    by_cases c1 : radius < 0
    · have d1 : decide (radius < 0) = true := decide_eq_true c1
      clear hbad
      go_enter Try.func17, Try.ntmps17
      obtain ⟨z0, z1, z2⟩ := K.out.one
      go_wp2
      refine ⟨rfl, .tuple #[.agg #[.slice none 0 0], .int .i64 3], ?_, none, 0, 0, rfl, LI.none_, by omega, by omega, HB.out⟩
      simp [results, Try.results17, go_sem, z0]
    · have d1 : decide (radius < 0) = false := decide_eq_false c1
      by_cases c2 : 1024 < radius
      · have d2 : decide (1024 < radius) = true := decide_eq_true c2
        clear hbad c1
        go_enter Try.func17, Try.ntmps17
        obtain ⟨z0, z1, z2⟩ := K.out.one
        go_wp2
        refine ⟨rfl, .tuple #[.agg #[.slice none 0 0], .int .i64 3], ?_, none, 0, 0, rfl, LI.none_, by omega, by omega, HB.out⟩
        simp [results, Try.results17, go_sem, z0]
      · have d2 : decide (1024 < radius) = false := decide_eq_false c2
        by_cases c3 : arc < 1
        · have d3 : decide (arc < 1) = true := decide_eq_true c3
          clear hbad
          go_enter Try.func17, Try.ntmps17
          obtain ⟨z0, z1, z2⟩ := K.out.one
          go_wp2
          refine ⟨rfl, .tuple #[.agg #[.slice none 0 0], .int .i64 3], ?_, none, 0, 0, rfl, LI.none_, by omega, by omega, HB.out⟩
          simp [results, Try.results17, go_sem, z0]
        · have d3 : decide (arc < 1) = false := decide_eq_false c3
          have c4 : 4194304 < arc := by omega
          have d4 : decide (4194304 < arc) = true := decide_eq_true c4
          clear hbad c3
          go_enter Try.func17, Try.ntmps17
          obtain ⟨z0, z1, z2⟩ := K.out.one
          go_wp2
          refine ⟨rfl, .tuple #[.agg #[.slice none 0 0], .int .i64 3], ?_, none, 0, 0, rfl, LI.none_, by omega, by omega, HB.out⟩
          simp [results, Try.results17, go_sem, z0]
  · have hb : (0 ≤ radius ∧ radius ≤ 1024) ∧ 1 ≤ arc ∧ arc ≤ 4194304 := by
      unfold win at hw1
      simpa only [Bool.and_eq_true, decide_eq_true_eq] using hw1
    have hck : ckRn radius arc = if 64 < radius.toNat / arc.toNat + 1 then 6 else 0 := by unfold ckRn; rw [hw1]; rfl
    obtain ⟨R, rfl⟩ : ∃ R : Nat, radius = R := ⟨radius.toNat, by omega⟩
    obtain ⟨a, rfl⟩ : ∃ a : Nat, arc = a := ⟨arc.toNat, by omega⟩
    have hres : rnRes R a up = if ckRn R a = 0 then rndL R a up else [] := rfl
    rw [Int.toNat_natCast, Int.toNat_natCast] at hck
    have RN := Lib.hid (fun W => refRound1_any R a up W (by omega) (by omega) (by omega))
    have HLEN := Lib.hid (rndL_len R a up)
    obtain ⟨d, hdd⟩ : ∃ d, R / a + 1 = d := ⟨_, rfl⟩
    rw [hdd] at hck RN HLEN
    have c1 : ¬ (R : Int) < 0 := by omega
    have c2 : ¬ (1024 : Int) < (R : Int) := by omega
    have c3 : ¬ (a : Int) < 1 := by omega
    have c4 : ¬ (4194304 : Int) < (a : Int) := by omega
    have d1 : decide ((R : Int) < 0) = false := decide_eq_false c1
    have d2 : decide ((1024 : Int) < (R : Int)) = false := decide_eq_false c2
    have d3 : decide ((a : Int) < 1) = false := decide_eq_false c3
    have d4 : decide ((4194304 : Int) < (a : Int)) = false := decide_eq_false c4
    have d5 : decide (1024 < R) = false := decide_eq_false (by omega)
    have d6 : decide (4194304 < a) = false := decide_eq_false (by omega)
    have c5 : ¬ 1024 < R := by omega
    have c6 : ¬ 4194304 < a := by omega
    have c7 : ¬ a = 0 := by omega
    have d7 : decide (a = 0) = false := decide_eq_false c7
    have c8 : (a = 0) = False := eq_false c7
    have HCK := Lib.hid hck
    have HRS := Lib.hid hres
    clear hdd hw1 hck hres
    go_enter Try.func17, Try.ntmps17
    go_wp2_with fail
    obtain ⟨W, hW⟩ : ∃ W, w.alloc (.cells #[.slice none 0 0] 24) = W := ⟨_, rfl⟩
    rw [hW] at hbw kw ⊢
    have K := Lib.hid kw
    have HB := Lib.hid hbw
    clear hW kw hbw c1 c2 c3 c4 d1 d2 d3 d4 d5 d6 c5 c6 c7 d7 c8
    refine (RN.out _).mono ?_
    rintro e w2 ⟨A, k, rfl, hL, hnk, hb2, hnew⟩
    have hs0 := K.out.lt
    have HLI := Lib.hid (fun v => li_far hL ⟨w.heap.size, 0, none⟩ v (fun ad h0 e => by have := hnew ad e; show ad.block ≠ w.heap.size; omega))
    replace K := Lib.hid (K.out.below hb2 K.out.lt)
    replace HB := Lib.hid (HB.out.trans (hb2.mono HB.out.size))
    clear hL hb2 hnew
    obtain ⟨z0, z1, z2⟩ := K.out.one
    by_cases c : 64 < d
    · have hck := HCK.out
      have hres := HRS.out
      rw [if_pos c] at hck
      rw [hck] at hres
      have hres2 : rnRes R a up = [] := by rw [hres]; rfl
      have HRES := Lib.hid (And.intro hck hres2)
      have hm : min d 65 = 65 := by omega
      rw [hm] at hnk ⊢
      clear hck hres hres2 hm
      go_wp2
      have KF := Lib.hid (K.out.set_ 0 (.slice none 0 0))
      have g0 := (KF.out.cell 0).trans rfl
      refine ⟨rfl, .tuple #[.agg #[.slice none 0 0], .int .i64 6], ?_, none, 0, 0, by rw [HRES.out.1], by rw [HRES.out.2]; exact LI.none_, by omega, by omega, HB.out.setCell (p := ⟨w.heap.size, 0, none⟩) (Nat.le_refl _) _⟩
      simp [results, Try.results17, go_sem, g0]
    · have hck := HCK.out
      have hres := HRS.out
      rw [if_neg c] at hck
      rw [hck] at hres
      have hres2 : rnRes R a up = rndL R a up := by rw [hres]; rfl
      have HRES := Lib.hid (And.intro hck hres2)
      have hm : min d 65 = d := by omega
      rw [hm] at hnk HLI ⊢
      have g1 : ¬ (64 : Int) < (d : Int) := by omega
      clear hck hres hres2 hm
      go_wp2
      have KF := Lib.hid (K.out.set_ 0 (.slice A d k))
      have g0 := (KF.out.cell 0).trans rfl
      refine ⟨rfl, .tuple #[.agg #[.slice A d k], .int .i64 0], ?_, A, d, k, by rw [HRES.out.1], ?_, by omega, hnk, HB.out.setCell (p := ⟨w.heap.size, 0, none⟩) (Nat.le_refl _) _⟩
      · simp [results, Try.results17, go_sem, g0]
      · rw [HRES.out.2]
        have h := (HLI.out (.slice A d k)).more (show w2.heap.size ≤ (w2.setCell ⟨w.heap.size, 0, none⟩ (.slice A d k)).heap.size by simp [World.setCell])
        rw [List.take_of_length_le (by rw [HLEN.out]; omega)] at h
        exact h

set_option maxRecDepth 100000 in
set_option maxHeartbeats 2000000 in
theorem shapes_any (B : Nat) (A A' : Option Addr) (n c n' c' : Nat) (xs ys : List Int) (w : World) (h0 : LI w B A n xs) (h0' : LI w B A' n' ys) (hB : B ≤ w.heap.size) (hl : n ≤ 9223372036854775807) (hl' : n' ≤ 9223372036854775807) :
    Calls Try.prog 20 #[.slice A n c, .slice A' n' c'] w fun e w' => e = .returned (.bool (decide (xs = ys))) ∧ Below w.heap.size w w' := by
  have H := Lib.hid (h0.more hB)
  have H' := Lib.hid (h0'.more hB)
  have HN := Lib.hid h0.1
  have HN' := Lib.hid h0'.1
  clear h0 h0' hB
  by_cases hne : n = n'
  · subst hne
    have q1 : ((n : Int) != (n : Int)) = false := by simp
    go_enter Try.func20, Try.ntmps20
    go_wp2
    go_loopw [5] (fun i wr => ∃ k : Nat, k ≤ n ∧ i = .int .i64 k ∧ Hid (Below w.heap.size w wr) ∧ Hid (xs.take k = ys.take k)) (fun i wr => n - (intOf i).toNat)
    case atStart => exact ⟨0, Nat.zero_le _, rfl, Lib.hid (Below.refl _ _), Lib.hid rfl⟩
    case round =>
      clear q1
      obtain ⟨k, hk, rfl, HB, HV⟩ := hrel
      by_cases hlt : k < n
      · have hx : k < xs.length := by have := HN.out; omega
        have hy : k < ys.length := by have := HN'.out; omega
        obtain ⟨ad, hA, _, p1⟩ := (H.out.below HB.out (Nat.le_refl _)).at_ hx
        obtain ⟨ad', hA', _, p2⟩ := (H'.out.below HB.out (Nat.le_refl _)).at_ hy
        obtain rfl := hA
        obtain rfl := hA'
        have g1 : (k : Int) < (n : Int) := by omega
        by_cases he : xs[k] = ys[k]
        · have HT : Hid (xs.take (k + 1) = ys.take (k + 1)) := Lib.hid (by rw [List.take_succ_eq_append_getElem hx, List.take_succ_eq_append_getElem hy, HV.out, he])
          rw [he] at p1
          obtain ⟨y, hyy⟩ : ∃ y, ys[k] = y := ⟨_, rfl⟩
          rw [hyy] at p1 p2
          have q1 : (y != y) = false := by simp
          clear he hyy
          go_wp2_with fail
          go_quiet (fail)
          go_wp2
          go_roundw
          case rel => exact ⟨k + 1, by omega, by go_num, Lib.hid (below_drewN_ HB.out _), HT⟩
          case measure => simp [intOf]; omega
        · have HF : Hid (decide (xs = ys) = false) := Lib.hid (decide_eq_false (fun e => he (by subst e; rfl)))
          obtain ⟨x, hxx⟩ : ∃ x, xs[k] = x := ⟨_, rfl⟩
          obtain ⟨y, hyy⟩ : ∃ y, ys[k] = y := ⟨_, rfl⟩
          rw [hxx] at p1 he
          rw [hyy] at p2 he
          have q1 : (x != y) = true := by rw [bne_iff_ne]; exact he
          clear hxx hyy he
          go_wp2_with fail
          go_quiet (fail)
          go_wp2
          go_ret
          exact ⟨ret_b HF.out.symm, below_drewN_ HB.out _⟩
      · have HT : Hid (decide (xs = ys) = true) := Lib.hid (decide_eq_true (by
          have h := HV.out
          rw [List.take_of_length_le (by have := HN.out; omega), List.take_of_length_le (by have := HN'.out; omega)] at h
          exact h))
        go_wp2
        go_ret
        exact ⟨ret_b HT.out.symm, HB.out⟩
  · have q1 : ((n : Int) != (n' : Int)) = true := by rw [bne_iff_ne]; omega
    have HF : Hid (decide (xs = ys) = false) := Lib.hid (decide_eq_false (fun e => hne (by have := HN.out; have := HN'.out; subst e; omega)))
    go_enter Try.func20, Try.ntmps20
    go_wp2
    go_ret
    exact ⟨ret_b HF.out.symm, Below.refl _ _⟩
end Go.Proofs.Ytjdnpgilinfkgaa
