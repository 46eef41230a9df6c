/-
  Contract of the document's Silences.
-/
import Derived.Test.YtlnekinnblnciaaA9
namespace Go.Proofs.Ytlnekinnblnciaa
open Go.RowKit

theorem refAmount_bd (x : Int) (w : World) (h1 : -32767 ≤ x) (h2 : x ≤ 32767) :
    Calls Try.prog 103 #[.int .i64 x] w fun e w' => e = .returned (.int .i64 (am x)) ∧ w = w' :=
  (refAmount_any x w).mono fun e w' ⟨he, hw⟩ => ⟨by rw [he, ram_of_bd x h1 h2], hw⟩

set_option maxRecDepth 100000 in
set_option maxHeartbeats 2000000 in
theorem refSilences_ok (B : Nat) (A : Option Addr) (n c : Nat) (xs : List Smp) (limit least : Int) (w : World) (h0 : RS w B A n xs) (hB : B ≤ w.heap.size) (hl : n ≤ 9223372036854775807) (hi : I64s xs)
    (hc : ckS xs = 0) (g1 : 0 ≤ limit) (g2 : limit ≤ 32767) (g3 : 1 ≤ least) (g4 : least ≤ 4096) :
    Calls Try.prog 40 #[.slice A n c, .int .i64 limit, .int .i64 least] w (SilPost w 0 (tk least (qf limit xs) 0 0)) := by
  have H := Lib.hid (h0.more hB)
  obtain ⟨hn, -⟩ := h0
  clear hB
  have h4 : n ≤ 4096 := by
    rw [hn]; unfold ckS at hc
    split at hc
    · omega
    · omega
  have HN := Lib.hid hn
  have HI := Lib.hid hi
  have HB : Hid (∀ (k : Nat) (hk : k < xs.length), -32767 ≤ xs[k].1 ∧ xs[k].1 ≤ 32767 ∧ -32767 ≤ xs[k].2 ∧ xs[k].2 ≤ 32767) := Lib.hid (ckS_bd xs hc)
  have HC := Lib.hid hc
  clear hn hc hi
  obtain ⟨R, hR⟩ : ∃ R, tk least (qf limit xs) 0 0 = R := ⟨_, rfl⟩
  rw [hR]
  have HR := Lib.hid hR
  clear hR
  obtain ⟨i0, hi0, hz0, hz1, hz2⟩ := info_parts info_pair
  have HI0 := Lib.hid hi0
  have HZ0 := Lib.hid hz0
  have HZ1 := Lib.hid hz1
  have HZ2 := Lib.hid hz2
  clear hi0 hz0 hz1 hz2
  go_enter Try.func40, Try.ntmps40
  go_wp2_with fail
  refine (refCheckSamples_any _ A n c xs _ H.out (Nat.le_refl _) hl HI.out).mono ?_
  rintro e w1 ⟨rfl, hb1⟩
  rw [HC.out]
  go_wp2_with fail
  go_loopw [8, 9] (fun v i wr => ∃ (k : Nat) (out : List (Nat × Nat)), i = .int .i64 k ∧ out.length ≤ k ∧ wr.ownsRow w.heap.size 59 2 v out.length (rowCells out) ∧ Below w.heap.size w wr ∧
      ((k ≤ n ∧ out ++ tk least ((qf limit xs).drop k) k k = R) ∨ (n < k ∧ k ≤ n + 1 ∧ out = R))) (fun _ i wr => n + 1 - (intOf i).toNat)
  case atStart => exact ⟨0, [], rfl, Nat.le_refl _, World.ownsRow_nil _ _ _ _, hb1, .inl ⟨Nat.zero_le _, HR.out⟩⟩
  case round =>
    clear hb1
    obtain ⟨k, out, rfl, hout, hown, hb, hcase⟩ := hrel
    have HO := Lib.hid hown
    clear hown
    by_cases hlt : k < n
    · have hR1 : out ++ tk least ((qf limit xs).drop k) k k = R := by
        rcases hcase with h | h
        · exact h.2
        · omega
      have HR1 := Lib.hid hR1
      clear hcase hR1
      obtain ⟨wo, hwo⟩ : ∃ wo : World, wo = wr := ⟨_, rfl⟩
      subst hwo
      go_wp2_with fail
      go_loop [10] (fun t => ∃ j : Nat, t = .int .i64 j ∧ k ≤ j ∧ j ≤ n ∧ Hid (out ++ tk least ((qf limit xs).drop j) j k = R)) (fun t => n - (intOf t).toNat)
      case atStart => exact ⟨k, rfl, Nat.le_refl _, by omega, HR1⟩
      case round =>
        clear HR1
        obtain ⟨j, rfl, hkj, hjn, HR2⟩ := hrel
        have hnext : (j < n ∧ ∃ hj : j < xs.length, am xs[j].1 ≤ limit ∧ am xs[j].2 ≤ limit) ∨
            ((j + 1 ≤ n ∧ (out ++ if least ≤ (j : Int) - k then [(k, j)] else []) ++ tk least ((qf limit xs).drop (j + 1)) (j + 1) (j + 1) = R) ∨
              (n < j + 1 ∧ j + 1 ≤ n + 1 ∧ (out ++ if least ≤ (j : Int) - k then [(k, j)] else []) = R)) := by
          have hn := HN.out
          by_cases hj : j < n
          · by_cases hq : am (xs[j]'(by omega)).1 ≤ limit ∧ am (xs[j]'(by omega)).2 ≤ limit
            · exact .inl ⟨hj, by omega, hq⟩
            · refine .inr (.inl ⟨by omega, ?_⟩)
              have h1 := HR2.out
              rw [qf_drop limit xs j (by omega), ← Bool.decide_and, decide_eq_false hq] at h1
              rw [← h1]; simp [tk]
          · refine .inr (.inr ⟨by omega, by omega, ?_⟩)
            have h1 := HR2.out
            rw [qf_drop_all limit xs j (by omega)] at h1
            rw [← h1]; simp [tk]
        by_cases hj : j < n
        · obtain ⟨ad, hA, hbl, h1, h2⟩ := (H.out.below hb (Nat.le_refl _)).at_ (k := j) (by have := HN.out; omega)
          obtain rfl := hA
          obtain ⟨b1, b2, b3, b4⟩ := HB.out j (by have := HN.out; omega)
          by_cases q1 : am xs[j].1 ≤ limit
          · by_cases q2 : am xs[j].2 ≤ limit
            · clear hnext
              go_wp2_with ((with_reducible refine (refAmount_bd _ _ (by omega) (by omega)).mono ?_); rintro e w2 ⟨rfl, rfl⟩)
              go_round
              case rel =>
                refine ⟨j + 1, by go_num, by omega, by omega, Lib.hid ?_⟩
                rw [← HR2.out, qf_drop limit xs j (by have := HN.out; omega)]
                simp [tk, q1, q2]
              case measure => simp [intOf]; omega
            · have hn2 := hnext.resolve_left (fun h => q2 h.2.2.2)
              have HN2 := Lib.hid hn2
              clear hnext hn2
              have zz := hb.size
              by_cases hlen : least ≤ (j : Int) - k
              · go_wp2_with (first | (at_builtin; refine wpList_append_own _ rfl (.tmp 68) (.tmp 72) _ rfl w.heap.size 59 i0 (.agg #[.int .i64 0, .int .i64 0]) 2 16 Try.underlying55 HI0.out HZ0.out HZ1.out HZ2.out rfl (by omega) _ out.length (rowCells out) rfl (HO.out.alloc _) ⟨wo.heap.size, 0, none⟩ 1 1 [.int .i64 k, .int .i64 j] rfl rfl (two_new _ _ _ _) ?c1 ?c2 ?c3 ?c4 ?_) | ((with_reducible refine (refAmount_bd _ _ (by omega) (by omega)).mono ?_); rintro e w2 ⟨rfl, rfl⟩))
                case c1 => first | exact ⟨rfl, rfl⟩ | (intro u hu; simp at hu; rcases hu with rfl | rfl <;> rfl)
                case c2 => simp only [maxLen]; omega
                case c3 => omega
                case c4 => first | omega | (simp; omega)
                intro v' w4 hown' hgrow _
                have HO' := Lib.hid hown'
                have HG := Lib.hid hgrow
                clear hown' hgrow
                go_wp2
                go_roundw
                case rel =>
                  have h2 := HN2.out
                  rw [if_pos (by omega)] at h2
                  refine ⟨j + 1, out ++ [(k, j)], by go_num, by simp; omega, ?_, ?_, h2⟩
                  · rw [rowCells_snoc]; simpa using HO'.out
                  · exact (hb.alloc hb.size _).grown HG.out (by simp; omega) fun j hj => (HO.out.lt j hj).1
                case measure => simp [intOf]; omega
              · go_wp2_with ((with_reducible refine (refAmount_bd _ _ (by omega) (by omega)).mono ?_); rintro e w2 ⟨rfl, rfl⟩)
                go_roundw
                case rel =>
                  have h2 := HN2.out
                  rw [if_neg (by omega), List.append_nil] at h2
                  exact ⟨j + 1, out, by go_num, by omega, HO.out, hb, h2⟩
                case measure => simp [intOf]; omega
          · have hn2 := hnext.resolve_left (fun h => q1 h.2.2.1)
            have HN2 := Lib.hid hn2
            clear hnext hn2
            have zz := hb.size
            by_cases hlen : least ≤ (j : Int) - k
            · go_wp2_with (first | (at_builtin; refine wpList_append_own _ rfl (.tmp 68) (.tmp 72) _ rfl w.heap.size 59 i0 (.agg #[.int .i64 0, .int .i64 0]) 2 16 Try.underlying55 HI0.out HZ0.out HZ1.out HZ2.out rfl (by omega) _ out.length (rowCells out) rfl (HO.out.alloc _) ⟨wo.heap.size, 0, none⟩ 1 1 [.int .i64 k, .int .i64 j] rfl rfl (two_new _ _ _ _) ?c1 ?c2 ?c3 ?c4 ?_) | ((with_reducible refine (refAmount_bd _ _ (by omega) (by omega)).mono ?_); rintro e w2 ⟨rfl, rfl⟩))
              case c1 => first | exact ⟨rfl, rfl⟩ | (intro u hu; simp at hu; rcases hu with rfl | rfl <;> rfl)
              case c2 => simp only [maxLen]; omega
              case c3 => omega
              case c4 => first | omega | (simp; omega)
              intro v' w4 hown' hgrow _
              have HO' := Lib.hid hown'
              have HG := Lib.hid hgrow
              clear hown' hgrow
              go_wp2
              go_roundw
              case rel =>
                have h2 := HN2.out
                rw [if_pos (by omega)] at h2
                refine ⟨j + 1, out ++ [(k, j)], by go_num, by simp; omega, ?_, ?_, h2⟩
                · rw [rowCells_snoc]; simpa using HO'.out
                · exact (hb.alloc hb.size _).grown HG.out (by simp; omega) fun j hj => (HO.out.lt j hj).1
              case measure => simp [intOf]; omega
            · go_wp2_with ((with_reducible refine (refAmount_bd _ _ (by omega) (by omega)).mono ?_); rintro e w2 ⟨rfl, rfl⟩)
              go_roundw
              case rel =>
                have h2 := HN2.out
                rw [if_neg (by omega), List.append_nil] at h2
                exact ⟨j + 1, out, by go_num, by omega, HO.out, hb, h2⟩
              case measure => simp [intOf]; omega
        · have hn2 := hnext.resolve_left (fun h => hj h.1)
          have HN2 := Lib.hid hn2
          have hjl : ¬ (j : Int) < (n : Int) := by omega
          clear hnext hn2
          have zz := hb.size
          by_cases hlen : least ≤ (j : Int) - k
          · go_wp2_with (first | (at_builtin; refine wpList_append_own _ rfl (.tmp 68) (.tmp 72) _ rfl w.heap.size 59 i0 (.agg #[.int .i64 0, .int .i64 0]) 2 16 Try.underlying55 HI0.out HZ0.out HZ1.out HZ2.out rfl (by omega) _ out.length (rowCells out) rfl (HO.out.alloc _) ⟨wo.heap.size, 0, none⟩ 1 1 [.int .i64 k, .int .i64 j] rfl rfl (two_new _ _ _ _) ?c1 ?c2 ?c3 ?c4 ?_) | ((with_reducible refine (refAmount_bd _ _ (by omega) (by omega)).mono ?_); rintro e w2 ⟨rfl, rfl⟩))
            case c1 => first | exact ⟨rfl, rfl⟩ | (intro u hu; simp at hu; rcases hu with rfl | rfl <;> rfl)
            case c2 => simp only [maxLen]; omega
            case c3 => omega
            case c4 => first | omega | (simp; omega)
            intro v' w4 hown' hgrow _
            have HO' := Lib.hid hown'
            have HG := Lib.hid hgrow
            clear hown' hgrow
            go_wp2
            go_roundw
            case rel =>
              have h2 := HN2.out
              rw [if_pos (by omega)] at h2
              refine ⟨j + 1, out ++ [(k, j)], by go_num, by simp; omega, ?_, ?_, h2⟩
              · rw [rowCells_snoc]; simpa using HO'.out
              · exact (hb.alloc hb.size _).grown HG.out (by simp; omega) fun j hj => (HO.out.lt j hj).1
            case measure => simp [intOf]; omega
          · go_wp2_with ((with_reducible refine (refAmount_bd _ _ (by omega) (by omega)).mono ?_); rintro e w2 ⟨rfl, rfl⟩)
            go_roundw
            case rel =>
              have h2 := HN2.out
              rw [if_neg (by omega), List.append_nil] at h2
              exact ⟨j + 1, out, by go_num, by omega, HO.out, hb, h2⟩
            case measure => simp [intOf]; omega
    · have hR1 : out = R := by
        rcases hcase with h | h
        · have h2 := h.2
          rw [qf_drop_all limit xs k (by have := HN.out; omega)] at h2
          rw [← h2]; simp [tk]; omega
        · exact h.2.2
      have HR1 := Lib.hid hR1
      have hnl : ¬ (k : Int) < (n : Int) := by omega
      clear hR1 hcase
      go_wp2
      go_ret2
      exact ⟨_, rfl, by rw [← HR1.out]; exact HO.out, hb⟩

set_option maxRecDepth 100000 in
set_option maxHeartbeats 1000000 in
theorem refSilences_any (B : Nat) (A : Option Addr) (n c : Nat) (xs : List Smp) (limit least : Int) (w : World) (h0 : RS w B A n xs) (hB : B ≤ w.heap.size) (hl : n ≤ 9223372036854775807) (hi : I64s xs) :
    Calls Try.prog 40 #[.slice A n c, .int .i64 limit, .int .i64 least] w (SilPost w (slEr limit least xs) (slRes limit least xs)) := by
  by_cases hc : ckS xs = 0
  · by_cases hg : 0 ≤ limit ∧ limit ≤ 32767 ∧ 1 ≤ least ∧ least ≤ 4096
    · have he : slEr limit least xs = 0 := by unfold slEr; rw [if_pos hc, if_pos hg]
      have hr : slRes limit least xs = tk least (qf limit xs) 0 0 := by unfold slRes; rw [if_pos he]
      rw [he, hr]
      exact refSilences_ok B A n c xs limit least w h0 hB hl hi hc hg.1 hg.2.1 hg.2.2.1 hg.2.2.2
    · have he : slEr limit least xs = 3 := by unfold slEr; rw [if_pos hc, if_neg hg]
      have hr : slRes limit least xs = [] := by unfold slRes; rw [if_neg (by omega)]
      rw [he, hr]
      have H := Lib.hid (h0.more hB)
      have HC := Lib.hid hc
      have HI := Lib.hid hi
      clear h0 hB hc he hr hi
      have hh : limit < 0 ∨ (¬ limit < 0 ∧ 32767 < limit) ∨ (¬ limit < 0 ∧ ¬ 32767 < limit ∧ least < 1) ∨ (¬ limit < 0 ∧ ¬ 32767 < limit ∧ ¬ least < 1 ∧ 4096 < least) := by omega
      clear hg
      rcases hh with h1 | ⟨h1, h2⟩ | ⟨h1, h2, h3⟩ | ⟨h1, h2, h3, h4⟩
      all_goals
        go_enter Try.func40, Try.ntmps40
        go_wp2_with fail
        refine (refCheckSamples_any _ A n c xs _ H.out (Nat.le_refl _) hl HI.out).mono ?_
        rintro e w1 ⟨rfl, hb1⟩
        rw [HC.out]
        go_wp2
        go_ret2
        exact ⟨_, rfl, World.ownsRow_nil _ _ _ _, hb1⟩
  · have he : slEr limit least xs = ckS xs := by unfold slEr; rw [if_neg hc]
    have hr : slRes limit least xs = [] := by unfold slRes; rw [if_neg (by omega)]
    rw [he, hr]
    have H := Lib.hid (h0.more hB)
    have HI := Lib.hid hi
    have hc1 : (ckS xs == 0) = false := by simpa using hc
    have hc2 : (ckS xs != 0) = true := by simpa using hc
    clear hc h0 hB he hr hi
    obtain ⟨q, hq⟩ : ∃ q, q = ckS xs := ⟨_, rfl⟩
    rw [← hq] at hc1 hc2 ⊢
    have HQ := Lib.hid hq
    clear hq
    go_enter Try.func40, Try.ntmps40
    go_wp2_with fail
    refine (refCheckSamples_any _ A n c xs _ H.out (Nat.le_refl _) hl HI.out).mono ?_
    rintro e w1 ⟨rfl, hb1⟩
    rw [← HQ.out]
    go_wp2_with fail
    refine (refCheckSamples_any _ A n c xs _ (H.out.below hb1 (Nat.le_refl _)) hb1.size hl HI.out).mono ?_
    rintro e w2 ⟨rfl, hb2⟩
    rw [← HQ.out]
    go_wp2
    go_ret2
    exact ⟨_, rfl, World.ownsRow_nil _ _ _ _, hb1.trans (hb2.mono hb1.size)⟩
end Go.Proofs.Ytlnekinnblnciaa
