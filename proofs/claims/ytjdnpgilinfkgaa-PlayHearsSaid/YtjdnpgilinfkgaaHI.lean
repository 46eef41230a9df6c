/-
  The walk of PlayHears.
-/
import Derived.Test.YtjdnpgilinfkgaaHE
import Derived.Test.YtjdnpgilinfkgaaHG
import Derived.Test.YtjdnpgilinfkgaaHH
import Derived.Test.YtjdnpgilinfkgaaMF
import Derived.Test.YtjdnpgilinfkgaaNL
import Derived.Deep.Cut
namespace Go.Proofs.Ytjdnpgilinfkgaa
open Go.RowKit

theorem hrRes_le (b s : List Int) (l : List Smp) (wow : Int) : (hrRes b s l wow).length ≤ l.length := by
  unfold hrRes
  split
  · rw [hrL_len]; exact Nat.le_refl _
  · exact Nat.zero_le _

set_option maxRecDepth 100000 in
set_option maxHeartbeats 8000000 in
theorem hears_walk (B : Nat) (Af A' A : Option Addr) (nf cf n' c' n k : Nat) (b s : List Int) (l : List Smp) (wow off r per : Int) (w : World) (hL : LI w B Af nf b) (hS : LI w B A' n' s) (h0 : RS w B A n l) (hB : B ≤ w.heap.size) (hf : nf ≤ 9223372036854775807) (hf' : n' ≤ 9223372036854775807) (hl : n ≤ 9223372036854775807) :
    Calls Try.prog 5 #[.agg #[.slice Af nf cf], .agg #[.slice A' n' c'], .slice A n k, .int .i64 wow, .int .i64 off, .int .i64 r, .int .i64 per] w fun e w' => e = .returned (.bool true) ∧ Below w.heap.size w w' := by
  have HN := Lib.hid h0.1
  have H := Lib.hid h0
  have HL := Lib.hid hL
  have HS := Lib.hid hS
  clear h0 hL hS
  by_cases c1 : 80 < nf
  · have g1 : (80 : Int) < (nf : Int) := by omega
    have d1 : decide ((80 : Int) < (nf : Int)) = true := decide_eq_true g1
    go_enter Try.func5, Try.ntmps5
    go_upto_region 1 with fail
    obtain ⟨w2, hW⟩ : ∃ W, (w.alloc (.cells #[.slice Af nf cf] 24)).alloc (.cells #[.slice A' n' c'] 24) = W := ⟨_, rfl⟩
    have hb : Below w.heap.size w w2 := by rw [← hW]; exact ((Below.refl _ _).alloc (Nat.le_refl _) _).alloc (by simp) _
    have K1 : Hid (Blk w2 w.heap.size 24 #[.slice Af nf cf]) := Lib.hid (by rw [← hW]; exact (Blk.new _ _ _).alloc _)
    have K2 : Hid (Blk w2 (w.heap.size + 1) 24 #[.slice A' n' c']) := Lib.hid (by rw [← hW]; exact blk_al (by simp))
    have HB := Lib.hid hb
    have hsz2 := hb.size
    rw [hW]
    clear hW
    replace H := Lib.hid (H.out.below hb (by omega))
    replace HL := Lib.hid (HL.out.below hb (by omega))
    replace HS := Lib.hid (HS.out.below hb (by omega))
    clear hb
    have t1 := K1.out.one.1
    have t2 := K2.out.one.1
    go_wp2_with fail
    have CALL := works6_any w2
    refine CALL.mono ?_
    rintro e w3 ⟨rfl, hb⟩
    clear CALL
    have hsz3 := hb.size
    replace H := Lib.hid (H.out.below hb (by omega))
    replace HL := Lib.hid (HL.out.below hb (by omega))
    replace HS := Lib.hid (HS.out.below hb (by omega))
    replace K1 := Lib.hid (K1.out.below hb K1.out.lt)
    replace K2 := Lib.hid (K2.out.below hb K2.out.lt)
    replace HB := Lib.hid (HB.out.trans (hb.mono (by omega)))
    clear hb
    have t1 := K1.out.one.1
    have t2 := K2.out.one.1
    go_wp2
    go_ret
    exact ⟨rfl, HB.out⟩
  · have g1 : ¬ (80 : Int) < (nf : Int) := by omega
    have d1 : decide ((80 : Int) < (nf : Int)) = false := decide_eq_false g1
    by_cases c2 : 80 < n'
    · have g2 : (80 : Int) < (n' : Int) := by omega
      have d2 : decide ((80 : Int) < (n' : Int)) = true := decide_eq_true g2
      go_enter Try.func5, Try.ntmps5
      go_upto_region 1 with fail
      obtain ⟨w2, hW⟩ : ∃ W, (w.alloc (.cells #[.slice Af nf cf] 24)).alloc (.cells #[.slice A' n' c'] 24) = W := ⟨_, rfl⟩
      have hb : Below w.heap.size w w2 := by rw [← hW]; exact ((Below.refl _ _).alloc (Nat.le_refl _) _).alloc (by simp) _
      have K1 : Hid (Blk w2 w.heap.size 24 #[.slice Af nf cf]) := Lib.hid (by rw [← hW]; exact (Blk.new _ _ _).alloc _)
      have K2 : Hid (Blk w2 (w.heap.size + 1) 24 #[.slice A' n' c']) := Lib.hid (by rw [← hW]; exact blk_al (by simp))
      have HB := Lib.hid hb
      have hsz2 := hb.size
      rw [hW]
      clear hW
      replace H := Lib.hid (H.out.below hb (by omega))
      replace HL := Lib.hid (HL.out.below hb (by omega))
      replace HS := Lib.hid (HS.out.below hb (by omega))
      clear hb
      have t1 := K1.out.one.1
      have t2 := K2.out.one.1
      go_wp2_with fail
      have CALL := works6_any w2
      refine CALL.mono ?_
      rintro e w3 ⟨rfl, hb⟩
      clear CALL
      have hsz3 := hb.size
      replace H := Lib.hid (H.out.below hb (by omega))
      replace HL := Lib.hid (HL.out.below hb (by omega))
      replace HS := Lib.hid (HS.out.below hb (by omega))
      replace K1 := Lib.hid (K1.out.below hb K1.out.lt)
      replace K2 := Lib.hid (K2.out.below hb K2.out.lt)
      replace HB := Lib.hid (HB.out.trans (hb.mono (by omega)))
      clear hb
      have t1 := K1.out.one.1
      have t2 := K2.out.one.1
      go_wp2
      go_ret
      exact ⟨rfl, HB.out⟩
    · have g2 : ¬ (80 : Int) < (n' : Int) := by omega
      have d2 : decide ((80 : Int) < (n' : Int)) = false := decide_eq_false g2
      cases hb_ : lng6 n 60
      · have hn : n ≤ 4106 := by
          unfold lng6 at hb_
          simp only [Bool.or_eq_false_iff, decide_eq_false_iff_not] at hb_
          omega
        have hm0 : (hrRes b s l wow).length ≤ n := by have := hrRes_le b s l wow; have := HN.out; omega
        obtain ⟨wv, h1⟩ : ∃ x, woRes off r per = x := ⟨_, rfl⟩
        obtain ⟨we, h2⟩ : ∃ x, woEr off r per = x := ⟨_, rfl⟩
        obtain ⟨er_, h3⟩ : ∃ x, hrEr b s l wow = x := ⟨_, rfl⟩
        obtain ⟨rs, h4⟩ : ∃ x, hrRes b s l wow = x := ⟨_, rfl⟩
        have HX := Lib.hid (And.intro h1 (And.intro h2 (And.intro h3 h4)))
        rw [h4] at hm0
        obtain ⟨m, hm⟩ : ∃ m, rs.length = m := ⟨_, rfl⟩
        have HM := Lib.hid hm
        rw [hm] at hm0
        clear h1 h2 h3 h4 hm
        go_enter Try.func5, Try.ntmps5
        go_upto_region 1 with fail
        obtain ⟨w2, hW⟩ : ∃ W, (w.alloc (.cells #[.slice Af nf cf] 24)).alloc (.cells #[.slice A' n' c'] 24) = W := ⟨_, rfl⟩
        have hb : Below w.heap.size w w2 := by rw [← hW]; exact ((Below.refl _ _).alloc (Nat.le_refl _) _).alloc (by simp) _
        have K1 : Hid (Blk w2 w.heap.size 24 #[.slice Af nf cf]) := Lib.hid (by rw [← hW]; exact (Blk.new _ _ _).alloc _)
        have K2 : Hid (Blk w2 (w.heap.size + 1) 24 #[.slice A' n' c']) := Lib.hid (by rw [← hW]; exact blk_al (by simp))
        have HB := Lib.hid hb
        have hsz2 := hb.size
        rw [hW]
        clear hW
        replace H := Lib.hid (H.out.below hb (by omega))
        replace HL := Lib.hid (HL.out.below hb (by omega))
        replace HS := Lib.hid (HS.out.below hb (by omega))
        clear hb
        have t1 := K1.out.one.1
        have t2 := K2.out.one.1
        go_wp2_with fail
        have CALL := long6_any A n k 60 w2
        rw [hb_] at CALL
        refine CALL.mono ?_
        rintro e w_ ⟨rfl, rfl⟩
        clear CALL
        go_wp2_with fail
        have CALL := Wow_any off r per w2
        rw [HX.out.1, HX.out.2.1] at CALL
        refine CALL.mono ?_
        rintro e w_ ⟨rfl, rfl⟩
        clear CALL
        go_wp2_with fail
        have CALL := refWow_any off r per w2
        rw [HX.out.1, HX.out.2.1] at CALL
        refine CALL.mono ?_
        rintro e w_ ⟨rfl, rfl⟩
        clear CALL
        go_wp2_with fail
        have CALL := Hear_any w2.heap.size Af A' A nf cf n' c' n k b s l wow w2 (HL.out.more (by omega)) (HS.out.more (by omega)) (H.out.more (by omega)) (Nat.le_refl _) hf hf' hl
        rw [HX.out.2.2.1, HX.out.2.2.2] at CALL
        refine CALL.mono ?_
        rintro e w3 ⟨A4, n4, k4, rfl, hr, hc4, hb⟩
        clear CALL
        have hsz3 := hb.size
        replace H := Lib.hid (H.out.below hb (by omega))
        replace HL := Lib.hid (HL.out.below hb (by omega))
        replace HS := Lib.hid (HS.out.below hb (by omega))
        replace K1 := Lib.hid (K1.out.below hb K1.out.lt)
        replace K2 := Lib.hid (K2.out.below hb K2.out.lt)
        replace HB := Lib.hid (HB.out.trans (hb.mono (by omega)))
        have hn4 : n4 = m := by have := hr.1; have := HM.out; omega
        subst n4
        have H4 := Lib.hid hr
        clear hr
        clear hb
        have t1 := K1.out.one.1
        have t2 := K2.out.one.1
        go_wp2_with fail
        have CALL := refHear_any w3.heap.size Af A' A nf cf n' c' n k b s l wow w3 (HL.out.more (by omega)) (HS.out.more (by omega)) (H.out.more (by omega)) (Nat.le_refl _) hf hf' hl
        rw [HX.out.2.2.1, HX.out.2.2.2] at CALL
        refine CALL.mono ?_
        rintro e w4 ⟨A5, n5, k5, rfl, hr, hc5, hb⟩
        clear CALL
        have hsz4 := hb.size
        replace H := Lib.hid (H.out.below hb (by omega))
        replace HL := Lib.hid (HL.out.below hb (by omega))
        replace HS := Lib.hid (HS.out.below hb (by omega))
        replace H4 := Lib.hid (H4.out.below hb (by omega))
        replace K1 := Lib.hid (K1.out.below hb K1.out.lt)
        replace K2 := Lib.hid (K2.out.below hb K2.out.lt)
        replace HB := Lib.hid (HB.out.trans (hb.mono (by omega)))
        have hn5 : n5 = m := by have := hr.1; have := HM.out; omega
        subst n5
        have H5 := Lib.hid hr
        clear hr
        clear hb
        have t1 := K1.out.one.1
        have t2 := K2.out.one.1
        clear HL
        clear HS
        clear H
        clear t1 t2 K1 K2 d1 d2 g1 g2 c1 c2 hb_ HX
        have q1 : (wv != wv) = false := by simp
        have q2 : (we != we) = false := by simp
        have q3 : (er_ != er_) = false := by simp
        have q4 : ((m : Int) != (m : Int)) = false := by simp
        go_wp2_with fail
        have HC : Hid (Below w4.heap.size w4 w4) := Lib.hid (Below.refl _ _)
        go_loopw [23] (fun z wr => ∃ j : Nat, j ≤ m ∧ z = .int .i64 j ∧ Hid (Below w4.heap.size w4 wr)) (fun z wr => m - (intOf z).toNat)
        case atStart => exact ⟨0, Nat.zero_le _, rfl, HC⟩
        case round =>
          clear HC
          obtain ⟨j, hj, rfl, HC⟩ := hrel
          have hsr := HC.out.size
          by_cases hlt : j < m
          · have hj1 : (j : Int) < (m : Int) := by omega
            have hjx : j < rs.length := by have := HM.out; omega
            obtain ⟨a4, hA4, _, y1, y2, y3, y4⟩ := (H4.out.below HC.out (by omega)).at_ (k := j) hjx
            obtain ⟨a5, hA5, _, x1, x2, x3, x4⟩ := (H5.out.below HC.out (by omega)).at_ (k := j) hjx
            obtain rfl := hA4
            obtain rfl := hA5
            obtain ⟨x, hx⟩ : ∃ x, rs[j] = x := ⟨_, rfl⟩
            rw [hx] at x1 x2 x3 x4 y1 y2 y3 y4
            obtain ⟨xa, xb, xc, xd⟩ := x
            dsimp only at x1 x2 x3 x4 y1 y2 y3 y4
            clear hx
            go_wp2_with fail
            go_quiet (fail)
            go_wp2
            go_roundw
            case rel => exact ⟨j + 1, by omega, by go_num, Lib.hid (below_drewN_ HC.out _)⟩
            case measure => simp [intOf]; omega
          · obtain rfl : j = m := by omega
            go_wp2_with fail
            have CALL := works6_any wr
            refine CALL.mono ?_
            rintro e w5 ⟨rfl, hb⟩
            clear CALL
            have hsz5 := hb.size
            replace HC := Lib.hid (HC.out.trans (hb.mono (by omega)))
            clear hb
            go_wp2
            go_ret
            exact ⟨rfl, HB.out.trans (HC.out.mono HB.out.size)⟩
      · go_enter Try.func5, Try.ntmps5
        go_upto_region 1 with fail
        obtain ⟨w2, hW⟩ : ∃ W, (w.alloc (.cells #[.slice Af nf cf] 24)).alloc (.cells #[.slice A' n' c'] 24) = W := ⟨_, rfl⟩
        have hb : Below w.heap.size w w2 := by rw [← hW]; exact ((Below.refl _ _).alloc (Nat.le_refl _) _).alloc (by simp) _
        have K1 : Hid (Blk w2 w.heap.size 24 #[.slice Af nf cf]) := Lib.hid (by rw [← hW]; exact (Blk.new _ _ _).alloc _)
        have K2 : Hid (Blk w2 (w.heap.size + 1) 24 #[.slice A' n' c']) := Lib.hid (by rw [← hW]; exact blk_al (by simp))
        have HB := Lib.hid hb
        have hsz2 := hb.size
        rw [hW]
        clear hW
        replace H := Lib.hid (H.out.below hb (by omega))
        replace HL := Lib.hid (HL.out.below hb (by omega))
        replace HS := Lib.hid (HS.out.below hb (by omega))
        clear hb
        have t1 := K1.out.one.1
        have t2 := K2.out.one.1
        go_wp2_with fail
        have CALL := long6_any A n k 60 w2
        rw [hb_] at CALL
        refine CALL.mono ?_
        rintro e w_ ⟨rfl, rfl⟩
        clear CALL
        go_wp2_with fail
        have CALL := works6_any w2
        refine CALL.mono ?_
        rintro e w3 ⟨rfl, hb⟩
        clear CALL
        have hsz3 := hb.size
        replace H := Lib.hid (H.out.below hb (by omega))
        replace HL := Lib.hid (HL.out.below hb (by omega))
        replace HS := Lib.hid (HS.out.below hb (by omega))
        replace K1 := Lib.hid (K1.out.below hb K1.out.lt)
        replace K2 := Lib.hid (K2.out.below hb K2.out.lt)
        replace HB := Lib.hid (HB.out.trans (hb.mono (by omega)))
        clear hb
        have t1 := K1.out.one.1
        have t2 := K2.out.one.1
        go_wp2
        go_ret
        exact ⟨rfl, HB.out⟩
end Go.Proofs.Ytjdnpgilinfkgaa
