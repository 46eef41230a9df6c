/-
  The walk of PlayReads.
-/
import Derived.Test.YtpcamnblpfccjaaMF
import Derived.Test.YtpcamnblpfccjaaMU
import Derived.Test.YtpcamnblpfccjaaMW
namespace Go.Proofs.Ytpcamnblpfccjaa
open Go.RowKit

def lng6 (n : Nat) (most : Int) : Bool := decide (most < n ∧ n ≤ 4096) || decide (4106 < n)
set_option maxHeartbeats 400000 in
theorem long6_any (A : Option Addr) (n k : Nat) (most : Int) (w : World) : Calls Try.prog 15 #[.slice A n k, .int .i64 most] w fun e w' => e = .returned (.bool (lng6 n most)) ∧ w = w' := by
  go_enter Try.func15, Try.ntmps15
  go_wp2
  all_goals
    go_ret
    exact ⟨ret_b (by unfold lng6; rw [Bool.eq_iff_iff]; simp only [Bool.or_eq_true, decide_eq_true_eq]; (try simp); omega), rfl⟩

set_option maxRecDepth 100000 in
set_option maxHeartbeats 8000000 in
theorem reads_walk (B : Nat) (Af A : Option Addr) (nf cf n k : Nat) (s : List Int) (l : List Smp) (w : World) (hL : LI w B Af nf s) (h0 : RS w B A n l) (hB : B ≤ w.heap.size) (hf : nf ≤ 9223372036854775807) (hl : n ≤ 9223372036854775807) :
    Calls Try.prog 3 #[.agg #[.slice Af nf cf], .slice A n k] w fun e w' => e = .returned (.bool true) ∧ Below w.heap.size w w' := by
  have HN := Lib.hid h0.1
  have H := Lib.hid h0
  have HL := Lib.hid hL
  clear h0 hL
  by_cases hc : 80 < nf
  · go_enter Try.func3, Try.ntmps3
    go_upto_region 1 with fail
    obtain ⟨w1, hW⟩ : ∃ W, w.alloc (.cells #[.slice Af nf cf] 24) = W := ⟨_, rfl⟩
    have hb : Below w.heap.size w w1 := by rw [← hW]; exact (Below.refl _ _).alloc (Nat.le_refl _) _
    have hsz1 := hb.size
    replace H := Lib.hid (H.out.below hb (by omega))
    replace HL := Lib.hid (HL.out.below hb (by omega))
    have HK : Hid (Blk w1 w.heap.size 24 #[.slice Af nf cf]) := Lib.hid (by rw [← hW]; exact Blk.new _ _ _)
    have HB := Lib.hid hb
    try rw [hW]
    clear hW hb
    have t0 := HK.out.one.1
    have g1 : (80 : Int) < (nf : Int) := by omega
    have d1 : decide ((80 : Int) < (nf : Int)) = true := decide_eq_true g1
    have d2 : decide (80 < nf) = true := decide_eq_true hc
    go_wp2_with fail
    have CALL := works6_any w1
    refine CALL.mono ?_
    rintro e w2 ⟨rfl, hb⟩
    clear CALL
    have hsz2 := hb.size
    replace H := Lib.hid (H.out.below hb (by omega))
    replace HL := Lib.hid (HL.out.below hb (by omega))
    replace HK := Lib.hid (HK.out.below hb HK.out.lt)
    replace HB := Lib.hid (HB.out.trans (hb.mono (by omega)))
    clear hb
    have t0 := HK.out.one.1
    go_wp2
    go_ret
    exact ⟨rfl, HB.out⟩
  · cases hb_ : lng6 n 100
    · go_enter Try.func3, Try.ntmps3
      go_upto_region 1 with fail
      obtain ⟨w1, hW⟩ : ∃ W, w.alloc (.cells #[.slice Af nf cf] 24) = W := ⟨_, rfl⟩
      have hb : Below w.heap.size w w1 := by rw [← hW]; exact (Below.refl _ _).alloc (Nat.le_refl _) _
      have hsz1 := hb.size
      replace H := Lib.hid (H.out.below hb (by omega))
      replace HL := Lib.hid (HL.out.below hb (by omega))
      have HK : Hid (Blk w1 w.heap.size 24 #[.slice Af nf cf]) := Lib.hid (by rw [← hW]; exact Blk.new _ _ _)
      have HB := Lib.hid hb
      try rw [hW]
      clear hW hb
      have t0 := HK.out.one.1
      have g1 : ¬ ((80 : Int) < (nf : Int)) := by omega
      have d1 : decide ((80 : Int) < (nf : Int)) = false := decide_eq_false g1
      have d2 : decide (80 < nf) = false := decide_eq_false hc
      go_wp2_with fail
      have CALL := long6_any A n k 100 w1
      rw [hb_] at CALL
      refine CALL.mono ?_
      rintro e w_ ⟨rfl, rfl⟩
      clear CALL g1 d1 d2
      have hn4 : n ≤ 4200 := by unfold lng6 at hb_; rw [Bool.or_eq_false_iff, decide_eq_false_iff_not, decide_eq_false_iff_not] at hb_; omega
      have hR : (rdRes s l).length ≤ 4200 := by unfold rdRes; split <;> simp [rdL_len]; have := HN.out; omega
      have hS : (swRes s l).length ≤ 4200 := by unfold swRes; split <;> simp [swL_len, rdL_len]; have := HN.out; omega
      obtain ⟨rl, h1⟩ : ∃ x, rdRes s l = x := ⟨_, rfl⟩
      obtain ⟨sl, h2⟩ : ∃ x, swRes s l = x := ⟨_, rfl⟩
      obtain ⟨er_, h3⟩ : ∃ x, rdEr s l = x := ⟨_, rfl⟩
      obtain ⟨m1, h4⟩ : ∃ x : Nat, miI s l = x := ⟨_, rfl⟩
      obtain ⟨m2, h5⟩ : ∃ x : Nat, miU s l = x := ⟨_, rfl⟩
      obtain ⟨m3, h6⟩ : ∃ x, miE s l = x := ⟨_, rfl⟩
      rw [h1] at hR
      rw [h2] at hS
      have HR := Lib.hid hR
      have HS := Lib.hid hS
      have E1 := Lib.hid h1
      have E2 := Lib.hid h2
      have E3 := Lib.hid h3
      have E4 := Lib.hid h4
      have E5 := Lib.hid h5
      have E6 := Lib.hid h6
      have q1 : (er_ != er_) = false := by simp
      have q2 : (er_ == er_) = true := by simp
      clear h1 h2 h3 h4 h5 h6 hb_ hR hS
      go_wp2_with fail
      have CALL := Read_any w1.heap.size Af A nf cf n k s l w1 (HL.out.more (by omega)) (H.out.more (by omega)) (Nat.le_refl _) hf hl
      rw [E3.out, E1.out] at CALL
      refine CALL.mono ?_
      rintro e w2 ⟨A1, n1, k1, rfl, hr, -, hb⟩
      clear CALL
      have hsz2 := hb.size
      replace H := Lib.hid (H.out.below hb (by omega))
      replace HL := Lib.hid (HL.out.below hb (by omega))
      replace HK := Lib.hid (HK.out.below hb HK.out.lt)
      replace HB := Lib.hid (HB.out.trans (hb.mono (by omega)))
      have hle1 : n1 ≤ 4200 := by have h1 := hr.1; have h2 := HR.out; omega
      have H1 := Lib.hid hr
      clear hr
      clear hb
      have t0 := HK.out.one.1
      go_wp2_with fail
      have CALL := refReadP_any w2.heap.size Af A nf cf n k s l w2 (HL.out.more (by omega)) (H.out.more (by omega)) (Nat.le_refl _) hf hl
      rw [E3.out, E1.out] at CALL
      refine CALL.mono ?_
      rintro e w3 ⟨A2, n2, k2, rfl, hr, -, hb⟩
      clear CALL
      have hsz3 := hb.size
      replace H := Lib.hid (H.out.below hb (by omega))
      replace HL := Lib.hid (HL.out.below hb (by omega))
      replace H1 := Lib.hid (H1.out.below hb (by omega))
      replace HK := Lib.hid (HK.out.below hb HK.out.lt)
      replace HB := Lib.hid (HB.out.trans (hb.mono (by omega)))
      have hle2 : n2 ≤ 4200 := by have h1 := hr.1; have h2 := HR.out; omega
      have H2 := Lib.hid hr
      clear hr
      clear hb
      have t0 := HK.out.one.1
      go_wp2_with fail
      have CALL := refSameP_any w3.heap.size A1 A2 n1 k1 n2 k2 rl rl w3 (H1.out.more (by omega)) (H2.out.more (by omega)) (Nat.le_refl _) (by omega) (by omega)
      rw [sameP_self] at CALL
      refine CALL.mono ?_
      rintro e w4 ⟨rfl, hb⟩
      clear CALL
      have hsz4 := hb.size
      replace H := Lib.hid (H.out.below hb (by omega))
      replace HL := Lib.hid (HL.out.below hb (by omega))
      replace H1 := Lib.hid (H1.out.below hb (by omega))
      replace H2 := Lib.hid (H2.out.below hb (by omega))
      replace HK := Lib.hid (HK.out.below hb HK.out.lt)
      replace HB := Lib.hid (HB.out.trans (hb.mono (by omega)))
      clear hb
      have t0 := HK.out.one.1
      clear H1
      clear H2
      go_wp2_with fail
      have CALL := Sweep_any w4.heap.size Af A nf cf n k s l w4 (HL.out.more (by omega)) (H.out.more (by omega)) (Nat.le_refl _) hf hl
      rw [E3.out, E2.out] at CALL
      refine CALL.mono ?_
      rintro e w5 ⟨A3, n3, k3, rfl, hr, -, hb⟩
      clear CALL
      have hsz5 := hb.size
      replace H := Lib.hid (H.out.below hb (by omega))
      replace HL := Lib.hid (HL.out.below hb (by omega))
      replace HK := Lib.hid (HK.out.below hb HK.out.lt)
      replace HB := Lib.hid (HB.out.trans (hb.mono (by omega)))
      have hle3 : n3 ≤ 4200 := by have h1 := hr.1; have h2 := HS.out; omega
      have H3 := Lib.hid hr
      clear hr
      clear hb
      have t0 := HK.out.one.1
      go_wp2_with fail
      have CALL := refSweepP_any w5.heap.size Af A nf cf n k s l w5 (HL.out.more (by omega)) (H.out.more (by omega)) (Nat.le_refl _) hf hl
      rw [E3.out, E2.out] at CALL
      refine CALL.mono ?_
      rintro e w6 ⟨A4, n4, k4, rfl, hr, -, hb⟩
      clear CALL
      have hsz6 := hb.size
      replace H := Lib.hid (H.out.below hb (by omega))
      replace HL := Lib.hid (HL.out.below hb (by omega))
      replace H3 := Lib.hid (H3.out.below hb (by omega))
      replace HK := Lib.hid (HK.out.below hb HK.out.lt)
      replace HB := Lib.hid (HB.out.trans (hb.mono (by omega)))
      have hle4 : n4 ≤ 4200 := by have h1 := hr.1; have h2 := HS.out; omega
      have H4 := Lib.hid hr
      clear hr
      clear hb
      have t0 := HK.out.one.1
      go_wp2_with fail
      have CALL := Miss_any w6.heap.size Af A nf cf n k s l w6 (HL.out.more (by omega)) (H.out.more (by omega)) (Nat.le_refl _) hf hl
      rw [E4.out, E5.out, E6.out] at CALL
      refine CALL.mono ?_
      rintro e w7 ⟨rfl, hb⟩
      clear CALL
      have hsz7 := hb.size
      replace H := Lib.hid (H.out.below hb (by omega))
      replace HL := Lib.hid (HL.out.below hb (by omega))
      replace H3 := Lib.hid (H3.out.below hb (by omega))
      replace H4 := Lib.hid (H4.out.below hb (by omega))
      replace HK := Lib.hid (HK.out.below hb HK.out.lt)
      replace HB := Lib.hid (HB.out.trans (hb.mono (by omega)))
      clear hb
      have t0 := HK.out.one.1
      go_wp2_with fail
      have CALL := refMissP_any w7.heap.size Af A nf cf n k s l w7 (HL.out.more (by omega)) (H.out.more (by omega)) (Nat.le_refl _) hf hl
      rw [E4.out, E5.out, E6.out] at CALL
      refine CALL.mono ?_
      rintro e w8 ⟨rfl, hb⟩
      clear CALL
      have hsz8 := hb.size
      replace H := Lib.hid (H.out.below hb (by omega))
      replace HL := Lib.hid (HL.out.below hb (by omega))
      replace H3 := Lib.hid (H3.out.below hb (by omega))
      replace H4 := Lib.hid (H4.out.below hb (by omega))
      replace HK := Lib.hid (HK.out.below hb HK.out.lt)
      replace HB := Lib.hid (HB.out.trans (hb.mono (by omega)))
      clear hb
      have t0 := HK.out.one.1
      go_wp2_with fail
      have CALL := refSameP_any w8.heap.size A3 A4 n3 k3 n4 k4 sl sl w8 (H3.out.more (by omega)) (H4.out.more (by omega)) (Nat.le_refl _) (by omega) (by omega)
      rw [sameP_self] at CALL
      refine CALL.mono ?_
      rintro e w9 ⟨rfl, hb⟩
      clear CALL
      have hsz9 := hb.size
      replace H := Lib.hid (H.out.below hb (by omega))
      replace HL := Lib.hid (HL.out.below hb (by omega))
      replace H3 := Lib.hid (H3.out.below hb (by omega))
      replace H4 := Lib.hid (H4.out.below hb (by omega))
      replace HK := Lib.hid (HK.out.below hb HK.out.lt)
      replace HB := Lib.hid (HB.out.trans (hb.mono (by omega)))
      clear hb
      have t0 := HK.out.one.1
      go_wp2_with fail
      have CALL := works6_any w9
      refine CALL.mono ?_
      rintro e w10 ⟨rfl, hb⟩
      clear CALL
      have hsz10 := hb.size
      replace H := Lib.hid (H.out.below hb (by omega))
      replace HL := Lib.hid (HL.out.below hb (by omega))
      replace H3 := Lib.hid (H3.out.below hb (by omega))
      replace H4 := Lib.hid (H4.out.below hb (by omega))
      replace HK := Lib.hid (HK.out.below hb HK.out.lt)
      replace HB := Lib.hid (HB.out.trans (hb.mono (by omega)))
      clear hb
      have t0 := HK.out.one.1
      go_wp2
      go_ret
      exact ⟨rfl, HB.out⟩
    · go_enter Try.func3, Try.ntmps3
      go_upto_region 1 with fail
      obtain ⟨w1, hW⟩ : ∃ W, w.alloc (.cells #[.slice Af nf cf] 24) = W := ⟨_, rfl⟩
      have hb : Below w.heap.size w w1 := by rw [← hW]; exact (Below.refl _ _).alloc (Nat.le_refl _) _
      have hsz1 := hb.size
      replace H := Lib.hid (H.out.below hb (by omega))
      replace HL := Lib.hid (HL.out.below hb (by omega))
      have HK : Hid (Blk w1 w.heap.size 24 #[.slice Af nf cf]) := Lib.hid (by rw [← hW]; exact Blk.new _ _ _)
      have HB := Lib.hid hb
      try rw [hW]
      clear hW hb
      have t0 := HK.out.one.1
      have g1 : ¬ ((80 : Int) < (nf : Int)) := by omega
      have d1 : decide ((80 : Int) < (nf : Int)) = false := decide_eq_false g1
      have d2 : decide (80 < nf) = false := decide_eq_false hc
      go_wp2_with fail
      have CALL := long6_any A n k 100 w1
      rw [hb_] at CALL
      refine CALL.mono ?_
      rintro e w_ ⟨rfl, rfl⟩
      clear CALL g1 d1 d2
      go_wp2_with fail
      have CALL := works6_any w1
      refine CALL.mono ?_
      rintro e w2 ⟨rfl, hb⟩
      clear CALL
      have hsz2 := hb.size
      replace H := Lib.hid (H.out.below hb (by omega))
      replace HL := Lib.hid (HL.out.below hb (by omega))
      replace HK := Lib.hid (HK.out.below hb HK.out.lt)
      replace HB := Lib.hid (HB.out.trans (hb.mono (by omega)))
      clear hb
      have t0 := HK.out.one.1
      go_wp2
      go_ret
      exact ⟨rfl, HB.out⟩
end Go.Proofs.Ytpcamnblpfccjaa
