/-
  sort.Search; behind, round and Round of package play.
-/
import Derived.Test.YtjdnpgilinfkgaaNP
import Derived.Test.YtjdnpgilinfkgaaND
import Derived.Test.YtjdnpgilinfkgaaLi
import Derived.Test.YtjdnpgilinfkgaaW2
import Derived.WalkArith
namespace Go.Proofs.Ytjdnpgilinfkgaa
open Go.RowKit

/-- A function value that says p at the numbers up to n, in all worlds that have grown out of w. -/
structure PredIs (w : World) (g : Nat) (first cap : Array Value) (n : Nat) (p : Nat → Bool) : Prop where
  ent : ∀ args w, (callFunc g args).run Try.prog w = .ok (.enter g args) w
  run : ∀ u, u < n → ∀ W, Below w.heap.size w W → Calls Try.prog g (first.push (.int .i64 u) ++ cap) W fun e w' => e = .returned (.bool (p u)) ∧ Below W.heap.size W w'

set_option maxRecDepth 100000 in
set_option maxHeartbeats 2000000 in
theorem Search_any (g : Nat) (first cap : Array Value) (n r : Nat) (p : Nat → Bool) (w : World) (hn : n ≤ 4611686018427387904) (hF : PredIs w g first cap n p) (hr : r ≤ n) (h1 : ∀ x, x < r → p x = false) (h2 : ∀ x, r ≤ x → x < n → p x = true) :
    Calls Try.prog 110 #[.int .i64 n, .func (.func g) first cap] w fun e w' => e = .returned (.int .i64 r) ∧ Below w.heap.size w w' := by
  have HF := Lib.hid hF
  have HL := Lib.hid h1
  have HG := Lib.hid h2
  have HR := Lib.hid hr
  clear hF h1 h2 hr
  go_enter Try.func110, Try.ntmps110
  go_wp2_with fail
  go_loopw [5, 6] (fun u v wr => ∃ i j : Nat, i ≤ r ∧ r ≤ j ∧ j ≤ n ∧ u = .int .i64 i ∧ v = .int .i64 j ∧ Hid (Below w.heap.size w wr)) (fun u v _ => (intOf v).toNat - (intOf u).toNat)
  case atStart => exact ⟨0, n, Nat.zero_le _, HR.out, Nat.le_refl _, rfl, rfl, Lib.hid (Below.refl _ _)⟩
  case round =>
    obtain ⟨i, j, hi, hj, hjn, rfl, rfl, HB⟩ := hrel
    by_cases hlt : i < j
    · have g1 : (i : Int) < (j : Int) := by omega
      have e1 : IntKind.i64.wrap ((i : Int) + j) = (i : Int) + j := IntWalk.i64_in _ (by omega)
      obtain ⟨h, hh⟩ : ∃ h, (i + j) / 2 = h := ⟨_, rfl⟩
      have e2 : ((i : Int) + j) / 2 = (h : Int) := by omega
      have e3 : IntKind.i64.wrap ((h : Int) + 1) = (h : Int) + 1 := IntWalk.i64_in _ (by omega)
      have hent := HF.out.ent
      have CALL := HF.out.run h (by omega) _ HB.out
      obtain ⟨q, hq⟩ : ∃ q, p h = q := ⟨_, rfl⟩
      rw [hq] at CALL
      have HQ := Lib.hid hq
      clear hq
      go_wp2_with fail
      refine CALL.mono ?_
      rintro e w2 ⟨rfl, hb⟩
      replace HB := Lib.hid (HB.out.trans (hb.mono HB.out.size))
      clear CALL hb hent
      cases q
      · have hlo : h < r := by
          rcases Nat.lt_or_ge h r with h3 | h3
          · exact h3
          · have := HG.out h h3 (by omega); rw [HQ.out] at this; cases this
        go_wp2
        go_roundw
        case rel => exact ⟨h + 1, j, by omega, hj, hjn, by go_num, rfl, HB⟩
        case measure => simp [intOf]; omega
      · have hlo : r ≤ h := by
          rcases Nat.lt_or_ge h r with h3 | h3
          · have := HL.out h h3; rw [HQ.out] at this; cases this
          · exact h3
        go_wp2
        go_roundw
        case rel => exact ⟨i, h, hi, hlo, by omega, rfl, rfl, HB⟩
        case measure => simp [intOf]; omega
    · obtain rfl : i = r := by omega
      go_wp2
      go_ret
      exact ⟨rfl, HB.out⟩

theorem bh_case (R b : Nat) (up : Bool) : bhL R b up = (R : Int) - isq (R * R - b * b) - (if up || decide (isq (R * R - b * b) * isq (R * R - b * b) = R * R - b * b) then 0 else 1) := by
  unfold bhL csq
  cases up
  · by_cases h : isq (R * R - b * b) * isq (R * R - b * b) = R * R - b * b
    · simp [h]
    · simp [h]; omega
  · simp

set_option maxRecDepth 100000 in
set_option maxHeartbeats 2000000 in
theorem behindR_any (R b : Nat) (up : Bool) (w : World) (hR : R ≤ 1024) (hb : b ≤ R) :
    Calls Try.prog 89 #[.int .i64 R, .int .i64 b, .bool up] w fun e w' => e = .returned (.int .i64 (bhL R b up)) ∧ Below w.heap.size w w' := by
  have hbc := bh_case R b true
  have hbf := bh_case R b false
  have hqq := sq_le hb
  have hRR : R * R ≤ 1048576 := Nat.mul_le_mul hR hR
  have hsR : isq (R * R - b * b) ≤ R := by have := isq_mono (show R * R - b * b ≤ R * R by omega); rw [isq_sq] at this; exact this
  have his := isq_is (R * R - b * b)
  have m1 : (R : Int) * R = ((R * R : Nat) : Int) := by simp
  have m2 : (b : Int) * b = ((b * b : Nat) : Int) := by simp
  obtain ⟨sR, hsRR⟩ : ∃ x, R * R = x := ⟨_, rfl⟩
  obtain ⟨sb, hsb⟩ : ∃ x, b * b = x := ⟨_, rfl⟩
  rw [hsRR] at hbc hbf hqq hRR hsR his m1
  rw [hsb] at hbc hbf hqq hsR his m2
  obtain ⟨sq, hsq⟩ : ∃ x, sR - sb = x := ⟨_, rfl⟩
  rw [hsq] at hbc hbf hsR his
  obtain ⟨s, hs⟩ : ∃ x, isq sq = x := ⟨_, rfl⟩
  rw [hs] at hbc hbf hsR his
  have w1 : IntKind.i64.wrap (sR : Int) = (sR : Int) := IntWalk.i64_in _ (by omega)
  have w2 : IntKind.i64.wrap (sb : Int) = (sb : Int) := IntWalk.i64_in _ (by omega)
  have w3 : IntKind.i64.wrap ((sR : Int) - sb) = (sq : Int) := by rw [show (sR : Int) - sb = sq by omega]; exact IntWalk.i64_in _ (by omega)
  have w4 : IntKind.i64.wrap ((R : Int) - ((R - s : Nat) : Int)) = (s : Int) := by rw [show (R : Int) - ((R - s : Nat) : Int) = s by omega]; exact IntWalk.i64_in _ (by omega)
  have m3 : (s : Int) * s = ((s * s : Nat) : Int) := by simp
  have hss : s * s ≤ 1048576 := by omega
  have w5 : IntKind.i64.wrap ((s * s : Nat) : Int) = ((s * s : Nat) : Int) := IntWalk.i64_in _ (by omega)
  have w6 : IntKind.i64.wrap (((R - s : Nat) : Int) - 1) = ((R - s : Nat) : Int) - 1 := IntWalk.i64_in _ (by omega)
  have HP : Hid (∀ W, Blk W w.heap.size 2 #[.int .i64 R] → Blk W (w.heap.size + 1) 2 #[.int .i64 sq] → PredIs W 111 #[] #[.pointer (some ⟨w.heap.size, 0, none⟩), .pointer (some ⟨w.heap.size + 1, 0, none⟩)] R (fun x => decide ((R - x) * (R - x) ≤ sq))) := Lib.hid (fun W k1 k2 => ⟨enters_of Try.func111 (by kernel_rfl) rfl, fun u hu X hX => by
    have c1 := (k1.below hX k1.lt).one.1
    have c2 := (k2.below hX k2.lt).one.1
    have v1 : IntKind.i64.wrap ((R : Int) - u) = ((R - u : Nat) : Int) := by rw [show (R : Int) - u = ((R - u : Nat) : Int) by omega]; exact IntWalk.i64_in _ (by omega)
    have v2 : ((R - u : Nat) : Int) * ((R - u : Nat) : Int) = (((R - u) * (R - u) : Nat) : Int) := by simp
    have v3 : (R - u) * (R - u) ≤ 1024 * 1024 := Nat.mul_le_mul (by omega) (by omega)
    have v4 : IntKind.i64.wrap (((R - u) * (R - u) : Nat) : Int) = (((R - u) * (R - u) : Nat) : Int) := IntWalk.i64_in _ (by omega)
    obtain ⟨y, hy⟩ : ∃ y, (R - u) * (R - u) = y := ⟨_, rfl⟩
    rw [hy] at v2 v4 ⊢
    obtain ⟨z, hz⟩ : ∃ z, R - u = z := ⟨_, rfl⟩
    rw [hz] at v1 v2
    clear k1 k2 hy hz v3
    go_enter Try.func111, Try.ntmps111
    go_wp2
    go_ret
    exact ⟨by simp, Below.refl _ _⟩⟩)
  have HL1 : Hid (∀ x, x < R - s → decide ((R - x) * (R - x) ≤ sq) = false) := Lib.hid (fun x hx => decide_eq_false (by
    have := sq_le (a := s + 1) (b := R - x) (by omega)
    omega))
  have HL2 : Hid (∀ x, R - s ≤ x → x < R → decide ((R - x) * (R - x) ≤ sq) = true) := Lib.hid (fun x h1 h2 => decide_eq_true (by
    have := sq_le (a := R - x) (b := s) (by omega)
    omega))
  have HBC := Lib.hid (And.intro hbc hbf)
  have hSR := Lib.hid hsR
  clear hbc hbf his hqq hRR hsRR hsb hsq hs hb
  go_enter Try.func89, Try.ntmps89
  go_wp2_with fail
  obtain ⟨W, hW⟩ : ∃ W, (w.alloc (.cells #[.int .i64 R] 2)).alloc (.cells #[.int .i64 sq] 2) = W := ⟨_, rfl⟩
  have hbw : Below w.heap.size w W := by rw [← hW]; exact ((Below.refl _ _).alloc (Nat.le_refl _) _).alloc (by simp) _
  have k0 : Blk W w.heap.size 2 #[.int .i64 R] := by rw [← hW]; exact (Blk.new _ _ _).alloc _
  have k1 : Blk W (w.heap.size + 1) 2 #[.int .i64 sq] := by rw [← hW]; exact blk_al (by simp)
  rw [hW]
  clear hW
  have CALL := Search_any 111 #[] #[.pointer (some ⟨w.heap.size, 0, none⟩), .pointer (some ⟨w.heap.size + 1, 0, none⟩)] R (R - s) _ W (by omega) (HP.out W k0 k1) (by omega) HL1.out HL2.out
  have K0 := Lib.hid k0
  have K1 := Lib.hid k1
  have HB := Lib.hid hbw
  clear k0 k1 hbw HP HL1 HL2 m1 m2 w1 w2 w3
  refine CALL.mono ?_
  rintro e w2 ⟨rfl, hb⟩
  replace K0 := Lib.hid (K0.out.below hb K0.out.lt)
  replace K1 := Lib.hid (K1.out.below hb K1.out.lt)
  replace HB := Lib.hid (HB.out.trans (hb.mono HB.out.size))
  clear CALL hb
  have c0 := K0.out.one.1
  have c1 := K1.out.one.1
  have hBv : s * s = sq → bhL R b false = ((R - s : Nat) : Int) := fun hq => by rw [HBC.out.2]; simp [hq]; have := hSR.out; omega
  have hBw : s * s ≠ sq → bhL R b false = ((R - s : Nat) : Int) - 1 := fun hq => by rw [HBC.out.2]; simp [hq]; have := hSR.out; omega
  have hBt : bhL R b true = ((R - s : Nat) : Int) := by rw [HBC.out.1]; simp; have := hSR.out; omega
  obtain ⟨s2, hs2⟩ : ∃ x, s * s = x := ⟨_, rfl⟩
  rw [hs2] at m3 w5 hss hBv hBw
  have HBV := Lib.hid hBv
  have HBW := Lib.hid hBw
  have HBT := Lib.hid hBt
  clear hs2 hBv hBw hBt HBC
  cases up
  · by_cases hq : s2 = sq
    · have HBX := Lib.hid (HBV.out hq)
      clear HBV HBW HBT
      subst hq
      have q1 : ((s2 : Int) == (s2 : Int)) = true := by simp
      go_wp2
      go_ret
      exact ⟨ret_i HBX.out.symm, HB.out⟩
    · have q1 : ((s2 : Int) == (sq : Int)) = false := beq_eq_false_iff_ne.2 (by omega)
      have q2 : ¬ (s2 : Int) = (sq : Int) := by omega
      have HBV := Lib.hid (HBW.out hq)
      go_wp2
      go_ret
      exact ⟨ret_i HBV.out.symm, HB.out⟩
  · go_wp2
    go_ret
    exact ⟨ret_i HBT.out.symm, HB.out⟩
end Go.Proofs.Ytjdnpgilinfkgaa
