/-
  The walk of PressStarts.
-/
import Derived.Test.YtomncopeekegoaaIQ
import Derived.Test.YtomncopeekegoaaIS
import Derived.Test.YtomncopeekegoaaIC
namespace Go.Proofs.Ytomncopeekegoaa
open Go.RowKit

set_option maxRecDepth 100000 in
set_option maxHeartbeats 16000000 in
theorem starts_walk (B : Nat) (p b st rs m : Int) (A : Option Addr) (n c : Nat) (l : List Int) (w : World) (h0 : LI w B A n l) (hB : B ≤ w.heap.size) (hn : n ≤ 9223372036854775807) (hnc : n ≤ c) (hi64 : ∀ x ∈ l, x ≤ 9223372036854775807) :
    Calls Try.prog 5 #[.int .i64 p, .int .i64 b, .int .i64 st, .int .i64 rs, .int .i64 m, .slice A n c] w fun e w' => e = .returned (.bool true) ∧ Below w.heap.size w w' := by
  have H := Lib.hid (h0.more hB)
  have HI := Lib.hid hi64
  clear h0 hB hi64
  have hm : (60 < m ∧ m ≤ 1000) ∨ ((¬ 60 < m) ∨ (60 < m ∧ ¬ m ≤ 1000)) := by omega
  rcases hm with ⟨a1, a2⟩ | hm
  · go_enter Try.func5, Try.ntmps5
    go_wp2_with ((refine (works8_any _).mono ?_); rintro e w1 ⟨rfl, hb⟩)
    go_ret
    exact ⟨rfl, hb⟩
  have hnn : (60 < n ∧ n ≤ 1000) ∨ (60 < n ∧ ¬ n ≤ 1000 ∧ 1100 < n) ∨ ((¬ 60 < n ∧ ¬ 1100 < n) ∨ (60 < n ∧ ¬ n ≤ 1000 ∧ ¬ 1100 < n)) := by omega
  rcases hnn with ⟨b1, b2⟩ | ⟨b1, b2, b3⟩ | hnn
  · have g1 : (60 : Int) < (n : Int) := by omega
    have g2 : (n : Int) ≤ 1000 := by omega
    rcases hm with a1 | ⟨a1, a2⟩
    all_goals
      go_enter Try.func5, Try.ntmps5
      go_wp2_with ((refine (works8_any _).mono ?_); rintro e w1 ⟨rfl, hb⟩)
      go_ret
      exact ⟨rfl, hb⟩
  · have g1 : (60 : Int) < (n : Int) := by omega
    have g2 : ¬ (n : Int) ≤ 1000 := by omega
    have g3 : (1100 : Int) < (n : Int) := by omega
    rcases hm with a1 | ⟨a1, a2⟩
    all_goals
      go_enter Try.func5, Try.ntmps5
      go_wp2_with ((refine (works8_any _).mono ?_); rintro e w1 ⟨rfl, hb⟩)
      go_ret
      exact ⟨rfl, hb⟩
  obtain ⟨er, her⟩ : ∃ er, ckH p b st rs m = er := ⟨_, rfl⟩
  obtain ⟨S, hS⟩ : ∃ S, srtV p b st rs m = S := ⟨_, rfl⟩
  obtain ⟨⟨r1, r2⟩, hR⟩ : ∃ R, csR p b st rs l = R := ⟨_, rfl⟩
  have HE := Lib.hid (And.intro her (And.intro hS hR))
  have q1 : ((er : Int) == er) = true := by simp
  have q2 : ((r1 : Int) == r1) = true := by simp
  have q3 : ((r2 : Int) == r2) = true := by simp
  clear her hS hR
  have hall : ∀ (W : World), Below w.heap.size w W → True := fun _ _ => trivial
  clear hall
  rcases hm with a1 | ⟨a1, a2⟩ <;> rcases hnn with ⟨b1, b2⟩ | ⟨b1, b2, b3⟩
  case' inl.inl => have g1 : ¬ (60 : Int) < (n : Int) := by omega
  case' inl.inl => have g2 : ¬ (1100 : Int) < (n : Int) := by omega
  case' inl.inr => have g1 : (60 : Int) < (n : Int) := by omega
  case' inl.inr => have g2 : ¬ (n : Int) ≤ 1000 := by omega
  case' inl.inr => have g3 : ¬ (1100 : Int) < (n : Int) := by omega
  case' inr.inl => have g1 : ¬ (60 : Int) < (n : Int) := by omega
  case' inr.inl => have g2 : ¬ (1100 : Int) < (n : Int) := by omega
  case' inr.inr => have g1 : (60 : Int) < (n : Int) := by omega
  case' inr.inr => have g2 : ¬ (n : Int) ≤ 1000 := by omega
  case' inr.inr => have g3 : ¬ (1100 : Int) < (n : Int) := by omega
  all_goals
    go_enter Try.func5, Try.ntmps5
    go_wp2_with fail
    refine (Starts_any p b st rs m w).mono ?_
    rintro e w1 ⟨A1, n1, k1, rfl, hL1, hc1, hk1, hb1⟩
    rw [HE.out.2.1] at hL1
    rw [HE.out.1]
    have HL1 := Lib.hid hL1
    have HB1 := Lib.hid hb1
    clear hL1 hb1
    go_wp2_with fail
    refine (refStarts_any p b st rs m w1).mono ?_
    rintro e w2 ⟨A2, n2, k2, rfl, hL2, hc2, hk2, hb2⟩
    rw [HE.out.2.1] at hL2
    rw [HE.out.1]
    have HL2 := Lib.hid hL2
    have HL1b := Lib.hid (HL1.out.below hb2 (Nat.le_refl _))
    have hs1 := HB1.out.size
    have hs2 := hb2.size
    have HB2 := Lib.hid (HB1.out.trans (hb2.mono hs1))
    clear hL2 hb2 HL1
    go_wp2_with fail
    refine (CheckStarts_any w.heap.size A n c l p b st rs w2 (H.out.below HB2.out (Nat.le_refl _)) HB2.out.size hn hnc HI.out).mono ?_
    rintro e w3 ⟨rfl, hb3⟩
    rw [HE.out.2.2]
    have HL1c := Lib.hid (HL1b.out.below hb3 hs2)
    have HL2c := Lib.hid (HL2.out.below hb3 (Nat.le_refl _))
    have hs3 := hb3.size
    have HB3 := Lib.hid (HB2.out.trans (hb3.mono HB2.out.size))
    clear hb3 HL1b HL2
    go_wp2_with fail
    refine (refCheckStarts_any w.heap.size A n c l p b st rs w3 (H.out.below HB3.out (Nat.le_refl _)) HB3.out.size hn hnc HI.out).mono ?_
    rintro e w4 ⟨rfl, hb4⟩
    rw [HE.out.2.2]
    have HL1d := Lib.hid (HL1c.out.below hb4 (by omega))
    have HL2d := Lib.hid (HL2c.out.below hb4 (by omega))
    have hs4 := hb4.size
    have HB4 := Lib.hid (HB3.out.trans (hb4.mono HB3.out.size))
    clear hb4 HL1c HL2c
    go_wp2_with fail
    refine (longs_any w4.heap.size A1 A2 n1 k1 n2 k2 S S w4 (HL1d.out.more (by omega)) (HL2d.out.more (by omega)) (Nat.le_refl _) (by omega) (by omega)).mono ?_
    rintro e w5 ⟨rfl, hb5⟩
    rw [sameI_self]
    have HB5 := Lib.hid (HB4.out.trans (hb5.mono HB4.out.size))
    clear hb5
    go_wp2_with ((refine (works8_any _).mono ?_); rintro e w6 ⟨rfl, hb6⟩)
    go_ret
    exact ⟨rfl, HB5.out.trans (hb6.mono HB5.out.size)⟩
end Go.Proofs.Ytomncopeekegoaa
