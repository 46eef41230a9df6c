/-
  Radii of the law.
-/
import Derived.Test.YtgdkcbnpgpjnbaaL13
namespace Go.Proofs.Ytgdkcbnpgpjnbaa
open Go.RowKit

theorem fx_ext {X Y : List Int} (hl : X.length = Y.length) (h : ∀ i, i < X.length → fx X i = fx Y i) : X = Y := by
  refine List.ext_getElem hl (fun i h1 h2 => ?_)
  have := h i h1
  rw [fx_eq h1, fx_eq h2] at this
  exact this

set_option maxRecDepth 100000 in
set_option maxHeartbeats 8000000 in
theorem Radii_any (B B' : Nat) (A A' : Option Addr) (n c m d : Nat) (X Y : List Int) (w : World) (h0 : LI w B A n X) (h1 : LI w B' A' m Y) (hB : B ≤ w.heap.size) (hB' : B' ≤ w.heap.size) (hl : n ≤ 9223372036854775807) :
    Calls Try.prog 23 #[.slice A n c, .slice A' m d] w fun e w' => e = .returned (.bool (decide (X = Y))) ∧ Below w.heap.size w w' := by
  have HX := Lib.hid (h0.more hB)
  have HY := Lib.hid (h1.more hB')
  have HN := Lib.hid h0.1
  have HM := Lib.hid h1.1
  clear h0 h1 hB hB'
  go_enter Try.func23, Try.ntmps23
  by_cases hmn : n = m
  · subst hmn
    go_wp2_with fail
    go_loopw [5] (fun z wr => ∃ i : Nat, i ≤ n ∧ z = .int .i64 i ∧ Hid (Below w.heap.size w wr) ∧ Hid (∀ j, j < i → fx X j = fx Y j)) (fun z _ => n - (intOf z).toNat)
    case atStart => exact ⟨0, Nat.zero_le _, rfl, Lib.hid (Below.refl _ _), Lib.hid (fun j hj => by omega)⟩
    case round =>
      obtain ⟨i, hi, rfl, HB2, HA⟩ := hrel
      by_cases hlt : i < n
      · obtain ⟨ad, hA, -, g1⟩ := (HX.out.below HB2.out (Nat.le_refl _)).fx hlt
        obtain ⟨ad', hA', -, g2⟩ := (HY.out.below HB2.out (Nat.le_refl _)).fx hlt
        subst hA hA'
        obtain ⟨x, hx⟩ : ∃ x, fx X i = x := ⟨_, rfl⟩
        obtain ⟨y, hy⟩ : ∃ y, fx Y i = y := ⟨_, rfl⟩
        rw [hx] at g1
        rw [hy] at g2
        have HX2 := Lib.hid hx
        have HY2 := Lib.hid hy
        clear hx hy
        by_cases hxy : x = y
        · subst hxy
          have HA2 : Hid (∀ j, j < i + 1 → fx X j = fx Y j) := Lib.hid (fun j hj => by
            rcases Nat.lt_or_ge j i with h | h
            · exact HA.out j h
            · have : j = i := by omega
              rw [this, HX2.out, HY2.out])
          go_wp2_with fail
          go_quiet (fail)
          go_wp2
          go_roundw
          case rel => exact ⟨i + 1, by omega, by go_num, Lib.hid (below_drewN_ HB2.out _), HA2⟩
          case measure => simp [intOf]; omega
        · have hne : (x != y) = true := by simpa using hxy
          have HE : Hid (decide (X = Y) = false) := Lib.hid (by simp only [decide_eq_false_iff_not]; intro e; apply hxy; rw [← HX2.out, ← HY2.out, e])
          go_wp2_with fail
          go_quiet (fail)
          go_wp2
          go_ret
          rw [HE.out]
          exact ⟨rfl, below_drewN_ HB2.out _⟩
      · obtain rfl : i = n := by omega
        have HE : Hid (decide (X = Y) = true) := Lib.hid (by simp only [decide_eq_true_eq]; exact fx_ext (by rw [← HN.out, ← HM.out]) (fun j hj => HA.out j (by rw [HN.out]; exact hj)))
        go_wp2
        go_ret
        rw [HE.out]
        exact ⟨rfl, HB2.out⟩
  · have hmn' : ((n : Int) != (m : Int)) = true := by simp; omega
    have HE : Hid (decide (X = Y) = false) := Lib.hid (by simp only [decide_eq_false_iff_not]; intro e; apply hmn; rw [HN.out, HM.out, e])
    go_wp2
    go_ret
    rw [HE.out]
    exact ⟨rfl, Below.refl _ _⟩
end Go.Proofs.Ytgdkcbnpgpjnbaa
