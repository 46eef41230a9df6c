/-
  Contract of the document's Energy.
-/
import Derived.Test.YtlnekinnblnciaaA7
namespace Go.Proofs.Ytlnekinnblnciaa
open Go.RowKit

set_option maxRecDepth 100000 in
set_option maxHeartbeats 1000000 in
theorem refEnergy_any (B : Nat) (A : Option Addr) (n c : Nat) (xs : List Smp) (w : World) (h0 : RS w B A n xs) (hB : B ≤ w.heap.size) (hl : n ≤ 9223372036854775807) (hi : I64s xs) :
    Calls Try.prog 38 #[.slice A n c] w fun e w' =>
      e = .returned (.tuple #[.int .i64 (if ckS xs = 0 then en (·.1) xs else 0), .int .i64 (if ckS xs = 0 then en (·.2) xs else 0), .int .i64 (ckS xs)]) ∧ Below w.heap.size w w' := by
  have H := Lib.hid (h0.more hB)
  obtain ⟨hn, -⟩ := h0
  clear hB
  have HN := Lib.hid hn
  have HI := Lib.hid hi
  clear hn hi
  by_cases hc : ckS xs = 0
  · rw [if_pos hc, if_pos hc]
    have HC := Lib.hid hc
    clear hc
    go_enter Try.func38, Try.ntmps38
    go_wp2_with ((with_reducible refine (refCheckSamples_any _ A n c xs _ H.out (Nat.le_refl _) hl HI.out).mono ?_); rintro e w1 ⟨rfl, hb1⟩; rw [HC.out])
    go_loopw [5, 6, 7] (fun l r i wr => ∃ k : Nat, k ≤ n ∧ i = .int .i64 k ∧ l = .int .i64 (en (·.1) (xs.take k)) ∧ r = .int .i64 (en (·.2) (xs.take k)) ∧ Below w.heap.size w wr) (fun _ _ i wr => n - (intOf i).toNat)
    case atStart => exact ⟨0, Nat.zero_le _, rfl, rfl, rfl, hb1⟩
    case round =>
      obtain ⟨k, hk, rfl, rfl, rfl, hb⟩ := hrel
      by_cases hlt : k < n
      · obtain ⟨ad, hA, hbl, h1, h2⟩ := (H.out.below hb (Nat.le_refl _)).at_ (k := k) (by have := HN.out; omega)
        obtain rfl := hA
        clear hb1
        have hltI : (k : Int) < (n : Int) := by omega
        have hk0 : (0 : Int) ≤ (k : Int) := by omega
        go_wp2
        go_quiet (fail)
        go_wp2
        go_quiet (fail)
        go_wp2
        go_roundw
        case rel =>
          refine ⟨k + 1, by omega, by go_num, ?_, ?_, below_drewN_ hb _⟩
          · rw [en_snoc _ xs k (by have := HN.out; omega)]
          · rw [en_snoc _ xs k (by have := HN.out; omega)]
        case measure => simp [intOf]; omega
      · go_wp2
        go_ret3
        rw [List.take_of_length_le (by have := HN.out; omega)]
        exact ⟨by rw [HC.out]; rfl, hb⟩
  · rw [if_neg hc, if_neg hc]
    have hc1 : (ckS xs == 0) = false := by simpa using hc
    have hc2 : (ckS xs != 0) = true := by simpa using hc
    clear hc
    obtain ⟨q, hq⟩ : ∃ q, q = ckS xs := ⟨_, rfl⟩
    rw [← hq] at hc1 hc2 ⊢
    have HQ := Lib.hid hq
    clear hq
    go_enter Try.func38, Try.ntmps38
    go_wp2_with fail
    refine (refCheckSamples_any _ A n c xs _ H.out (Nat.le_refl _) hl HI.out).mono ?_
    rintro e w1 ⟨rfl, hb1⟩
    rw [← HQ.out]
    go_wp2_with fail
    refine (refCheckSamples_any _ A n c xs _ (H.out.below hb1 (Nat.le_refl _)) hb1.size hl HI.out).mono ?_
    rintro e w2 ⟨rfl, hb2⟩
    rw [← HQ.out]
    go_wp2
    go_ret3
    exact ⟨rfl, hb1.trans (hb2.mono hb1.size)⟩
end Go.Proofs.Ytlnekinnblnciaa
