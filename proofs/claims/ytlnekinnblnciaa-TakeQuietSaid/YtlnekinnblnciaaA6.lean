/-
  Contracts of the document's Peak.
-/
import Derived.Test.YtlnekinnblnciaaA5
namespace Go.Proofs.Ytlnekinnblnciaa
open Go.RowKit

theorem ram_of_bd (x : Int) (h1 : -32767 ≤ x) (h2 : x ≤ 32767) : ram x = am x := by
  have : wrap64 (-x) = -x := by unfold wrap64; omega
  unfold ram am; rw [this]

set_option maxHeartbeats 1000000 in
set_option maxRecDepth 100000 in
theorem refPeak_any (B : Nat) (A : Option Addr) (n c : Nat) (xs : List Smp) (w : World) (h0 : RS w B A n xs) (hB : B ≤ w.heap.size) (hl : n ≤ 9223372036854775807) (hi : I64s xs) :
    Calls Try.prog 36 #[.slice A n c] w fun e w' =>
      e = .returned (.tuple #[.agg #[.int .i64 (if ckS xs = 0 then pk (·.1) xs else 0), .int .i64 (if ckS xs = 0 then pk (·.2) xs else 0)], .int .i64 (ckS xs)]) ∧ Below w.heap.size w w' := by
  have H := Lib.hid (h0.more hB)
  obtain ⟨hn, -⟩ := h0
  clear hB
  have HN := Lib.hid hn
  have HI := Lib.hid hi
  clear hn hi
  by_cases hc : ckS xs = 0
  · have HB : Hid (∀ (k : Nat) (hk : k < xs.length), -32767 ≤ xs[k].1 ∧ xs[k].1 ≤ 32767 ∧ -32767 ≤ xs[k].2 ∧ xs[k].2 ≤ 32767) := Lib.hid (ckS_bd xs hc)
    rw [if_pos hc, if_pos hc]
    have HC := Lib.hid hc
    clear hc
    go_enter Try.func36, Try.ntmps36
    go_wp2_with ((with_reducible refine (refCheckSamples_any _ A n c xs _ (H.out.below ((Below.refl _ _).alloc (Nat.le_refl _) _) (Nat.le_refl _)) (by simp) hl HI.out).mono ?_); rintro e w1 ⟨rfl, hb1⟩; rw [HC.out])
    have hr0 := (Blk.new w 39 #[.int .i64 0, .int .i64 0]).below hb1 (by simp)
    have hb0 : Below w.heap.size w w1 := ((Below.refl _ _).alloc (Nat.le_refl _) _).trans (hb1.mono (by simp))
    go_loopw [5] (fun i wr => ∃ k : Nat, k ≤ n ∧ i = .int .i64 k ∧ Below w.heap.size w wr ∧ Blk wr w.heap.size 39 #[.int .i64 0, .int .i64 0] ∧ Blk wr w1.heap.size 39 #[.int .i64 (pk (·.1) (xs.take k)), .int .i64 (pk (·.2) (xs.take k))]) (fun i wr => n - (intOf i).toNat)
    case atStart => exact ⟨0, Nat.zero_le _, rfl, hb0.alloc hb0.size _, hr0.alloc _, Blk.new _ _ _⟩
    case round =>
      obtain ⟨k, hk, rfl, hb, hr, hp⟩ := hrel
      by_cases hlt : k < n
      · obtain ⟨ad, hA, hbl, h1, h2⟩ := (H.out.below hb (Nat.le_refl _)).at_ (k := k) (by have := HN.out; omega)
        obtain rfl := hA
        obtain ⟨b1, b2, b3, b4⟩ := HB.out k (by have := HN.out; omega)
        have HP := Lib.hid hp
        have HR := Lib.hid hr
        obtain ⟨p0, p1, q0, q1, pl⟩ := hp.two
        have zw : w.heap.size < w1.heap.size := by have := hb1.size; simp at this; omega
        clear hp hr hb1 hb0 hr0
        go_wp2_with fail
        go_still_tail 19, (by kernel_rfl)
        still_call ((refAmount_any _ _).mono fun e w' ⟨he, hw⟩ => ⟨he, hw.symm⟩)
        repeat still_step
        still_call ((refAmount_any _ _).mono fun e w' ⟨he, hw⟩ => ⟨he, hw.symm⟩)
        repeat still_step
        refine wpStill_nil ?_
        change wpList _ _ _ _ _ wr.drew
        go_wp2
        go_roundw
        case rel =>
          have z1 := hb.size
          refine ⟨k + 1, by omega, by go_num, ?_, ?_, ?_⟩
          · exact ((hb.setCell (by simp; omega) _).setCell (by simp; omega) _).drew
          · exact ((HR.out.far (by simp; omega) _).far (by simp; omega) _).drew
          · refine ((HP.out.set_ 0 _).set_ 1 _).drew.cast ?_
            rw [pk_snoc _ xs k (by have := HN.out; omega), pk_snoc _ xs k (by have := HN.out; omega), ite_max, ite_max, ram_of_bd _ b1 b2, ram_of_bd _ b3 b4]
            rfl
        case measure => simp [intOf]; omega
      · obtain ⟨r0, r1, t0, t1, tl⟩ := hr.two
        obtain ⟨p0, p1, q0, q1, pl⟩ := hp.two
        clear hp
        rw [List.take_of_length_le (by have := HN.out; omega)] at p0 p1
        go_wp2
        refine bodyPost_ret (v := .tuple #[.agg #[.int .i64 (pk (·.1) xs), .int .i64 (pk (·.2) xs)], .int .i64 0]) ?_ rfl ⟨by rw [HC.out], ?_⟩
        · have g1 := Blk.two (a := .int .i64 (pk (·.1) xs)) (b := .int .i64 0) (hr.set_ 0 (.int .i64 (pk (·.1) xs)))
          have g2 := Blk.two (a := .int .i64 (pk (·.1) xs)) (b := .int .i64 (pk (·.2) xs)) ((hr.set_ 0 (.int .i64 (pk (·.1) xs))).set_ 1 (.int .i64 (pk (·.2) xs)))
          simp [results, Try.results36, go_sem, g1.1, g2.2.1]
        · exact ((hb.setCell (by simp) _).setCell (by simp) _)
  · rw [if_neg hc, if_neg hc]
    have hc1 : (ckS xs == 0) = false := by simpa using hc
    have hc2 : (ckS xs != 0) = true := by simpa using hc
    clear hc
    obtain ⟨q, hq⟩ : ∃ q, q = ckS xs := ⟨_, rfl⟩
    rw [← hq] at hc1 hc2 ⊢
    have HQ := Lib.hid hq
    clear hq
    go_enter Try.func36, Try.ntmps36
    go_wp2_with fail
    refine (refCheckSamples_any _ A n c xs _ (H.out.below ((Below.refl _ _).alloc (Nat.le_refl _) _) (Nat.le_refl _)) (by simp) hl HI.out).mono ?_
    rintro e w1 ⟨rfl, hb1⟩
    rw [← HQ.out]
    have hr := (Blk.new w 39 #[.int .i64 0, .int .i64 0]).below hb1 (by simp)
    have hb0 : Below w.heap.size w w1 := ((Below.refl _ _).alloc (Nat.le_refl _) _).trans (hb1.mono (by simp))
    go_wp2_with fail
    refine (refCheckSamples_any _ A n c xs _ (H.out.below hb0 (Nat.le_refl _)) hb0.size hl HI.out).mono ?_
    rintro e w2 ⟨rfl, hb2⟩
    rw [← HQ.out]
    have hr2 := hr.below hb2 hr.lt
    obtain ⟨r0, r1, t0, t1, tl⟩ := hr2.two
    go_wp2
    refine bodyPost_ret (v := .tuple #[.agg #[.int .i64 0, .int .i64 0], .int .i64 q]) ?_ rfl ⟨rfl, ?_⟩
    · have g1 := Blk.two (a := .int .i64 0) (b := .int .i64 0) (hr2.set_ 0 (.int .i64 0))
      have g2 := Blk.two (a := .int .i64 0) (b := .int .i64 0) ((hr2.set_ 0 (.int .i64 0)).set_ 1 (.int .i64 0))
      simp [results, Try.results36, go_sem, g1.1, g2.2.1]
    · exact ((hb0.trans (hb2.mono hb0.size)).setCell (by simp) _).setCell (by simp) _
end Go.Proofs.Ytlnekinnblnciaa
