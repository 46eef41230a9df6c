/-
  Contracts of both at square, and of Energy.
-/
import Derived.Test.YtlnekinnblnciaaA6
namespace Go.Proofs.Ytlnekinnblnciaa
open Go.RowKit

set_option maxHeartbeats 400000 in
theorem bothSquare_any (l r : Int) (w : World) :
    Calls Try.prog 101 #[.agg #[.int .i64 l, .int .i64 r], .func (.func 104) #[] #[]] w fun e w' => e = .returned (.agg #[.int .i64 (wrap64 (l * l)), .int .i64 (wrap64 (r * r))]) ∧ Below w.heap.size w w' := by
  go_enter Try.func101, Try.ntmps101
  go_wp2
  go_region_with ((with_reducible refine (square_any _ _).mono ?_); rintro e w' ⟨rfl, rfl⟩)
  all_goals go_wp2
  all_goals refine bodyPost_ret (v := .agg #[.int .i64 (wrap64 (l * l)), .int .i64 (wrap64 (r * r))]) ?_ rfl ⟨rfl, ?_⟩
  all_goals first | (simp [results, Try.results101, go_sem]; done) | exact (((Below.refl _ _).alloc (Nat.le_refl _) _).alloc (by simp) _).drew

/-- Energy, one channel. -/
def en (f : Smp → Int) (xs : List Smp) : Int := xs.foldl (fun m s => wrap64 (m + wrap64 (f s * f s))) 0
theorem en_snoc (f : Smp → Int) (xs : List Smp) (k : Nat) (h : k < xs.length) : en f (xs.take (k + 1)) = wrap64 (en f (xs.take k) + wrap64 (f xs[k] * f xs[k])) := by
  unfold en; rw [List.take_succ_eq_append_getElem h, List.foldl_append]; rfl

set_option maxHeartbeats 1000000 in
theorem Energy_any (B : Nat) (A : Option Addr) (n c : Nat) (xs : List Smp) (w : World) (h0 : RS w B A n xs) (hB : B ≤ w.heap.size) (hl : n ≤ 9223372036854775807) :
    Calls Try.prog 37 #[.slice A n c] w fun e w' =>
      e = .returned (.tuple #[.int .i64 (if ckS xs = 0 then en (·.1) xs else 0), .int .i64 (if ckS xs = 0 then en (·.2) xs else 0), .int .i64 (ckS xs)]) ∧ Below w.heap.size w w' := by
  have H := Lib.hid (h0.more hB)
  obtain ⟨hn, -⟩ := h0
  clear hB
  have HN := Lib.hid hn
  clear hn
  by_cases hc : ckS xs = 0
  · rw [if_pos hc, if_pos hc]
    have HC := Lib.hid hc
    clear hc
    go_enter Try.func37, Try.ntmps37
    go_wp2_with ((with_reducible refine (CheckSamples_any _ A n c xs _ H.out (Nat.le_refl _) hl).mono ?_); rintro e w1 ⟨rfl, hb1⟩; rw [HC.out])
    go_loopw [16] (fun i wr => ∃ k : Nat, k ≤ n ∧ i = .int .i64 k ∧ Below w.heap.size w wr ∧ Blk wr w1.heap.size 39 #[.int .i64 (en (·.1) (xs.take k)), .int .i64 (en (·.2) (xs.take k))]) (fun i wr => n - (intOf i).toNat)
    case atStart => exact ⟨0, Nat.zero_le _, rfl, hb1.alloc hb1.size _, Blk.new _ _ _⟩
    case round =>
      obtain ⟨k, hk, rfl, hb, hp⟩ := hrel
      by_cases hlt : k < n
      · obtain ⟨ad, hA, hbl, h1, h2⟩ := (H.out.below hb (Nat.le_refl _)).at_ (k := k) (by have := HN.out; omega)
        obtain rfl := hA
        have HP := Lib.hid hp
        obtain ⟨p0, p1, q0, q1, pl⟩ := hp.two
        have zw : w.heap.size ≤ w1.heap.size := hb1.size
        clear hp hb1
        go_wp2_with fail
        go_region_with (first | ((with_reducible refine (bothSquare_any _ _ _).mono ?_); rintro e w2 ⟨rfl, hb2⟩; have hp2 := (HP.out.alloc _).drew.below hb2 (by simp; omega); have HP2 := Lib.hid hp2; obtain ⟨p0', p1', q0', q1', pl'⟩ := hp2.two; clear hp2) | ((with_reducible refine (add_any _ _ _ _ _).mono ?_); rintro e w3 ⟨rfl, hb3⟩; have hp3 := HP2.out.below hb3 (by omega); have HP3 := Lib.hid hp3; obtain ⟨p0'', p1'', q0'', q1'', pl''⟩ := hp3.two; clear hp3))
        all_goals
          go_wp2
          go_roundw
          case rel =>
            have z1 := hb.size
            have z2 := hb2.size
            have z3 := hb3.size
            simp at z2
            refine ⟨k + 1, by omega, by go_num, ?_, ?_⟩
            · exact ((((hb.alloc hb.size _).drew.trans (hb2.mono (by simp; omega))).trans (hb3.mono (by omega))).setCell (by simp; omega) _).setCell (by simp; omega) _
            · refine ((HP3.out.set_ 0 _).set_ 1 _).cast ?_
              rw [en_snoc _ xs k (by have := HN.out; omega), en_snoc _ xs k (by have := HN.out; omega)]
              rfl
          case measure => simp [intOf]; omega
      · obtain ⟨p0, p1, q0, q1, pl⟩ := hp.two
        clear hp
        rw [List.take_of_length_le (by have := HN.out; omega)] at p0 p1
        go_wp2
        go_quiet (fail)
        go_wp2
        go_ret3
        exact ⟨by rw [HC.out]; rfl, below_drewN_ hb _⟩
  · rw [if_neg hc, if_neg hc]
    have hc1 : (ckS xs == 0) = false := by simpa using hc
    have hc2 : (ckS xs != 0) = true := by simpa using hc
    clear hc
    obtain ⟨q, hq⟩ : ∃ q, q = ckS xs := ⟨_, rfl⟩
    rw [← hq] at hc1 hc2 ⊢
    have HQ := Lib.hid hq
    clear hq
    go_enter Try.func37, Try.ntmps37
    go_wp2_with ((with_reducible refine (CheckSamples_any _ A n c xs _ H.out (Nat.le_refl _) hl).mono ?_); rintro e w1 ⟨rfl, hb1⟩; rw [← HQ.out])
    go_ret3
    exact ⟨rfl, hb1⟩
end Go.Proofs.Ytlnekinnblnciaa
