/-
  Lists of numbers that are equal (longs); the examples of layer 8 (Works).
-/
import Derived.Test.YtomncopeekegoaaI7
import Derived.Test.YtomncopeekegoaaIA
import Derived.BigQuiet
namespace Go.Proofs.Ytomncopeekegoaa
open Go.RowKit

/-- Whether two lists are equal. -/
def sameI (xs ys : List Int) : Bool := decide (xs = ys)
theorem sameI_ne {xs ys : List Int} (h : xs.length ≠ ys.length) : sameI xs ys = false := decide_eq_false (fun e => h (by rw [e]))
theorem sameI_at {xs ys : List Int} {k : Nat} (h : k < xs.length) (h' : k < ys.length) (hne : xs[k] ≠ ys[k]) : sameI xs ys = false := decide_eq_false (fun e => hne (by subst e; rfl))
theorem sameI_self (xs : List Int) : sameI xs xs = true := decide_eq_true rfl
set_option maxRecDepth 100000 in
set_option maxHeartbeats 1000000 in
theorem longs_any (B : Nat) (A A' : Option Addr) (n c n' c' : Nat) (xs ys : List Int) (w : World) (h0 : LI w B A n xs) (h0' : LI w B A' n' ys) (hB : B ≤ w.heap.size) (hl : n ≤ 9223372036854775807) (hl' : n' ≤ 9223372036854775807) :
    Calls Try.prog 30 #[.slice A n c, .slice A' n' c'] w fun e w' => e = .returned (.bool (sameI xs ys)) ∧ Below w.heap.size w w' := by
  have H := Lib.hid (h0.more hB)
  have H' := Lib.hid (h0'.more hB)
  have HN := Lib.hid h0.1
  have HN' := Lib.hid h0'.1
  clear h0 h0' hB
  by_cases hne : n = n'
  · subst hne
    have q1 : ((n : Int) != (n : Int)) = false := by simp
    go_enter Try.func30, Try.ntmps30
    go_wp2
    go_loopw [5] (fun i wr => ∃ k : Nat, k ≤ n ∧ i = .int .i64 k ∧ Below w.heap.size w wr ∧ Hid (xs.take k = ys.take k)) (fun i wr => n - (intOf i).toNat)
    case atStart => exact ⟨0, Nat.zero_le _, rfl, Below.refl _ _, Lib.hid rfl⟩
    case round =>
      clear q1
      obtain ⟨k, hk, rfl, hb, HV⟩ := hrel
      by_cases hlt : k < n
      · have hx : k < xs.length := by have := HN.out; omega
        have hy : k < ys.length := by have := HN'.out; omega
        obtain ⟨ad, hA, _, p1⟩ := (H.out.below hb (Nat.le_refl _)).at_ hx
        obtain ⟨ad', hA', _, p2⟩ := (H'.out.below hb (Nat.le_refl _)).at_ hy
        obtain rfl := hA
        obtain rfl := hA'
        have HB := Lib.hid hb
        clear hb
        by_cases he : xs[k] = ys[k]
        · have HT : Hid (xs.take (k + 1) = ys.take (k + 1)) := Lib.hid (by rw [List.take_succ_eq_append_getElem hx, List.take_succ_eq_append_getElem hy, HV.out, he])
          rw [he] at p1
          clear he
          obtain ⟨y, hyy⟩ : ∃ y, ys[k] = y := ⟨_, rfl⟩
          rw [hyy] at p1 p2
          clear hyy
          have r1 : (y != y) = false := by simp
          go_wp2_with fail
          go_quiet (fail)
          go_wp2
          go_roundw
          case rel => exact ⟨k + 1, by omega, by go_num, below_drewN_ HB.out _, HT⟩
          case measure => simp [intOf]; omega
        · have HF := Lib.hid (sameI_at hx hy he)
          have r1 : (xs[k] != ys[k]) = true := by rw [bne_iff_ne]; exact he
          have r2 : (xs[k] == ys[k]) = false := beq_eq_false_iff_ne.2 he
          clear he
          go_wp2_with fail
          go_quiet (fail)
          go_wp2
          go_ret
          exact ⟨ret_b HF.out.symm, below_drewN_ HB.out _⟩
      · go_wp2
        go_ret
        have h := HV.out
        rw [List.take_of_length_le (by have := HN.out; omega), List.take_of_length_le (by have := HN'.out; omega)] at h
        exact ⟨ret_b (by rw [h, sameI_self]), hb⟩
  · have q1 : ((n : Int) != (n' : Int)) = true := by rw [bne_iff_ne]; omega
    have q2 : ((n : Int) == (n' : Int)) = false := beq_eq_false_iff_ne.2 (by omega)
    have HF : Hid (sameI xs ys = false) := Lib.hid (sameI_ne (by have := HN.out; have := HN'.out; omega))
    go_enter Try.func30, Try.ntmps30
    go_wp2
    go_ret
    exact ⟨ret_b HF.out.symm, Below.refl _ _⟩
def exM : Mac := ⟨20, 120, 50, 200, 30, 25, 5, 3, 2⟩
theorem ex_tick : tkT exM 190 1 = 200 ∧ tkE exM 190 1 = 0 := by decide
theorem ex_starts : srtV 2 1 3 4 4 = [0, 3, 7, 10] ∧ ckH 2 1 3 4 4 = 0 := by decide
theorem ex_cen : cenR (3, 0) (0, 1) (0, -1) = (16, 0, 12) ∧ cenE (3, 0) (0, 1) (0, -1) = 0 := by decide
set_option maxHeartbeats 400000 in
theorem Example_any (w : World) : Calls Try.prog 52 #[] w fun e w' => e = .returned (.agg #[.int .i64 exM.room, .int .i64 exM.melt, .int .i64 exM.cool, .int .i64 exM.top, .int .i64 exM.heat, .int .i64 exM.chill, .int .i64 exM.drift, .int .i64 exM.hold, .int .i64 exM.life]) ∧ Below w.heap.size w w' := by
  go_enter Try.func52, Try.ntmps52
  go_wp2
  obtain ⟨W, hW⟩ : ∃ W, w.alloc (.cells #[.int .i64 20, .int .i64 120, .int .i64 50, .int .i64 200, .int .i64 30, .int .i64 25, .int .i64 5, .int .i64 3, .int .i64 2] 23) = W := ⟨_, rfl⟩
  have hb : Below w.heap.size w W := by rw [← hW]; exact below_a _ _
  have k0 : Blk W w.heap.size 23 #[.int .i64 20, .int .i64 120, .int .i64 50, .int .i64 200, .int .i64 30, .int .i64 25, .int .i64 5, .int .i64 3, .int .i64 2] := by rw [← hW]; exact Blk.new _ _ _
  rw [hW]
  obtain ⟨c0, c1, c2, c3, c4, c5, c6, c7, c8⟩ := k0.nine
  refine ⟨rfl, .agg #[.int .i64 20, .int .i64 120, .int .i64 50, .int .i64 200, .int .i64 30, .int .i64 25, .int .i64 5, .int .i64 3, .int .i64 2], ?_, rfl, hb⟩
  simp [results, Try.results52, go_sem, c0, c1, c2, c3, c4, c5, c6, c7, c8]

set_option maxRecDepth 100000 in
set_option maxHeartbeats 4000000 in
theorem works8_any (w : World) : Calls Try.prog 19 #[] w fun e w' => e = .returned (.bool true) ∧ Below w.heap.size w w' := by
  have HT := Lib.hid ex_tick
  have HS := Lib.hid ex_starts
  have HC := Lib.hid ex_cen
  go_enter Try.func19, Try.ntmps19
  go_wp2_with fail
  refine (Example_any w).mono ?_
  rintro e w1 ⟨rfl, hb1⟩
  have HB := Lib.hid hb1
  clear hb1
  go_wp2_with fail
  refine (Tick_any exM 190 1 w1).mono ?_
  rintro e w2 ⟨rfl, hb2⟩
  rw [HT.out.1, HT.out.2]
  replace HB := Lib.hid (HB.out.trans (hb2.mono HB.out.size))
  clear hb2
  go_wp2_with fail
  refine (Starts_any 2 1 3 4 4 w2).mono ?_
  rintro e w3 ⟨A, k, c, rfl, hL, hc, hk, hb3⟩
  rw [HS.out.1] at hL
  rw [HS.out.2]
  have HL := Lib.hid hL
  replace HB := Lib.hid (HB.out.trans (hb3.mono HB.out.size))
  clear hb3 hL
  go_wp2_with fail
  refine (Centre_any (3, 0) (0, 1) (0, -1) w3).mono ?_
  rintro e w4 ⟨rfl, hb4⟩
  rw [HC.out.1, HC.out.2]
  replace HL := Lib.hid (HL.out.below hb4 (Nat.le_refl _))
  have hs4 := hb4.size
  replace HB := Lib.hid (HB.out.trans (hb4.mono HB.out.size))
  clear hb4
  go_wp2_with fail
  refine (longs_any (w4.heap.size + 1) A (some ⟨w4.heap.size, 0, none⟩) k c 4 4 [0, 3, 7, 10] [0, 3, 7, 10] _ ((HL.out.below (below_a _ _) (by omega)).more (by omega)) (li_blk (Blk.new _ _ _) (by omega) rfl rfl) (by simp) (by omega) (by omega)).mono ?_
  rintro e w5 ⟨rfl, hb5⟩
  have HB5 := Lib.hid ((HB.out.alloc HB.out.size _).trans (hb5.mono (by have := HB.out.size; simp; omega)))
  clear hb5
  rw [sameI_self]
  go_wp2
  go_ret
  exact ⟨rfl, HB5.out⟩
end Go.Proofs.Ytomncopeekegoaa
