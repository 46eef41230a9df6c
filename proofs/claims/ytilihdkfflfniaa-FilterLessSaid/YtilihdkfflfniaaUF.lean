/-
  The document's Same of two lists of numbers; the examples of layer 2 (Works).
-/
import Derived.Test.YtilihdkfflfniaaUA
import Derived.Test.YtilihdkfflfniaaUE
namespace Go.Proofs.Ytilihdkfflfniaa
open Go.RowKit

/-- Whether two lists are equal. -/
def sameI (xs ys : List Int) : Bool := decide (xs = ys)
theorem sameI_ne {xs ys : List Int} (h : xs.length ≠ ys.length) : sameI xs ys = false := decide_eq_false (fun e => h (by rw [e]))
theorem sameI_at {xs ys : List Int} {k : Nat} (h : k < xs.length) (h' : k < ys.length) (hne : xs[k] ≠ ys[k]) : sameI xs ys = false := decide_eq_false (fun e => hne (by subst e; rfl))
theorem sameI_self (xs : List Int) : sameI xs xs = true := decide_eq_true rfl

set_option maxRecDepth 100000 in
set_option maxHeartbeats 1000000 in
theorem refSame_any (B : Nat) (A A' : Option Addr) (n c n' c' : Nat) (xs ys : List Int) (w : World) (h0 : LI w B A n xs) (h0' : LI w B A' n' ys) (hB : B ≤ w.heap.size) (hl : n ≤ 9223372036854775807) (hl' : n' ≤ 9223372036854775807) :
    Calls Try.prog 19 #[.slice A n c, .slice A' n' c'] w fun e w' => e = .returned (.bool (sameI xs ys)) ∧ Below w.heap.size w w' := by
  have H := Lib.hid (h0.more hB)
  have H' := Lib.hid (h0'.more hB)
  have HN := Lib.hid h0.1
  have HN' := Lib.hid h0'.1
  clear h0 h0' hB
  by_cases hne : n = n'
  · subst hne
    have q1 : ((n : Int) != (n : Int)) = false := by simp
    go_enter Try.func19, Try.ntmps19
    go_wp2
    go_loopw [5] (fun i wr => ∃ k : Nat, k ≤ n ∧ i = .int .i64 k ∧ Below w.heap.size w wr ∧ Hid (xs.take k = ys.take k)) (fun i wr => n - (intOf i).toNat)
    case atStart => exact ⟨0, Nat.zero_le _, rfl, Below.refl _ _, Lib.hid rfl⟩
    case round =>
      clear q1
      obtain ⟨k, hk, rfl, hb, HV⟩ := hrel
      by_cases hlt : k < n
      · have hx : k < xs.length := by have := HN.out; omega
        have hy : k < ys.length := by have := HN'.out; omega
        obtain ⟨ad, hA, _, p1⟩ := (H.out.below hb (Nat.le_refl _)).at_ hx
        obtain ⟨ad', hA', _, p2⟩ := (H'.out.below hb (Nat.le_refl _)).at_ hy
        obtain rfl := hA
        obtain rfl := hA'
        have HB := Lib.hid hb
        clear hb
        by_cases he : xs[k] = ys[k]
        · have HT : Hid (xs.take (k + 1) = ys.take (k + 1)) := Lib.hid (by rw [List.take_succ_eq_append_getElem hx, List.take_succ_eq_append_getElem hy, HV.out, he])
          rw [he] at p1
          clear he
          obtain ⟨y, hyy⟩ : ∃ y, ys[k] = y := ⟨_, rfl⟩
          rw [hyy] at p1 p2
          clear hyy
          have r1 : (y != y) = false := by simp
          go_wp2_with fail
          go_quiet (fail)
          go_wp2
          go_roundw
          case rel => exact ⟨k + 1, by omega, by go_num, below_drewN_ HB.out _, HT⟩
          case measure => simp [intOf]; omega
        · have HF := Lib.hid (sameI_at hx hy he)
          have r1 : (xs[k] != ys[k]) = true := by rw [bne_iff_ne]; exact he
          have r2 : (xs[k] == ys[k]) = false := beq_eq_false_iff_ne.2 he
          clear he
          go_wp2_with fail
          go_quiet (fail)
          go_wp2
          go_ret
          exact ⟨ret_b HF.out.symm, below_drewN_ HB.out _⟩
      · go_wp2
        go_ret
        have h := HV.out
        rw [List.take_of_length_le (by have := HN.out; omega), List.take_of_length_le (by have := HN'.out; omega)] at h
        exact ⟨ret_b (by rw [h, sameI_self]), hb⟩
  · have q1 : ((n : Int) != (n' : Int)) = true := by rw [bne_iff_ne]; omega
    have q2 : ((n : Int) == (n' : Int)) = false := beq_eq_false_iff_ne.2 (by omega)
    have HF : Hid (sameI xs ys = false) := Lib.hid (sameI_ne (by have := HN.out; have := HN'.out; omega))
    go_enter Try.func19, Try.ntmps19
    go_wp2
    go_ret
    exact ⟨ret_b HF.out.symm, Below.refl _ _⟩
theorem ex_apply : oneRes true ⟨[64], [128], 256⟩ [100, 0, 0, -3] = [100, 75, 37, 15] ∧ oneErr true ⟨[64], [128], 256⟩ [100, 0, 0, -3] = 0 := by decide
theorem ex_gains : gnRes [(50, 0), (400, -100), (0, 0)] 100 50 = [114, 64, 114] ∧ ckLi [(50, 0), (400, -100), (0, 0)] 100 50 = 0 := by decide

set_option maxRecDepth 100000 in
set_option maxHeartbeats 2000000 in
theorem works_any (w : World) : Calls Try.prog 14 #[] w fun e w' => e = .returned (.bool true) ∧ Below w.heap.size w w' := by
  go_enter Try.func14, Try.ntmps14
  go_wp2_with fail
  obtain ⟨W, hW⟩ : ∃ W, ((w.alloc (.cells #[.int .i64 64] 2)).alloc (.cells #[.int .i64 128] 2)).alloc (.cells #[.int .i64 100, .int .i64 0, .int .i64 0, .int .i64 (-3)] 2) = W := ⟨_, rfl⟩
  have hb : Below w.heap.size w W := by rw [← hW]; exact (((Below.refl _ _).alloc (Nat.le_refl _) _).alloc (by simp) _).alloc (by simp; omega) _
  have k1 : Blk W w.heap.size 2 #[.int .i64 64] := by rw [← hW]; exact ((Blk.new _ _ _).alloc _).alloc _
  have k2 : Blk W (w.heap.size + 1) 2 #[.int .i64 128] := by rw [← hW]; exact (blk_al (by simp)).alloc _
  have k3 : Blk W (w.heap.size + 1 + 1) 2 #[.int .i64 100, .int .i64 0, .int .i64 0, .int .i64 (-3)] := by rw [← hW]; exact blk_al (by simp)
  rw [hW]
  clear hW
  have l3 := k3.lt
  have AP := Apply_any W.heap.size ⟨some ⟨w.heap.size, 0, none⟩, 1, 1, some ⟨w.heap.size + 1, 0, none⟩, 1, 1, ⟨[64], [128], 256⟩⟩ (some ⟨w.heap.size + 1 + 1, 0, none⟩) 4 4 [100, 0, 0, -3] W
    ⟨li_blk k1 k1.lt rfl rfl, li_blk k2 k2.lt rfl rfl⟩ (li_blk k3 k3.lt rfl rfl) (Nat.le_refl _) (by omega) ⟨by show 1 ≤ _; omega, by show 1 ≤ _; omega⟩
  rw [ex_apply.1, ex_apply.2] at AP
  have AP := Lib.hid AP
  have HB := Lib.hid hb
  clear k1 k2 k3 hb
  refine AP.out.mono ?_
  rintro e w1 ⟨v1, rfl, ho1, hb1⟩
  have HO1 := Lib.hid ho1
  have HB := Lib.hid (HB.out.trans (hb1.mono HB.out.size))
  clear ho1 hb1 AP
  go_wp2_with fail
  obtain ⟨W2, hW2⟩ : ∃ W2, w1.alloc (.cells #[.int .i64 50, .int .i64 0, .int .i64 400, .int .i64 (-100), .int .i64 0, .int .i64 0] 57) = W2 := ⟨_, rfl⟩
  have hb2 : Below w1.heap.size w1 W2 := by rw [← hW2]; exact (Below.refl _ _).alloc (Nat.le_refl _) _
  have k4 : Blk W2 w1.heap.size 57 #[.int .i64 50, .int .i64 0, .int .i64 400, .int .i64 (-100), .int .i64 0, .int .i64 0] := by rw [← hW2]; exact Blk.new _ _ _
  rw [hW2]
  clear hW2
  have GN := Gains_any W2.heap.size (some ⟨w1.heap.size, 0, none⟩) 3 3 [(50, 0), (400, -100), (0, 0)] 100 50 W2 (rs_blk k4 k4.lt rfl rfl) (Nat.le_refl _) (by omega)
  rw [ex_gains.1, ex_gains.2] at GN
  have GN := Lib.hid GN
  have HO1 := Lib.hid (own_below HO1.out hb2)
  have HB := Lib.hid (HB.out.trans (hb2.mono HB.out.size))
  clear k4 hb2
  refine GN.out.mono ?_
  rintro e w2 ⟨v2, rfl, ho2, hb3⟩
  obtain ⟨A1, c1, rfl, hL1⟩ := li_own (own_below HO1.out hb3)
  obtain ⟨A2, c2, rfl, hL2⟩ := li_own ho2
  have HB := Lib.hid (HB.out.trans (hb3.mono HB.out.size))
  have HL1 := Lib.hid hL1
  have HL2 := Lib.hid hL2
  clear ho2 hb3 hL1 hL2 GN HO1
  go_wp2_with fail
  have h5 : LI (w2.alloc (.cells #[.int .i64 100, .int .i64 75, .int .i64 37, .int .i64 15] 2)) (w2.heap.size + 1) (some ⟨w2.heap.size, 0, none⟩) 4 [100, 75, 37, 15] := li_new w2 [100, 75, 37, 15]
  obtain ⟨W3, hW3⟩ : ∃ W3, w2.alloc (.cells #[.int .i64 100, .int .i64 75, .int .i64 37, .int .i64 15] 2) = W3 := ⟨_, rfl⟩
  have hb4 : Below w2.heap.size w2 W3 := by rw [← hW3]; exact (Below.refl _ _).alloc (Nat.le_refl _) _
  have hs3 : W3.heap.size = w2.heap.size + 1 := by rw [← hW3]; simp
  rw [hW3] at h5 ⊢
  clear hW3
  have HL2 := Lib.hid (HL2.out.below hb4 (Nat.le_refl _))
  have HB := Lib.hid (HB.out.trans (hb4.mono HB.out.size))
  have SM := refSame_any W3.heap.size A1 (some ⟨w2.heap.size, 0, none⟩) 4 c1 4 4 [100, 75, 37, 15] [100, 75, 37, 15] W3 ((HL1.out.below hb4 (Nat.le_refl _)).more hb4.size) (h5.more (by omega)) (Nat.le_refl _) (by omega) (by omega)
  rw [sameI_self] at SM
  have SM := Lib.hid SM
  have hz1 : w2.heap.size ≤ W3.heap.size := hb4.size
  clear h5 hb4 HL1 hs3
  refine SM.out.mono ?_
  rintro e w3 ⟨rfl, hb5⟩
  have hsz := HB.out.size
  have HL2 := Lib.hid (HL2.out.below hb5 hz1)
  have hz2 : w2.heap.size ≤ w3.heap.size := Nat.le_trans hz1 hb5.size
  have HB := Lib.hid (HB.out.trans (hb5.mono HB.out.size))
  clear hb5 SM
  go_wp2_with fail
  have h5 : LI (w3.alloc (.cells #[.int .i64 114, .int .i64 64, .int .i64 114] 2)) (w3.heap.size + 1) (some ⟨w3.heap.size, 0, none⟩) 3 [114, 64, 114] := li_new w3 [114, 64, 114]
  obtain ⟨W4, hW4⟩ : ∃ W3, w3.alloc (.cells #[.int .i64 114, .int .i64 64, .int .i64 114] 2) = W3 := ⟨_, rfl⟩
  have hb4 : Below w3.heap.size w3 W4 := by rw [← hW4]; exact (Below.refl _ _).alloc (Nat.le_refl _) _
  have hs3 : W4.heap.size = w3.heap.size + 1 := by rw [← hW4]; simp
  rw [hW4] at h5 ⊢
  clear hW4
  have HB := Lib.hid (HB.out.trans (hb4.mono HB.out.size))
  have SM := refSame_any W4.heap.size A2 (some ⟨w3.heap.size, 0, none⟩) 3 c2 3 3 [114, 64, 114] [114, 64, 114] W4 ((HL2.out.below hb4 hz2).more (Nat.le_trans hz2 hb4.size)) (h5.more (by omega)) (Nat.le_refl _) (by omega) (by omega)
  rw [sameI_self] at SM
  have SM := Lib.hid SM
  clear h5 hb4 HL2 hs3
  refine SM.out.mono ?_
  rintro e w5 ⟨rfl, hb5⟩
  have HB := Lib.hid (HB.out.trans (hb5.mono HB.out.size))
  go_wp2
  go_ret
  exact ⟨rfl, HB.out⟩
end Go.Proofs.Ytilihdkfflfniaa
