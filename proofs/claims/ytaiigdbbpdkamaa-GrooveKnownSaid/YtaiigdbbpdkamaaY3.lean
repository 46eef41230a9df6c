/-
  groove.Loudest, and the document's.
-/
import Derived.Test.YtaiigdbbpdkamaaY2
import Derived.Test.YtaiigdbbpdkamaaJ7
namespace Go.Proofs.Ytaiigdbbpdkamaa
open Go.RowKit

theorem ldQ_mk {c : Ctr} {xs : List Smp} {r per v er : Int} (h0 : ldEr c xs r per = 0) (k : Nat) (h1 : k ≤ 41) (h2 : ∀ j : Nat, j < k → ldOk c xs r per j = true) (h3 : k ≤ 40 → ldOk c xs r per k = false) (h4 : if k = 0 then v = 0 ∧ er = 14 else v = k - 1 ∧ er = 0) : ldQ c xs r per v er := by
  unfold ldQ; rw [if_pos h0]; exact ⟨k, h1, h2, h3, h4⟩
theorem ldOk_more {c : Ctr} {xs : List Smp} {r per : Int} {j : Nat} (h : ∀ i : Nat, i < j → ldOk c xs r per i = true) (h2 : ldOk c xs r per j = true) : ∀ i : Nat, i < j + 1 → ldOk c xs r per i = true := fun i hi => by
  rcases Nat.lt_or_ge i j with h3 | h3
  · exact h i h3
  · obtain rfl : i = j := by omega
    exact h2
theorem lou_i64 {xs : List Smp} (h : ∀ s ∈ xs, SmOk s) {k : Int} (k0 : 0 ≤ k) (k1 : k ≤ 40) : I64s (xs.map (lou k)) := fun s hs => by
  obtain ⟨x, hx, rfl⟩ := List.mem_map.1 hs
  obtain ⟨d1, d2, d3, d4⟩ := h x hx
  have b1 := lou_bd d1 d2 k0 k1
  have b2 := lou_bd d3 d4 k0 k1
  unfold I64 lou
  dsimp only
  omega

set_option maxRecDepth 100000 in
set_option maxHeartbeats 2000000 in
theorem Loudest_any (B : Nat) (A : Option Addr) (n k : Nat) (c : Ctr) (xs : List Smp) (r per : Int) (w : World) (h0 : RS w B A n xs) (hB : B ≤ w.heap.size) (hl : n ≤ 9223372036854775807) :
    Calls Try.prog 36 #[.agg #[.int .i64 c.half, .int .i64 c.gain, .int .i64 c.thin, .int .i64 c.wide, .int .i64 c.slope, .int .i64 c.jerk, .int .i64 c.stylus], .slice A n k, .int .i64 r, .int .i64 per] w (LePost (ldQ c xs r per) w) := by
  have HN := Lib.hid h0.1
  have H := Lib.hid (h0.more hB)
  clear h0 hB
  have CS := Lib.hid (fun W (hb : Below w.heap.size w W) => CheckSamples_any w.heap.size A n k xs W (H.out.below hb (Nat.le_refl _)) hb.size hl)
  have he : ldEr c xs r per = orL [ckC c, ckS xs, ckR r, ckT per] := rfl
  have CK := Lib.hid (fun W => Check_any c W)
  have CR := Lib.hid (fun W => checkRadius_any r W)
  have CT := Lib.hid (fun W => checkTurn_any per W)
  obtain ⟨e1, h1⟩ : ∃ x, ckC c = x := ⟨_, rfl⟩
  obtain ⟨e2, h2⟩ : ∃ x, ckS xs = x := ⟨_, rfl⟩
  obtain ⟨e3, h3⟩ : ∃ x, ckR r = x := ⟨_, rfl⟩
  obtain ⟨e4, h4⟩ : ∃ x, ckT per = x := ⟨_, rfl⟩
  rw [h1] at CK
  rw [h2] at CS
  rw [h3] at CR
  rw [h4] at CT
  rw [h1, h2, h3, h4] at he
  obtain ⟨er, h5⟩ : ∃ x, orL [e1, e2, e3, e4] = x := ⟨_, rfl⟩
  rw [h5] at he
  have HER := Lib.hid he
  have HOR := Lib.hid (fun B A n c W h1 h2 h3 h4 => cmpOr_any B A n c [e1, e2, e3, e4] W h1 h2 h3 h4)
  rw [h5] at HOR
  clear h1 h2 h3 h4 h5 he
  go_enter Try.func36, Try.ntmps36
  go_wp2_with fail
  obtain ⟨W0, hW⟩ : ∃ W0, w.alloc (.cells #[.int .i64 c.half, .int .i64 c.gain, .int .i64 c.thin, .int .i64 c.wide, .int .i64 c.slope, .int .i64 c.jerk, .int .i64 c.stylus] 23) = W0 := ⟨_, rfl⟩
  have HK : Hid (Blk W0 w.heap.size 23 #[.int .i64 c.half, .int .i64 c.gain, .int .i64 c.thin, .int .i64 c.wide, .int .i64 c.slope, .int .i64 c.jerk, .int .i64 c.stylus]) := Lib.hid (by rw [← hW]; exact Blk.new _ _ _)
  have HB : Hid (Below w.heap.size w W0) := Lib.hid (by rw [← hW]; exact (Below.refl _ w).alloc (Nat.le_refl _) _)
  rw [hW]
  clear hW
  go_wp2_with fail
  refine (CK.out _).mono ?_
  rintro e w1 ⟨rfl, hb1⟩
  replace HK := Lib.hid (HK.out.below hb1 HK.out.lt)
  replace HB := Lib.hid (HB.out.trans (hb1.mono HB.out.size))
  clear hb1
  go_wp2_with fail
  refine (CS.out _ HB.out).mono ?_
  rintro e w2 ⟨rfl, hb1⟩
  replace HK := Lib.hid (HK.out.below hb1 HK.out.lt)
  replace HB := Lib.hid (HB.out.trans (hb1.mono HB.out.size))
  clear hb1
  go_wp2_with fail
  refine (CR.out _).mono ?_
  rintro e w' ⟨rfl, rfl⟩
  go_wp2_with fail
  refine (CT.out _).mono ?_
  rintro e w' ⟨rfl, rfl⟩
  go_wp2_with fail
  refine (HOR.out _ _ _ _ _ rfl (reads_cells (blk_al rfl) (Nat.lt_succ_self _) (by rfl) (by rfl)) (by simp) (by simp)).mono ?_
  rintro e w' ⟨rfl, rfl⟩
  obtain ⟨W2, hW2⟩ : ∃ W2, w2.alloc (.cells #[.int .i64 e1, .int .i64 e2, .int .i64 e3, .int .i64 e4] 32) = W2 := ⟨_, rfl⟩
  replace HK : Hid (Blk W2 w.heap.size 23 #[.int .i64 c.half, .int .i64 c.gain, .int .i64 c.thin, .int .i64 c.wide, .int .i64 c.slope, .int .i64 c.jerk, .int .i64 c.stylus]) := Lib.hid (by rw [← hW2]; exact HK.out.alloc _)
  replace HB : Hid (Below w.heap.size w W2) := Lib.hid (by rw [← hW2]; exact HB.out.alloc HB.out.size _)
  rw [hW2]
  clear hW2
  by_cases hz : er = 0
  rotate_left
  · have hz1 : (er == 0) = false := by simpa using hz
    have hz2 : (er != 0) = true := by simpa using hz
    have HZ := Lib.hid hz
    clear hz
    go_wp2
    go_ret2
    exact ⟨_, _, rfl, by unfold ldQ; rw [if_neg (by rw [HER.out]; exact HZ.out), HER.out]; exact ⟨rfl, rfl⟩, HB.out⟩
  subst hz
  obtain ⟨hc, -, hs, hsp⟩ := ld_ok HER.out
  have HC := Lib.hid hc
  have HSO := Lib.hid (ckS_ok hs)
  have HSP := Lib.hid hsp
  have hn4 : n ≤ 4096 := by have := HSO.out.1; have := HN.out; omega
  clear hc hs hsp CK CS CR CT HOR
  go_wp2_with fail
  go_loopw [28] (fun z wr => ∃ j : Nat, j ≤ 41 ∧ z = .int .i64 j ∧ Hid (∀ i : Nat, i < j → ldOk c xs r per i = true) ∧ Hid (Blk wr w.heap.size 23 #[.int .i64 c.half, .int .i64 c.gain, .int .i64 c.thin, .int .i64 c.wide, .int .i64 c.slope, .int .i64 c.jerk, .int .i64 c.stylus]) ∧ Hid (Below w.heap.size w wr)) (fun z wr => 41 - (intOf z).toNat)
  case atStart => exact ⟨0, by omega, rfl, Lib.hid (fun i hi => absurd hi (by omega)), HK, HB⟩
  case round =>
    clear HK HB
    obtain ⟨j, hj, rfl, HJ, HK, HB⟩ := hrel
    by_cases hlt : j < 41
    · have LO := Lib.hid (fun W (hb : Below w.heap.size w W) => louder_any w.heap.size A n k xs j W (H.out.below hb (Nat.le_refl _)) hb.size hn4 HSO.out.2 (by omega) (by omega))
      have HOK : Hid (ldOk c xs r per j = ((cutEr c (xs.map (lou j)) == 0) && fls c ((xs.map (lou j)).map (wallP c)) r per)) := Lib.hid rfl
      have HED : Hid (cutEr c (xs.map (lou j)) = 0 → ∀ p ∈ (xs.map (lou j)).map (wallP c), EdOk p) := Lib.hid (fun h => walls_ed h)
      have HRES : Hid (cutEr c (xs.map (lou j)) = 0 → cutRes c (xs.map (lou j)) = (xs.map (lou j)).map (wallP c)) := Lib.hid (fun h => by unfold cutRes; rw [if_pos h])
      have hlen : (xs.map (lou j)).length = n := by rw [List.length_map]; exact HN.out.symm
      obtain ⟨ys, hys⟩ : ∃ ys, xs.map (lou j) = ys := ⟨_, rfl⟩
      rw [hys] at LO HOK HED HRES hlen
      have HLEN := Lib.hid hlen
      clear hys hlen
      have hk_0 : wr.cell? ⟨w.heap.size, 0, none⟩ = some (.int .i64 c.half) := (HK.out.cell 0).trans rfl
      have hk_1 : wr.cell? ⟨w.heap.size, 1, none⟩ = some (.int .i64 c.gain) := (HK.out.cell 1).trans rfl
      have hk_2 : wr.cell? ⟨w.heap.size, 2, none⟩ = some (.int .i64 c.thin) := (HK.out.cell 2).trans rfl
      have hk_3 : wr.cell? ⟨w.heap.size, 3, none⟩ = some (.int .i64 c.wide) := (HK.out.cell 3).trans rfl
      have hk_4 : wr.cell? ⟨w.heap.size, 4, none⟩ = some (.int .i64 c.slope) := (HK.out.cell 4).trans rfl
      have hk_5 : wr.cell? ⟨w.heap.size, 5, none⟩ = some (.int .i64 c.jerk) := (HK.out.cell 5).trans rfl
      have hk_6 : wr.cell? ⟨w.heap.size, 6, none⟩ = some (.int .i64 c.stylus) := (HK.out.cell 6).trans rfl
      go_wp2_with fail
      go_region_held3 (fun w' => w'.cell? ⟨w.heap.size, 0, none⟩ = some (.int .i64 c.half) ∧ w'.cell? ⟨w.heap.size, 1, none⟩ = some (.int .i64 c.gain) ∧ w'.cell? ⟨w.heap.size, 2, none⟩ = some (.int .i64 c.thin) ∧ w'.cell? ⟨w.heap.size, 3, none⟩ = some (.int .i64 c.wide) ∧ w'.cell? ⟨w.heap.size, 4, none⟩ = some (.int .i64 c.slope) ∧ w'.cell? ⟨w.heap.size, 5, none⟩ = some (.int .i64 c.jerk) ∧ w'.cell? ⟨w.heap.size, 6, none⟩ = some (.int .i64 c.stylus)) ((refine ⟨?_, ?_, ?_, ?_, ?_, ?_, ?_⟩ <;> (repeat (with_reducible (first | refine cell_al _ ?_ | refine cell_dr ?_))) <;> (with_reducible assumption)))
        (first | (go_at_call 69; refine Calls.mono (LO.out _ (by first | exact HB.out | exact HB.out.drew)) ?_; rintro e wa ⟨Aa, na, ka, rfl, hra, hb1⟩; have HK := Lib.hid (by first | exact HK.out.below hb1 HK.out.lt | exact HK.out.drew.below hb1 HK.out.lt); have HB := Lib.hid (by first | exact HB.out.trans (hb1.mono HB.out.size) | exact HB.out.drew.trans (hb1.mono HB.out.size)); have HRA := Lib.hid hra; clear hb1 hra; have hk_0 : wa.cell? ⟨w.heap.size, 0, none⟩ = some (.int .i64 c.half) := (HK.out.cell 0).trans rfl; have hk_1 : wa.cell? ⟨w.heap.size, 1, none⟩ = some (.int .i64 c.gain) := (HK.out.cell 1).trans rfl; have hk_2 : wa.cell? ⟨w.heap.size, 2, none⟩ = some (.int .i64 c.thin) := (HK.out.cell 2).trans rfl; have hk_3 : wa.cell? ⟨w.heap.size, 3, none⟩ = some (.int .i64 c.wide) := (HK.out.cell 3).trans rfl; have hk_4 : wa.cell? ⟨w.heap.size, 4, none⟩ = some (.int .i64 c.slope) := (HK.out.cell 4).trans rfl; have hk_5 : wa.cell? ⟨w.heap.size, 5, none⟩ = some (.int .i64 c.jerk) := (HK.out.cell 5).trans rfl; have hk_6 : wa.cell? ⟨w.heap.size, 6, none⟩ = some (.int .i64 c.stylus) := (HK.out.cell 6).trans rfl) | (go_at_call 19; refine Calls.mono (Cut_any wa.heap.size Aa na ka c ys wa HRA.out (Nat.le_refl _) (by have := HRA.out.1; have := HLEN.out; omega)) ?_; rintro e wb ⟨Ab, nb, kb, rfl, hrb, hb1⟩; have HK := Lib.hid (HK.out.below hb1 HK.out.lt); have HB := Lib.hid (HB.out.trans (hb1.mono HB.out.size)); have HRB := Lib.hid hrb; clear hb1 hrb; have hk_0 : wb.cell? ⟨w.heap.size, 0, none⟩ = some (.int .i64 c.half) := (HK.out.cell 0).trans rfl; have hk_1 : wb.cell? ⟨w.heap.size, 1, none⟩ = some (.int .i64 c.gain) := (HK.out.cell 1).trans rfl; have hk_2 : wb.cell? ⟨w.heap.size, 2, none⟩ = some (.int .i64 c.thin) := (HK.out.cell 2).trans rfl; have hk_3 : wb.cell? ⟨w.heap.size, 3, none⟩ = some (.int .i64 c.wide) := (HK.out.cell 3).trans rfl; have hk_4 : wb.cell? ⟨w.heap.size, 4, none⟩ = some (.int .i64 c.slope) := (HK.out.cell 4).trans rfl; have hk_5 : wb.cell? ⟨w.heap.size, 5, none⟩ = some (.int .i64 c.jerk) := (HK.out.cell 5).trans rfl; have hk_6 : wb.cell? ⟨w.heap.size, 6, none⟩ = some (.int .i64 c.stylus) := (HK.out.cell 6).trans rfl))
      by_cases hz : cutEr c ys = 0
      · have hres := HRES.out hz
        have hed := HED.out hz
        rw [hres] at HRB
        have FL := Lib.hid (faultless_any wb.heap.size Ab nb kb c (ys.map (wallP c)) r per wb HRB.out (Nat.le_refl _) (by have := HRB.out.1; rw [List.length_map] at this; have := HLEN.out; omega) hed HC.out HSP.out)
        rw [hz] at HOK
        obtain ⟨f, hf⟩ : ∃ f, fls c (ys.map (wallP c)) r per = f := ⟨_, rfl⟩
        rw [hf] at FL HOK
        have HOK2 : Hid (ldOk c xs r per j = f) := Lib.hid (by rw [HOK.out]; simp)
        rw [hz]
        clear hz hres hed hf HOK
        cases f
        · by_cases hj0 : j = 0
          · subst hj0
            go_wp2_with fail
            refine FL.out.mono ?_
            rintro e w5 ⟨rfl, hb1⟩
            go_wp2
            go_ret2
            exact ⟨_, _, rfl, ldQ_mk HER.out 0 (by omega) HJ.out (fun _ => HOK2.out) (by simp), HB.out.trans (hb1.mono HB.out.size)⟩
          · have hj1 : ((j : Int) == 0) = false := beq_eq_false_iff_ne.2 (by omega)
            have hw1 : IntKind.i64.wrap ((j : Int) - 1) = (j : Int) - 1 := IntWalk.i64_in _ (by omega)
            go_wp2_with fail
            refine FL.out.mono ?_
            rintro e w5 ⟨rfl, hb1⟩
            go_wp2
            go_ret2
            exact ⟨_, _, rfl, ldQ_mk HER.out j (by omega) HJ.out (fun _ => HOK2.out) (by rw [if_neg hj0]; exact ⟨rfl, rfl⟩), HB.out.trans (hb1.mono HB.out.size)⟩
        · go_wp2_with fail
          refine FL.out.mono ?_
          rintro e w5 ⟨rfl, hb1⟩
          replace HK := Lib.hid (HK.out.below hb1 HK.out.lt)
          replace HB := Lib.hid (HB.out.trans (hb1.mono HB.out.size))
          clear hb1 hk_0 hk_1 hk_2 hk_3 hk_4 hk_5 hk_6
          go_wp2
          go_roundw
          case rel => exact ⟨j + 1, by omega, by go_num, Lib.hid (ldOk_more HJ.out HOK2.out), HK, HB⟩
          case measure => simp [intOf]; omega
      · obtain ⟨g, hg⟩ : ∃ g, cutEr c ys = g := ⟨_, rfl⟩
        rw [hg] at HOK hz ⊢
        have HOK2 : Hid (ldOk c xs r per j = false) := Lib.hid (by rw [HOK.out]; simp [hz])
        have hz1 : (g == 0) = false := by simpa using hz
        have hz2 : (g != 0) = true := by simpa using hz
        clear hg hz HOK
        by_cases hj0 : j = 0
        · subst hj0
          go_wp2
          go_ret2
          exact ⟨_, _, rfl, ldQ_mk HER.out 0 (by omega) HJ.out (fun _ => HOK2.out) (by simp), HB.out⟩
        · have hj1 : ((j : Int) == 0) = false := beq_eq_false_iff_ne.2 (by omega)
          have hw1 : IntKind.i64.wrap ((j : Int) - 1) = (j : Int) - 1 := IntWalk.i64_in _ (by omega)
          go_wp2
          go_ret2
          exact ⟨_, _, rfl, ldQ_mk HER.out j (by omega) HJ.out (fun _ => HOK2.out) (by rw [if_neg hj0]; exact ⟨rfl, rfl⟩), HB.out⟩
    · obtain rfl : j = 41 := by omega
      go_wp2
      go_ret2
      exact ⟨_, _, rfl, ldQ_mk HER.out 41 (by omega) HJ.out (fun h => absurd h (by omega)) (by simp), HB.out⟩
end Go.Proofs.Ytaiigdbbpdkamaa
