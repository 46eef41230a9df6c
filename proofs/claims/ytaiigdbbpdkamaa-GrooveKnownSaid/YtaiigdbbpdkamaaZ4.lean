/-
  The walk of GrooveKnown: the chapter's examples.
-/
import Derived.Test.YtaiigdbbpdkamaaK8
import Derived.Test.YtaiigdbbpdkamaaZ1
import Derived.Test.YtaiigdbbpdkamaaY3
namespace Go.Proofs.Ytaiigdbbpdkamaa
open Go.RowKit

def knS : List Smp := [(0, 0), (400, 0)]
def knL : List Smp := [(-400, 400), (-400, 1200)]
def knA : List Smp := [(100, 100), (100, 100)]
def knB : List Smp := [(300, -300)]
theorem kn_wall : wallV exC (100, -100) = (-600, 600) ∧ cutEr exC [(100, -100)] = 0 := by decide
theorem kn_back : bkV exC (-200, 600) = (100, 100) ∧ bkEr exC (-200, 600) = 0 := by decide
theorem kn_none : bkV exC (-201, 600) = (0, 0) ∧ bkEr exC (-201, 600) = 5 := by decide
theorem kn_cut : cutRes exC knS = knL ∧ cutEr exC knS = 0 := by decide
theorem kn_f1 : fuR exC knL 1000000 1000 = (0, 0, 5) := by decide
theorem kn_f2 : fuR exC knL 127323 1000 = (1, 3, 0) := by decide
theorem kn_least {v er : Int} (h : lsQ exC knL 1000 v er) : v = 127324 ∧ er = 0 :=
  ls_val (by decide) exC_ok (by omega) (by omega) (by omega) (by omega) (by decide) (by decide) h
theorem kn_l1 {v er : Int} (h : ldQ exC knA 0 1000 v er) : v = 40 ∧ er = 0 :=
  ldQ_uniq h (ldQ_mk (by decide) 41 (by omega) (by decide +kernel) (fun h => absurd h (by omega)) (by simp))
theorem kn_l2 {v er : Int} (h : ldQ exC knB 0 1000 v er) : v = 20 ∧ er = 0 :=
  ldQ_uniq h (ldQ_mk (by decide) 21 (by omega) (by decide +kernel) (fun _ => by decide +kernel) (by simp))

set_option maxRecDepth 100000 in
set_option maxHeartbeats 4000000 in
theorem known_walk (w : World) : Calls Try.prog 14 #[] w fun e w' => e = .returned (.bool true) ∧ Below w.heap.size w w' := by
  have WK := Lib.hid (fun W => Works_any W)
  have C1 : Hid (∀ W, Calls Try.prog 17 #[.agg #[.int .i64 400, .int .i64 2000, .int .i64 200, .int .i64 2000, .int .i64 1000, .int .i64 1000, .int .i64 100], .agg #[.int .i64 100, .int .i64 (-100)]] W fun e w' => e = .returned (.tuple #[.agg #[.int .i64 (-600), .int .i64 600], .int .i64 0]) ∧ Below W.heap.size W w') := Lib.hid (fun W => by
    have h := Wall_any exC (100, -100) W
    rw [kn_wall.1, kn_wall.2] at h
    exact h)
  have C2 : Hid (∀ W, Calls Try.prog 21 #[.agg #[.int .i64 400, .int .i64 2000, .int .i64 200, .int .i64 2000, .int .i64 1000, .int .i64 1000, .int .i64 100], .agg #[.int .i64 (-200), .int .i64 600]] W fun e w' => e = .returned (.tuple #[.agg #[.int .i64 100, .int .i64 100], .int .i64 0]) ∧ Below W.heap.size W w') := Lib.hid (fun W => by
    have h := Back_any exC (-200, 600) W
    rw [kn_back.1, kn_back.2] at h
    exact h)
  have C3 : Hid (∀ W, Calls Try.prog 21 #[.agg #[.int .i64 400, .int .i64 2000, .int .i64 200, .int .i64 2000, .int .i64 1000, .int .i64 1000, .int .i64 100], .agg #[.int .i64 (-201), .int .i64 600]] W fun e w' => e = .returned (.tuple #[.agg #[.int .i64 0, .int .i64 0], .int .i64 5]) ∧ Below W.heap.size W w') := Lib.hid (fun W => by
    have h := Back_any exC (-201, 600) W
    rw [kn_none.1, kn_none.2] at h
    exact h)
  have C4 := Lib.hid (fun B A n k W h0 hB hl => Cut_any B A n k exC knS W h0 hB hl)
  rw [kn_cut.1, kn_cut.2] at C4
  have C5 := Lib.hid (fun B A n k W h0 hB hl => Fault_any B A n k exC knL 1000000 1000 W h0 hB hl)
  have C6 := Lib.hid (fun B A n k W h0 hB hl => Fault_any B A n k exC knL 127323 1000 W h0 hB hl)
  rw [kn_f1] at C5
  rw [kn_f2] at C6
  have C7 := Lib.hid (fun B A n k W h0 hB hl => Least_any B A n k exC knL 1000 W h0 hB hl)
  have C8 := Lib.hid (fun B A n k W h0 hB hl => Loudest_any B A n k exC knA 0 1000 W h0 hB hl)
  have C9 := Lib.hid (fun B A n k W h0 hB hl => Loudest_any B A n k exC knB 0 1000 W h0 hB hl)
  go_enter Try.func14, Try.ntmps14
  go_wp2_with fail
  refine (Example_any _).mono ?_
  rintro e w1 ⟨rfl, hb1⟩
  have HB := Lib.hid hb1
  clear hb1
  go_wp2_with fail
  obtain ⟨W1, hW⟩ : ∃ W, w1.alloc (.cells #[.int .i64 400, .int .i64 2000, .int .i64 200, .int .i64 2000, .int .i64 1000, .int .i64 1000, .int .i64 100] 23) = W := ⟨_, rfl⟩
  obtain ⟨g0, hg0⟩ : ∃ g, w1.heap.size = g := ⟨_, rfl⟩
  have HK : Hid (Blk W1 g0 23 #[.int .i64 400, .int .i64 2000, .int .i64 200, .int .i64 2000, .int .i64 1000, .int .i64 1000, .int .i64 100]) := Lib.hid (by rw [← hW]; exact blk_al hg0)
  replace HB : Hid (Below w.heap.size w W1) := Lib.hid (by rw [← hW]; exact HB.out.alloc HB.out.size _)
  rw [hW, hg0]
  clear hW hg0
  refine (C1.out _).mono ?_
  rintro e w2 ⟨rfl, hb1⟩
  replace HK := Lib.hid (HK.out.below hb1 HK.out.lt)
  replace HB := Lib.hid (HB.out.trans (hb1.mono HB.out.size))
  clear hb1
  have zw2 : g0 < w2.heap.size := HK.out.lt
  have hk_0 : w2.cell? ⟨g0, 0, none⟩ = some (.int .i64 400) := (HK.out.cell 0).trans rfl
  have hk_1 : w2.cell? ⟨g0, 1, none⟩ = some (.int .i64 2000) := (HK.out.cell 1).trans rfl
  have hk_2 : w2.cell? ⟨g0, 2, none⟩ = some (.int .i64 200) := (HK.out.cell 2).trans rfl
  have hk_3 : w2.cell? ⟨g0, 3, none⟩ = some (.int .i64 2000) := (HK.out.cell 3).trans rfl
  have hk_4 : w2.cell? ⟨g0, 4, none⟩ = some (.int .i64 1000) := (HK.out.cell 4).trans rfl
  have hk_5 : w2.cell? ⟨g0, 5, none⟩ = some (.int .i64 1000) := (HK.out.cell 5).trans rfl
  have hk_6 : w2.cell? ⟨g0, 6, none⟩ = some (.int .i64 100) := (HK.out.cell 6).trans rfl
  go_wp2_with fail
  obtain ⟨W2, hW⟩ : ∃ W, w2.alloc (.cells #[.int .i64 (-600), .int .i64 600] 27) = W := ⟨_, rfl⟩
  obtain ⟨g1, hg1⟩ : ∃ g, w2.heap.size = g := ⟨_, rfl⟩
  replace HK : Hid (Blk W2 (g0) 23 #[.int .i64 400, .int .i64 2000, .int .i64 200, .int .i64 2000, .int .i64 1000, .int .i64 1000, .int .i64 100]) := Lib.hid (by rw [← hW]; exact HK.out.alloc _)
  have HA : Hid (Blk W2 g1 27 #[.int .i64 (-600), .int .i64 600]) := Lib.hid (by rw [← hW]; exact blk_al hg1)
  replace HB : Hid (Below w.heap.size w W2) := Lib.hid (by rw [← hW]; exact HB.out.alloc HB.out.size _)
  rw [hW, hg1]
  rw [hg1] at zw2
  clear hW hg1
  refine (C2.out _).mono ?_
  rintro e w3 ⟨rfl, hb1⟩
  replace HK := Lib.hid (HK.out.below hb1 HK.out.lt)
  replace HA := Lib.hid (HA.out.below hb1 HA.out.lt)
  replace HB := Lib.hid (HB.out.trans (hb1.mono HB.out.size))
  clear hb1
  clear hk_0 hk_1 hk_2 hk_3 hk_4 hk_5 hk_6
  have zw3 : g0 < w3.heap.size := HK.out.lt
  have hk_0 : w3.cell? ⟨g0, 0, none⟩ = some (.int .i64 400) := (HK.out.cell 0).trans rfl
  have hk_1 : w3.cell? ⟨g0, 1, none⟩ = some (.int .i64 2000) := (HK.out.cell 1).trans rfl
  have hk_2 : w3.cell? ⟨g0, 2, none⟩ = some (.int .i64 200) := (HK.out.cell 2).trans rfl
  have hk_3 : w3.cell? ⟨g0, 3, none⟩ = some (.int .i64 2000) := (HK.out.cell 3).trans rfl
  have hk_4 : w3.cell? ⟨g0, 4, none⟩ = some (.int .i64 1000) := (HK.out.cell 4).trans rfl
  have hk_5 : w3.cell? ⟨g0, 5, none⟩ = some (.int .i64 1000) := (HK.out.cell 5).trans rfl
  have hk_6 : w3.cell? ⟨g0, 6, none⟩ = some (.int .i64 100) := (HK.out.cell 6).trans rfl
  go_wp2_with fail
  obtain ⟨W3, hW⟩ : ∃ W, w3.alloc (.cells #[.int .i64 100, .int .i64 100] 25) = W := ⟨_, rfl⟩
  obtain ⟨g2, hg2⟩ : ∃ g, w3.heap.size = g := ⟨_, rfl⟩
  replace HK : Hid (Blk W3 (g0) 23 #[.int .i64 400, .int .i64 2000, .int .i64 200, .int .i64 2000, .int .i64 1000, .int .i64 1000, .int .i64 100]) := Lib.hid (by rw [← hW]; exact HK.out.alloc _)
  replace HA : Hid (Blk W3 (g1) 27 #[.int .i64 (-600), .int .i64 600]) := Lib.hid (by rw [← hW]; exact HA.out.alloc _)
  have HS : Hid (Blk W3 g2 25 #[.int .i64 100, .int .i64 100]) := Lib.hid (by rw [← hW]; exact blk_al hg2)
  replace HB : Hid (Below w.heap.size w W3) := Lib.hid (by rw [← hW]; exact HB.out.alloc HB.out.size _)
  rw [hW, hg2]
  rw [hg2] at zw3
  clear hW hg2
  refine (C3.out _).mono ?_
  rintro e w4 ⟨rfl, hb1⟩
  replace HK := Lib.hid (HK.out.below hb1 HK.out.lt)
  replace HA := Lib.hid (HA.out.below hb1 HA.out.lt)
  replace HS := Lib.hid (HS.out.below hb1 HS.out.lt)
  replace HB := Lib.hid (HB.out.trans (hb1.mono HB.out.size))
  clear hb1
  clear hk_0 hk_1 hk_2 hk_3 hk_4 hk_5 hk_6
  have zw4 : g0 < w4.heap.size := HK.out.lt
  have hk_0 : w4.cell? ⟨g0, 0, none⟩ = some (.int .i64 400) := (HK.out.cell 0).trans rfl
  have hk_1 : w4.cell? ⟨g0, 1, none⟩ = some (.int .i64 2000) := (HK.out.cell 1).trans rfl
  have hk_2 : w4.cell? ⟨g0, 2, none⟩ = some (.int .i64 200) := (HK.out.cell 2).trans rfl
  have hk_3 : w4.cell? ⟨g0, 3, none⟩ = some (.int .i64 2000) := (HK.out.cell 3).trans rfl
  have hk_4 : w4.cell? ⟨g0, 4, none⟩ = some (.int .i64 1000) := (HK.out.cell 4).trans rfl
  have hk_5 : w4.cell? ⟨g0, 5, none⟩ = some (.int .i64 1000) := (HK.out.cell 5).trans rfl
  have hk_6 : w4.cell? ⟨g0, 6, none⟩ = some (.int .i64 100) := (HK.out.cell 6).trans rfl
  go_wp2_with fail
  obtain ⟨W4, hW⟩ : ∃ W, w4.alloc (.cells #[.int .i64 0, .int .i64 0] 25) = W := ⟨_, rfl⟩
  replace HK : Hid (Blk W4 (g0) 23 #[.int .i64 400, .int .i64 2000, .int .i64 200, .int .i64 2000, .int .i64 1000, .int .i64 1000, .int .i64 100]) := Lib.hid (by rw [← hW]; exact HK.out.alloc _)
  replace HA : Hid (Blk W4 (g1) 27 #[.int .i64 (-600), .int .i64 600]) := Lib.hid (by rw [← hW]; exact HA.out.alloc _)
  replace HS : Hid (Blk W4 (g2) 25 #[.int .i64 100, .int .i64 100]) := Lib.hid (by rw [← hW]; exact HS.out.alloc _)
  replace HB : Hid (Below w.heap.size w W4) := Lib.hid (by rw [← hW]; exact HB.out.alloc HB.out.size _)
  obtain ⟨g3, hg3⟩ : ∃ g, w4.heap.size = g := ⟨_, rfl⟩
  obtain ⟨g4, hg4⟩ : ∃ g, W4.heap.size = g := ⟨_, rfl⟩
  have hg5 : w4.heap.size + 1 = g4 := by rw [← hg4, ← hW]; simp
  rw [hW]
  try rw [hg5]
  try rw [hg3]
  clear hW hg5 zw4 hk_0 hk_1 hk_2 hk_3 hk_4 hk_5 hk_6
  refine Calls.mono (C4.out (g4 + 1) (some ⟨g4, 0, none⟩) 2 2 _ ⟨rfl, reads_cells (blk_al hg4) (Nat.lt_succ_self _) rfl rfl⟩ (by simp; omega) (by omega)) ?_
  rintro e w5 ⟨A, n, k, rfl, hrs, hb1⟩
  obtain rfl : 2 = n := hrs.1.symm
  have RX := Lib.hid hrs
  clear hrs hg3
  replace HK := Lib.hid ((HK.out.alloc (.cells #[.int .i64 0, .int .i64 0, .int .i64 400, .int .i64 0] 25)).below hb1 (HK.out.alloc _).lt)
  replace HA := Lib.hid ((HA.out.alloc (.cells #[.int .i64 0, .int .i64 0, .int .i64 400, .int .i64 0] 25)).below hb1 (HA.out.alloc _).lt)
  replace HS := Lib.hid ((HS.out.alloc (.cells #[.int .i64 0, .int .i64 0, .int .i64 400, .int .i64 0] 25)).below hb1 (HS.out.alloc _).lt)
  replace HB := Lib.hid ((HB.out.alloc HB.out.size (.cells #[.int .i64 0, .int .i64 0, .int .i64 400, .int .i64 0] 25)).trans (hb1.mono (by have := HB.out.size; simp; omega)))
  clear hb1 hg4
  have hk_0 : w5.cell? ⟨g0, 0, none⟩ = some (.int .i64 400) := (HK.out.cell 0).trans rfl
  have hk_1 : w5.cell? ⟨g0, 1, none⟩ = some (.int .i64 2000) := (HK.out.cell 1).trans rfl
  have hk_2 : w5.cell? ⟨g0, 2, none⟩ = some (.int .i64 200) := (HK.out.cell 2).trans rfl
  have hk_3 : w5.cell? ⟨g0, 3, none⟩ = some (.int .i64 2000) := (HK.out.cell 3).trans rfl
  have hk_4 : w5.cell? ⟨g0, 4, none⟩ = some (.int .i64 1000) := (HK.out.cell 4).trans rfl
  have hk_5 : w5.cell? ⟨g0, 5, none⟩ = some (.int .i64 1000) := (HK.out.cell 5).trans rfl
  have hk_6 : w5.cell? ⟨g0, 6, none⟩ = some (.int .i64 100) := (HK.out.cell 6).trans rfl
  go_wp2_with fail
  refine (C5.out _ A 2 k _ RX.out (Nat.le_refl _) (by omega)).mono ?_
  rintro e w6 ⟨rfl, hb1⟩
  replace HK := Lib.hid (HK.out.below hb1 HK.out.lt)
  replace HA := Lib.hid (HA.out.below hb1 HA.out.lt)
  replace HS := Lib.hid (HS.out.below hb1 HS.out.lt)
  replace RX := Lib.hid ((RX.out.below hb1 (Nat.le_refl _)).more hb1.size)
  replace HB := Lib.hid (HB.out.trans (hb1.mono HB.out.size))
  clear hb1
  clear hk_0 hk_1 hk_2 hk_3 hk_4 hk_5 hk_6
  have hk_0 : w6.cell? ⟨g0, 0, none⟩ = some (.int .i64 400) := (HK.out.cell 0).trans rfl
  have hk_1 : w6.cell? ⟨g0, 1, none⟩ = some (.int .i64 2000) := (HK.out.cell 1).trans rfl
  have hk_2 : w6.cell? ⟨g0, 2, none⟩ = some (.int .i64 200) := (HK.out.cell 2).trans rfl
  have hk_3 : w6.cell? ⟨g0, 3, none⟩ = some (.int .i64 2000) := (HK.out.cell 3).trans rfl
  have hk_4 : w6.cell? ⟨g0, 4, none⟩ = some (.int .i64 1000) := (HK.out.cell 4).trans rfl
  have hk_5 : w6.cell? ⟨g0, 5, none⟩ = some (.int .i64 1000) := (HK.out.cell 5).trans rfl
  have hk_6 : w6.cell? ⟨g0, 6, none⟩ = some (.int .i64 100) := (HK.out.cell 6).trans rfl
  go_wp2_with fail
  refine (C6.out _ A 2 k _ RX.out (Nat.le_refl _) (by omega)).mono ?_
  rintro e w7 ⟨rfl, hb1⟩
  replace HK := Lib.hid (HK.out.below hb1 HK.out.lt)
  replace HA := Lib.hid (HA.out.below hb1 HA.out.lt)
  replace HS := Lib.hid (HS.out.below hb1 HS.out.lt)
  replace RX := Lib.hid ((RX.out.below hb1 (Nat.le_refl _)).more hb1.size)
  replace HB := Lib.hid (HB.out.trans (hb1.mono HB.out.size))
  clear hb1
  clear hk_0 hk_1 hk_2 hk_3 hk_4 hk_5 hk_6
  have hk_0 : w7.cell? ⟨g0, 0, none⟩ = some (.int .i64 400) := (HK.out.cell 0).trans rfl
  have hk_1 : w7.cell? ⟨g0, 1, none⟩ = some (.int .i64 2000) := (HK.out.cell 1).trans rfl
  have hk_2 : w7.cell? ⟨g0, 2, none⟩ = some (.int .i64 200) := (HK.out.cell 2).trans rfl
  have hk_3 : w7.cell? ⟨g0, 3, none⟩ = some (.int .i64 2000) := (HK.out.cell 3).trans rfl
  have hk_4 : w7.cell? ⟨g0, 4, none⟩ = some (.int .i64 1000) := (HK.out.cell 4).trans rfl
  have hk_5 : w7.cell? ⟨g0, 5, none⟩ = some (.int .i64 1000) := (HK.out.cell 5).trans rfl
  have hk_6 : w7.cell? ⟨g0, 6, none⟩ = some (.int .i64 100) := (HK.out.cell 6).trans rfl
  go_wp2_with fail
  refine (C7.out _ A 2 k _ RX.out (Nat.le_refl _) (by omega)).mono ?_
  rintro e w8 ⟨v, er, rfl, hq, hb1⟩
  obtain ⟨rfl, rfl⟩ := kn_least hq
  clear hq
  replace HK := Lib.hid (HK.out.below hb1 HK.out.lt)
  replace HA := Lib.hid (HA.out.below hb1 HA.out.lt)
  replace HS := Lib.hid (HS.out.below hb1 HS.out.lt)
  replace RX := Lib.hid ((RX.out.below hb1 (Nat.le_refl _)).more hb1.size)
  replace HB := Lib.hid (HB.out.trans (hb1.mono HB.out.size))
  clear hb1
  clear hk_0 hk_1 hk_2 hk_3 hk_4 hk_5 hk_6
  have eqp := fun W : World => eqPt (-600) 600 W
  have eqs := fun W : World => eqSm 100 100 W
  have hk_0 : w8.cell? ⟨g0, 0, none⟩ = some (.int .i64 400) := (HK.out.cell 0).trans rfl
  have hk_1 : w8.cell? ⟨g0, 1, none⟩ = some (.int .i64 2000) := (HK.out.cell 1).trans rfl
  have hk_2 : w8.cell? ⟨g0, 2, none⟩ = some (.int .i64 200) := (HK.out.cell 2).trans rfl
  have hk_3 : w8.cell? ⟨g0, 3, none⟩ = some (.int .i64 2000) := (HK.out.cell 3).trans rfl
  have hk_4 : w8.cell? ⟨g0, 4, none⟩ = some (.int .i64 1000) := (HK.out.cell 4).trans rfl
  have hk_5 : w8.cell? ⟨g0, 5, none⟩ = some (.int .i64 1000) := (HK.out.cell 5).trans rfl
  have hk_6 : w8.cell? ⟨g0, 6, none⟩ = some (.int .i64 100) := (HK.out.cell 6).trans rfl
  have ha_0 : w8.cell? ⟨g1, 0, none⟩ = some (.int .i64 (-600)) := (HA.out.cell 0).trans rfl
  have ha_1 : w8.cell? ⟨g1, 1, none⟩ = some (.int .i64 600) := (HA.out.cell 1).trans rfl
  have hs_0 : w8.cell? ⟨g2, 0, none⟩ = some (.int .i64 100) := (HS.out.cell 0).trans rfl
  have hs_1 : w8.cell? ⟨g2, 1, none⟩ = some (.int .i64 100) := (HS.out.cell 1).trans rfl
  go_wp2_with fail
  refine Calls.mono (C8.out (w8.heap.size + 1) (some ⟨w8.heap.size, 0, none⟩) 2 2 _ ⟨rfl, reads_cells (blk_al rfl) (Nat.lt_succ_self _) rfl rfl⟩ (by simp) (by omega)) ?_
  rintro e w9 ⟨v, er, rfl, hq, hb1⟩
  obtain ⟨rfl, rfl⟩ := kn_l1 hq
  clear hq
  clear hk_0 hk_1 hk_2 hk_3 hk_4 hk_5 hk_6 ha_0 ha_1 hs_0 hs_1
  replace HK := Lib.hid ((HK.out.alloc (.cells #[.int .i64 100, .int .i64 100, .int .i64 100, .int .i64 100] 25)).below hb1 (HK.out.alloc _).lt)
  replace HB := Lib.hid ((HB.out.alloc HB.out.size (.cells #[.int .i64 100, .int .i64 100, .int .i64 100, .int .i64 100] 25)).trans (hb1.mono (by have := HB.out.size; simp; omega)))
  clear hb1 HA HS RX
  have hk_0 : w9.cell? ⟨g0, 0, none⟩ = some (.int .i64 400) := (HK.out.cell 0).trans rfl
  have hk_1 : w9.cell? ⟨g0, 1, none⟩ = some (.int .i64 2000) := (HK.out.cell 1).trans rfl
  have hk_2 : w9.cell? ⟨g0, 2, none⟩ = some (.int .i64 200) := (HK.out.cell 2).trans rfl
  have hk_3 : w9.cell? ⟨g0, 3, none⟩ = some (.int .i64 2000) := (HK.out.cell 3).trans rfl
  have hk_4 : w9.cell? ⟨g0, 4, none⟩ = some (.int .i64 1000) := (HK.out.cell 4).trans rfl
  have hk_5 : w9.cell? ⟨g0, 5, none⟩ = some (.int .i64 1000) := (HK.out.cell 5).trans rfl
  have hk_6 : w9.cell? ⟨g0, 6, none⟩ = some (.int .i64 100) := (HK.out.cell 6).trans rfl
  go_wp2_with fail
  refine Calls.mono (C9.out (w9.heap.size + 1) (some ⟨w9.heap.size, 0, none⟩) 1 1 _ ⟨rfl, reads_cells (blk_al rfl) (Nat.lt_succ_self _) rfl rfl⟩ (by simp) (by omega)) ?_
  rintro e w10 ⟨v, er, rfl, hq, hb1⟩
  obtain ⟨rfl, rfl⟩ := kn_l2 hq
  clear hq
  clear hk_0 hk_1 hk_2 hk_3 hk_4 hk_5 hk_6
  replace HB := Lib.hid ((HB.out.alloc HB.out.size (.cells #[.int .i64 300, .int .i64 (-300)] 25)).trans (hb1.mono (by have := HB.out.size; simp; omega)))
  clear hb1 HK
  go_wp2_with fail
  refine (WK.out _).mono ?_
  rintro e v9 ⟨rfl, hb1⟩
  go_wp2
  go_ret
  exact ⟨rfl, HB.out.trans (hb1.mono HB.out.size)⟩
end Go.Proofs.Ytaiigdbbpdkamaa
