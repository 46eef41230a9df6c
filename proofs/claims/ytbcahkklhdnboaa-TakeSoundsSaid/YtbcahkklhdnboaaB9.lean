/-
  Contract of sound.
-/
import Derived.Test.YtbcahkklhdnboaaB8
namespace Go.Proofs.Ytbcahkklhdnboaa
open Go.RowKit

/-- The sound of a sample. -/
def snd (p : Prt) (n k : Int) (s : Smp) : Smp := ((s.1 * gUp p n k).tdiv (gDn p), (s.2 * gUp p n k).tdiv (gDn p))
theorem gUp_bd (p : Prt) (n k : Int) (hf : FdOk p) (hk0 : 0 ≤ k) (hk1 : k < n) : 0 ≤ gUp p n k ∧ gUp p n k ≤ 4000 * 1001 * 1001 := by
  obtain ⟨f1, f2, f3, f4, f5, f6⟩ := hf
  obtain ⟨x1, x2⟩ := mul_bd p.lv (min k p.fi + 1) 4000 1001 f5 f6 (by omega) (by omega)
  exact mul_bd _ (min (n - k) (p.fo + 1)) (4000 * 1001) 1001 x1 x2 (by omega) (by omega)
theorem gDn_bd (p : Prt) (hf : FdOk p) : 0 < gDn p ∧ gDn p ≤ 1000 * 1001 * 1001 := by
  obtain ⟨f1, f2, f3, f4, f5, f6⟩ := hf
  obtain ⟨x1, x2⟩ := mul_bd (1000 * (p.fi + 1)) (p.fo + 1) (1000 * 1001) 1001 (by omega) (by omega) (by omega) (by omega)
  refine ⟨?_, x2⟩
  have : 0 < (1000 * (p.fi + 1)) * (p.fo + 1) := Int.mul_pos (by omega) (by omega)
  exact this
theorem smul_bd (x u : Int) (h1 : -32767 ≤ x) (h2 : x ≤ 32767) (h3 : 0 ≤ u) (h4 : u ≤ 4000 * 1001 * 1001) : -9223372036854775807 ≤ x * u ∧ x * u ≤ 9223372036854775807 := by
  have a1 : x * u ≤ 32767 * u := Int.mul_le_mul_of_nonneg_right h2 h3
  have a2 : -32767 * u ≤ x * u := Int.mul_le_mul_of_nonneg_right h1 h3
  omega

set_option maxRecDepth 100000 in
set_option maxHeartbeats 4000000 in
theorem sound_any (ad ad2 : Addr) (n c : Nat) (m : Nat) (t : TV) (s : Smp) (fr to gp fi fo lv ix st k : Int) (j : Nat) (w : World)
    (hbl : ad.block < w.heap.size) (hbl2 : ad2.block < w.heap.size) (hm : m < n)
    (y1 : w.cell? ⟨(ad.add (m * 2)).block, (ad.add (m * 2)).off + 1, none⟩ = some (.slice (some ad2) t.n t.c))
    (y2 : w.cell? (ad2.add (j * 2)) = some (.int .i64 s.1)) (y3 : w.cell? ⟨(ad2.add (j * 2)).block, (ad2.add (j * 2)).off + 1, none⟩ = some (.int .i64 s.2))
    (hj : fr + k = (j : Int)) (hjn : j < t.n) (htn : t.n ≤ 4096) (s1 : -32767 ≤ s.1 ∧ s.1 ≤ 32767) (s2 : -32767 ≤ s.2 ∧ s.2 ≤ 32767)
    (ho : PrOk ⟨m, fr, to, gp, fi, fo, lv⟩) (hf : FdOk ⟨m, fr, to, gp, fi, fo, lv⟩) (hk0 : 0 ≤ k) (hk1 : k < to - fr) :
    Calls Try.prog 50 #[.agg #[.int .i64 (m : Int), .int .i64 fr, .int .i64 to, .int .i64 gp, .int .i64 fi, .int .i64 fo, .int .i64 lv, .int .i64 ix, .int .i64 st], .slice (some ad) n c, .int .i64 k] w fun e w' =>
      e = .returned (.agg #[.int .i64 (snd ⟨m, fr, to, gp, fi, fo, lv⟩ (to - fr) k s).1, .int .i64 (snd ⟨m, fr, to, gp, fi, fo, lv⟩ (to - fr) k s).2]) ∧ Below w.heap.size w w' := by
  have hbl' : (ad.add (m * 2)).block < w.heap.size := by rw [block_of_add]; exact hbl
  have hbl2' : (ad2.add (j * 2)).block < w.heap.size := by rw [block_of_add]; exact hbl2
  obtain ⟨u1, u2⟩ := gUp_bd ⟨m, fr, to, gp, fi, fo, lv⟩ (to - fr) k hf hk0 hk1
  obtain ⟨d1, d2⟩ := gDn_bd ⟨m, fr, to, gp, fi, fo, lv⟩ hf
  have q1 := smul_bd s.1 _ s1.1 s1.2 u1 u2
  have q2 := smul_bd s.2 _ s2.1 s2.2 u1 u2
  have GG := Lib.hid (fun W => gain_any ⟨⟨m, fr, to, gp, fi, fo, lv⟩, ix, st⟩ k W ho hf hk0 hk1)
  have BB := Lib.hid (fun W => bothOf_any s.1 s.2 (gUp ⟨m, fr, to, gp, fi, fo, lv⟩ (to - fr) k) (gDn ⟨m, fr, to, gp, fi, fo, lv⟩) W d1 (by omega) q1.1 q1.2 q2.1 q2.2)
  have m0 : (0 : Int) ≤ (m : Int) := by omega
  have m1 : (m : Int) < (n : Int) := by omega
  have j0 : (0 : Int) ≤ (j : Int) := by omega
  have j1 : (j : Int) < (t.n : Int) := by omega
  have hwj : IntKind.i64.wrap (j : Int) = (j : Int) := IntWalk.i64_in _ (by omega)
  have HBK := Lib.hid (((Blk.new w 71 #[.int .i64 (m : Int), .int .i64 fr, .int .i64 to, .int .i64 gp, .int .i64 fi, .int .i64 fo, .int .i64 lv, .int .i64 ix, .int .i64 st]).alloc (.cells #[.int .i64 0, .int .i64 0] 39)).drew)
  have HCL := Lib.hid ((Blk.new (w.alloc (.cells #[.int .i64 (m : Int), .int .i64 fr, .int .i64 to, .int .i64 gp, .int .i64 fi, .int .i64 fo, .int .i64 lv, .int .i64 ix, .int .i64 st] 71)) 39 #[.int .i64 0, .int .i64 0]).drew)
  have HBW := Lib.hid (((Below.refl w.heap.size w).alloc (Nat.le_refl _) (.cells #[.int .i64 (m : Int), .int .i64 fr, .int .i64 to, .int .i64 gp, .int .i64 fi, .int .i64 fo, .int .i64 lv, .int .i64 ix, .int .i64 st] 71)).alloc (by simp) (.cells #[.int .i64 0, .int .i64 0] 39)).drew
  rw [World.size_alloc] at HCL
  have y1 := (HBW.out.cell (p := ⟨(ad.add (m * 2)).block, (ad.add (m * 2)).off + 1, none⟩) hbl').trans y1
  have y2 := (HBW.out.cell (p := ad2.add (j * 2)) hbl2').trans y2
  have y3 := (HBW.out.cell (p := ⟨(ad2.add (j * 2)).block, (ad2.add (j * 2)).off + 1, none⟩) hbl2').trans y3
  have n1 : (ad.add (m * 2)).block ≠ w.heap.size + 1 := by omega
  have n2 : (ad2.add (j * 2)).block ≠ w.heap.size + 1 := by omega
  have n3 : ad2.add (j * 2) ≠ ⟨w.heap.size + 1, 0, none⟩ := fun h => n2 (by rw [h])
  have n4 : ad2.add (j * 2) ≠ ⟨w.heap.size + 1, 1, none⟩ := fun h => n2 (by rw [h])
  have n1' := n1.symm
  have n2' := n2.symm
  have n3' := n3.symm
  have n4' := n4.symm
  clear ho hf u1 u2 d1 d2 q1 q2 s1 s2 htn hm hjn
  go_enter Try.func50, Try.ntmps50
  go_wp2
  go_region_held3 (fun w' => w'.cell? ⟨w.heap.size, 0, none⟩ = some (.int .i64 (m : Int)) ∧ w'.cell? ⟨w.heap.size, 1, none⟩ = some (.int .i64 fr) ∧ w'.cell? ⟨w.heap.size, 2, none⟩ = some (.int .i64 to) ∧ w'.cell? ⟨w.heap.size, 3, none⟩ = some (.int .i64 gp) ∧ w'.cell? ⟨w.heap.size, 4, none⟩ = some (.int .i64 fi) ∧ w'.cell? ⟨w.heap.size, 5, none⟩ = some (.int .i64 fo) ∧ w'.cell? ⟨w.heap.size, 6, none⟩ = some (.int .i64 lv) ∧ w'.cell? ⟨w.heap.size, 7, none⟩ = some (.int .i64 ix) ∧ w'.cell? ⟨w.heap.size, 8, none⟩ = some (.int .i64 st) ∧ w'.cell? ⟨(ad.add (m * 2)).block, (ad.add (m * 2)).off + 1, none⟩ = some (.slice (some ad2) t.n t.c) ∧ w'.cell? (ad2.add (j * 2)) = some (.int .i64 s.1) ∧ w'.cell? ⟨(ad2.add (j * 2)).block, (ad2.add (j * 2)).off + 1, none⟩ = some (.int .i64 s.2)) (go_keep)
    (first | (go_at_call 73; refine (GG.out _).mono ?_; rintro e w1 ⟨rfl, hb1⟩; have HBK := Lib.hid (HBK.out.below hb1 HBK.out.lt); have HCL := Lib.hid (HCL.out.below hb1 HCL.out.lt); have y1 := (hb1.cell (p := ⟨(ad.add (m * 2)).block, (ad.add (m * 2)).off + 1, none⟩) (Nat.lt_of_lt_of_le hbl' HBW.out.size)).trans y1; have y2 := (hb1.cell (p := ad2.add (j * 2)) (Nat.lt_of_lt_of_le hbl2' HBW.out.size)).trans y2; have y3 := (hb1.cell (p := ⟨(ad2.add (j * 2)).block, (ad2.add (j * 2)).off + 1, none⟩) (Nat.lt_of_lt_of_le hbl2' HBW.out.size)).trans y3; have HBW := Lib.hid (HBW.out.trans (hb1.mono HBW.out.size)); have g0 := (HBK.out.cell 0).trans rfl; have g1 := (HBK.out.cell 1).trans rfl; have g2 := (HBK.out.cell 2).trans rfl; have g3 := (HBK.out.cell 3).trans rfl; have g4 := (HBK.out.cell 4).trans rfl; have g5 := (HBK.out.cell 5).trans rfl; have g6 := (HBK.out.cell 6).trans rfl; have g7 := (HBK.out.cell 7).trans rfl; have g8 := (HBK.out.cell 8).trans rfl; obtain ⟨t0, t1, u0, u1, tl⟩ := HCL.out.two; clear hb1) | (go_at_call 72; refine (BB.out _).mono ?_; rintro e w1 ⟨rfl, hb1⟩; have HBK := Lib.hid (HBK.out.below hb1 HBK.out.lt); have HCL := Lib.hid (HCL.out.below hb1 HCL.out.lt); have y1 := (hb1.cell (p := ⟨(ad.add (m * 2)).block, (ad.add (m * 2)).off + 1, none⟩) (Nat.lt_of_lt_of_le hbl' HBW.out.size)).trans y1; have y2 := (hb1.cell (p := ad2.add (j * 2)) (Nat.lt_of_lt_of_le hbl2' HBW.out.size)).trans y2; have y3 := (hb1.cell (p := ⟨(ad2.add (j * 2)).block, (ad2.add (j * 2)).off + 1, none⟩) (Nat.lt_of_lt_of_le hbl2' HBW.out.size)).trans y3; have HBW := Lib.hid (HBW.out.trans (hb1.mono HBW.out.size)); have g0 := (HBK.out.cell 0).trans rfl; have g1 := (HBK.out.cell 1).trans rfl; have g2 := (HBK.out.cell 2).trans rfl; have g3 := (HBK.out.cell 3).trans rfl; have g4 := (HBK.out.cell 4).trans rfl; have g5 := (HBK.out.cell 5).trans rfl; have g6 := (HBK.out.cell 6).trans rfl; have g7 := (HBK.out.cell 7).trans rfl; have g8 := (HBK.out.cell 8).trans rfl; obtain ⟨t0, t1, u0, u1, tl⟩ := HCL.out.two; clear hb1))
  all_goals
    go_wp2
    have e1 := Blk.two (a := .int .i64 (snd ⟨m, fr, to, gp, fi, fo, lv⟩ (to - fr) k s).1) (b := .int .i64 0) (HCL.out.set_ 0 (.int .i64 (snd ⟨m, fr, to, gp, fi, fo, lv⟩ (to - fr) k s).1))
    have e2 := Blk.two (a := .int .i64 (snd ⟨m, fr, to, gp, fi, fo, lv⟩ (to - fr) k s).1) (b := .int .i64 (snd ⟨m, fr, to, gp, fi, fo, lv⟩ (to - fr) k s).2) ((HCL.out.set_ 0 (.int .i64 (snd ⟨m, fr, to, gp, fi, fo, lv⟩ (to - fr) k s).1)).set_ 1 (.int .i64 (snd ⟨m, fr, to, gp, fi, fo, lv⟩ (to - fr) k s).2))
    refine bodyPost_ret (v := .agg #[.int .i64 (snd ⟨m, fr, to, gp, fi, fo, lv⟩ (to - fr) k s).1, .int .i64 (snd ⟨m, fr, to, gp, fi, fo, lv⟩ (to - fr) k s).2]) ?_ rfl ⟨rfl, ?_⟩
    · simp only [snd] at e1 e2 ⊢
      simp [results, Try.results50, go_sem, e1.1, e2.2.1]
    · exact (HBW.out.setCell (by simp) _).setCell (by simp) _
end Go.Proofs.Ytbcahkklhdnboaa
