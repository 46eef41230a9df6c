/-
  Contracts of gain, both at of, sound.
-/
import Derived.Test.YtjaomjbhkgijbaaMg5

namespace Go.Proofs.Ytjaomjbhkgijbaa
open Go.RowKit

/-- The bounds of a part's fades and level, and of a sample's number. -/
def FdOk (p : Prt) : Prop := 0 ≤ p.fi ∧ p.fi ≤ 1000 ∧ 0 ≤ p.fo ∧ p.fo ≤ 1000 ∧ 0 ≤ p.lv ∧ p.lv ≤ 4000

/-- The fraction by which a sample of a part is multiplied. -/
def gUp (p : Prt) (n k : Int) : Int := p.lv * (min k p.fi + 1) * min (n - k) (p.fo + 1)
def gDn (p : Prt) : Int := 1000 * (p.fi + 1) * (p.fo + 1)
theorem w64_in (n : Int) (h1 : -9223372036854775808 ≤ n) (h2 : n ≤ 9223372036854775807) : wrap64 n = n := by unfold wrap64; omega
theorem mul_bdB (a b m n : Int) (h1 : 0 ≤ a) (h2 : a ≤ m) (h3 : 0 ≤ b) (h4 : b ≤ n) : 0 ≤ a * b ∧ a * b ≤ m * n :=
  ⟨Int.mul_nonneg h1 h3, Int.le_trans (Int.mul_le_mul_of_nonneg_right h2 h3) (Int.mul_le_mul_of_nonneg_left h4 (by omega))⟩
theorem up_wrap (lv a b : Int) (h1 : 0 ≤ lv) (h2 : lv ≤ 4000) (h3 : 0 ≤ a) (h4 : a ≤ 1001) (h5 : 0 ≤ b) (h6 : b ≤ 1001) : wrap64 (wrap64 (lv * a) * b) = lv * a * b := by
  obtain ⟨x1, x2⟩ := mul_bdB lv a 4000 1001 h1 h2 h3 h4
  obtain ⟨y1, y2⟩ := mul_bdB (lv * a) b (4000 * 1001) 1001 x1 x2 h5 h6
  rw [w64_in (lv * a) (by omega) (by omega), w64_in _ (by omega) (by omega)]
theorem dn_wrap (fi fo : Int) (h1 : 0 ≤ fi) (h2 : fi ≤ 1000) (h3 : 0 ≤ fo) (h4 : fo ≤ 1000) : wrap64 (1000 * (fi + 1) * (fo + 1)) = 1000 * (fi + 1) * (fo + 1) := by
  obtain ⟨y1, y2⟩ := mul_bdB (1000 * (fi + 1)) (fo + 1) (1000 * 1001) 1001 (by omega) (by omega) (by omega) (by omega)
  exact w64_in _ (by omega) (by omega)

set_option maxRecDepth 100000 in
set_option maxHeartbeats 4000000 in
theorem gain_any (q : Pl) (k : Int) (w : World) (ho : PrOk q.p) (hf : FdOk q.p) (hk0 : 0 ≤ k) (hk1 : k < q.len) :
    Calls Try.prog 183 #[.agg #[.int .i64 q.p.tk, .int .i64 q.p.fr, .int .i64 q.p.to, .int .i64 q.p.gp, .int .i64 q.p.fi, .int .i64 q.p.fo, .int .i64 q.p.lv, .int .i64 q.ix, .int .i64 q.st], .int .i64 k] w fun e w' => e = .returned (.agg #[.int .i64 (gUp q.p q.len k), .int .i64 (gDn q.p)]) ∧ Below w.heap.size w w' := by
  obtain ⟨f1, f2, f3, f4, f5, f6⟩ := hf
  have HO := Lib.hid ho
  have hlen : -4096 ≤ q.len ∧ q.len ≤ 4096 := by obtain ⟨_, _, _, _, _⟩ := ho; unfold Pl.len; omega
  obtain ⟨l1, l2⟩ := hlen
  clear ho
  have HD : Hid (wrap64 (1000 * (q.p.fi + 1) * (q.p.fo + 1)) = gDn q.p) := Lib.hid (dn_wrap _ _ f1 f2 f3 f4)
  by_cases c1 : k ≤ q.p.fi <;> by_cases c2 : q.len - k ≤ q.p.fo + 1
  · have HU : Hid (wrap64 (wrap64 (q.p.lv * (k + 1)) * (q.len - k)) = gUp q.p q.len k) := Lib.hid (by
      rw [up_wrap _ _ _ f5 f6 (by omega) (by omega) (by omega) (by omega)]
      unfold gUp
      rw [show min k q.p.fi + 1 = k + 1 from by omega, show min (q.len - k) (q.p.fo + 1) = q.len - k from by omega])
    have w1 : IntKind.i64.wrap (q.len - k) = q.len - k := IntWalk.i64_in _ (by omega)
    have w2 : IntKind.i64.wrap (q.p.fo + 1) = q.p.fo + 1 := IntWalk.i64_in _ (by omega)
    go_enter Try.func183, Try.ntmps183
    go_wp2
    go_region_held3 (fun w' => w'.cell? ⟨w.heap.size, 0, none⟩ = some (.int .i64 q.p.tk) ∧ w'.cell? ⟨w.heap.size, 1, none⟩ = some (.int .i64 q.p.fr) ∧ w'.cell? ⟨w.heap.size, 2, none⟩ = some (.int .i64 q.p.to) ∧ w'.cell? ⟨w.heap.size, 3, none⟩ = some (.int .i64 q.p.gp) ∧ w'.cell? ⟨w.heap.size, 4, none⟩ = some (.int .i64 q.p.fi) ∧ w'.cell? ⟨w.heap.size, 5, none⟩ = some (.int .i64 q.p.fo) ∧ w'.cell? ⟨w.heap.size, 6, none⟩ = some (.int .i64 q.p.lv) ∧ w'.cell? ⟨w.heap.size, 7, none⟩ = some (.int .i64 q.ix) ∧ w'.cell? ⟨w.heap.size, 8, none⟩ = some (.int .i64 q.st)) (go_keep)
      (first | (go_at_call 150; refine (plen_any q _ HO.out).mono ?_; rintro e w1 ⟨rfl, hb1⟩; have hblk := (((Blk.new w 117 #[.int .i64 q.p.tk, .int .i64 q.p.fr, .int .i64 q.p.to, .int .i64 q.p.gp, .int .i64 q.p.fi, .int .i64 q.p.fo, .int .i64 q.p.lv, .int .i64 q.ix, .int .i64 q.st]).alloc (.cells #[.int .i64 0, .int .i64 0] 216)).drew).below hb1 (by simp; omega); have g0 := (hblk.cell 0).trans rfl; have g1 := (hblk.cell 1).trans rfl; have g2 := (hblk.cell 2).trans rfl; have g3 := (hblk.cell 3).trans rfl; have g4 := (hblk.cell 4).trans rfl; have g5 := (hblk.cell 5).trans rfl; have g6 := (hblk.cell 6).trans rfl; have g7 := (hblk.cell 7).trans rfl; have g8 := (hblk.cell 8).trans rfl; have hcl := ((Blk.new (w.alloc (.cells #[.int .i64 q.p.tk, .int .i64 q.p.fr, .int .i64 q.p.to, .int .i64 q.p.gp, .int .i64 q.p.fi, .int .i64 q.p.fo, .int .i64 q.p.lv, .int .i64 q.ix, .int .i64 q.st] 117)) 216 #[.int .i64 0, .int .i64 0]).drew).below hb1 (by simp); simp only [World.size_alloc] at hcl; have HCL := Lib.hid hcl; obtain ⟨t0, t1, u0, u1, tl⟩ := hcl.two; clear hcl hblk))
    have hbw : Below w.heap.size w w1 := ((((Below.refl _ _).alloc (Nat.le_refl _) _).alloc (by simp) _).drew).trans (hb1.mono (by simp; omega))
    clear hb1
    go_wp2
    rw [HU.out, HD.out]
    have e1 := Blk.two (a := .int .i64 (gUp q.p q.len k)) (b := .int .i64 0) (HCL.out.set_ 0 (.int .i64 (gUp q.p q.len k)))
    have e2 := Blk.two (a := .int .i64 (gUp q.p q.len k)) (b := .int .i64 (gDn q.p)) ((HCL.out.set_ 0 (.int .i64 (gUp q.p q.len k))).set_ 1 (.int .i64 (gDn q.p)))
    refine bodyPost_ret (v := .agg #[.int .i64 (gUp q.p q.len k), .int .i64 (gDn q.p)]) ?_ rfl ⟨rfl, ?_⟩
    · simp [results, Try.results183, go_sem, e1.1, e2.2.1]
    · exact (hbw.setCell (by simp) _).setCell (by simp) _
  · have HU : Hid (wrap64 (wrap64 (q.p.lv * (k + 1)) * (q.p.fo + 1)) = gUp q.p q.len k) := Lib.hid (by
      rw [up_wrap _ _ _ f5 f6 (by omega) (by omega) (by omega) (by omega)]
      unfold gUp
      rw [show min k q.p.fi + 1 = k + 1 from by omega, show min (q.len - k) (q.p.fo + 1) = q.p.fo + 1 from by omega])
    have w1 : IntKind.i64.wrap (q.len - k) = q.len - k := IntWalk.i64_in _ (by omega)
    have w2 : IntKind.i64.wrap (q.p.fo + 1) = q.p.fo + 1 := IntWalk.i64_in _ (by omega)
    go_enter Try.func183, Try.ntmps183
    go_wp2
    go_region_held3 (fun w' => w'.cell? ⟨w.heap.size, 0, none⟩ = some (.int .i64 q.p.tk) ∧ w'.cell? ⟨w.heap.size, 1, none⟩ = some (.int .i64 q.p.fr) ∧ w'.cell? ⟨w.heap.size, 2, none⟩ = some (.int .i64 q.p.to) ∧ w'.cell? ⟨w.heap.size, 3, none⟩ = some (.int .i64 q.p.gp) ∧ w'.cell? ⟨w.heap.size, 4, none⟩ = some (.int .i64 q.p.fi) ∧ w'.cell? ⟨w.heap.size, 5, none⟩ = some (.int .i64 q.p.fo) ∧ w'.cell? ⟨w.heap.size, 6, none⟩ = some (.int .i64 q.p.lv) ∧ w'.cell? ⟨w.heap.size, 7, none⟩ = some (.int .i64 q.ix) ∧ w'.cell? ⟨w.heap.size, 8, none⟩ = some (.int .i64 q.st)) (go_keep)
      (first | (go_at_call 150; refine (plen_any q _ HO.out).mono ?_; rintro e w1 ⟨rfl, hb1⟩; have hblk := (((Blk.new w 117 #[.int .i64 q.p.tk, .int .i64 q.p.fr, .int .i64 q.p.to, .int .i64 q.p.gp, .int .i64 q.p.fi, .int .i64 q.p.fo, .int .i64 q.p.lv, .int .i64 q.ix, .int .i64 q.st]).alloc (.cells #[.int .i64 0, .int .i64 0] 216)).drew).below hb1 (by simp; omega); have g0 := (hblk.cell 0).trans rfl; have g1 := (hblk.cell 1).trans rfl; have g2 := (hblk.cell 2).trans rfl; have g3 := (hblk.cell 3).trans rfl; have g4 := (hblk.cell 4).trans rfl; have g5 := (hblk.cell 5).trans rfl; have g6 := (hblk.cell 6).trans rfl; have g7 := (hblk.cell 7).trans rfl; have g8 := (hblk.cell 8).trans rfl; have hcl := ((Blk.new (w.alloc (.cells #[.int .i64 q.p.tk, .int .i64 q.p.fr, .int .i64 q.p.to, .int .i64 q.p.gp, .int .i64 q.p.fi, .int .i64 q.p.fo, .int .i64 q.p.lv, .int .i64 q.ix, .int .i64 q.st] 117)) 216 #[.int .i64 0, .int .i64 0]).drew).below hb1 (by simp); simp only [World.size_alloc] at hcl; have HCL := Lib.hid hcl; obtain ⟨t0, t1, u0, u1, tl⟩ := hcl.two; clear hcl hblk))
    have hbw : Below w.heap.size w w1 := ((((Below.refl _ _).alloc (Nat.le_refl _) _).alloc (by simp) _).drew).trans (hb1.mono (by simp; omega))
    clear hb1
    go_wp2
    rw [HU.out, HD.out]
    have e1 := Blk.two (a := .int .i64 (gUp q.p q.len k)) (b := .int .i64 0) (HCL.out.set_ 0 (.int .i64 (gUp q.p q.len k)))
    have e2 := Blk.two (a := .int .i64 (gUp q.p q.len k)) (b := .int .i64 (gDn q.p)) ((HCL.out.set_ 0 (.int .i64 (gUp q.p q.len k))).set_ 1 (.int .i64 (gDn q.p)))
    refine bodyPost_ret (v := .agg #[.int .i64 (gUp q.p q.len k), .int .i64 (gDn q.p)]) ?_ rfl ⟨rfl, ?_⟩
    · simp [results, Try.results183, go_sem, e1.1, e2.2.1]
    · exact (hbw.setCell (by simp) _).setCell (by simp) _
  · have HU : Hid (wrap64 (wrap64 (q.p.lv * (q.p.fi + 1)) * (q.len - k)) = gUp q.p q.len k) := Lib.hid (by
      rw [up_wrap _ _ _ f5 f6 (by omega) (by omega) (by omega) (by omega)]
      unfold gUp
      rw [show min k q.p.fi + 1 = q.p.fi + 1 from by omega, show min (q.len - k) (q.p.fo + 1) = q.len - k from by omega])
    have w1 : IntKind.i64.wrap (q.len - k) = q.len - k := IntWalk.i64_in _ (by omega)
    have w2 : IntKind.i64.wrap (q.p.fo + 1) = q.p.fo + 1 := IntWalk.i64_in _ (by omega)
    go_enter Try.func183, Try.ntmps183
    go_wp2
    go_region_held3 (fun w' => w'.cell? ⟨w.heap.size, 0, none⟩ = some (.int .i64 q.p.tk) ∧ w'.cell? ⟨w.heap.size, 1, none⟩ = some (.int .i64 q.p.fr) ∧ w'.cell? ⟨w.heap.size, 2, none⟩ = some (.int .i64 q.p.to) ∧ w'.cell? ⟨w.heap.size, 3, none⟩ = some (.int .i64 q.p.gp) ∧ w'.cell? ⟨w.heap.size, 4, none⟩ = some (.int .i64 q.p.fi) ∧ w'.cell? ⟨w.heap.size, 5, none⟩ = some (.int .i64 q.p.fo) ∧ w'.cell? ⟨w.heap.size, 6, none⟩ = some (.int .i64 q.p.lv) ∧ w'.cell? ⟨w.heap.size, 7, none⟩ = some (.int .i64 q.ix) ∧ w'.cell? ⟨w.heap.size, 8, none⟩ = some (.int .i64 q.st)) (go_keep)
      (first | (go_at_call 150; refine (plen_any q _ HO.out).mono ?_; rintro e w1 ⟨rfl, hb1⟩; have hblk := (((Blk.new w 117 #[.int .i64 q.p.tk, .int .i64 q.p.fr, .int .i64 q.p.to, .int .i64 q.p.gp, .int .i64 q.p.fi, .int .i64 q.p.fo, .int .i64 q.p.lv, .int .i64 q.ix, .int .i64 q.st]).alloc (.cells #[.int .i64 0, .int .i64 0] 216)).drew).below hb1 (by simp; omega); have g0 := (hblk.cell 0).trans rfl; have g1 := (hblk.cell 1).trans rfl; have g2 := (hblk.cell 2).trans rfl; have g3 := (hblk.cell 3).trans rfl; have g4 := (hblk.cell 4).trans rfl; have g5 := (hblk.cell 5).trans rfl; have g6 := (hblk.cell 6).trans rfl; have g7 := (hblk.cell 7).trans rfl; have g8 := (hblk.cell 8).trans rfl; have hcl := ((Blk.new (w.alloc (.cells #[.int .i64 q.p.tk, .int .i64 q.p.fr, .int .i64 q.p.to, .int .i64 q.p.gp, .int .i64 q.p.fi, .int .i64 q.p.fo, .int .i64 q.p.lv, .int .i64 q.ix, .int .i64 q.st] 117)) 216 #[.int .i64 0, .int .i64 0]).drew).below hb1 (by simp); simp only [World.size_alloc] at hcl; have HCL := Lib.hid hcl; obtain ⟨t0, t1, u0, u1, tl⟩ := hcl.two; clear hcl hblk))
    have hbw : Below w.heap.size w w1 := ((((Below.refl _ _).alloc (Nat.le_refl _) _).alloc (by simp) _).drew).trans (hb1.mono (by simp; omega))
    clear hb1
    go_wp2
    rw [HU.out, HD.out]
    have e1 := Blk.two (a := .int .i64 (gUp q.p q.len k)) (b := .int .i64 0) (HCL.out.set_ 0 (.int .i64 (gUp q.p q.len k)))
    have e2 := Blk.two (a := .int .i64 (gUp q.p q.len k)) (b := .int .i64 (gDn q.p)) ((HCL.out.set_ 0 (.int .i64 (gUp q.p q.len k))).set_ 1 (.int .i64 (gDn q.p)))
    refine bodyPost_ret (v := .agg #[.int .i64 (gUp q.p q.len k), .int .i64 (gDn q.p)]) ?_ rfl ⟨rfl, ?_⟩
    · simp [results, Try.results183, go_sem, e1.1, e2.2.1]
    · exact (hbw.setCell (by simp) _).setCell (by simp) _
  · have HU : Hid (wrap64 (wrap64 (q.p.lv * (q.p.fi + 1)) * (q.p.fo + 1)) = gUp q.p q.len k) := Lib.hid (by
      rw [up_wrap _ _ _ f5 f6 (by omega) (by omega) (by omega) (by omega)]
      unfold gUp
      rw [show min k q.p.fi + 1 = q.p.fi + 1 from by omega, show min (q.len - k) (q.p.fo + 1) = q.p.fo + 1 from by omega])
    have w1 : IntKind.i64.wrap (q.len - k) = q.len - k := IntWalk.i64_in _ (by omega)
    have w2 : IntKind.i64.wrap (q.p.fo + 1) = q.p.fo + 1 := IntWalk.i64_in _ (by omega)
    go_enter Try.func183, Try.ntmps183
    go_wp2
    go_region_held3 (fun w' => w'.cell? ⟨w.heap.size, 0, none⟩ = some (.int .i64 q.p.tk) ∧ w'.cell? ⟨w.heap.size, 1, none⟩ = some (.int .i64 q.p.fr) ∧ w'.cell? ⟨w.heap.size, 2, none⟩ = some (.int .i64 q.p.to) ∧ w'.cell? ⟨w.heap.size, 3, none⟩ = some (.int .i64 q.p.gp) ∧ w'.cell? ⟨w.heap.size, 4, none⟩ = some (.int .i64 q.p.fi) ∧ w'.cell? ⟨w.heap.size, 5, none⟩ = some (.int .i64 q.p.fo) ∧ w'.cell? ⟨w.heap.size, 6, none⟩ = some (.int .i64 q.p.lv) ∧ w'.cell? ⟨w.heap.size, 7, none⟩ = some (.int .i64 q.ix) ∧ w'.cell? ⟨w.heap.size, 8, none⟩ = some (.int .i64 q.st)) (go_keep)
      (first | (go_at_call 150; refine (plen_any q _ HO.out).mono ?_; rintro e w1 ⟨rfl, hb1⟩; have hblk := (((Blk.new w 117 #[.int .i64 q.p.tk, .int .i64 q.p.fr, .int .i64 q.p.to, .int .i64 q.p.gp, .int .i64 q.p.fi, .int .i64 q.p.fo, .int .i64 q.p.lv, .int .i64 q.ix, .int .i64 q.st]).alloc (.cells #[.int .i64 0, .int .i64 0] 216)).drew).below hb1 (by simp; omega); have g0 := (hblk.cell 0).trans rfl; have g1 := (hblk.cell 1).trans rfl; have g2 := (hblk.cell 2).trans rfl; have g3 := (hblk.cell 3).trans rfl; have g4 := (hblk.cell 4).trans rfl; have g5 := (hblk.cell 5).trans rfl; have g6 := (hblk.cell 6).trans rfl; have g7 := (hblk.cell 7).trans rfl; have g8 := (hblk.cell 8).trans rfl; have hcl := ((Blk.new (w.alloc (.cells #[.int .i64 q.p.tk, .int .i64 q.p.fr, .int .i64 q.p.to, .int .i64 q.p.gp, .int .i64 q.p.fi, .int .i64 q.p.fo, .int .i64 q.p.lv, .int .i64 q.ix, .int .i64 q.st] 117)) 216 #[.int .i64 0, .int .i64 0]).drew).below hb1 (by simp); simp only [World.size_alloc] at hcl; have HCL := Lib.hid hcl; obtain ⟨t0, t1, u0, u1, tl⟩ := hcl.two; clear hcl hblk))
    have hbw : Below w.heap.size w w1 := ((((Below.refl _ _).alloc (Nat.le_refl _) _).alloc (by simp) _).drew).trans (hb1.mono (by simp; omega))
    clear hb1
    go_wp2
    rw [HU.out, HD.out]
    have e1 := Blk.two (a := .int .i64 (gUp q.p q.len k)) (b := .int .i64 0) (HCL.out.set_ 0 (.int .i64 (gUp q.p q.len k)))
    have e2 := Blk.two (a := .int .i64 (gUp q.p q.len k)) (b := .int .i64 (gDn q.p)) ((HCL.out.set_ 0 (.int .i64 (gUp q.p q.len k))).set_ 1 (.int .i64 (gDn q.p)))
    refine bodyPost_ret (v := .agg #[.int .i64 (gUp q.p q.len k), .int .i64 (gDn q.p)]) ?_ rfl ⟨rfl, ?_⟩
    · simp [results, Try.results183, go_sem, e1.1, e2.2.1]
    · exact (hbw.setCell (by simp) _).setCell (by simp) _

set_option maxHeartbeats 1000000 in
theorem bothOf_any (l r u d : Int) (w : World) (hd : 0 < d) (hd' : d ≤ 9223372036854775807) (hm : -9223372036854775807 ≤ l * u) (hm' : l * u ≤ 9223372036854775807) (hr : -9223372036854775807 ≤ r * u) (hr' : r * u ≤ 9223372036854775807) :
    Calls Try.prog 182 #[.agg #[.int .i64 l, .int .i64 r], .func (.func 184) #[.agg #[.int .i64 u, .int .i64 d]] #[]] w fun e w' => e = .returned (.agg #[.int .i64 ((l * u).tdiv d), .int .i64 ((r * u).tdiv d)]) ∧ Below w.heap.size w w' := by
  have L := fun W => of_any l u d W hd hd' hm hm'
  have R := fun W => of_any r u d W hd hd' hr hr'
  have HL := Lib.hid L
  have HR := Lib.hid R
  clear L R hd hd' hm hm' hr hr'
  go_enter Try.func182, Try.ntmps182
  go_wp2
  have HBK := Lib.hid ((((Blk.new w 75 #[.int .i64 l, .int .i64 r]).alloc (.cells #[.int .i64 0, .int .i64 0] 75)).drew))
  have HCL := Lib.hid ((Blk.new (w.alloc (.cells #[.int .i64 l, .int .i64 r] 75)) 75 #[.int .i64 0, .int .i64 0]).drew)
  have HBW := Lib.hid (((Below.refl w.heap.size w).alloc (Nat.le_refl _) (.cells #[.int .i64 l, .int .i64 r] 75)).alloc (by simp) (.cells #[.int .i64 0, .int .i64 0] 75)).drew
  rw [World.size_alloc] at HCL
  go_region_held3 (fun w' => w'.cell? ⟨w.heap.size, 0, none⟩ = some (.int .i64 l) ∧ w'.cell? ⟨w.heap.size, 1, none⟩ = some (.int .i64 r)) (go_keep)
    (first | ((with_reducible refine (HL.out _).mono ?_); rintro e w1 ⟨rfl, hb1⟩; have HBK := Lib.hid (HBK.out.below hb1 HBK.out.lt); have HCL := Lib.hid (HCL.out.below hb1 HCL.out.lt); have HBW := Lib.hid (HBW.out.trans (hb1.mono HBW.out.size)); obtain ⟨x0, x1, y0, y1, xl⟩ := HBK.out.two; obtain ⟨t0, t1, u0, u1, tl⟩ := HCL.out.two; clear hb1) | ((with_reducible refine (HR.out _).mono ?_); rintro e w1 ⟨rfl, hb1⟩; have HBK := Lib.hid (HBK.out.below hb1 HBK.out.lt); have HCL := Lib.hid (HCL.out.below hb1 HCL.out.lt); have HBW := Lib.hid (HBW.out.trans (hb1.mono HBW.out.size)); obtain ⟨x0, x1, y0, y1, xl⟩ := HBK.out.two; obtain ⟨t0, t1, u0, u1, tl⟩ := HCL.out.two; clear hb1))
  all_goals
    go_wp2
    have e1 := Blk.two (a := .int .i64 ((l * u).tdiv d)) (b := .int .i64 0) (HCL.out.set_ 0 (.int .i64 ((l * u).tdiv d)))
    have e2 := Blk.two (a := .int .i64 ((l * u).tdiv d)) (b := .int .i64 ((r * u).tdiv d)) ((HCL.out.set_ 0 (.int .i64 ((l * u).tdiv d))).set_ 1 (.int .i64 ((r * u).tdiv d)))
    refine bodyPost_ret (v := .agg #[.int .i64 ((l * u).tdiv d), .int .i64 ((r * u).tdiv d)]) ?_ rfl ⟨rfl, ?_⟩
    · simp [results, Try.results182, go_sem, e1.1, e2.2.1]
    · exact (HBW.out.setCell (by simp) _).setCell (by simp) _
end Go.Proofs.Ytjaomjbhkgijbaa

