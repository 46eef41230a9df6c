/-
  What can be heard near a sample: heard.
-/
import Derived.Test.YtjdnpgilinfkgaaHA
import Derived.Test.YtjdnpgilinfkgaaM5
namespace Go.Proofs.Ytjdnpgilinfkgaa
open Go.RowKit

/-- The greatest number that f has on some indexes. -/
def mxL (f : Nat → Int) (us : List Nat) : Int := -mnL (fun u => -f u) us
/-- What can be heard near some samples of what is read at least, and at most: In from, to; Out from, to. -/
structure Hrd where
  (a b c d : Int)
deriving DecidableEq
def Hrd.val (h : Hrd) : Value := .agg #[.int .i64 h.a, .int .i64 h.b, .int .i64 h.c, .int .i64 h.d]
def Hrd.cells (h : Hrd) : List Value := [.int .i64 h.a, .int .i64 h.b, .int .i64 h.c, .int .i64 h.d]
def hdL (N W : List Smp) (us : List Nat) : Hrd := ⟨-mxL (innW W) us, -mnL (innW N) us, mnL (outW N) us, mxL (outW W) us⟩
theorem Blk.four {w : World} {g : Nat} {t : TypeId} {a b c d : Value} (h : Blk w g t #[a, b, c, d]) : w.cell? ⟨g, 0, none⟩ = some a ∧ w.cell? ⟨g, 1, none⟩ = some b ∧ w.cell? ⟨g, 2, none⟩ = some c ∧ w.cell? ⟨g, 3, none⟩ = some d ∧ (w.frozen? ⟨g, 0, none⟩ = false ∧ w.frozen? ⟨g, 1, none⟩ = false ∧ w.frozen? ⟨g, 2, none⟩ = false ∧ w.frozen? ⟨g, 3, none⟩ = false) :=
  ⟨(h.cell 0).trans rfl, (h.cell 1).trans rfl, (h.cell 2).trans rfl, (h.cell 3).trans rfl, h.frozen 0, h.frozen 1, h.frozen 2, h.frozen 3⟩
theorem MetIs.inner (B : Nat) (A : Option Addr) (n c : Nat) (l : List Smp) (t far : Nat) (w : World) (h0 : RS w B A n l) (hB : B ≤ w.heap.size) (he : Edg l) : MetIs w 107 104 "deadwax/play.inner" (.slice A n c) (nbr t far n) (innW l) :=
  ⟨fun _ _ => by kernel_rfl, (FunIs.inner B A n c l t far w h0 hB he).ent, fun u hu W hW => (FunIs.inner B A n c l t far w h0 hB he).run u hu W hW⟩
theorem MetIs.outer (B : Nat) (A : Option Addr) (n c : Nat) (l : List Smp) (t far : Nat) (w : World) (h0 : RS w B A n l) (hB : B ≤ w.heap.size) : MetIs w 106 104 "deadwax/play.outer" (.slice A n c) (nbr t far n) (outW l) :=
  ⟨fun _ _ => by kernel_rfl, (FunIs.outer B A n c l t far w h0 hB).ent, fun u hu W hW => (FunIs.outer B A n c l t far w h0 hB).run u hu W hW⟩

set_option maxRecDepth 100000 in
set_option maxHeartbeats 4000000 in
theorem heard_any (B gi : Nat) (lb : Array Value) (A A' : Option Addr) (n c c' t far : Nat) (N L : List Smp) (w : World) (h0 : RS w B A n N) (h1 : RS w B A' n L) (hB : B ≤ w.heap.size) (hs : SeqIs w gi lb (nbr t far n)) (ht : t < n)
    (hN : Edg N) (hL : Edg L) :
    Calls Try.prog 64 #[.func (.func gi) #[] lb, .iface 104 (.slice A n c), .iface 104 (.slice A' n c')] w fun e w' => e = .returned (hdL N L (nbr t far n)).val ∧ Below w.heap.size w w' := by
  have hne : nbr t far n ≠ [] := List.ne_nil_of_mem (nbr_self ht)
  have q1 := h0.1
  have q2 := h1.1
  have bi : ∀ u ∈ nbr t far n, -4611686018427387904 ≤ innW L u ∧ innW L u ≤ 4611686018427387904 := fun u hu => by have := hL.1 u (by have := nbr_lt hu; omega); omega
  have bo : ∀ u ∈ nbr t far n, -4611686018427387904 ≤ outW L u ∧ outW L u ≤ 4611686018427387904 := fun u hu => by have := hL.2 u (by have := nbr_lt hu; omega); omega
  have bj : ∀ u ∈ nbr t far n, -4611686018427387904 ≤ innW N u ∧ innW N u ≤ 4611686018427387904 := fun u hu => by have := hN.1 u (by have := nbr_lt hu; omega); omega
  have EI := Lib.hid (fun W (h : Below w.heap.size w W) => extent_any gi lb _ _ _ _ _ _ _ _ _ _ _ W (hs.below h) (MetIs.inner B A n c N t far W (h0.below h hB) (Nat.le_trans hB h.size) hN) (MetIs.inner B A' n c' L t far W (h1.below h hB) (Nat.le_trans hB h.size) hL) hne bi)
  have EO := Lib.hid (fun W (h : Below w.heap.size w W) => extent_any gi lb _ _ _ _ _ _ _ _ _ _ _ W (hs.below h) (MetIs.outer B A n c N t far W (h0.below h hB) (Nat.le_trans hB h.size)) (MetIs.outer B A' n c' L t far W (h1.below h hB) (Nat.le_trans hB h.size)) hne bo)
  have m1 : -4611686018427387904 ≤ mnL (innW N) (nbr t far n) ∧ mnL (innW N) (nbr t far n) ≤ 4611686018427387904 := by
    obtain ⟨u, hu, e⟩ := mnL_at (f := innW N) hne (fun u hu => by have := bj u hu; omega)
    have := bj u hu
    rw [e]; omega
  have m2 : -4611686018427387904 ≤ mxL (innW L) (nbr t far n) ∧ mxL (innW L) (nbr t far n) ≤ 4611686018427387904 := by
    unfold mxL
    obtain ⟨u, hu, e⟩ := mnL_at (f := fun u => -innW L u) hne (fun u hu => by have := bi u hu; omega)
    have := bi u hu
    rw [e]; omega
  unfold hdL Hrd.val
  dsimp only
  change Hid (∀ W, Below w.heap.size w W → Calls _ _ _ W fun e w' => e = .returned (.agg #[.int .i64 (mnL (innW N) (nbr t far n)), .int .i64 (mxL (innW L) (nbr t far n))]) ∧ _) at EI
  change Hid (∀ W, Below w.heap.size w W → Calls _ _ _ W fun e w' => e = .returned (.agg #[.int .i64 (mnL (outW N) (nbr t far n)), .int .i64 (mxL (outW L) (nbr t far n))]) ∧ _) at EO
  obtain ⟨x1, hx1⟩ : ∃ x, mnL (innW N) (nbr t far n) = x := ⟨_, rfl⟩
  obtain ⟨x2, hx2⟩ : ∃ x, mxL (innW L) (nbr t far n) = x := ⟨_, rfl⟩
  obtain ⟨x3, hx3⟩ : ∃ x, mnL (outW N) (nbr t far n) = x := ⟨_, rfl⟩
  obtain ⟨x4, hx4⟩ : ∃ x, mxL (outW L) (nbr t far n) = x := ⟨_, rfl⟩
  rw [hx1, hx2] at EI
  rw [hx3, hx4] at EO
  rw [hx1] at m1
  rw [hx2] at m2
  rw [hx1, hx2, hx3, hx4]
  have MI := Lib.hid (fun W => mirrored_any x1 x2 W m1 m2)
  clear hx1 hx2 hx3 hx4 m1 m2 bi bo bj hne q1 q2 h0 h1 hs hN hL hB ht
  go_enter Try.func64, Try.ntmps64
  go_upto_region 1 with fail
  obtain ⟨w1, hW⟩ : ∃ W, w.alloc (.cells #[.int .i64 0, .int .i64 0, .int .i64 0, .int .i64 0] 44) = W := ⟨_, rfl⟩
  have hb : Below w.heap.size w w1 := by rw [← hW]; exact (Below.refl _ _).alloc (Nat.le_refl _) _
  have hsz1 := hb.size
  have KA : Hid (Blk w1 w.heap.size 44 #[.int .i64 0, .int .i64 0, .int .i64 0, .int .i64 0]) := Lib.hid (by rw [← hW]; exact Blk.new _ _ _)
  have HB := Lib.hid hb
  try rw [hW]
  clear hW hb
  obtain ⟨z0, z1, z2, z3, z4⟩ := KA.out.four
  go_wp2_with fail
  refine wp_region_held_drew (S := fun w' => w.heap.size < w'.heap.size) (by kernel_rfl) (by first | exact KA.out.lt | (have := KA.out.lt; simpa using this)) (fun hHeld => ?_)
  obtain ⟨w2, hwd⟩ : ∃ wd, w1.drew = wd := ⟨_, rfl⟩
  have hb : Below w1.heap.size w1 w2 := by rw [← hwd]; exact (Below.refl _ _).drew
  have hsz2 := hb.size
  replace KA := Lib.hid (KA.out.below hb KA.out.lt)
  replace HB := Lib.hid (HB.out.trans (hb.mono (by omega)))
  rw [hwd] at hHeld ⊢
  clear hb hwd
  obtain ⟨z0, z1, z2, z3, z4⟩ := KA.out.four
  refine wpAnyH_take (i := 0) (oi := { dst := some 7, op := Go.Op.move (Go.Operand.tmp 0), type := 113, pos := "hear.go:30", after := #[], guard := none }) (v := ?vt2001) rfl (by kernel_rfl) (by kernel_rfl) (by kernel_rfl) (fun _ _ _ h => h) (Or.inl ⟨by rfl, ?ht2001⟩) hHeld ?_
  case ht2001 => intro w hSw; (try dsimp only at hSw); go_simp; try with_reducible rfl
  simp only [Act.put, List.setIfInBounds_toArray, List.set_cons_zero, List.set_cons_succ]
  refine wpAnyH_take (i := 1) (oi := { dst := some 8, op := Go.Op.move (Go.Operand.tmp 1), type := 148, pos := "hear.go:30", after := #[], guard := none }) (v := ?vt2002) rfl (by kernel_rfl) (by kernel_rfl) (by kernel_rfl) (fun _ _ _ h => h) (Or.inl ⟨by rfl, ?ht2002⟩) hHeld ?_
  case ht2002 => intro w hSw; (try dsimp only at hSw); go_simp; try with_reducible rfl
  simp only [Act.put, List.setIfInBounds_toArray, List.set_cons_zero, List.set_cons_succ]
  refine wpAnyH_take (i := 2) (oi := { dst := some 9, op := Go.Op.nilCheck (Go.Operand.tmp 8), type := 148, pos := "hear.go:30", after := #[{ on := 1, ground := Go.Ground.data }], guard := none }) (v := ?vt2003) rfl (by kernel_rfl) (by kernel_rfl) (by kernel_rfl) (fun _ _ _ h => h) (Or.inl ⟨by rfl, ?ht2003⟩) hHeld ?_
  case ht2003 => intro w hSw; (try dsimp only at hSw); go_simp; try with_reducible rfl
  simp only [Act.put, List.setIfInBounds_toArray, List.set_cons_zero, List.set_cons_succ]
  refine wpAnyH_take (i := 3) (oi := { dst := some 10, op := Go.Op.makeFunc (Go.Fn.method "deadwax/play.inner") #[Go.Operand.tmp 9] #[], type := 149, pos := "hear.go:30", after := #[{ on := 2, ground := Go.Ground.data }], guard := none }) (v := ?vt2004) rfl (by kernel_rfl) (by kernel_rfl) (by kernel_rfl) (fun _ _ _ h => h) (Or.inl ⟨by rfl, ?ht2004⟩) hHeld ?_
  case ht2004 => intro w hSw; (try dsimp only at hSw); go_simp; try with_reducible rfl
  simp only [Act.put, List.setIfInBounds_toArray, List.set_cons_zero, List.set_cons_succ]
  refine wpAnyH_take (i := 4) (oi := { dst := some 11, op := Go.Op.move (Go.Operand.tmp 2), type := 148, pos := "hear.go:30", after := #[], guard := none }) (v := ?vt2005) rfl (by kernel_rfl) (by kernel_rfl) (by kernel_rfl) (fun _ _ _ h => h) (Or.inl ⟨by rfl, ?ht2005⟩) hHeld ?_
  case ht2005 => intro w hSw; (try dsimp only at hSw); go_simp; try with_reducible rfl
  simp only [Act.put, List.setIfInBounds_toArray, List.set_cons_zero, List.set_cons_succ]
  refine wpAnyH_take (i := 5) (oi := { dst := some 12, op := Go.Op.nilCheck (Go.Operand.tmp 11), type := 148, pos := "hear.go:30", after := #[{ on := 4, ground := Go.Ground.data }], guard := none }) (v := ?vt2006) rfl (by kernel_rfl) (by kernel_rfl) (by kernel_rfl) (fun _ _ _ h => h) (Or.inl ⟨by rfl, ?ht2006⟩) hHeld ?_
  case ht2006 => intro w hSw; (try dsimp only at hSw); go_simp; try with_reducible rfl
  simp only [Act.put, List.setIfInBounds_toArray, List.set_cons_zero, List.set_cons_succ]
  refine wpAnyH_take (i := 6) (oi := { dst := some 13, op := Go.Op.makeFunc (Go.Fn.method "deadwax/play.inner") #[Go.Operand.tmp 12] #[], type := 149, pos := "hear.go:30", after := #[{ on := 5, ground := Go.Ground.data }], guard := none }) (v := ?vt2007) rfl (by kernel_rfl) (by kernel_rfl) (by kernel_rfl) (fun _ _ _ h => h) (Or.inl ⟨by rfl, ?ht2007⟩) hHeld ?_
  case ht2007 => intro w hSw; (try dsimp only at hSw); go_simp; try with_reducible rfl
  simp only [Act.put, List.setIfInBounds_toArray, List.set_cons_zero, List.set_cons_succ]
  refine wpAnyH_take (i := 9) (oi := { dst := some 16, op := Go.Op.move (Go.Operand.tmp 0), type := 113, pos := "hear.go:30", after := #[], guard := none }) (v := ?vt2008) rfl (by kernel_rfl) (by kernel_rfl) (by kernel_rfl) (fun _ _ _ h => h) (Or.inl ⟨by rfl, ?ht2008⟩) hHeld ?_
  case ht2008 => intro w hSw; (try dsimp only at hSw); go_simp; try with_reducible rfl
  simp only [Act.put, List.setIfInBounds_toArray, List.set_cons_zero, List.set_cons_succ]
  refine wpAnyH_take (i := 10) (oi := { dst := some 17, op := Go.Op.move (Go.Operand.tmp 1), type := 148, pos := "hear.go:30", after := #[], guard := none }) (v := ?vt2009) rfl (by kernel_rfl) (by kernel_rfl) (by kernel_rfl) (fun _ _ _ h => h) (Or.inl ⟨by rfl, ?ht2009⟩) hHeld ?_
  case ht2009 => intro w hSw; (try dsimp only at hSw); go_simp; try with_reducible rfl
  simp only [Act.put, List.setIfInBounds_toArray, List.set_cons_zero, List.set_cons_succ]
  refine wpAnyH_take (i := 11) (oi := { dst := some 18, op := Go.Op.nilCheck (Go.Operand.tmp 17), type := 148, pos := "hear.go:30", after := #[{ on := 10, ground := Go.Ground.data }], guard := none }) (v := ?vt2010) rfl (by kernel_rfl) (by kernel_rfl) (by kernel_rfl) (fun _ _ _ h => h) (Or.inl ⟨by rfl, ?ht2010⟩) hHeld ?_
  case ht2010 => intro w hSw; (try dsimp only at hSw); go_simp; try with_reducible rfl
  simp only [Act.put, List.setIfInBounds_toArray, List.set_cons_zero, List.set_cons_succ]
  refine wpAnyH_take (i := 12) (oi := { dst := some 19, op := Go.Op.makeFunc (Go.Fn.method "deadwax/play.outer") #[Go.Operand.tmp 18] #[], type := 149, pos := "hear.go:30", after := #[{ on := 11, ground := Go.Ground.data }], guard := none }) (v := ?vt2011) rfl (by kernel_rfl) (by kernel_rfl) (by kernel_rfl) (fun _ _ _ h => h) (Or.inl ⟨by rfl, ?ht2011⟩) hHeld ?_
  case ht2011 => intro w hSw; (try dsimp only at hSw); go_simp; try with_reducible rfl
  simp only [Act.put, List.setIfInBounds_toArray, List.set_cons_zero, List.set_cons_succ]
  refine wpAnyH_take (i := 13) (oi := { dst := some 20, op := Go.Op.move (Go.Operand.tmp 2), type := 148, pos := "hear.go:30", after := #[], guard := none }) (v := ?vt2012) rfl (by kernel_rfl) (by kernel_rfl) (by kernel_rfl) (fun _ _ _ h => h) (Or.inl ⟨by rfl, ?ht2012⟩) hHeld ?_
  case ht2012 => intro w hSw; (try dsimp only at hSw); go_simp; try with_reducible rfl
  simp only [Act.put, List.setIfInBounds_toArray, List.set_cons_zero, List.set_cons_succ]
  refine wpAnyH_take (i := 14) (oi := { dst := some 21, op := Go.Op.nilCheck (Go.Operand.tmp 20), type := 148, pos := "hear.go:30", after := #[{ on := 13, ground := Go.Ground.data }], guard := none }) (v := ?vt2013) rfl (by kernel_rfl) (by kernel_rfl) (by kernel_rfl) (fun _ _ _ h => h) (Or.inl ⟨by rfl, ?ht2013⟩) hHeld ?_
  case ht2013 => intro w hSw; (try dsimp only at hSw); go_simp; try with_reducible rfl
  simp only [Act.put, List.setIfInBounds_toArray, List.set_cons_zero, List.set_cons_succ]
  refine wpAnyH_take (i := 15) (oi := { dst := some 22, op := Go.Op.makeFunc (Go.Fn.method "deadwax/play.outer") #[Go.Operand.tmp 21] #[], type := 149, pos := "hear.go:30", after := #[{ on := 14, ground := Go.Ground.data }], guard := none }) (v := ?vt2014) rfl (by kernel_rfl) (by kernel_rfl) (by kernel_rfl) (fun _ _ _ h => h) (Or.inl ⟨by rfl, ?ht2014⟩) hHeld ?_
  case ht2014 => intro w hSw; (try dsimp only at hSw); go_simp; try with_reducible rfl
  simp only [Act.put, List.setIfInBounds_toArray, List.set_cons_zero, List.set_cons_succ]
  refine wpAnyH_ready (rs := [7]) (by kernel_rfl) (by simp) ?_
  refine AllReadyH.cons rfl (fun K hK => ?_) AllReadyH.nil
  go_simp
  have CALL := EI.out _ HB.out
  refine CALL.mono ?_
  rintro e w3 ⟨rfl, hb⟩
  clear CALL
  have hsz3 := hb.size
  replace KA := Lib.hid (KA.out.below hb KA.out.lt)
  replace HB := Lib.hid (HB.out.trans (hb.mono (by omega)))
  clear hb
  obtain ⟨z0, z1, z2, z3, z4⟩ := KA.out.four
  refine hK.out _ _ ?_ (fun hH2015 => ?_)
  · exact (by first | exact KA.out.lt | (have := KA.out.lt; simpa using this))
  clear hK K
  refine wpAnyH_ready (rs := [8]) (by kernel_rfl) (by simp) ?_
  refine AllReadyH.cons rfl (fun K hK => ?_) AllReadyH.nil
  go_simp
  have CALL := MI.out w3
  refine CALL.mono ?_
  rintro e w4 ⟨rfl, hb⟩
  clear CALL
  have hsz4 := hb.size
  replace KA := Lib.hid (KA.out.below hb KA.out.lt)
  replace HB := Lib.hid (HB.out.trans (hb.mono (by omega)))
  clear hb
  obtain ⟨z0, z1, z2, z3, z4⟩ := KA.out.four
  refine hK.out _ _ ?_ (fun hH2016 => ?_)
  · exact (by first | exact KA.out.lt | (have := KA.out.lt; simpa using this))
  clear hK K
  refine wpAnyH_ready (rs := [16]) (by kernel_rfl) (by simp) ?_
  refine AllReadyH.cons rfl (fun K hK => ?_) AllReadyH.nil
  go_simp
  have CALL := EO.out _ HB.out
  refine CALL.mono ?_
  rintro e w5 ⟨rfl, hb⟩
  clear CALL
  have hsz5 := hb.size
  replace KA := Lib.hid (KA.out.below hb KA.out.lt)
  replace HB := Lib.hid (HB.out.trans (hb.mono (by omega)))
  clear hb
  obtain ⟨z0, z1, z2, z3, z4⟩ := KA.out.four
  refine hK.out _ _ ?_ (fun hH2017 => ?_)
  · exact (by first | exact KA.out.lt | (have := KA.out.lt; simpa using this))
  clear hK K
  refine wpAnyH_take (i := 17) (oi := { dst := some 24, op := Go.Op.build 44 #[(0, Go.Operand.tmp 15), (1, Go.Operand.tmp 23)], type := 44, pos := "hear.go:30", after := #[{ on := 8, ground := Go.Ground.data }, { on := 16, ground := Go.Ground.data }], guard := none }) (v := ?vt2018) rfl (by kernel_rfl) (by kernel_rfl) (by kernel_rfl) (fun _ _ _ h => h) (Or.inl ⟨by rfl, ?ht2018⟩) hH2017 ?_
  case ht2018 => intro w hSw; (try dsimp only at hSw); go_simp; try with_reducible rfl
  simp only [Act.put, List.setIfInBounds_toArray, List.set_cons_zero, List.set_cons_succ]
  refine wpAnyH_ready (rs := [18]) (by kernel_rfl) (by simp) ?_
  refine AllReadyH.cons rfl (fun K hK => ?_) AllReadyH.nil
  go_simp
  skip
  refine hK.out _ _ ?_ (fun hH2019 => ?_)
  · exact (by first | exact KA.out.lt | (have := KA.out.lt; simpa using this))
  clear hK K
  refine wpAnyH_done (by kernel_rfl) ?_ _
  have KF := Lib.hid ((((KA.out.set_ 0 (.int .i64 (-x2))).set_ 1 (.int .i64 (-x1))).set_ 2 (.int .i64 x3)).set_ 3 (.int .i64 x4))
  have g0 := (KF.out.cell 0).trans rfl
  have g1 := (KF.out.cell 1).trans rfl
  have g2 := (KF.out.cell 2).trans rfl
  have g3 := (KF.out.cell 3).trans rfl
  clear z0 z1 z2 z3 z4
  go_wp2
  refine ⟨rfl, .agg #[.int .i64 (-x2), .int .i64 (-x1), .int .i64 x3, .int .i64 x4], ?_, rfl, (((HB.out.setCell (p := ⟨w.heap.size, 0, none⟩) (Nat.le_refl _) _).setCell (p := ⟨w.heap.size, 1, none⟩) (Nat.le_refl _) _).setCell (p := ⟨w.heap.size, 2, none⟩) (Nat.le_refl _) _).setCell (p := ⟨w.heap.size, 3, none⟩) (Nat.le_refl _) _⟩
  simp [results, Try.results64, go_sem, g0, g1, g2, g3]
end Go.Proofs.Ytjdnpgilinfkgaa
