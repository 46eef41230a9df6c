/-
  The walk of PlayKnown, with what it wants of what can be heard and of wows (extent, heard, Hear, Wow), in one text.
-/
import Derived.Test.YtjdnpgilinfkgaaNZ
import Derived.Test.YtjdnpgilinfkgaaMD
import Derived.Deep.Cut
import Derived.Test.YtjdnpgilinfkgaaM5
import Derived.Test.YtjdnpgilinfkgaaM9
import Derived.Test.YtjdnpgilinfkgaaND
import Derived.Test.YtjdnpgilinfkgaaMA
import Derived.Test.YtjdnpgilinfkgaaMK
import Derived.Test.YtjdnpgilinfkgaaNS
import Derived.Test.YtjdnpgilinfkgaaNV
import Derived.Test.YtjdnpgilinfkgaaNE
import Derived.Test.YtjdnpgilinfkgaaNI
import Derived.Test.YtjdnpgilinfkgaaMM
import Derived.Test.YtjdnpgilinfkgaaMF
namespace Go.Proofs.Ytjdnpgilinfkgaa
open Go.RowKit


set_option maxRecDepth 100000 in
set_option maxHeartbeats 4000000 in
theorem extent_any (gi : Nat) (lb : Array Value) (g T g' T' : Nat) (mn mn' : String) (rv rv' : Value) (us : List Nat) (f f' : Nat → Int) (w : World) (hs : SeqIs w gi lb us) (hf : MetIs w g T mn rv us f) (hf' : MetIs w g' T' mn' rv' us f') (hne : us ≠ [])
    (hb : ∀ u ∈ us, -4611686018427387904 ≤ f' u ∧ f' u ≤ 4611686018427387904) :
    Calls Try.prog 94 #[.func (.func gi) #[] lb, .func (.method mn) #[.iface T rv] #[], .func (.method mn') #[.iface T' rv'] #[]] w fun e w' => e = .returned (.agg #[.int .i64 (mnL f us), .int .i64 (-mnL (fun u => -f' u) us)]) ∧ Below w.heap.size w w' := by
  have LO := Lib.hid (fun W (h : Below w.heap.size w W) => leastM_any gi lb g T mn rv us f W (hs.below h) (hf.below h))
  have HI := Lib.hid (fun W (h : Below w.heap.size w W) => greatestM_any gi lb g' T' mn' rv' us f' W (hs.below h) (hf'.below h) hne hb)
  obtain ⟨lo, hlo⟩ : ∃ lo, mnL f us = lo := ⟨_, rfl⟩
  obtain ⟨hi, hhi⟩ : ∃ hi, -mnL (fun u => -f' u) us = hi := ⟨_, rfl⟩
  rw [hlo] at LO
  rw [hhi] at HI
  rw [hlo, hhi]
  clear hlo hhi hs hf hf' hne hb
  go_enter Try.func94, Try.ntmps94
  go_wp2_with fail
  obtain ⟨W, hW⟩ : ∃ W, w.alloc (.cells #[.int .i64 0, .int .i64 0] 42) = W := ⟨_, rfl⟩
  have hbw : Below w.heap.size w W := by rw [← hW]; exact (Below.refl _ _).alloc (Nat.le_refl _) _
  have KA : Hid (Blk W w.heap.size 42 #[.int .i64 0, .int .i64 0]) := Lib.hid (by rw [← hW]; exact Blk.new _ _ _)
  have HB := Lib.hid hbw
  rw [hW]
  clear hW hbw
  go_wp2_with fail
  refine (LO.out _ HB.out).mono ?_
  rintro e w3 ⟨rfl, hb1⟩
  replace KA := Lib.hid (KA.out.below hb1 KA.out.lt)
  replace HB := Lib.hid (HB.out.trans (hb1.mono HB.out.size))
  clear hb1
  go_wp2_with fail
  refine (HI.out _ HB.out).mono ?_
  rintro e w5 ⟨rfl, hb1⟩
  replace KA := Lib.hid (KA.out.below hb1 KA.out.lt)
  replace HB := Lib.hid (HB.out.trans (hb1.mono HB.out.size))
  clear hb1 LO HI
  obtain ⟨z0, z1, z2, z3, z4⟩ := KA.out.two
  go_wp2
  have KF := Lib.hid ((KA.out.set_ 0 (.int .i64 lo)).set_ 1 (.int .i64 hi))
  have g0 := (KF.out.cell 0).trans rfl
  have g1 := (KF.out.cell 1).trans rfl
  refine ⟨rfl, .agg #[.int .i64 lo, .int .i64 hi], ?_, rfl, (HB.out.setCell (p := ⟨w.heap.size, 0, none⟩) (Nat.le_refl _) _).setCell (p := ⟨w.heap.size, 1, none⟩) (Nat.le_refl _) _⟩
  simp [results, Try.results94, go_sem, g0, g1]

set_option maxRecDepth 100000 in
set_option maxHeartbeats 4000000 in
theorem mirrored_any (lo hi : Int) (w : World) (h1 : -4611686018427387904 ≤ lo ∧ lo ≤ 4611686018427387904) (h2 : -4611686018427387904 ≤ hi ∧ hi ≤ 4611686018427387904) :
    Calls Try.prog 93 #[.agg #[.int .i64 lo, .int .i64 hi]] w fun e w' => e = .returned (.agg #[.int .i64 (-hi), .int .i64 (-lo)]) ∧ Below w.heap.size w w' := by
  have e1 : IntKind.i64.wrap (-lo) = -lo := IntWalk.i64_in _ (by omega)
  have e2 : IntKind.i64.wrap (-hi) = -hi := IntWalk.i64_in _ (by omega)
  clear h1 h2
  go_enter Try.func93, Try.ntmps93
  go_upto_region 1 with fail
  obtain ⟨W0, hW0⟩ : ∃ W, w.alloc (.cells #[.int .i64 lo, .int .i64 hi] 42) = W := ⟨_, rfl⟩
  have hb0 : Below w.heap.size w W0 := by rw [← hW0]; exact (Below.refl _ _).alloc (Nat.le_refl _) _
  have hz0 : w.heap.size + 1 = W0.heap.size := by rw [← hW0]; simp
  have KX : Hid (Blk W0 w.heap.size 42 #[.int .i64 lo, .int .i64 hi]) := Lib.hid (by rw [← hW0]; exact Blk.new _ _ _)
  try rw [hW0]
  obtain ⟨W, hW⟩ : ∃ W, W0.alloc (.cells #[.int .i64 0, .int .i64 0] 42) = W := ⟨_, rfl⟩
  have hb1 : Below W0.heap.size W0 W := by rw [← hW]; exact (Below.refl _ _).alloc (Nat.le_refl _) _
  have KA : Hid (Blk W W0.heap.size 42 #[.int .i64 0, .int .i64 0]) := Lib.hid (by rw [← hW]; exact Blk.new _ _ _)
  replace KX := Lib.hid (KX.out.below hb1 KX.out.lt)
  have HB := Lib.hid (hb0.trans (hb1.mono hb0.size))
  have hs0 := hb0.size
  try rw [hW]
  clear hW hb1 hW0 hb0
  rw [← hz0] at KA hs0
  clear hz0
  obtain ⟨x0, x1, x2, x3, x4⟩ := KX.out.two
  obtain ⟨z0, z1, z2, z3, z4⟩ := KA.out.two
  go_wp2
  have KF := Lib.hid ((KA.out.set_ 0 (.int .i64 (-hi))).set_ 1 (.int .i64 (-lo)))
  have g0 := (KF.out.cell 0).trans rfl
  have g1 := (KF.out.cell 1).trans rfl
  refine ⟨rfl, .agg #[.int .i64 (-hi), .int .i64 (-lo)], ?_, rfl, (HB.out.setCell (p := ⟨w.heap.size + 1, 0, none⟩) hs0 _).setCell (p := ⟨w.heap.size + 1, 1, none⟩) hs0 _⟩
  simp [results, Try.results93, go_sem, g0, g1]


/-- The greatest number that f has on some indexes. -/
def mxL (f : Nat → Int) (us : List Nat) : Int := -mnL (fun u => -f u) us
/-- What can be heard near some samples of what is read at least, and at most: In from, to; Out from, to. -/
structure Hrd where
  (a b c d : Int)
deriving DecidableEq
def Hrd.val (h : Hrd) : Value := .agg #[.int .i64 h.a, .int .i64 h.b, .int .i64 h.c, .int .i64 h.d]
def Hrd.cells (h : Hrd) : List Value := [.int .i64 h.a, .int .i64 h.b, .int .i64 h.c, .int .i64 h.d]
def hdL (N W : List Smp) (us : List Nat) : Hrd := ⟨-mxL (innW W) us, -mnL (innW N) us, mnL (outW N) us, mxL (outW W) us⟩
theorem Blk.four {w : World} {g : Nat} {t : TypeId} {a b c d : Value} (h : Blk w g t #[a, b, c, d]) : w.cell? ⟨g, 0, none⟩ = some a ∧ w.cell? ⟨g, 1, none⟩ = some b ∧ w.cell? ⟨g, 2, none⟩ = some c ∧ w.cell? ⟨g, 3, none⟩ = some d ∧ (w.frozen? ⟨g, 0, none⟩ = false ∧ w.frozen? ⟨g, 1, none⟩ = false ∧ w.frozen? ⟨g, 2, none⟩ = false ∧ w.frozen? ⟨g, 3, none⟩ = false) :=
  ⟨(h.cell 0).trans rfl, (h.cell 1).trans rfl, (h.cell 2).trans rfl, (h.cell 3).trans rfl, h.frozen 0, h.frozen 1, h.frozen 2, h.frozen 3⟩
theorem MetIs.inner (B : Nat) (A : Option Addr) (n c : Nat) (l : List Smp) (t far : Nat) (w : World) (h0 : RS w B A n l) (hB : B ≤ w.heap.size) (he : Edg l) : MetIs w 107 104 "deadwax/play.inner" (.slice A n c) (nbr t far n) (innW l) :=
  ⟨fun _ _ => by kernel_rfl, (FunIs.inner B A n c l t far w h0 hB he).ent, fun u hu W hW => (FunIs.inner B A n c l t far w h0 hB he).run u hu W hW⟩
theorem MetIs.outer (B : Nat) (A : Option Addr) (n c : Nat) (l : List Smp) (t far : Nat) (w : World) (h0 : RS w B A n l) (hB : B ≤ w.heap.size) : MetIs w 106 104 "deadwax/play.outer" (.slice A n c) (nbr t far n) (outW l) :=
  ⟨fun _ _ => by kernel_rfl, (FunIs.outer B A n c l t far w h0 hB).ent, fun u hu W hW => (FunIs.outer B A n c l t far w h0 hB).run u hu W hW⟩

set_option maxRecDepth 100000 in
set_option maxHeartbeats 4000000 in
theorem heard_any (B gi : Nat) (lb : Array Value) (A A' : Option Addr) (n c c' t far : Nat) (N L : List Smp) (w : World) (h0 : RS w B A n N) (h1 : RS w B A' n L) (hB : B ≤ w.heap.size) (hs : SeqIs w gi lb (nbr t far n)) (ht : t < n)
    (hN : Edg N) (hL : Edg L) :
    Calls Try.prog 64 #[.func (.func gi) #[] lb, .iface 104 (.slice A n c), .iface 104 (.slice A' n c')] w fun e w' => e = .returned (hdL N L (nbr t far n)).val ∧ Below w.heap.size w w' := by
  have hne : nbr t far n ≠ [] := List.ne_nil_of_mem (nbr_self ht)
  have q1 := h0.1
  have q2 := h1.1
  have bi : ∀ u ∈ nbr t far n, -4611686018427387904 ≤ innW L u ∧ innW L u ≤ 4611686018427387904 := fun u hu => by have := hL.1 u (by have := nbr_lt hu; omega); omega
  have bo : ∀ u ∈ nbr t far n, -4611686018427387904 ≤ outW L u ∧ outW L u ≤ 4611686018427387904 := fun u hu => by have := hL.2 u (by have := nbr_lt hu; omega); omega
  have bj : ∀ u ∈ nbr t far n, -4611686018427387904 ≤ innW N u ∧ innW N u ≤ 4611686018427387904 := fun u hu => by have := hN.1 u (by have := nbr_lt hu; omega); omega
  have EI := Lib.hid (fun W (h : Below w.heap.size w W) => extent_any gi lb _ _ _ _ _ _ _ _ _ _ _ W (hs.below h) (MetIs.inner B A n c N t far W (h0.below h hB) (Nat.le_trans hB h.size) hN) (MetIs.inner B A' n c' L t far W (h1.below h hB) (Nat.le_trans hB h.size) hL) hne bi)
  have EO := Lib.hid (fun W (h : Below w.heap.size w W) => extent_any gi lb _ _ _ _ _ _ _ _ _ _ _ W (hs.below h) (MetIs.outer B A n c N t far W (h0.below h hB) (Nat.le_trans hB h.size)) (MetIs.outer B A' n c' L t far W (h1.below h hB) (Nat.le_trans hB h.size)) hne bo)
  have m1 : -4611686018427387904 ≤ mnL (innW N) (nbr t far n) ∧ mnL (innW N) (nbr t far n) ≤ 4611686018427387904 := by
    obtain ⟨u, hu, e⟩ := mnL_at (f := innW N) hne (fun u hu => by have := bj u hu; omega)
    have := bj u hu
    rw [e]; omega
  have m2 : -4611686018427387904 ≤ mxL (innW L) (nbr t far n) ∧ mxL (innW L) (nbr t far n) ≤ 4611686018427387904 := by
    unfold mxL
    obtain ⟨u, hu, e⟩ := mnL_at (f := fun u => -innW L u) hne (fun u hu => by have := bi u hu; omega)
    have := bi u hu
    rw [e]; omega
  unfold hdL Hrd.val
  dsimp only
  change Hid (∀ W, Below w.heap.size w W → Calls _ _ _ W fun e w' => e = .returned (.agg #[.int .i64 (mnL (innW N) (nbr t far n)), .int .i64 (mxL (innW L) (nbr t far n))]) ∧ _) at EI
  change Hid (∀ W, Below w.heap.size w W → Calls _ _ _ W fun e w' => e = .returned (.agg #[.int .i64 (mnL (outW N) (nbr t far n)), .int .i64 (mxL (outW L) (nbr t far n))]) ∧ _) at EO
  obtain ⟨x1, hx1⟩ : ∃ x, mnL (innW N) (nbr t far n) = x := ⟨_, rfl⟩
  obtain ⟨x2, hx2⟩ : ∃ x, mxL (innW L) (nbr t far n) = x := ⟨_, rfl⟩
  obtain ⟨x3, hx3⟩ : ∃ x, mnL (outW N) (nbr t far n) = x := ⟨_, rfl⟩
  obtain ⟨x4, hx4⟩ : ∃ x, mxL (outW L) (nbr t far n) = x := ⟨_, rfl⟩
  rw [hx1, hx2] at EI
  rw [hx3, hx4] at EO
  rw [hx1] at m1
  rw [hx2] at m2
  rw [hx1, hx2, hx3, hx4]
  have MI := Lib.hid (fun W => mirrored_any x1 x2 W m1 m2)
  clear hx1 hx2 hx3 hx4 m1 m2 bi bo bj hne q1 q2 h0 h1 hs hN hL hB ht
  go_enter Try.func64, Try.ntmps64
  go_upto_region 1 with fail
  obtain ⟨w1, hW⟩ : ∃ W, w.alloc (.cells #[.int .i64 0, .int .i64 0, .int .i64 0, .int .i64 0] 44) = W := ⟨_, rfl⟩
  have hb : Below w.heap.size w w1 := by rw [← hW]; exact (Below.refl _ _).alloc (Nat.le_refl _) _
  have hsz1 := hb.size
  have KA : Hid (Blk w1 w.heap.size 44 #[.int .i64 0, .int .i64 0, .int .i64 0, .int .i64 0]) := Lib.hid (by rw [← hW]; exact Blk.new _ _ _)
  have HB := Lib.hid hb
  try rw [hW]
  clear hW hb
  obtain ⟨z0, z1, z2, z3, z4⟩ := KA.out.four
  go_wp2_with fail
  refine wp_region_held_drew (S := fun w' => w.heap.size < w'.heap.size) (by kernel_rfl) (by first | exact KA.out.lt | (have := KA.out.lt; simpa using this)) (fun hHeld => ?_)
  obtain ⟨w2, hwd⟩ : ∃ wd, w1.drew = wd := ⟨_, rfl⟩
  have hb : Below w1.heap.size w1 w2 := by rw [← hwd]; exact (Below.refl _ _).drew
  have hsz2 := hb.size
  replace KA := Lib.hid (KA.out.below hb KA.out.lt)
  replace HB := Lib.hid (HB.out.trans (hb.mono (by omega)))
  rw [hwd] at hHeld ⊢
  clear hb hwd
  obtain ⟨z0, z1, z2, z3, z4⟩ := KA.out.four
  refine wpAnyH_take (i := 0) (oi := { dst := some 7, op := Go.Op.move (Go.Operand.tmp 0), type := 113, pos := "hear.go:30", after := #[], guard := none }) (v := ?vt2001) rfl (by kernel_rfl) (by kernel_rfl) (by kernel_rfl) (fun _ _ _ h => h) (Or.inl ⟨by rfl, ?ht2001⟩) hHeld ?_
  case ht2001 => intro w hSw; (try dsimp only at hSw); go_simp; try with_reducible rfl
  simp only [Act.put, List.setIfInBounds_toArray, List.set_cons_zero, List.set_cons_succ]
  refine wpAnyH_take (i := 1) (oi := { dst := some 8, op := Go.Op.move (Go.Operand.tmp 1), type := 148, pos := "hear.go:30", after := #[], guard := none }) (v := ?vt2002) rfl (by kernel_rfl) (by kernel_rfl) (by kernel_rfl) (fun _ _ _ h => h) (Or.inl ⟨by rfl, ?ht2002⟩) hHeld ?_
  case ht2002 => intro w hSw; (try dsimp only at hSw); go_simp; try with_reducible rfl
  simp only [Act.put, List.setIfInBounds_toArray, List.set_cons_zero, List.set_cons_succ]
  refine wpAnyH_take (i := 2) (oi := { dst := some 9, op := Go.Op.nilCheck (Go.Operand.tmp 8), type := 148, pos := "hear.go:30", after := #[{ on := 1, ground := Go.Ground.data }], guard := none }) (v := ?vt2003) rfl (by kernel_rfl) (by kernel_rfl) (by kernel_rfl) (fun _ _ _ h => h) (Or.inl ⟨by rfl, ?ht2003⟩) hHeld ?_
  case ht2003 => intro w hSw; (try dsimp only at hSw); go_simp; try with_reducible rfl
  simp only [Act.put, List.setIfInBounds_toArray, List.set_cons_zero, List.set_cons_succ]
  refine wpAnyH_take (i := 3) (oi := { dst := some 10, op := Go.Op.makeFunc (Go.Fn.method "deadwax/play.inner") #[Go.Operand.tmp 9] #[], type := 149, pos := "hear.go:30", after := #[{ on := 2, ground := Go.Ground.data }], guard := none }) (v := ?vt2004) rfl (by kernel_rfl) (by kernel_rfl) (by kernel_rfl) (fun _ _ _ h => h) (Or.inl ⟨by rfl, ?ht2004⟩) hHeld ?_
  case ht2004 => intro w hSw; (try dsimp only at hSw); go_simp; try with_reducible rfl
  simp only [Act.put, List.setIfInBounds_toArray, List.set_cons_zero, List.set_cons_succ]
  refine wpAnyH_take (i := 4) (oi := { dst := some 11, op := Go.Op.move (Go.Operand.tmp 2), type := 148, pos := "hear.go:30", after := #[], guard := none }) (v := ?vt2005) rfl (by kernel_rfl) (by kernel_rfl) (by kernel_rfl) (fun _ _ _ h => h) (Or.inl ⟨by rfl, ?ht2005⟩) hHeld ?_
  case ht2005 => intro w hSw; (try dsimp only at hSw); go_simp; try with_reducible rfl
  simp only [Act.put, List.setIfInBounds_toArray, List.set_cons_zero, List.set_cons_succ]
  refine wpAnyH_take (i := 5) (oi := { dst := some 12, op := Go.Op.nilCheck (Go.Operand.tmp 11), type := 148, pos := "hear.go:30", after := #[{ on := 4, ground := Go.Ground.data }], guard := none }) (v := ?vt2006) rfl (by kernel_rfl) (by kernel_rfl) (by kernel_rfl) (fun _ _ _ h => h) (Or.inl ⟨by rfl, ?ht2006⟩) hHeld ?_
  case ht2006 => intro w hSw; (try dsimp only at hSw); go_simp; try with_reducible rfl
  simp only [Act.put, List.setIfInBounds_toArray, List.set_cons_zero, List.set_cons_succ]
  refine wpAnyH_take (i := 6) (oi := { dst := some 13, op := Go.Op.makeFunc (Go.Fn.method "deadwax/play.inner") #[Go.Operand.tmp 12] #[], type := 149, pos := "hear.go:30", after := #[{ on := 5, ground := Go.Ground.data }], guard := none }) (v := ?vt2007) rfl (by kernel_rfl) (by kernel_rfl) (by kernel_rfl) (fun _ _ _ h => h) (Or.inl ⟨by rfl, ?ht2007⟩) hHeld ?_
  case ht2007 => intro w hSw; (try dsimp only at hSw); go_simp; try with_reducible rfl
  simp only [Act.put, List.setIfInBounds_toArray, List.set_cons_zero, List.set_cons_succ]
  refine wpAnyH_take (i := 9) (oi := { dst := some 16, op := Go.Op.move (Go.Operand.tmp 0), type := 113, pos := "hear.go:30", after := #[], guard := none }) (v := ?vt2008) rfl (by kernel_rfl) (by kernel_rfl) (by kernel_rfl) (fun _ _ _ h => h) (Or.inl ⟨by rfl, ?ht2008⟩) hHeld ?_
  case ht2008 => intro w hSw; (try dsimp only at hSw); go_simp; try with_reducible rfl
  simp only [Act.put, List.setIfInBounds_toArray, List.set_cons_zero, List.set_cons_succ]
  refine wpAnyH_take (i := 10) (oi := { dst := some 17, op := Go.Op.move (Go.Operand.tmp 1), type := 148, pos := "hear.go:30", after := #[], guard := none }) (v := ?vt2009) rfl (by kernel_rfl) (by kernel_rfl) (by kernel_rfl) (fun _ _ _ h => h) (Or.inl ⟨by rfl, ?ht2009⟩) hHeld ?_
  case ht2009 => intro w hSw; (try dsimp only at hSw); go_simp; try with_reducible rfl
  simp only [Act.put, List.setIfInBounds_toArray, List.set_cons_zero, List.set_cons_succ]
  refine wpAnyH_take (i := 11) (oi := { dst := some 18, op := Go.Op.nilCheck (Go.Operand.tmp 17), type := 148, pos := "hear.go:30", after := #[{ on := 10, ground := Go.Ground.data }], guard := none }) (v := ?vt2010) rfl (by kernel_rfl) (by kernel_rfl) (by kernel_rfl) (fun _ _ _ h => h) (Or.inl ⟨by rfl, ?ht2010⟩) hHeld ?_
  case ht2010 => intro w hSw; (try dsimp only at hSw); go_simp; try with_reducible rfl
  simp only [Act.put, List.setIfInBounds_toArray, List.set_cons_zero, List.set_cons_succ]
  refine wpAnyH_take (i := 12) (oi := { dst := some 19, op := Go.Op.makeFunc (Go.Fn.method "deadwax/play.outer") #[Go.Operand.tmp 18] #[], type := 149, pos := "hear.go:30", after := #[{ on := 11, ground := Go.Ground.data }], guard := none }) (v := ?vt2011) rfl (by kernel_rfl) (by kernel_rfl) (by kernel_rfl) (fun _ _ _ h => h) (Or.inl ⟨by rfl, ?ht2011⟩) hHeld ?_
  case ht2011 => intro w hSw; (try dsimp only at hSw); go_simp; try with_reducible rfl
  simp only [Act.put, List.setIfInBounds_toArray, List.set_cons_zero, List.set_cons_succ]
  refine wpAnyH_take (i := 13) (oi := { dst := some 20, op := Go.Op.move (Go.Operand.tmp 2), type := 148, pos := "hear.go:30", after := #[], guard := none }) (v := ?vt2012) rfl (by kernel_rfl) (by kernel_rfl) (by kernel_rfl) (fun _ _ _ h => h) (Or.inl ⟨by rfl, ?ht2012⟩) hHeld ?_
  case ht2012 => intro w hSw; (try dsimp only at hSw); go_simp; try with_reducible rfl
  simp only [Act.put, List.setIfInBounds_toArray, List.set_cons_zero, List.set_cons_succ]
  refine wpAnyH_take (i := 14) (oi := { dst := some 21, op := Go.Op.nilCheck (Go.Operand.tmp 20), type := 148, pos := "hear.go:30", after := #[{ on := 13, ground := Go.Ground.data }], guard := none }) (v := ?vt2013) rfl (by kernel_rfl) (by kernel_rfl) (by kernel_rfl) (fun _ _ _ h => h) (Or.inl ⟨by rfl, ?ht2013⟩) hHeld ?_
  case ht2013 => intro w hSw; (try dsimp only at hSw); go_simp; try with_reducible rfl
  simp only [Act.put, List.setIfInBounds_toArray, List.set_cons_zero, List.set_cons_succ]
  refine wpAnyH_take (i := 15) (oi := { dst := some 22, op := Go.Op.makeFunc (Go.Fn.method "deadwax/play.outer") #[Go.Operand.tmp 21] #[], type := 149, pos := "hear.go:30", after := #[{ on := 14, ground := Go.Ground.data }], guard := none }) (v := ?vt2014) rfl (by kernel_rfl) (by kernel_rfl) (by kernel_rfl) (fun _ _ _ h => h) (Or.inl ⟨by rfl, ?ht2014⟩) hHeld ?_
  case ht2014 => intro w hSw; (try dsimp only at hSw); go_simp; try with_reducible rfl
  simp only [Act.put, List.setIfInBounds_toArray, List.set_cons_zero, List.set_cons_succ]
  refine wpAnyH_ready (rs := [7]) (by kernel_rfl) (by simp) ?_
  refine AllReadyH.cons rfl (fun K hK => ?_) AllReadyH.nil
  go_simp
  have CALL := EI.out _ HB.out
  refine CALL.mono ?_
  rintro e w3 ⟨rfl, hb⟩
  clear CALL
  have hsz3 := hb.size
  replace KA := Lib.hid (KA.out.below hb KA.out.lt)
  replace HB := Lib.hid (HB.out.trans (hb.mono (by omega)))
  clear hb
  obtain ⟨z0, z1, z2, z3, z4⟩ := KA.out.four
  refine hK.out _ _ ?_ (fun hH2015 => ?_)
  · exact (by first | exact KA.out.lt | (have := KA.out.lt; simpa using this))
  clear hK K
  refine wpAnyH_ready (rs := [8]) (by kernel_rfl) (by simp) ?_
  refine AllReadyH.cons rfl (fun K hK => ?_) AllReadyH.nil
  go_simp
  have CALL := MI.out w3
  refine CALL.mono ?_
  rintro e w4 ⟨rfl, hb⟩
  clear CALL
  have hsz4 := hb.size
  replace KA := Lib.hid (KA.out.below hb KA.out.lt)
  replace HB := Lib.hid (HB.out.trans (hb.mono (by omega)))
  clear hb
  obtain ⟨z0, z1, z2, z3, z4⟩ := KA.out.four
  refine hK.out _ _ ?_ (fun hH2016 => ?_)
  · exact (by first | exact KA.out.lt | (have := KA.out.lt; simpa using this))
  clear hK K
  refine wpAnyH_ready (rs := [16]) (by kernel_rfl) (by simp) ?_
  refine AllReadyH.cons rfl (fun K hK => ?_) AllReadyH.nil
  go_simp
  have CALL := EO.out _ HB.out
  refine CALL.mono ?_
  rintro e w5 ⟨rfl, hb⟩
  clear CALL
  have hsz5 := hb.size
  replace KA := Lib.hid (KA.out.below hb KA.out.lt)
  replace HB := Lib.hid (HB.out.trans (hb.mono (by omega)))
  clear hb
  obtain ⟨z0, z1, z2, z3, z4⟩ := KA.out.four
  refine hK.out _ _ ?_ (fun hH2017 => ?_)
  · exact (by first | exact KA.out.lt | (have := KA.out.lt; simpa using this))
  clear hK K
  refine wpAnyH_take (i := 17) (oi := { dst := some 24, op := Go.Op.build 44 #[(0, Go.Operand.tmp 15), (1, Go.Operand.tmp 23)], type := 44, pos := "hear.go:30", after := #[{ on := 8, ground := Go.Ground.data }, { on := 16, ground := Go.Ground.data }], guard := none }) (v := ?vt2018) rfl (by kernel_rfl) (by kernel_rfl) (by kernel_rfl) (fun _ _ _ h => h) (Or.inl ⟨by rfl, ?ht2018⟩) hH2017 ?_
  case ht2018 => intro w hSw; (try dsimp only at hSw); go_simp; try with_reducible rfl
  simp only [Act.put, List.setIfInBounds_toArray, List.set_cons_zero, List.set_cons_succ]
  refine wpAnyH_ready (rs := [18]) (by kernel_rfl) (by simp) ?_
  refine AllReadyH.cons rfl (fun K hK => ?_) AllReadyH.nil
  go_simp
  skip
  refine hK.out _ _ ?_ (fun hH2019 => ?_)
  · exact (by first | exact KA.out.lt | (have := KA.out.lt; simpa using this))
  clear hK K
  refine wpAnyH_done (by kernel_rfl) ?_ _
  have KF := Lib.hid ((((KA.out.set_ 0 (.int .i64 (-x2))).set_ 1 (.int .i64 (-x1))).set_ 2 (.int .i64 x3)).set_ 3 (.int .i64 x4))
  have g0 := (KF.out.cell 0).trans rfl
  have g1 := (KF.out.cell 1).trans rfl
  have g2 := (KF.out.cell 2).trans rfl
  have g3 := (KF.out.cell 3).trans rfl
  clear z0 z1 z2 z3 z4
  go_wp2
  refine ⟨rfl, .agg #[.int .i64 (-x2), .int .i64 (-x1), .int .i64 x3, .int .i64 x4], ?_, rfl, (((HB.out.setCell (p := ⟨w.heap.size, 0, none⟩) (Nat.le_refl _) _).setCell (p := ⟨w.heap.size, 1, none⟩) (Nat.le_refl _) _).setCell (p := ⟨w.heap.size, 2, none⟩) (Nat.le_refl _) _).setCell (p := ⟨w.heap.size, 3, none⟩) (Nat.le_refl _) _⟩
  simp [results, Try.results64, go_sem, g0, g1, g2, g3]


/-- A tip is blunter than another one (or as sharp). -/
def blL (s o : List Int) : Bool := decide (o.length ≤ s.length) && (List.range o.length).all (fun k => decide (atI s k ≤ atI o k))
def ckBl (s o : List Int) : Int := if blL s o then 0 else 20
def ckWo (x : Int) : Int := if 0 ≤ x ∧ x ≤ 256 then 0 else 3
theorem blL_t {s o : List Int} : blL s o = true ↔ o.length ≤ s.length ∧ ∀ k, k < o.length → atI s k ≤ atI o k := by
  unfold blL
  simp [List.all_eq_true]
theorem blL_short {s o : List Int} (h : s.length < o.length) : blL s o = false := by
  unfold blL
  rw [decide_eq_false (by omega), Bool.false_and]
theorem blL_bad {s o : List Int} {k : Nat} (hk : k < o.length) (h : atI o k < atI s k) : blL s o = false := by
  rw [Bool.eq_false_iff]
  intro h1
  have := (blL_t.1 h1).2 k hk
  omega

set_option maxRecDepth 100000 in
set_option maxHeartbeats 4000000 in
theorem checkBlunter_any (B : Nat) (A A' : Option Addr) (n c n' c' : Nat) (s o : List Int) (w : World) (h0 : LI w B A n s) (h1 : LI w B A' n' o) (hB : B ≤ w.heap.size) (hl : n ≤ 9223372036854775807) (hl' : n' ≤ 9223372036854775807) :
    Calls Try.prog 60 #[.agg #[.slice A n c], .agg #[.slice A' n' c']] w fun e w' => e = .returned (.int .i64 (ckBl s o)) ∧ Below w.heap.size w w' := by
  have HN := Lib.hid (And.intro h0.1 h1.1)
  have H := Lib.hid (h0.more hB)
  have HO := Lib.hid (h1.more hB)
  clear h0 h1 hB
  go_enter Try.func60, Try.ntmps60
  go_upto_region 1 with fail
  obtain ⟨W, hW⟩ : ∃ W, (w.alloc (.cells #[.slice A n c] 24)).alloc (.cells #[.slice A' n' c'] 24) = W := ⟨_, rfl⟩
  have hb : Below w.heap.size w W := by rw [← hW]; exact ((Below.refl _ _).alloc (Nat.le_refl _) _).alloc (by simp) _
  have K1 : Hid (Blk W w.heap.size 24 #[.slice A n c]) := Lib.hid (by rw [← hW]; exact (Blk.new _ _ _).alloc _)
  have K2 : Hid (Blk W (w.heap.size + 1) 24 #[.slice A' n' c']) := Lib.hid (by rw [← hW]; exact blk_al (by simp))
  have HB := Lib.hid hb
  rw [hW]
  clear hW hb
  have t1 := K1.out.one.1
  have t2 := K2.out.one.1
  by_cases hs : n < n'
  · have hr : Hid (ckBl s o = 20) := Lib.hid (by unfold ckBl; rw [blL_short (by have := HN.out; omega)]; rfl)
    have d1 : (n : Int) < (n' : Int) := by omega
    have d2 : decide ((n : Int) < (n' : Int)) = true := decide_eq_true d1
    clear hs
    go_wp2
    go_ret
    exact ⟨ret_i hr.out.symm, HB.out⟩
  · have d1 : ¬ (n : Int) < (n' : Int) := by omega
    have d2 : decide ((n : Int) < (n' : Int)) = false := decide_eq_false d1
    go_wp2_with fail
    go_loopw [5, 6, 17] (fun _ _ i wr => ∃ k : Nat, k ≤ n' ∧ i = .int .i64 k ∧ Hid (Below w.heap.size w wr) ∧ Hid (Blk wr w.heap.size 24 #[.slice A n c]) ∧ Hid (Blk wr (w.heap.size + 1) 24 #[.slice A' n' c']) ∧ Hid (∀ q, q < k → atI s q ≤ atI o q)) (fun _ _ i wr => n' - (intOf i).toNat)
    case atStart => exact ⟨0, Nat.zero_le _, rfl, HB, K1, K2, Lib.hid (fun _ h => absurd h (by omega))⟩
    case round =>
      clear HB K1 K2 t1 t2 d1 d2
      obtain ⟨k, hk, rfl, HB, K1, K2, HV⟩ := hrel
      by_cases hlt : k < n'
      · have hko : k < o.length := by have := HN.out; omega
        have hks : k < s.length := by have := HN.out; omega
        have t1 := K1.out.one.1
        have t2 := K2.out.one.1
        obtain ⟨a1, hA1, _, y1⟩ := (H.out.below HB.out (Nat.le_refl _)).at_ hks
        obtain ⟨a2, hA2, _, y2⟩ := (HO.out.below HB.out (Nat.le_refl _)).at_ hko
        obtain rfl := hA1
        obtain rfl := hA2
        rw [← atI_eq hks] at y1
        rw [← atI_eq hko] at y2
        have HK := Lib.hid hko
        have q1 : (k : Int) < (n' : Int) := by omega
        have q2 : (k : Int) < (n : Int) := by omega
        obtain ⟨x, hx⟩ : ∃ x, atI s k = x := ⟨_, rfl⟩
        obtain ⟨y, hy⟩ : ∃ y, atI o k = y := ⟨_, rfl⟩
        rw [hx] at y1
        rw [hy] at y2
        have HX := Lib.hid hx
        have HY := Lib.hid hy
        clear hx hy hko hks
        by_cases c1 : y < x
        · have hr : Hid (ckBl s o = 20) := Lib.hid (by unfold ckBl; rw [blL_bad HK.out (by rw [HX.out, HY.out]; exact c1)]; rfl)
          have c2 : decide (y < x) = true := decide_eq_true c1
          have c3 : ¬ x ≤ y := by omega
          go_wp2
          go_ret
          exact ⟨ret_i hr.out.symm, HB.out⟩
        · have c2 : decide (y < x) = false := decide_eq_false c1
          have c3 : x ≤ y := by omega
          go_wp2
          go_roundw
          case rel => exact ⟨k + 1, by omega, by go_num, HB, K1, K2, Lib.hid (fun q hq => by
            rcases Nat.lt_or_ge q k with h | h
            · exact HV.out q h
            · rw [show q = k by omega, HX.out, HY.out]; exact c3)⟩
          case measure => simp [intOf] <;> omega
      · obtain rfl : k = n' := by omega
        have hr : Hid (ckBl s o = 0) := Lib.hid (by unfold ckBl; rw [blL_t.2 ⟨by have := HN.out; omega, fun q hq => HV.out q (by have := HN.out; omega)⟩]; rfl)
        go_wp2
        go_ret
        exact ⟨ret_i hr.out.symm, HB.out⟩

set_option maxRecDepth 100000 in
set_option maxHeartbeats 4000000 in
theorem refBlunter_any (B : Nat) (A A' : Option Addr) (n c n' c' : Nat) (s o : List Int) (w : World) (h0 : LI w B A n s) (h1 : LI w B A' n' o) (hB : B ≤ w.heap.size) (hl : n ≤ 9223372036854775807) (hl' : n' ≤ 9223372036854775807) :
    Calls Try.prog 67 #[.agg #[.slice A n c], .agg #[.slice A' n' c']] w fun e w' => e = .returned (.bool (blL s o)) ∧ Below w.heap.size w w' := by
  have HN := Lib.hid (And.intro h0.1 h1.1)
  have H := Lib.hid (h0.more hB)
  have HO := Lib.hid (h1.more hB)
  clear h0 h1 hB
  go_enter Try.func67, Try.ntmps67
  go_upto_region 1 with fail
  obtain ⟨W, hW⟩ : ∃ W, (w.alloc (.cells #[.slice A n c] 24)).alloc (.cells #[.slice A' n' c'] 24) = W := ⟨_, rfl⟩
  have hb : Below w.heap.size w W := by rw [← hW]; exact ((Below.refl _ _).alloc (Nat.le_refl _) _).alloc (by simp) _
  have K1 : Hid (Blk W w.heap.size 24 #[.slice A n c]) := Lib.hid (by rw [← hW]; exact (Blk.new _ _ _).alloc _)
  have K2 : Hid (Blk W (w.heap.size + 1) 24 #[.slice A' n' c']) := Lib.hid (by rw [← hW]; exact blk_al (by simp))
  have HB := Lib.hid hb
  rw [hW]
  clear hW hb
  have t1 := K1.out.one.1
  have t2 := K2.out.one.1
  by_cases hs : n < n'
  · have hr : Hid (blL s o = false) := Lib.hid (blL_short (by have := HN.out; omega))
    have d1 : (n : Int) < (n' : Int) := by omega
    have d2 : decide ((n : Int) < (n' : Int)) = true := decide_eq_true d1
    clear hs
    go_wp2
    go_ret
    exact ⟨ret_b hr.out.symm, HB.out⟩
  · have d1 : ¬ (n : Int) < (n' : Int) := by omega
    have d2 : decide ((n : Int) < (n' : Int)) = false := decide_eq_false d1
    go_wp2_with fail
    go_loopw [5] (fun i wr => ∃ k : Nat, k ≤ n' ∧ i = .int .i64 k ∧ Hid (Below w.heap.size w wr) ∧ Hid (Blk wr w.heap.size 24 #[.slice A n c]) ∧ Hid (Blk wr (w.heap.size + 1) 24 #[.slice A' n' c']) ∧ Hid (∀ q, q < k → atI s q ≤ atI o q)) (fun i wr => n' - (intOf i).toNat)
    case atStart => exact ⟨0, Nat.zero_le _, rfl, HB, K1, K2, Lib.hid (fun _ h => absurd h (by omega))⟩
    case round =>
      clear HB K1 K2 t1 t2 d1 d2
      obtain ⟨k, hk, rfl, HB, K1, K2, HV⟩ := hrel
      have t1 := K1.out.one.1
      have t2 := K2.out.one.1
      by_cases hlt : k < n'
      · have hko : k < o.length := by have := HN.out; omega
        have hks : k < s.length := by have := HN.out; omega
        obtain ⟨a1, hA1, _, y1⟩ := (H.out.below HB.out (Nat.le_refl _)).at_ hks
        obtain ⟨a2, hA2, _, y2⟩ := (HO.out.below HB.out (Nat.le_refl _)).at_ hko
        obtain rfl := hA1
        obtain rfl := hA2
        rw [← atI_eq hks] at y1
        rw [← atI_eq hko] at y2
        have HK := Lib.hid hko
        have q1 : (k : Int) < (n' : Int) := by omega
        have q2 : (k : Int) < (n : Int) := by omega
        obtain ⟨x, hx⟩ : ∃ x, atI s k = x := ⟨_, rfl⟩
        obtain ⟨y, hy⟩ : ∃ y, atI o k = y := ⟨_, rfl⟩
        rw [hx] at y1
        rw [hy] at y2
        have HX := Lib.hid hx
        have HY := Lib.hid hy
        clear hx hy hko hks
        by_cases c1 : y < x
        · have hr : Hid (blL s o = false) := Lib.hid (blL_bad HK.out (by rw [HX.out, HY.out]; exact c1))
          have c2 : decide (y < x) = true := decide_eq_true c1
          have c3 : ¬ x ≤ y := by omega
          go_wp2_with fail
          go_quiet (fail)
          go_wp2
          go_ret
          exact ⟨ret_b hr.out.symm, below_drewN_ HB.out _⟩
        · have c2 : decide (y < x) = false := decide_eq_false c1
          have c3 : x ≤ y := by omega
          go_wp2_with fail
          go_quiet (fail)
          go_wp2
          go_roundw
          case rel => exact ⟨k + 1, by omega, by go_num, Lib.hid (below_drewN_ HB.out _), K1, K2, Lib.hid (fun q hq => by
            rcases Nat.lt_or_ge q k with h | h
            · exact HV.out q h
            · rw [show q = k by omega, HX.out, HY.out]; exact c3)⟩
          case measure => simp [intOf] <;> omega
      · obtain rfl : k = n' := by omega
        have hr : Hid (blL s o = true) := Lib.hid (blL_t.2 ⟨by have := HN.out; omega, fun q hq => HV.out q (by have := HN.out; omega)⟩)
        go_wp2
        go_ret
        exact ⟨ret_b hr.out.symm, HB.out⟩

set_option maxRecDepth 100000 in
set_option maxHeartbeats 1000000 in
theorem checkWow_any (x : Int) (w : World) :
    Calls Try.prog 61 #[.int .i64 x] w fun e w' => e = .returned (.int .i64 (ckWo x)) ∧ w = w' := by
  have CB := Lib.hid (fun W => betweenP_any 0 x 256 W)
  obtain ⟨b, hb⟩ : ∃ b, win x 0 256 = b := ⟨_, rfl⟩
  have e : ckWo x = if b then 0 else 3 := by rw [← hb]; unfold ckWo win; simp
  rw [e]
  try rw [hb] at CB
  clear hb e
  go_enter Try.func61, Try.ntmps61
  go_wp2_with fail
  refine (CB.out _).mono ?_
  rintro e w1 ⟨rfl, rfl⟩
  cases b
  · go_wp2
    go_ret
    exact ⟨rfl, rfl⟩
  · go_wp2
    go_ret
    exact ⟨rfl, rfl⟩


theorem info_hd : (Try.prog.info? 44).map (fun i => (i.zero, i.size, i.bytes)) = some (some (.agg #[.int .i64 0, .int .i64 0, .int .i64 0, .int .i64 0]), 4, 32) := by kernel_rfl
def hdCells (hs : List Hrd) : List Value := hs.flatMap Hrd.cells
theorem hdCells_snoc (hs : List Hrd) (h : Hrd) : hdCells (hs ++ [h]) = hdCells hs ++ [.int .i64 h.a, .int .i64 h.b, .int .i64 h.c, .int .i64 h.d] := by simp [hdCells, Hrd.cells]
/-- What can be heard, as it lies in memory. -/
def RH (w : World) (B : Nat) (A : Option Addr) (n : Nat) (hs : List Hrd) : Prop := n = hs.length ∧ Reads w B 4 A n (hdCells hs)
theorem RH.below {w w' : World} {B B' : Nat} {A : Option Addr} {n : Nat} {xs : List Hrd} (h : RH w B A n xs) (hb : Below B' w w') (hB : B ≤ B') : RH w' B A n xs := ⟨h.1, h.2.below hb hB⟩
theorem RH.more {w : World} {B B' : Nat} {A : Option Addr} {n : Nat} {xs : List Hrd} (h : RH w B A n xs) (hB : B ≤ B') : RH w B' A n xs := ⟨h.1, h.2.more hB⟩
/-- What a call leaves that returns what can be heard and an error. -/
def HdPost (w : World) (er : Int) (l : List Hrd) (e : Ending) (w' : World) : Prop :=
  ∃ A n k, e = .returned (.tuple #[.slice A n k, .int .i64 er]) ∧ RH w' w'.heap.size A n l ∧ n ≤ k ∧ Below w.heap.size w w'
def hrL (N L : List Smp) (far n : Nat) : List Hrd := (List.range n).map (fun t => hdL N L (nbr t far n))
theorem hrL_len (N L : List Smp) (far n : Nat) : (hrL N L far n).length = n := by simp [hrL]
theorem hrL_take {N L : List Smp} {far n j : Nat} (h : j < n) : (hrL N L far n).take (j + 1) = (hrL N L far n).take j ++ [hdL N L (nbr j far n)] := by
  rw [List.take_succ_eq_append_getElem (by rw [hrL_len]; exact h)]
  simp [hrL]
def hrEr (b s : List Int) (l : List Smp) (wow : Int) : Int := orL [ckTip b, ckTip s, ckG l, ckBl b s, ckWo wow]
def hrRes (b s : List Int) (l : List Smp) (wow : Int) : List Hrd := if hrEr b s l wow = 0 then hrL (rdL b l) (rdL s l) wow.toNat l.length else []
theorem orL_z {xs : List Int} : orL xs = 0 ↔ ∀ x ∈ xs, x = 0 := by
  induction xs with
  | nil => simp [orL]
  | cons a xs ih => unfold orL; split <;> simp_all
theorem hrEr_z {b s : List Int} {l : List Smp} {wow : Int} : hrEr b s l wow = 0 ↔ ckTip b = 0 ∧ ckTip s = 0 ∧ ckG l = 0 ∧ ckBl b s = 0 ∧ ckWo wow = 0 := by unfold hrEr; rw [orL_z]; simp
theorem ckWo_z {x : Int} : ckWo x = 0 ↔ 0 ≤ x ∧ x ≤ 256 := by unfold ckWo; split <;> simp_all

set_option maxRecDepth 100000 in
set_option maxHeartbeats 8000000 in
theorem Hear_any (B : Nat) (Af A' A : Option Addr) (nf cf n' c' n c : Nat) (b s : List Int) (l : List Smp) (wow : Int) (w : World) (hL : LI w B Af nf b) (hS : LI w B A' n' s) (h0 : RS w B A n l) (hB : B ≤ w.heap.size) (hf : nf ≤ 9223372036854775807) (hf' : n' ≤ 9223372036854775807) (hl : n ≤ 9223372036854775807) :
    Calls Try.prog 26 #[.agg #[.slice Af nf cf], .agg #[.slice A' n' c'], .slice A n c, .int .i64 wow] w (HdPost w (hrEr b s l wow) (hrRes b s l wow)) := by
  have HN := Lib.hid h0.1
  have H := Lib.hid (h0.more hB)
  have HL := Lib.hid (hL.more hB)
  have HS := Lib.hid (hS.more hB)
  clear h0 hL hS hB
  have C1 := Lib.hid (fun W (hb : Below w.heap.size w W) => CheckTip_any w.heap.size Af nf cf b W (HL.out.below hb (Nat.le_refl _)) hb.size hf)
  have C2 := Lib.hid (fun W (hb : Below w.heap.size w W) => CheckTip_any w.heap.size A' n' c' s W (HS.out.below hb (Nat.le_refl _)) hb.size hf')
  have C3 := Lib.hid (fun W (hb : Below w.heap.size w W) => CheckPoints_any w.heap.size A n c l W (H.out.below hb (Nat.le_refl _)) hb.size hl)
  have C4 := Lib.hid (fun W (hb : Below w.heap.size w W) => checkBlunter_any w.heap.size Af A' nf cf n' c' b s W (HL.out.below hb (Nat.le_refl _)) (HS.out.below hb (Nat.le_refl _)) hb.size hf hf')
  have C5 := Lib.hid (fun W => checkWow_any wow W)
  have he : hrEr b s l wow = orL [ckTip b, ckTip s, ckG l, ckBl b s, ckWo wow] := rfl
  obtain ⟨e1, h1⟩ : ∃ x, ckTip b = x := ⟨_, rfl⟩
  obtain ⟨e2, h2⟩ : ∃ x, ckTip s = x := ⟨_, rfl⟩
  obtain ⟨e3, h3⟩ : ∃ x, ckG l = x := ⟨_, rfl⟩
  obtain ⟨e4, h4⟩ : ∃ x, ckBl b s = x := ⟨_, rfl⟩
  obtain ⟨e5, h5⟩ : ∃ x, ckWo wow = x := ⟨_, rfl⟩
  rw [h1] at C1
  rw [h2] at C2
  rw [h3] at C3
  rw [h4] at C4
  rw [h5] at C5
  rw [h1, h2, h3, h4, h5] at he
  obtain ⟨er_, h6⟩ : ∃ x, orL [e1, e2, e3, e4, e5] = x := ⟨_, rfl⟩
  rw [h6] at he
  have HER := Lib.hid he
  have HOR := Lib.hid (fun B A n c W h1 h2 h3 h4 => cmpOr_any B A n c [e1, e2, e3, e4, e5] W h1 h2 h3 h4)
  rw [h6] at HOR
  rw [he]
  clear h1 h2 h3 h4 h5 h6 he
  go_enter Try.func26, Try.ntmps26
  go_upto_region 1 with fail
  obtain ⟨w2, hW⟩ : ∃ W, (w.alloc (.cells #[.slice Af nf cf] 24)).alloc (.cells #[.slice A' n' c'] 24) = W := ⟨_, rfl⟩
  have hb : Below w.heap.size w w2 := by rw [← hW]; exact ((Below.refl _ _).alloc (Nat.le_refl _) _).alloc (by simp) _
  have K1 : Hid (Blk w2 w.heap.size 24 #[.slice Af nf cf]) := Lib.hid (by rw [← hW]; exact (Blk.new _ _ _).alloc _)
  have K2 : Hid (Blk w2 (w.heap.size + 1) 24 #[.slice A' n' c']) := Lib.hid (by rw [← hW]; exact blk_al (by simp))
  have HB := Lib.hid hb
  have hsz2 := hb.size
  rw [hW]
  clear hW hb
  have t1 := K1.out.one.1
  have t2 := K2.out.one.1
  go_wp2_with fail
  refine wp_region_held_drew (S := fun w' => w'.cell? ⟨w.heap.size, 0, none⟩ = some (.slice Af nf cf) ∧ w'.cell? ⟨w.heap.size + 1, 0, none⟩ = some (.slice A' n' c')) (by kernel_rfl) ⟨t1, t2⟩ (fun hHeld => ?_)
  obtain ⟨w3, hwd⟩ : ∃ wd, w2.drew = wd := ⟨_, rfl⟩
  have hb : Below w2.heap.size w2 w3 := by rw [← hwd]; exact (Below.refl _ _).drew
  have hsz3 := hb.size
  replace K1 := Lib.hid (K1.out.below hb K1.out.lt)
  replace K2 := Lib.hid (K2.out.below hb K2.out.lt)
  replace HB := Lib.hid (HB.out.trans (hb.mono (by omega)))
  rw [hwd] at hHeld ⊢
  clear hb hwd
  have t1 := K1.out.one.1
  have t2 := K2.out.one.1
  refine wpAnyH_take (i := 0) (oi := { dst := some 15, op := Go.Op.load 24 (Go.Operand.tmp 4), type := 24, pos := "play.go:73", after := #[], guard := none }) (v := ?vt3001) rfl (by kernel_rfl) (by kernel_rfl) (by kernel_rfl) (fun _ _ _ h => h) (Or.inl ⟨by rfl, ?ht3001⟩) hHeld ?_
  case ht3001 => intro w hSw; obtain ⟨s1, s2⟩ := hSw; go_simp; try with_reducible rfl
  simp only [Act.put, List.setIfInBounds_toArray, List.set_cons_zero, List.set_cons_succ]
  refine wpAnyH_take (i := 2) (oi := { dst := some 17, op := Go.Op.load 24 (Go.Operand.tmp 5), type := 24, pos := "play.go:73", after := #[], guard := none }) (v := ?vt3002) rfl (by kernel_rfl) (by kernel_rfl) (by kernel_rfl) (fun _ _ _ h => h) (Or.inl ⟨by rfl, ?ht3002⟩) hHeld ?_
  case ht3002 => intro w hSw; obtain ⟨s1, s2⟩ := hSw; go_simp; try with_reducible rfl
  simp only [Act.put, List.setIfInBounds_toArray, List.set_cons_zero, List.set_cons_succ]
  refine wpAnyH_take (i := 4) (oi := { dst := some 19, op := Go.Op.move (Go.Operand.tmp 2), type := 32, pos := "play.go:73", after := #[], guard := none }) (v := ?vt3003) rfl (by kernel_rfl) (by kernel_rfl) (by kernel_rfl) (fun _ _ _ h => h) (Or.inl ⟨by rfl, ?ht3003⟩) hHeld ?_
  case ht3003 => intro w hSw; obtain ⟨s1, s2⟩ := hSw; go_simp; try with_reducible rfl
  simp only [Act.put, List.setIfInBounds_toArray, List.set_cons_zero, List.set_cons_succ]
  refine wpAnyH_take (i := 6) (oi := { dst := some 21, op := Go.Op.load 24 (Go.Operand.tmp 4), type := 24, pos := "play.go:73", after := #[], guard := none }) (v := ?vt3004) rfl (by kernel_rfl) (by kernel_rfl) (by kernel_rfl) (fun _ _ _ h => h) (Or.inl ⟨by rfl, ?ht3004⟩) hHeld ?_
  case ht3004 => intro w hSw; obtain ⟨s1, s2⟩ := hSw; go_simp; try with_reducible rfl
  simp only [Act.put, List.setIfInBounds_toArray, List.set_cons_zero, List.set_cons_succ]
  refine wpAnyH_take (i := 7) (oi := { dst := some 22, op := Go.Op.load 24 (Go.Operand.tmp 5), type := 24, pos := "play.go:73", after := #[], guard := none }) (v := ?vt3005) rfl (by kernel_rfl) (by kernel_rfl) (by kernel_rfl) (fun _ _ _ h => h) (Or.inl ⟨by rfl, ?ht3005⟩) hHeld ?_
  case ht3005 => intro w hSw; obtain ⟨s1, s2⟩ := hSw; go_simp; try with_reducible rfl
  simp only [Act.put, List.setIfInBounds_toArray, List.set_cons_zero, List.set_cons_succ]
  refine wpAnyH_take (i := 9) (oi := { dst := some 24, op := Go.Op.move (Go.Operand.tmp 3), type := 2, pos := "play.go:73", after := #[], guard := none }) (v := ?vt3006) rfl (by kernel_rfl) (by kernel_rfl) (by kernel_rfl) (fun _ _ _ h => h) (Or.inl ⟨by rfl, ?ht3006⟩) hHeld ?_
  case ht3006 => intro w hSw; obtain ⟨s1, s2⟩ := hSw; go_simp; try with_reducible rfl
  simp only [Act.put, List.setIfInBounds_toArray, List.set_cons_zero, List.set_cons_succ]
  refine wpAnyH_ready (rs := [1]) (by kernel_rfl) (by simp) ?_
  refine AllReadyH.cons rfl (fun K hK => ?_) AllReadyH.nil
  go_simp
  have CALL := C1.out _ HB.out
  refine CALL.mono ?_
  rintro e w4 ⟨rfl, hb⟩
  clear CALL
  have hsz4 := hb.size
  replace K1 := Lib.hid (K1.out.below hb K1.out.lt)
  replace K2 := Lib.hid (K2.out.below hb K2.out.lt)
  replace HB := Lib.hid (HB.out.trans (hb.mono (by omega)))
  clear hb
  have t1 := K1.out.one.1
  have t2 := K2.out.one.1
  refine hK.out _ _ ?_ (fun hH3007 => ?_)
  · exact ⟨t1, t2⟩
  clear hK K
  refine wpAnyH_ready (rs := [3]) (by kernel_rfl) (by simp) ?_
  refine AllReadyH.cons rfl (fun K hK => ?_) AllReadyH.nil
  go_simp
  have CALL := C2.out _ HB.out
  refine CALL.mono ?_
  rintro e w5 ⟨rfl, hb⟩
  clear CALL
  have hsz5 := hb.size
  replace K1 := Lib.hid (K1.out.below hb K1.out.lt)
  replace K2 := Lib.hid (K2.out.below hb K2.out.lt)
  replace HB := Lib.hid (HB.out.trans (hb.mono (by omega)))
  clear hb
  have t1 := K1.out.one.1
  have t2 := K2.out.one.1
  refine hK.out _ _ ?_ (fun hH3008 => ?_)
  · exact ⟨t1, t2⟩
  clear hK K
  refine wpAnyH_ready (rs := [5]) (by kernel_rfl) (by simp) ?_
  refine AllReadyH.cons rfl (fun K hK => ?_) AllReadyH.nil
  go_simp
  have CALL := C3.out _ HB.out
  refine CALL.mono ?_
  rintro e w6 ⟨rfl, hb⟩
  clear CALL
  have hsz6 := hb.size
  replace K1 := Lib.hid (K1.out.below hb K1.out.lt)
  replace K2 := Lib.hid (K2.out.below hb K2.out.lt)
  replace HB := Lib.hid (HB.out.trans (hb.mono (by omega)))
  clear hb
  have t1 := K1.out.one.1
  have t2 := K2.out.one.1
  refine hK.out _ _ ?_ (fun hH3009 => ?_)
  · exact ⟨t1, t2⟩
  clear hK K
  refine wpAnyH_ready (rs := [8]) (by kernel_rfl) (by simp) ?_
  refine AllReadyH.cons rfl (fun K hK => ?_) AllReadyH.nil
  go_simp
  have CALL := C4.out _ HB.out
  refine CALL.mono ?_
  rintro e w7 ⟨rfl, hb⟩
  clear CALL
  have hsz7 := hb.size
  replace K1 := Lib.hid (K1.out.below hb K1.out.lt)
  replace K2 := Lib.hid (K2.out.below hb K2.out.lt)
  replace HB := Lib.hid (HB.out.trans (hb.mono (by omega)))
  clear hb
  have t1 := K1.out.one.1
  have t2 := K2.out.one.1
  refine hK.out _ _ ?_ (fun hH3010 => ?_)
  · exact ⟨t1, t2⟩
  clear hK K
  refine wpAnyH_ready (rs := [10]) (by kernel_rfl) (by simp) ?_
  refine AllReadyH.cons rfl (fun K hK => ?_) AllReadyH.nil
  go_simp
  have CALL := C5.out w7
  refine CALL.mono ?_
  rintro e w_ ⟨rfl, rfl⟩
  clear CALL
  refine hK.out _ _ ?_ (fun hH3011 => ?_)
  · exact ⟨t1, t2⟩
  clear hK K
  refine wpAnyH_ready (rs := [11]) (by kernel_rfl) (by simp) ?_
  refine AllReadyH.cons rfl (fun K hK => ?_) AllReadyH.nil
  go_simp
  obtain ⟨w8, hW⟩ : ∃ W, w7.alloc (.cells #[.int .i64 e1, .int .i64 e2, .int .i64 e3, .int .i64 e4, .int .i64 e5] 26) = W := ⟨_, rfl⟩
  have hb : Below w7.heap.size w7 w8 := by rw [← hW]; exact (Below.refl _ _).alloc (Nat.le_refl _) _
  have hsz8 := hb.size
  replace K1 := Lib.hid (K1.out.below hb K1.out.lt)
  replace K2 := Lib.hid (K2.out.below hb K2.out.lt)
  replace HB := Lib.hid (HB.out.trans (hb.mono (by omega)))
  have KE : Hid (Blk w8 w7.heap.size 26 #[.int .i64 e1, .int .i64 e2, .int .i64 e3, .int .i64 e4, .int .i64 e5]) := Lib.hid (by rw [← hW]; exact Blk.new _ _ _)
  try rw [hW]
  clear hW hb
  have t1 := K1.out.one.1
  have t2 := K2.out.one.1
  skip
  refine hK.out _ _ ?_ (fun hH3012 => ?_)
  · exact ⟨t1, t2⟩
  clear hK K
  refine wpAnyH_ready (rs := [12]) (by kernel_rfl) (by simp) ?_
  refine AllReadyH.cons rfl (fun K hK => ?_) AllReadyH.nil
  go_simp
  have CALL := HOR.out (w8.heap.size) _ 5 5 w8 rfl (reads_cells KE.out KE.out.lt (by rfl) (by rfl)) (Nat.le_refl _) (by omega)
  refine CALL.mono ?_
  rintro e w_ ⟨rfl, rfl⟩
  clear CALL
  refine hK.out _ _ ?_ (fun hH3013 => ?_)
  · exact ⟨t1, t2⟩
  clear hK K
  refine wpAnyH_take (i := 13) (oi := { dst := some 10, op := Go.Op.assign (Go.Operand.tmp 27), type := 26, pos := "play.go:73", after := #[{ on := 12, ground := Go.Ground.data }, { on := 12, ground := Go.Ground.chain }, { on := 0, ground := Go.Ground.phase }, { on := 1, ground := Go.Ground.phase }, { on := 2, ground := Go.Ground.phase }, { on := 3, ground := Go.Ground.phase }, { on := 4, ground := Go.Ground.phase }, { on := 5, ground := Go.Ground.phase }, { on := 6, ground := Go.Ground.phase }, { on := 7, ground := Go.Ground.phase }, { on := 8, ground := Go.Ground.phase }, { on := 9, ground := Go.Ground.phase }, { on := 10, ground := Go.Ground.phase }, { on := 11, ground := Go.Ground.phase }, { on := 12, ground := Go.Ground.phase }], guard := none }) (v := ?vt3014) rfl (by kernel_rfl) (by kernel_rfl) (by kernel_rfl) (fun _ _ _ h => h) (Or.inl ⟨by rfl, ?ht3014⟩) hH3013 ?_
  case ht3014 => intro w hSw; obtain ⟨s1, s2⟩ := hSw; go_simp; try with_reducible rfl
  simp only [Act.put, List.setIfInBounds_toArray, List.set_cons_zero, List.set_cons_succ]
  refine wpAnyH_done (by kernel_rfl) ?_ _
  clear C1 C2 C3 C4 C5 HOR KE hHeld
  by_cases hz : er_ = 0
  · subst hz
    obtain ⟨z1, z2, z3, z4, z5⟩ := hrEr_z.1 HER.out
    have HRES : Hid (hrRes b s l wow = hrL (rdL b l) (rdL s l) wow.toNat l.length) := Lib.hid (by unfold hrRes; rw [if_pos HER.out])
    have HS1 := Lib.hid (ckTip_ok z1)
    have HS2 := Lib.hid (ckTip_ok z2)
    have HE := Lib.hid (ckG_edg z3).2
    have hn4 : n ≤ 4096 := by have := HN.out; have := (ckG_edg z3).1; omega
    obtain ⟨far, rfl⟩ : ∃ far : Nat, wow = far := ⟨wow.toNat, by have := ckWo_z.1 z5; omega⟩
    have hfar : far ≤ 256 := by have := ckWo_z.1 z5; omega
    have HR1 : Hid (Edg (rdL b l)) := Lib.hid (rdL_edg HS1.out HE.out)
    have HR2 : Hid (Edg (rdL s l)) := Lib.hid (rdL_edg HS2.out HE.out)
    have hN := HN.out
    rw [Int.toNat_natCast, ← hN] at HRES
    have hq1 : ofW n (er b n (innW l)) (er b n (outW l)) = rdL b l := by rw [hN]; rfl
    have hq2 : ofW n (er s n (innW l)) (er s n (outW l)) = rdL s l := by rw [hN]; rfl
    have HQ1 := Lib.hid hq1
    have HQ2 := Lib.hid hq2
    clear z1 z2 z3 z4 z5 hN hq1 hq2 HER
    obtain ⟨i0, hi0, hy0, hy1, hy2⟩ := info_parts info_hd
    have HI0 := Lib.hid hi0
    have HZ0 := Lib.hid hy0
    have HZ1 := Lib.hid hy1
    have HZ2 := Lib.hid hy2
    have hmk := fun (W : World) => run_make_rowN (P := Try.prog) 38 44 i0 _ Try.underlying38 hi0 hy0 .i64 .i64 0 n (Nat.zero_le _) (by rw [hy2]; omega) (by omega) W
    rw [hy1] at hmk
    simp only [Int.natCast_zero] at hmk
    clear hi0 hy0 hy1 hy2
    go_wp2_with fail
    have CALL := stylusOf_any w.heap.size Af nf cf b w8 (HL.out.below HB.out (Nat.le_refl _)) HB.out.size HS1.out
    refine CALL.mono ?_
    rintro e w9 ⟨Ag1, ng1, cg1, rfl, hg, hb⟩
    clear CALL
    have hsz9 := hb.size
    replace K1 := Lib.hid (K1.out.below hb K1.out.lt)
    replace K2 := Lib.hid (K2.out.below hb K2.out.lt)
    replace HB := Lib.hid (HB.out.trans (hb.mono (by omega)))
    have HG1 := Lib.hid hg
    clear hg
    clear hb
    have t1 := K1.out.one.1
    have t2 := K2.out.one.1
    go_wp2_with fail
    have CALL := traceRead_any w9.heap.size b Ag1 A ng1 cg1 n c l w9 HG1.out ((H.out.below HB.out (Nat.le_refl _)).more HB.out.size) (Nat.le_refl _) HS1.out HE.out hn4
    rw [HQ1.out] at CALL
    refine CALL.mono ?_
    rintro e w10 ⟨AX1, nX1, kX1, rfl, hr, hcX1, hb⟩
    clear CALL
    have hsz10 := hb.size
    replace K1 := Lib.hid (K1.out.below hb K1.out.lt)
    replace K2 := Lib.hid (K2.out.below hb K2.out.lt)
    replace HB := Lib.hid (HB.out.trans (hb.mono (by omega)))
    have HX1 := Lib.hid hr
    clear hr HG1 hcX1
    clear hb
    have t1 := K1.out.one.1
    have t2 := K2.out.one.1
    go_wp2_with fail
    have CALL := stylusOf_any w.heap.size A' n' c' s w10 (HS.out.below HB.out (Nat.le_refl _)) HB.out.size HS2.out
    refine CALL.mono ?_
    rintro e w11 ⟨Ag2, ng2, cg2, rfl, hg, hb⟩
    clear CALL
    have hsz11 := hb.size
    replace HX1 := Lib.hid (HX1.out.below hb (by omega))
    replace K1 := Lib.hid (K1.out.below hb K1.out.lt)
    replace K2 := Lib.hid (K2.out.below hb K2.out.lt)
    replace HB := Lib.hid (HB.out.trans (hb.mono (by omega)))
    have HG2 := Lib.hid hg
    clear hg
    clear hb
    have t1 := K1.out.one.1
    have t2 := K2.out.one.1
    go_wp2_with fail
    have CALL := traceRead_any w11.heap.size s Ag2 A ng2 cg2 n c l w11 HG2.out ((H.out.below HB.out (Nat.le_refl _)).more HB.out.size) (Nat.le_refl _) HS2.out HE.out hn4
    rw [HQ2.out] at CALL
    refine CALL.mono ?_
    rintro e w12 ⟨AX2, nX2, kX2, rfl, hr, hcX2, hb⟩
    clear CALL
    have hsz12 := hb.size
    replace HX1 := Lib.hid (HX1.out.below hb (by omega))
    replace K1 := Lib.hid (K1.out.below hb K1.out.lt)
    replace K2 := Lib.hid (K2.out.below hb K2.out.lt)
    replace HB := Lib.hid (HB.out.trans (hb.mono (by omega)))
    have HX2 := Lib.hid hr
    clear hr HG2 hcX2
    clear hb
    have t1 := K1.out.one.1
    have t2 := K2.out.one.1
    have hnx1 : nX1 = n := by have := HX1.out.1; rw [rdL_len] at this; have := HN.out; omega
    have hnx2 : nX2 = n := by have := HX2.out.1; rw [rdL_len] at this; have := HN.out; omega
    subst nX1
    subst nX2
    replace HX1 := Lib.hid (HX1.out.more (show _ ≤ w12.heap.size by omega))
    obtain ⟨N, hNN⟩ : ∃ N, rdL b l = N := ⟨_, rfl⟩
    obtain ⟨L, hLL⟩ : ∃ L, rdL s l = L := ⟨_, rfl⟩
    rw [hNN] at HX1 HR1
    rw [hLL] at HX2 HR2
    rw [hNN, hLL] at HRES
    clear hNN hLL t1 t2 K1 K2 hH3012 hH3013 HQ1 HQ2 HS1 HS2 HE
    go_wp2_with fail
    have hown : (w12.alloc (.cells (madeCells #[.int .i64 0, .int .i64 0, .int .i64 0, .int .i64 0] (n * 4)) 44)).ownsRow w12.heap.size 44 4 (.slice (some ⟨w12.heap.size, 0, none⟩) 0 n) 0 [] :=
      World.ownsRow_made (base := w12.heap.size) (e := 44) (size := 4) w12 (madeCells (Value.agg #[Value.int IntKind.i64 0, Value.int IntKind.i64 0, Value.int IntKind.i64 0, Value.int IntKind.i64 0]).cells (n * 4)) n (Nat.le_refl _) (by unfold maxLen; omega) (by rw [size_madeCells])
    obtain ⟨W, hW⟩ : ∃ W, w12.alloc (.cells (madeCells #[.int .i64 0, .int .i64 0, .int .i64 0, .int .i64 0] (n * 4)) 44) = W := ⟨_, rfl⟩
    have hbw : Below w12.heap.size w12 W := by rw [← hW]; exact (Below.refl _ _).alloc (Nat.le_refl _) _
    rw [hW] at hown ⊢
    have HO := Lib.hid hown
    have H12 := Lib.hid hbw
    clear hown hmk hW hbw
    go_wp2_with fail
    go_loopw [13, 14, 52] (fun sv _ z wr => ∃ j : Nat, j ≤ n ∧ z = .int .i64 j ∧ Hid (wr.ownsRow w12.heap.size 44 4 sv j (hdCells ((hrL N L far n).take j))) ∧ Hid (Below w12.heap.size w12 wr)) (fun _ _ z wr => n - (intOf z).toNat)
    case atStart => exact ⟨0, Nat.zero_le _, rfl, HO, H12⟩
    case round =>
      clear HO H12
      obtain ⟨j, hj, rfl, HO, H12⟩ := hrel
      by_cases hlt : j < n
      · have HSN := Lib.hid (hrL_take (N := N) (L := L) (far := far) hlt)
        have hss := H12.out.size
        go_wp2_with fail
        refine (around_any j far n wr).mono ?_
        rintro e W2 ⟨rfl, hW2⟩
        have hb2 : Below wr.heap.size wr W2 := by rw [← hW2]; exact (((Below.refl _ _).alloc (Nat.le_refl _) _).alloc (by simp) _).alloc (by simp; omega) _
        have q1 : Blk W2 wr.heap.size 3 #[.int .i64 j] := by rw [← hW2]; exact ((Blk.new _ _ _).alloc _).alloc _
        have q2 : Blk W2 (wr.heap.size + 1) 3 #[.int .i64 far] := by rw [← hW2]; exact (blk_al (by simp)).alloc _
        have q3 : Blk W2 (wr.heap.size + 1 + 1) 3 #[.int .i64 n] := by rw [← hW2]; exact blk_al (by simp)
        have SI : SeqIs W2 95 #[.pointer (some ⟨wr.heap.size, 0, none⟩), .pointer (some ⟨wr.heap.size + 1, 0, none⟩), .pointer (some ⟨wr.heap.size + 1 + 1, 0, none⟩)] (nbr j far n) :=
          ⟨enters_of Try.func95 (by kernel_rfl) rfl, fun gg X hX hg => around1_all (12 - 1) _ _ _ j far n gg X (by omega) (q1.below hX q1.lt) (q2.below hX q2.lt) (q3.below hX q3.lt)
            (fun h => by have := hg _ h; have := q1.lt; omega) (fun h => by have := hg _ h; have := q2.lt; omega) (fun h => by have := hg _ h; have := q3.lt; omega) (by omega) (by omega) (by omega)⟩
        replace HO := Lib.hid (own_below HO.out hb2)
        replace H12 := Lib.hid (H12.out.trans (hb2.mono hss))
        have CALL := heard_any w12.heap.size _ _ AX1 AX2 n kX1 kX2 j far N L W2 (HX1.out.below H12.out (Nat.le_refl _)) (HX2.out.below H12.out (Nat.le_refl _)) H12.out.size SI hlt HR1.out HR2.out
        obtain ⟨x, hx⟩ : ∃ x, hdL N L (nbr j far n) = x := ⟨_, rfl⟩
        rw [hx] at CALL HSN
        simp only [Hrd.val] at CALL
        clear hx SI q1 q2 q3 hW2 hb2 hss
        go_wp2_with fail
        refine CALL.mono ?_
        rintro e w3 ⟨rfl, hb1⟩
        clear CALL
        have hs1 := hb1.size
        replace HO := Lib.hid (own_below HO.out hb1)
        replace H12 := Lib.hid (H12.out.trans (hb1.mono H12.out.size))
        have hs2 := H12.out.size
        clear hb1
        go_wp2_with (at_builtin; refine wpList_append_any _ rfl (.tmp 55) (.tmp 66) _ rfl w12.heap.size 44 i0 _ 4 32 Try.underlying38 HI0.out HZ0.out HZ1.out HZ2.out rfl (by omega) _ j _ rfl (HO.out.alloc _) (w3.heap.size + 1) (some ⟨w3.heap.size, 0, none⟩) 1 1 [.int .i64 x.a, .int .i64 x.b, .int .i64 x.c, .int .i64 x.d] rfl (reads_cells (blk_al rfl) (Nat.lt_succ_self _) (by rfl) (by rfl)) (by intro u hu; simp at hu; rcases hu with rfl | rfl | rfl | rfl <;> rfl) (by unfold maxLen; omega) (by omega) (by simp; omega) ?_)
        intro v' w4 hown' hgrow _
        have HO4 : Hid (w4.ownsRow w12.heap.size 44 4 v' (j + 1) (hdCells ((hrL N L far n).take (j + 1)))) := Lib.hid (by rw [HSN.out, hdCells_snoc]; exact hown')
        have HB4 := Lib.hid ((H12.out.alloc H12.out.size (.cells #[.int .i64 x.a, .int .i64 x.b, .int .i64 x.c, .int .i64 x.d] 44)).grown hgrow (by simp; omega) (fun g hg => by have := (HO.out.lt g hg).1; omega))
        clear hown' hgrow HO H12
        go_wp2
        go_roundw
        case rel => exact ⟨j + 1, by omega, by go_num, HO4, HB4⟩
        case measure => simp [intOf]; omega
      · obtain rfl : j = n := by omega
        obtain ⟨A9, c9, hv, hr, hc⟩ := own_readsC HO.out
        subst hv
        rw [List.take_of_length_le (by rw [hrL_len]; exact Nat.le_refl _)] at hr
        have HRD := Lib.hid hr
        clear hr
        go_wp2
        go_ret2
        refine ⟨A9, j, c9, rfl, ?_, hc, HB.out.trans (H12.out.mono HB.out.size)⟩
        rw [HRES.out]
        exact ⟨(hrL_len _ _ _ _).symm, HRD.out⟩
  · have q1 : (er_ != 0) = true := by rw [bne_iff_ne]; exact hz
    have HRES : Hid (hrRes b s l wow = []) := Lib.hid (by unfold hrRes; rw [if_neg (by rw [HER.out]; exact hz)])
    have q2 : (er_ == 0) = false := beq_eq_false_iff_ne.2 hz
    clear hz
    go_wp2
    go_ret2
    refine ⟨none, 0, 0, rfl, ?_, Nat.le_refl _, HB.out⟩
    rw [HRES.out]
    exact ⟨rfl, by simp [hdCells], fun h => absurd h (by omega)⟩


theorem hdCells_at : ∀ (xs : List Hrd) (k : Nat) (hk : k < xs.length), (hdCells xs)[k * 4]? = some (.int .i64 xs[k].a) ∧ (hdCells xs)[k * 4 + 1]? = some (.int .i64 xs[k].b) ∧ (hdCells xs)[k * 4 + 2]? = some (.int .i64 xs[k].c) ∧ (hdCells xs)[k * 4 + 3]? = some (.int .i64 xs[k].d)
  | x :: xs, 0, _ => ⟨rfl, rfl, rfl, rfl⟩
  | x :: xs, k + 1, h => by
    have := hdCells_at xs k (by simpa using h)
    rw [show (k + 1) * 4 = k * 4 + 1 + 1 + 1 + 1 by omega]
    exact this
theorem RH.at_ {w : World} {B : Nat} {A : Option Addr} {n : Nat} {xs : List Hrd} (h : RH w B A n xs) {k : Nat} (hk : k < xs.length) :
    ∃ ad, A = some ad ∧ ad.block < B ∧ w.cell? (ad.add (k * 4)) = some (.int .i64 xs[k].a) ∧ w.cell? ⟨(ad.add (k * 4)).block, (ad.add (k * 4)).off + 1, none⟩ = some (.int .i64 xs[k].b)
      ∧ w.cell? ⟨(ad.add (k * 4)).block, (ad.add (k * 4)).off + 2, none⟩ = some (.int .i64 xs[k].c) ∧ w.cell? ⟨(ad.add (k * 4)).block, (ad.add (k * 4)).off + 3, none⟩ = some (.int .i64 xs[k].d) := by
  obtain ⟨rfl, hr⟩ := h
  obtain ⟨ad, e, hb, hc⟩ := hr.2 (by omega)
  obtain ⟨h1, h2, h3, h4⟩ := hdCells_at xs k hk
  exact ⟨ad, e, hb, hc _ _ h1, by have := hc _ _ h2; rw [← add_of_add] at this; exact this, by have := hc _ _ h3; rw [← add_of_add] at this; exact this, by have := hc _ _ h4; rw [← add_of_add] at this; exact this⟩
theorem hrL_at {N L : List Smp} {far n k : Nat} (hk : k < (hrL N L far n).length) : (hrL N L far n)[k] = hdL N L (nbr k far n) := by simp [hrL]

/-- What a tip between a blunt and a sharp one reads near a sample lies in what can be heard. -/
theorem hd_holds {N L M : List Smp} {us : List Nat} {u : Nat} (hu : u ∈ us) (hN : outW N u ≤ outW M u ∧ innW N u ≤ innW M u) (hL : outW M u ≤ outW L u ∧ innW M u ≤ innW L u) :
    (hdL N L us).a ≤ -innW M u ∧ -innW M u ≤ (hdL N L us).b ∧ (hdL N L us).c ≤ outW M u ∧ outW M u ≤ (hdL N L us).d := by
  have h1 := mnL_le (f := fun u => -innW L u) hu
  have h2 := mnL_le (f := innW N) hu
  have h3 := mnL_le (f := outW N) hu
  have h4 := mnL_le (f := fun u => -outW L u) hu
  unfold hdL mxL
  dsimp only at *
  omega
theorem mnL_sub {f : Nat → Int} {us vs : List Nat} (h : ∀ u ∈ us, u ∈ vs) (hne : us ≠ []) (hb : ∀ u ∈ us, f u ≤ 9223372036854775807) : mnL f vs ≤ mnL f us := by
  obtain ⟨u, hu, e⟩ := mnL_at hne hb
  rw [e]
  exact mnL_le (h u hu)
theorem hd_wider {N L : List Smp} {us vs : List Nat} (h : ∀ u ∈ us, u ∈ vs) (hne : us ≠ []) (hN : ∀ u ∈ us, -4194304 ≤ innW N u ∧ innW N u ≤ 4194304 ∧ -4194304 ≤ outW N u ∧ outW N u ≤ 4194304) (hL : ∀ u ∈ us, -4194304 ≤ innW L u ∧ innW L u ≤ 4194304 ∧ -4194304 ≤ outW L u ∧ outW L u ≤ 4194304) :
    (hdL N L vs).a ≤ (hdL N L us).a ∧ (hdL N L us).b ≤ (hdL N L vs).b ∧ (hdL N L vs).c ≤ (hdL N L us).c ∧ (hdL N L us).d ≤ (hdL N L vs).d := by
  have h1 := mnL_sub (f := fun u => -innW L u) h hne (fun u hu => by have := hL u hu; omega)
  have h2 := mnL_sub (f := innW N) h hne (fun u hu => by have := hN u hu; omega)
  have h3 := mnL_sub (f := outW N) h hne (fun u hu => by have := hN u hu; omega)
  have h4 := mnL_sub (f := fun u => -outW L u) h hne (fun u hu => by have := hL u hu; omega)
  unfold hdL mxL
  dsimp only at *
  omega
theorem nbr_zero {t n : Nat} (h : t < n) : nbr t 0 n = [t] := by
  unfold nbr
  rw [show min n (t + 0 + 1) - (t - 0) = 1 by omega]
  rfl
theorem mnL_one (f : Nat → Int) (t : Nat) (h : f t ≤ 9223372036854775807) : mnL f [t] = f t := by
  show min 9223372036854775807 (f t) = f t
  omega
theorem hd_just {N : List Smp} {t n : Nat} (h : t < n) (hN : -4194304 ≤ innW N t ∧ innW N t ≤ 4194304 ∧ -4194304 ≤ outW N t ∧ outW N t ≤ 4194304) : hdL N N (nbr t 0 n) = ⟨-innW N t, -innW N t, outW N t, outW N t⟩ := by
  rw [nbr_zero h]
  unfold hdL mxL
  rw [mnL_one _ _ (by omega), mnL_one _ _ (by omega), mnL_one _ _ (by omega), mnL_one _ _ (by omega)]
  simp
theorem ckBl_z {s o : List Int} : ckBl s o = 0 ↔ blL s o = true := by unfold ckBl; split <;> simp_all
theorem edg_at {l : List Smp} (he : Edg l) {u : Nat} (hu : u < l.length) : -4194304 ≤ innW l u ∧ innW l u ≤ 4194304 ∧ -4194304 ≤ outW l u ∧ outW l u ≤ 4194304 := by
  have h1 := he.1 u hu
  have h2 := he.2 u hu
  omega
/-- A blunt tip, one that is sharper, and one that is sharper still: all about a sample. -/
theorem heard_all {s s1 s2 : List Int} {l : List Smp} (h0 : Shp s) (h1 : Shp s1) (h2 : Shp s2) (hl1 : s1.length ≤ s.length) (hl2 : s2.length ≤ s1.length) (hk1 : ∀ k, k < s1.length → atI s k ≤ atI s1 k) (hk2 : ∀ k, k < s2.length → atI s1 k ≤ atI s2 k) (he : Edg l)
    {far n t u : Nat} (hn : n = l.length) (ht : t < n) (hu : u < n) (hd : dst u t ≤ far) :
    ((hdL (rdL s l) (rdL s2 l) (nbr t far n)).a ≤ -innW (rdL s1 l) u ∧ -innW (rdL s1 l) u ≤ (hdL (rdL s l) (rdL s2 l) (nbr t far n)).b ∧ (hdL (rdL s l) (rdL s2 l) (nbr t far n)).c ≤ outW (rdL s1 l) u ∧ outW (rdL s1 l) u ≤ (hdL (rdL s l) (rdL s2 l) (nbr t far n)).d)
    ∧ ((hdL (rdL s l) (rdL s2 l) (nbr t (far + 1) n)).a ≤ (hdL (rdL s l) (rdL s2 l) (nbr t far n)).a ∧ (hdL (rdL s l) (rdL s2 l) (nbr t far n)).b ≤ (hdL (rdL s l) (rdL s2 l) (nbr t (far + 1) n)).b ∧ (hdL (rdL s l) (rdL s2 l) (nbr t (far + 1) n)).c ≤ (hdL (rdL s l) (rdL s2 l) (nbr t far n)).c ∧ (hdL (rdL s l) (rdL s2 l) (nbr t far n)).d ≤ (hdL (rdL s l) (rdL s2 l) (nbr t (far + 1) n)).d)
    ∧ hdL (rdL s1 l) (rdL s1 l) (nbr t 0 n) = ⟨-innW (rdL s1 l) t, -innW (rdL s1 l) t, outW (rdL s1 l) t, outW (rdL s1 l) t⟩ := by
  have e0 := rdL_edg h0 he
  have e1 := rdL_edg h1 he
  have e2 := rdL_edg h2 he
  have i1 := (insP_t.1 (rd_sharper h0 h1 hl1 hk1 he)).2 u (by rw [rdL_len]; omega)
  have i2 := (insP_t.1 (rd_sharper h1 h2 hl2 hk2 he)).2 u (by rw [rdL_len]; omega)
  refine ⟨hd_holds (nbr_mem.2 ⟨hu, hd⟩) i1 i2, hd_wider (fun v hv => by have := nbr_mem.1 hv; exact nbr_mem.2 ⟨this.1, by omega⟩) (List.ne_nil_of_mem (nbr_self ht)) (fun v hv => edg_at e0 (by rw [rdL_len]; have := (nbr_mem.1 hv).1; omega)) (fun v hv => edg_at e2 (by rw [rdL_len]; have := (nbr_mem.1 hv).1; omega)), hd_just ht (edg_at e1 (by rw [rdL_len]; omega))⟩
/-- The errors of the three calls. -/
theorem heard_ok {s s1 s2 : List Int} {l : List Smp} (h0 : Shp s) (h1 : Shp s1) (h2 : Shp s2) (hl1 : s1.length ≤ s.length) (hl2 : s2.length ≤ s1.length) (hk1 : ∀ k, k < s1.length → atI s k ≤ atI s1 k) (hk2 : ∀ k, k < s2.length → atI s1 k ≤ atI s2 k) (hg : ckG l = 0) {far : Nat} (hf : far ≤ 10) :
    hrEr s s2 l far = 0 ∧ hrEr s s2 l ((far : Int) + 1) = 0 ∧ hrEr s1 s1 l 0 = 0 := by
  refine ⟨hrEr_z.2 ⟨ckTip_of h0, ckTip_of h2, hg, ckBl_z.2 (blL_t.2 ⟨by omega, fun k hk => ?_⟩), ckWo_z.2 (by omega)⟩, hrEr_z.2 ⟨ckTip_of h0, ckTip_of h2, hg, ckBl_z.2 (blL_t.2 ⟨by omega, fun k hk => ?_⟩), ckWo_z.2 (by omega)⟩, hrEr_z.2 ⟨ckTip_of h1, ckTip_of h1, hg, ckBl_z.2 (blL_t.2 ⟨by omega, fun k hk => ?_⟩), ckWo_z.2 (by omega)⟩⟩
  · have := hk1 k (by omega); have := hk2 k hk; omega
  · have := hk1 k (by omega); have := hk2 k hk; omega
  · omega
theorem hrRes_eq {b s : List Int} {l : List Smp} {far : Nat} (h : hrEr b s l far = 0) : hrRes b s l far = hrL (rdL b l) (rdL s l) far l.length := by unfold hrRes; rw [if_pos h, Int.toNat_natCast]


/-- By how many samples a groove is early or late at most, as it is reckoned. -/
def woV (off r per : Int) : Int := IntKind.i64.wrap ((IntKind.i64.wrap (IntKind.i64.wrap (IntKind.i64.wrap (IntKind.i64.wrap (off * 113) * per) + IntKind.i64.wrap (710 * r)) - 1)).tdiv (IntKind.i64.wrap (710 * r)))
def woOk (off r per : Int) : Bool := win off 0 4194304 && win r 0 4194304 && win per 1 65536
def woC (off r per : Int) : Int := if woOk off r per then (if r = 0 then 9 else 0) else 3
def woEr (off r per : Int) : Int := if woC off r per = 0 then (if 256 < woV off r per then 14 else 0) else woC off r per
def woRes (off r per : Int) : Int := if woEr off r per = 0 then woV off r per else 0
theorem woC_z {off r per : Int} (h : woC off r per = 0) : 0 < r ∧ r ≤ 4194304 := by
  unfold woC at h
  split at h
  · rename_i h1
    split at h
    · cases h
    · unfold woOk win at h1
      simp only [Bool.and_eq_true, decide_eq_true_eq] at h1
      omega
  · cases h

set_option maxRecDepth 100000 in
set_option maxHeartbeats 1000000 in
theorem early_any (off r per : Int) (w : World) (h : 0 < r ∧ r ≤ 4194304) :
    Calls Try.prog 59 #[.int .i64 off, .int .i64 r, .int .i64 per] w fun e w' => e = .returned (.int .i64 (woV off r per)) ∧ w = w' := by
  have hv : woV off r per = IntKind.i64.wrap ((IntKind.i64.wrap (IntKind.i64.wrap (IntKind.i64.wrap (IntKind.i64.wrap (off * 113) * per) + IntKind.i64.wrap (710 * r)) - 1)).tdiv (IntKind.i64.wrap (710 * r))) := rfl
  have h0 : IntKind.i64.wrap (710 * r) ≠ 0 := by rw [IntWalk.i64_in _ (by omega)]; omega
  obtain ⟨x1, h1⟩ : ∃ x, IntKind.i64.wrap (off * 113) = x := ⟨_, rfl⟩
  rw [h1] at hv
  obtain ⟨x2, h2⟩ : ∃ x, IntKind.i64.wrap (x1 * per) = x := ⟨_, rfl⟩
  rw [h2] at hv
  obtain ⟨x3, h3⟩ : ∃ x, IntKind.i64.wrap (710 * r) = x := ⟨_, rfl⟩
  rw [h3] at hv h0
  obtain ⟨x4, h4⟩ : ∃ x, IntKind.i64.wrap (x2 + x3) = x := ⟨_, rfl⟩
  rw [h4] at hv
  obtain ⟨x5, h5⟩ : ∃ x, IntKind.i64.wrap (x4 - 1) = x := ⟨_, rfl⟩
  rw [h5] at hv
  obtain ⟨x6, h6⟩ : ∃ x, x5.tdiv x3 = x := ⟨_, rfl⟩
  rw [h6] at hv
  obtain ⟨x7, h7⟩ : ∃ x, IntKind.i64.wrap x6 = x := ⟨_, rfl⟩
  rw [h7] at hv
  have HV := Lib.hid hv
  have q0 : (x3 == 0) = false := beq_eq_false_iff_ne.2 h0
  clear hv h
  go_enter Try.func59, Try.ntmps59
  go_wp2
  go_ret
  exact ⟨ret_i HV.out.symm, rfl⟩

set_option maxRecDepth 100000 in
set_option maxHeartbeats 2000000 in
theorem checkOffset_any (off r per : Int) (w : World) :
    Calls Try.prog 58 #[.int .i64 off, .int .i64 r, .int .i64 per] w fun e w' => e = .returned (.int .i64 (woC off r per)) ∧ w = w' := by
  cases h1 : win off 0 4194304 <;> cases h2 : win r 0 4194304 <;> cases h3 : win per 1 65536
  all_goals
    have H1 := Lib.hid h1
    have H2 := Lib.hid h2
    have H3 := Lib.hid h3
    have hr : woC off r per = if (win off 0 4194304 && win r 0 4194304 && win per 1 65536) then (if r = 0 then 9 else 0) else 3 := rfl
    simp only [h1, h2, h3, Bool.and_true, Bool.and_false, if_true, if_false, Bool.false_eq_true] at hr
    have HR := Lib.hid hr
    clear h1 h2 h3 hr
    by_cases hz : r = 0
    all_goals
      have q1 : (r == 0) = decide (r = 0) := by by_cases h : r = 0 <;> simp [h]
      first
      | rw [decide_eq_true hz] at q1
      | rw [decide_eq_false hz] at q1
      have HZ := Lib.hid hz
      clear hz
      go_enter Try.func58, Try.ntmps58
      go_wp2_with ((with_reducible refine (betweenP_any _ _ _ _).mono ?_); rintro e w' ⟨rfl, rfl⟩; (try rw [H1.out]); (try rw [H2.out]); (try rw [H3.out]))
      go_ret
      exact ⟨ret_i (by rw [HR.out]; (try simp [HZ.out])), rfl⟩

set_option maxRecDepth 100000 in
set_option maxHeartbeats 2000000 in
theorem Wow_any (off r per : Int) (w : World) :
    Calls Try.prog 24 #[.int .i64 off, .int .i64 r, .int .i64 per] w fun e w' => e = .returned (.tuple #[.int .i64 (woRes off r per), .int .i64 (woEr off r per)]) ∧ w = w' := by
  have CO := Lib.hid (fun W => checkOffset_any off r per W)
  have CE := Lib.hid (fun W h => early_any off r per W h)
  have HC := Lib.hid (@woC_z off r per)
  have her : woEr off r per = if woC off r per = 0 then (if 256 < woV off r per then 14 else 0) else woC off r per := rfl
  have hrs : woRes off r per = if woEr off r per = 0 then woV off r per else 0 := rfl
  obtain ⟨c, hc⟩ : ∃ c, woC off r per = c := ⟨_, rfl⟩
  obtain ⟨v, hv⟩ : ∃ v, woV off r per = v := ⟨_, rfl⟩
  rw [hc] at CO HC her
  rw [hv] at CE her hrs
  by_cases hz : c = 0
  · subst hz
    have hrr := HC.out rfl
    by_cases h5 : 256 < v
    · have HE : Hid (woEr off r per = 14 ∧ woRes off r per = 0) := Lib.hid ⟨by rw [her, if_pos rfl, if_pos h5], by rw [hrs, her, if_pos rfl, if_pos h5]; rfl⟩
      have d5 : decide (256 < v) = true := decide_eq_true h5
      clear her hrs hc hv HC
      go_enter Try.func24, Try.ntmps24
      go_wp2_with fail
      refine (CO.out _).mono ?_
      rintro e w1 ⟨rfl, rfl⟩
      go_wp2_with fail
      refine (CE.out _ hrr).mono ?_
      rintro e w1 ⟨rfl, rfl⟩
      go_wp2
      go_ret2
      exact ⟨by rw [HE.out.1, HE.out.2]; rfl, rfl⟩
    · have HE : Hid (woEr off r per = 0 ∧ woRes off r per = v) := Lib.hid ⟨by rw [her, if_pos rfl, if_neg h5], by rw [hrs, her, if_pos rfl, if_neg h5, if_pos rfl]⟩
      have d5 : decide (256 < v) = false := decide_eq_false h5
      clear her hrs hc hv HC
      go_enter Try.func24, Try.ntmps24
      go_wp2_with fail
      refine (CO.out _).mono ?_
      rintro e w1 ⟨rfl, rfl⟩
      go_wp2_with fail
      refine (CE.out _ hrr).mono ?_
      rintro e w1 ⟨rfl, rfl⟩
      go_wp2
      go_ret2
      exact ⟨by rw [HE.out.1, HE.out.2]; rfl, rfl⟩
  · have HE : Hid (woEr off r per = c ∧ woRes off r per = 0) := Lib.hid ⟨by rw [her, if_neg hz], by rw [hrs, her, if_neg hz, if_neg hz]⟩
    have q1 : (c != 0) = true := by rw [bne_iff_ne]; exact hz
    have q2 : (c == 0) = false := beq_eq_false_iff_ne.2 hz
    clear her hrs hc hv HC hz
    go_enter Try.func24, Try.ntmps24
    go_wp2_with fail
    refine (CO.out _).mono ?_
    rintro e w1 ⟨rfl, rfl⟩
    go_wp2
    go_ret2
    exact ⟨by rw [HE.out.1, HE.out.2]; rfl, rfl⟩

set_option maxRecDepth 100000 in
set_option maxHeartbeats 4000000 in
theorem refWow_any (off r per : Int) (w : World) :
    Calls Try.prog 25 #[.int .i64 off, .int .i64 r, .int .i64 per] w fun e w' => e = .returned (.tuple #[.int .i64 (woRes off r per), .int .i64 (woEr off r per)]) ∧ w = w' := by
  have her : woEr off r per = if woC off r per = 0 then (if 256 < woV off r per then 14 else 0) else woC off r per := rfl
  have hrs : woRes off r per = if woEr off r per = 0 then woV off r per else 0 := rfl
  have hcc : woC off r per = if woOk off r per then (if r = 0 then 9 else 0) else 3 := rfl
  have hok : woOk off r per = (decide (0 ≤ off) && decide (off ≤ 4194304) && (decide (0 ≤ r) && decide (r ≤ 4194304)) && (decide (1 ≤ per) && decide (per ≤ 65536))) := rfl
  by_cases a0 : off < 0
  · have b0 : decide (off < 0) = true := decide_eq_true a0
    have HE : Hid (woEr off r per = 3 ∧ woRes off r per = 0) := Lib.hid (by
      have hk : woOk off r per = false := by rw [hok]; simp only [Bool.and_eq_false_iff, decide_eq_false_iff_not]; omega
      have hc : woC off r per = 3 := by rw [hcc, hk]; rfl
      have h1 : woEr off r per = 3 := by rw [her, hc]; rfl
      exact ⟨h1, by rw [hrs, h1]; rfl⟩)
    clear her hrs hcc hok
    go_enter Try.func25, Try.ntmps25
    go_wp2
    go_ret2
    exact ⟨by rw [HE.out.1, HE.out.2]; rfl, rfl⟩
  · have b0 : decide (off < 0) = false := decide_eq_false a0
    by_cases a1 : 4194304 < off
    · have b1 : decide (4194304 < off) = true := decide_eq_true a1
      have HE : Hid (woEr off r per = 3 ∧ woRes off r per = 0) := Lib.hid (by
        have hk : woOk off r per = false := by rw [hok]; simp only [Bool.and_eq_false_iff, decide_eq_false_iff_not]; omega
        have hc : woC off r per = 3 := by rw [hcc, hk]; rfl
        have h1 : woEr off r per = 3 := by rw [her, hc]; rfl
        exact ⟨h1, by rw [hrs, h1]; rfl⟩)
      clear her hrs hcc hok
      go_enter Try.func25, Try.ntmps25
      go_wp2
      go_ret2
      exact ⟨by rw [HE.out.1, HE.out.2]; rfl, rfl⟩
    · have b1 : decide (4194304 < off) = false := decide_eq_false a1
      by_cases a2 : r < 0
      · have b2 : decide (r < 0) = true := decide_eq_true a2
        have HE : Hid (woEr off r per = 3 ∧ woRes off r per = 0) := Lib.hid (by
          have hk : woOk off r per = false := by rw [hok]; simp only [Bool.and_eq_false_iff, decide_eq_false_iff_not]; omega
          have hc : woC off r per = 3 := by rw [hcc, hk]; rfl
          have h1 : woEr off r per = 3 := by rw [her, hc]; rfl
          exact ⟨h1, by rw [hrs, h1]; rfl⟩)
        clear her hrs hcc hok
        go_enter Try.func25, Try.ntmps25
        go_wp2
        go_ret2
        exact ⟨by rw [HE.out.1, HE.out.2]; rfl, rfl⟩
      · have b2 : decide (r < 0) = false := decide_eq_false a2
        by_cases a3 : 4194304 < r
        · have b3 : decide (4194304 < r) = true := decide_eq_true a3
          have HE : Hid (woEr off r per = 3 ∧ woRes off r per = 0) := Lib.hid (by
            have hk : woOk off r per = false := by rw [hok]; simp only [Bool.and_eq_false_iff, decide_eq_false_iff_not]; omega
            have hc : woC off r per = 3 := by rw [hcc, hk]; rfl
            have h1 : woEr off r per = 3 := by rw [her, hc]; rfl
            exact ⟨h1, by rw [hrs, h1]; rfl⟩)
          clear her hrs hcc hok
          go_enter Try.func25, Try.ntmps25
          go_wp2
          go_ret2
          exact ⟨by rw [HE.out.1, HE.out.2]; rfl, rfl⟩
        · have b3 : decide (4194304 < r) = false := decide_eq_false a3
          by_cases a4 : per < 1
          · have b4 : decide (per < 1) = true := decide_eq_true a4
            have HE : Hid (woEr off r per = 3 ∧ woRes off r per = 0) := Lib.hid (by
              have hk : woOk off r per = false := by rw [hok]; simp only [Bool.and_eq_false_iff, decide_eq_false_iff_not]; omega
              have hc : woC off r per = 3 := by rw [hcc, hk]; rfl
              have h1 : woEr off r per = 3 := by rw [her, hc]; rfl
              exact ⟨h1, by rw [hrs, h1]; rfl⟩)
            clear her hrs hcc hok
            go_enter Try.func25, Try.ntmps25
            go_wp2
            go_ret2
            exact ⟨by rw [HE.out.1, HE.out.2]; rfl, rfl⟩
          · have b4 : decide (per < 1) = false := decide_eq_false a4
            by_cases a5 : 65536 < per
            · have b5 : decide (65536 < per) = true := decide_eq_true a5
              have HE : Hid (woEr off r per = 3 ∧ woRes off r per = 0) := Lib.hid (by
                have hk : woOk off r per = false := by rw [hok]; simp only [Bool.and_eq_false_iff, decide_eq_false_iff_not]; omega
                have hc : woC off r per = 3 := by rw [hcc, hk]; rfl
                have h1 : woEr off r per = 3 := by rw [her, hc]; rfl
                exact ⟨h1, by rw [hrs, h1]; rfl⟩)
              clear her hrs hcc hok
              go_enter Try.func25, Try.ntmps25
              go_wp2
              go_ret2
              exact ⟨by rw [HE.out.1, HE.out.2]; rfl, rfl⟩
            · have b5 : decide (65536 < per) = false := decide_eq_false a5
              have hk : woOk off r per = true := by rw [hok]; simp only [Bool.and_eq_true, decide_eq_true_eq]; omega
              rw [hk, if_pos rfl] at hcc
              clear hok hk
              by_cases hz : r = 0
              · have HE : Hid (woEr off r per = 9 ∧ woRes off r per = 0) := Lib.hid (by
                  rw [if_pos hz] at hcc
                  have h1 : woEr off r per = 9 := by rw [her, hcc]; rfl
                  exact ⟨h1, by rw [hrs, h1]; rfl⟩)
                have q1 : (r == 0) = true := by rw [beq_iff_eq]; exact hz
                clear her hrs hcc hz
                go_enter Try.func25, Try.ntmps25
                go_wp2
                go_ret2
                exact ⟨by rw [HE.out.1, HE.out.2]; rfl, rfl⟩
              · rw [if_neg hz] at hcc
                rw [hcc, if_pos rfl] at her
                have q1 : (r == 0) = false := beq_eq_false_iff_ne.2 hz
                have hv : woV off r per = IntKind.i64.wrap ((IntKind.i64.wrap (IntKind.i64.wrap (IntKind.i64.wrap (IntKind.i64.wrap (off * 113) * per) + IntKind.i64.wrap (710 * r)) - 1)).tdiv (IntKind.i64.wrap (710 * r))) := rfl
                have h0 : IntKind.i64.wrap (710 * r) ≠ 0 := by rw [IntWalk.i64_in _ (by omega)]; omega
                obtain ⟨x1, h1⟩ : ∃ x, IntKind.i64.wrap (off * 113) = x := ⟨_, rfl⟩
                rw [h1] at hv
                obtain ⟨x2, h2⟩ : ∃ x, IntKind.i64.wrap (x1 * per) = x := ⟨_, rfl⟩
                rw [h2] at hv
                obtain ⟨x3, h3⟩ : ∃ x, IntKind.i64.wrap (710 * r) = x := ⟨_, rfl⟩
                rw [h3] at hv h0
                obtain ⟨x4, h4⟩ : ∃ x, IntKind.i64.wrap (x2 + x3) = x := ⟨_, rfl⟩
                rw [h4] at hv
                obtain ⟨x5, h5⟩ : ∃ x, IntKind.i64.wrap (x4 - 1) = x := ⟨_, rfl⟩
                rw [h5] at hv
                obtain ⟨x6, h6⟩ : ∃ x, x5.tdiv x3 = x := ⟨_, rfl⟩
                rw [h6] at hv
                obtain ⟨x7, h7⟩ : ∃ x, IntKind.i64.wrap x6 = x := ⟨_, rfl⟩
                rw [h7] at hv
                rw [hv] at her hrs
                have q0 : (x3 == 0) = false := beq_eq_false_iff_ne.2 h0
                by_cases h8 : 256 < x7
                · have HE : Hid (woEr off r per = 14 ∧ woRes off r per = 0) := Lib.hid (by
                    rw [if_pos h8] at her
                    exact ⟨her, by rw [hrs, her]; rfl⟩)
                  have d8 : decide (256 < x7) = true := decide_eq_true h8
                  clear her hrs hcc hv
                  go_enter Try.func25, Try.ntmps25
                  go_wp2
                  go_ret2
                  exact ⟨by rw [HE.out.1, HE.out.2]; rfl, rfl⟩
                · have HE : Hid (woEr off r per = 0 ∧ woRes off r per = x7) := Lib.hid (by
                    rw [if_neg h8] at her
                    exact ⟨her, by rw [hrs, her]; rfl⟩)
                  have d8 : decide (256 < x7) = false := decide_eq_false h8
                  clear her hrs hcc hv
                  go_enter Try.func25, Try.ntmps25
                  go_wp2
                  go_ret2
                  exact ⟨by rw [HE.out.1, HE.out.2]; rfl, rfl⟩


theorem knSweep : swRes exS exG = [(-100, 92), (-98, 90), (-95, 92)] := by decide +kernel
theorem knMiss : miI exS exG = 0 ∧ miU exS exG = 1 ∧ miE exS exG = 0 := by decide +kernel
theorem knMiss0 : miI [0] exG = 0 ∧ miU [0] exG = 0 ∧ miE [0] exG = 5 := by decide +kernel
theorem knRound : rnRes 10 4 false = [0, 0, 4] ∧ rnRes 10 4 true = [0, 1, 4] ∧ ckRn 10 4 = 0 := by decide +kernel
theorem knGreatest : gtV exG 4 10 = 3 ∧ gtEr exG 4 10 = 0 := by decide +kernel
theorem knWow : woRes 160 1130000 1000 = 1 ∧ woEr 160 1130000 1000 = 0 := by decide +kernel
theorem knHear : hrEr exS exS exG 1 = 0 ∧ hrRes exS exS exG 1 = [⟨-100, -97, 90, 92⟩, ⟨-100, -95, 90, 92⟩, ⟨-97, -95, 90, 92⟩] := by decide +kernel
theorem knJump1 : jmI (20, 0) exG = 1 ∧ jmT (20, 0) exG = 1 ∧ jmE (20, 0) exG = 0 := by decide +kernel
theorem knJump2 : jmI (30, 60) exG = 1 ∧ jmT (30, 60) exG = -1 ∧ jmE (30, 60) exG = 0 := by decide +kernel
theorem knJump3 : jmI (25, 0) exG = 0 ∧ jmT (25, 0) exG = 0 ∧ jmE (25, 0) exG = 5 := by decide +kernel
theorem knDrop1 : drI exG [1000, 990, 980] 2 0 950 = 0 ∧ drE exG [1000, 990, 980] 2 0 950 = 0 := by decide +kernel
theorem knDrop2 : drI exG [1000, 990, 980] 2 0 890 = 2 ∧ drE exG [1000, 990, 980] 2 0 890 = 0 := by decide +kernel
theorem knDrop3 : drI exG [1000, 990, 980] 2 0 840 = 0 ∧ drE exG [1000, 990, 980] 2 0 840 = 5 := by decide +kernel

set_option maxRecDepth 100000 in
set_option maxHeartbeats 8000000 in
theorem pknown_walk (w : World) : Calls Try.prog 14 #[] w fun e w' => e = .returned (.bool true) ∧ Below w.heap.size w w' := by
  have HB : Hid (Below w.heap.size w w) := Lib.hid (Below.refl _ _)
  go_enter Try.func14, Try.ntmps14
  go_wp2_with fail
  have CALL := Example6_any w
  refine CALL.mono ?_
  rintro e w1 ⟨Af, cf, A, k, rfl, hr0, hr1, hb⟩
  clear CALL
  have hsz1 := hb.size
  replace HB := Lib.hid (HB.out.trans (hb.mono (by omega)))
  have HL := Lib.hid hr0
  have H := Lib.hid hr1
  clear hr0 hr1
  clear hb
  go_upto_region 2 with fail
  obtain ⟨w2, hW⟩ : ∃ W, w1.alloc (.cells #[.slice Af 3 cf] 24) = W := ⟨_, rfl⟩
  have hb : Below w1.heap.size w1 w2 := by rw [← hW]; exact (Below.refl _ _).alloc (Nat.le_refl _) _
  have hsz2 := hb.size
  replace HL := Lib.hid (HL.out.below hb (by omega))
  replace H := Lib.hid (H.out.below hb (by omega))
  replace HB := Lib.hid (HB.out.trans (hb.mono (by omega)))
  have HK : Hid (Blk w2 w1.heap.size 24 #[.slice Af 3 cf]) := Lib.hid (by rw [← hW]; exact Blk.new _ _ _)
  try rw [hW]
  clear hW hb
  have t0 := HK.out.one.1
  go_wp2_with fail
  have CALL := Sweep_any w2.heap.size Af A 3 cf 3 k exS exG w2 (HL.out.more (by omega)) (H.out.more (by omega)) (Nat.le_refl _) (by omega) (by omega)
  rw [exE, knSweep] at CALL
  refine CALL.mono ?_
  rintro e w3 ⟨A1, n1, k1, rfl, hr, hc1, hb⟩
  clear CALL
  have hsz3 := hb.size
  replace HL := Lib.hid (HL.out.below hb (by omega))
  replace H := Lib.hid (H.out.below hb (by omega))
  replace HK := Lib.hid (HK.out.below hb HK.out.lt)
  replace HB := Lib.hid (HB.out.trans (hb.mono (by omega)))
  obtain rfl : n1 = 3 := hr.1
  have H1 := Lib.hid hr
  clear hr
  clear hb
  have t0 := HK.out.one.1
  go_wp2_with fail
  have CALL := Miss_any w3.heap.size Af A 3 cf 3 k exS exG w3 (HL.out.more (by omega)) (H.out.more (by omega)) (Nat.le_refl _) (by omega) (by omega)
  rw [knMiss.1, knMiss.2.1, knMiss.2.2] at CALL
  refine CALL.mono ?_
  rintro e w4 ⟨rfl, hb⟩
  clear CALL
  have hsz4 := hb.size
  replace HL := Lib.hid (HL.out.below hb (by omega))
  replace H := Lib.hid (H.out.below hb (by omega))
  replace H1 := Lib.hid (H1.out.below hb (by omega))
  replace HK := Lib.hid (HK.out.below hb HK.out.lt)
  replace HB := Lib.hid (HB.out.trans (hb.mono (by omega)))
  clear hb
  have t0 := HK.out.one.1
  go_wp2_with fail
  obtain ⟨w5, hW⟩ : ∃ W, w4.alloc (.cells #[.int .i64 0] 2) = W := ⟨_, rfl⟩
  have hb : Below w4.heap.size w4 w5 := by rw [← hW]; exact (Below.refl _ _).alloc (Nat.le_refl _) _
  have hsz5 := hb.size
  replace HL := Lib.hid (HL.out.below hb (by omega))
  replace H := Lib.hid (H.out.below hb (by omega))
  replace H1 := Lib.hid (H1.out.below hb (by omega))
  replace HK := Lib.hid (HK.out.below hb HK.out.lt)
  replace HB := Lib.hid (HB.out.trans (hb.mono (by omega)))
  have KZ : Hid (Blk w5 w4.heap.size 2 #[.int .i64 0]) := Lib.hid (by rw [← hW]; exact Blk.new _ _ _)
  try rw [hW]
  clear hW hb
  have t0 := HK.out.one.1
  skip
  have CALL := Miss_any w5.heap.size _ A 1 1 3 k [0] exG w5 (li_blk KZ.out KZ.out.lt rfl rfl) (H.out.more (by omega)) (Nat.le_refl _) (by omega) (by omega)
  rw [knMiss0.1, knMiss0.2.1, knMiss0.2.2] at CALL
  refine CALL.mono ?_
  rintro e w6 ⟨rfl, hb⟩
  clear CALL
  have hsz6 := hb.size
  replace HL := Lib.hid (HL.out.below hb (by omega))
  replace H := Lib.hid (H.out.below hb (by omega))
  replace H1 := Lib.hid (H1.out.below hb (by omega))
  replace HK := Lib.hid (HK.out.below hb HK.out.lt)
  replace KZ := Lib.hid (KZ.out.below hb KZ.out.lt)
  replace HB := Lib.hid (HB.out.trans (hb.mono (by omega)))
  clear hb
  have t0 := HK.out.one.1
  skip
  clear KZ
  go_wp2_with fail
  have CALL := Round_any 10 4 false w6
  rw [knRound.2.2, knRound.1] at CALL
  refine CALL.mono ?_
  rintro e w7 ⟨A3, n3, k3, rfl, hr, hn3, hc3, hb⟩
  clear CALL
  have hsz7 := hb.size
  replace HL := Lib.hid (HL.out.below hb (by omega))
  replace H := Lib.hid (H.out.below hb (by omega))
  replace H1 := Lib.hid (H1.out.below hb (by omega))
  replace HK := Lib.hid (HK.out.below hb HK.out.lt)
  replace HB := Lib.hid (HB.out.trans (hb.mono (by omega)))
  have H3 := Lib.hid hr
  clear hr
  clear hb
  have t0 := HK.out.one.1
  obtain rfl : n3 = 3 := H3.out.1
  go_upto_region 6 with fail
  obtain ⟨w8, hW⟩ : ∃ W, w7.alloc (.cells #[.slice A3 3 k3] 24) = W := ⟨_, rfl⟩
  have hb : Below w7.heap.size w7 w8 := by rw [← hW]; exact (Below.refl _ _).alloc (Nat.le_refl _) _
  have hsz8 := hb.size
  replace HL := Lib.hid (HL.out.below hb (by omega))
  replace H := Lib.hid (H.out.below hb (by omega))
  replace H1 := Lib.hid (H1.out.below hb (by omega))
  replace H3 := Lib.hid (H3.out.below hb (by omega))
  replace HK := Lib.hid (HK.out.below hb HK.out.lt)
  replace HB := Lib.hid (HB.out.trans (hb.mono (by omega)))
  have HK3 : Hid (Blk w8 w7.heap.size 24 #[.slice A3 3 k3]) := Lib.hid (by rw [← hW]; exact Blk.new _ _ _)
  try rw [hW]
  clear hW hb
  have t0 := HK.out.one.1
  have t3 := HK3.out.one.1
  go_wp2_with fail
  have CALL := Round_any 10 4 true w8
  rw [knRound.2.2, knRound.2.1] at CALL
  refine CALL.mono ?_
  rintro e w9 ⟨A4, n4, k4, rfl, hr, hn4, hc4, hb⟩
  clear CALL
  have hsz9 := hb.size
  replace HL := Lib.hid (HL.out.below hb (by omega))
  replace H := Lib.hid (H.out.below hb (by omega))
  replace H1 := Lib.hid (H1.out.below hb (by omega))
  replace H3 := Lib.hid (H3.out.below hb (by omega))
  replace HK := Lib.hid (HK.out.below hb HK.out.lt)
  replace HK3 := Lib.hid (HK3.out.below hb HK3.out.lt)
  replace HB := Lib.hid (HB.out.trans (hb.mono (by omega)))
  have H4 := Lib.hid hr
  clear hr
  clear hb
  have t0 := HK.out.one.1
  have t3 := HK3.out.one.1
  obtain rfl : n4 = 3 := H4.out.1
  go_upto_region 7 with fail
  obtain ⟨w10, hW⟩ : ∃ W, w9.alloc (.cells #[.slice A4 3 k4] 24) = W := ⟨_, rfl⟩
  have hb : Below w9.heap.size w9 w10 := by rw [← hW]; exact (Below.refl _ _).alloc (Nat.le_refl _) _
  have hsz10 := hb.size
  replace HL := Lib.hid (HL.out.below hb (by omega))
  replace H := Lib.hid (H.out.below hb (by omega))
  replace H1 := Lib.hid (H1.out.below hb (by omega))
  replace H3 := Lib.hid (H3.out.below hb (by omega))
  replace H4 := Lib.hid (H4.out.below hb (by omega))
  replace HK := Lib.hid (HK.out.below hb HK.out.lt)
  replace HK3 := Lib.hid (HK3.out.below hb HK3.out.lt)
  replace HB := Lib.hid (HB.out.trans (hb.mono (by omega)))
  have HK4 : Hid (Blk w10 w9.heap.size 24 #[.slice A4 3 k4]) := Lib.hid (by rw [← hW]; exact Blk.new _ _ _)
  try rw [hW]
  clear hW hb
  have t0 := HK.out.one.1
  have t3 := HK3.out.one.1
  have t4 := HK4.out.one.1
  go_wp2_with fail
  obtain ⟨w11, hW⟩ : ∃ W, w10.alloc (.cells #[.int .i64 (-100), .int .i64 92, .int .i64 (-98), .int .i64 90, .int .i64 (-95), .int .i64 92] 69) = W := ⟨_, rfl⟩
  have hb : Below w10.heap.size w10 w11 := by rw [← hW]; exact (Below.refl _ _).alloc (Nat.le_refl _) _
  have hsz11 := hb.size
  replace HL := Lib.hid (HL.out.below hb (by omega))
  replace H := Lib.hid (H.out.below hb (by omega))
  replace H1 := Lib.hid (H1.out.below hb (by omega))
  replace H3 := Lib.hid (H3.out.below hb (by omega))
  replace H4 := Lib.hid (H4.out.below hb (by omega))
  replace HK := Lib.hid (HK.out.below hb HK.out.lt)
  replace HK3 := Lib.hid (HK3.out.below hb HK3.out.lt)
  replace HK4 := Lib.hid (HK4.out.below hb HK4.out.lt)
  replace HB := Lib.hid (HB.out.trans (hb.mono (by omega)))
  have KP : Hid (Blk w11 w10.heap.size 69 #[.int .i64 (-100), .int .i64 92, .int .i64 (-98), .int .i64 90, .int .i64 (-95), .int .i64 92]) := Lib.hid (by rw [← hW]; exact Blk.new _ _ _)
  try rw [hW]
  clear hW hb
  have t0 := HK.out.one.1
  have t3 := HK3.out.one.1
  have t4 := HK4.out.one.1
  skip
  have CALL := refSameP_any w11.heap.size A1 _ 3 k1 3 3 [(-100, 92), (-98, 90), (-95, 92)] [(-100, 92), (-98, 90), (-95, 92)] w11 (H1.out.more (by omega)) (rs_blk KP.out KP.out.lt rfl rfl) (Nat.le_refl _) (by omega) (by omega)
  rw [sameP_self] at CALL
  refine CALL.mono ?_
  rintro e w12 ⟨rfl, hb⟩
  clear CALL
  have hsz12 := hb.size
  replace HL := Lib.hid (HL.out.below hb (by omega))
  replace H := Lib.hid (H.out.below hb (by omega))
  replace H1 := Lib.hid (H1.out.below hb (by omega))
  replace H3 := Lib.hid (H3.out.below hb (by omega))
  replace H4 := Lib.hid (H4.out.below hb (by omega))
  replace HK := Lib.hid (HK.out.below hb HK.out.lt)
  replace HK3 := Lib.hid (HK3.out.below hb HK3.out.lt)
  replace HK4 := Lib.hid (HK4.out.below hb HK4.out.lt)
  replace KP := Lib.hid (KP.out.below hb KP.out.lt)
  replace HB := Lib.hid (HB.out.trans (hb.mono (by omega)))
  clear hb
  have t0 := HK.out.one.1
  have t3 := HK3.out.one.1
  have t4 := HK4.out.one.1
  skip
  clear KP
  go_wp2_with fail
  obtain ⟨w13, hW⟩ : ∃ W, w12.alloc (.cells #[.int .i64 0, .int .i64 0, .int .i64 4] 2) = W := ⟨_, rfl⟩
  have hb : Below w12.heap.size w12 w13 := by rw [← hW]; exact (Below.refl _ _).alloc (Nat.le_refl _) _
  have hsz13 := hb.size
  replace HL := Lib.hid (HL.out.below hb (by omega))
  replace H := Lib.hid (H.out.below hb (by omega))
  replace H1 := Lib.hid (H1.out.below hb (by omega))
  replace H3 := Lib.hid (H3.out.below hb (by omega))
  replace H4 := Lib.hid (H4.out.below hb (by omega))
  replace HK := Lib.hid (HK.out.below hb HK.out.lt)
  replace HK3 := Lib.hid (HK3.out.below hb HK3.out.lt)
  replace HK4 := Lib.hid (HK4.out.below hb HK4.out.lt)
  replace HB := Lib.hid (HB.out.trans (hb.mono (by omega)))
  have KZ : Hid (Blk w13 w12.heap.size 2 #[.int .i64 0, .int .i64 0, .int .i64 4]) := Lib.hid (by rw [← hW]; exact Blk.new _ _ _)
  try rw [hW]
  clear hW hb
  have t0 := HK.out.one.1
  have t3 := HK3.out.one.1
  have t4 := HK4.out.one.1
  skip
  have CALL := shapes_any w13.heap.size A3 _ 3 k3 3 3 [0, 0, 4] [0, 0, 4] w13 (H3.out.more (by omega)) (li_blk KZ.out KZ.out.lt rfl rfl) (Nat.le_refl _) (by omega) (by omega)
  rw [decide_eq_true rfl] at CALL
  refine CALL.mono ?_
  rintro e w14 ⟨rfl, hb⟩
  clear CALL
  have hsz14 := hb.size
  replace HL := Lib.hid (HL.out.below hb (by omega))
  replace H := Lib.hid (H.out.below hb (by omega))
  replace H1 := Lib.hid (H1.out.below hb (by omega))
  replace H3 := Lib.hid (H3.out.below hb (by omega))
  replace H4 := Lib.hid (H4.out.below hb (by omega))
  replace HK := Lib.hid (HK.out.below hb HK.out.lt)
  replace HK3 := Lib.hid (HK3.out.below hb HK3.out.lt)
  replace HK4 := Lib.hid (HK4.out.below hb HK4.out.lt)
  replace KZ := Lib.hid (KZ.out.below hb KZ.out.lt)
  replace HB := Lib.hid (HB.out.trans (hb.mono (by omega)))
  clear hb
  have t0 := HK.out.one.1
  have t3 := HK3.out.one.1
  have t4 := HK4.out.one.1
  skip
  clear KZ
  go_wp2_with fail
  obtain ⟨w15, hW⟩ : ∃ W, w14.alloc (.cells #[.int .i64 0, .int .i64 1, .int .i64 4] 2) = W := ⟨_, rfl⟩
  have hb : Below w14.heap.size w14 w15 := by rw [← hW]; exact (Below.refl _ _).alloc (Nat.le_refl _) _
  have hsz15 := hb.size
  replace HL := Lib.hid (HL.out.below hb (by omega))
  replace H := Lib.hid (H.out.below hb (by omega))
  replace H1 := Lib.hid (H1.out.below hb (by omega))
  replace H3 := Lib.hid (H3.out.below hb (by omega))
  replace H4 := Lib.hid (H4.out.below hb (by omega))
  replace HK := Lib.hid (HK.out.below hb HK.out.lt)
  replace HK3 := Lib.hid (HK3.out.below hb HK3.out.lt)
  replace HK4 := Lib.hid (HK4.out.below hb HK4.out.lt)
  replace HB := Lib.hid (HB.out.trans (hb.mono (by omega)))
  have KZ : Hid (Blk w15 w14.heap.size 2 #[.int .i64 0, .int .i64 1, .int .i64 4]) := Lib.hid (by rw [← hW]; exact Blk.new _ _ _)
  try rw [hW]
  clear hW hb
  have t0 := HK.out.one.1
  have t3 := HK3.out.one.1
  have t4 := HK4.out.one.1
  skip
  have CALL := shapes_any w15.heap.size A4 _ 3 k4 3 3 [0, 1, 4] [0, 1, 4] w15 (H4.out.more (by omega)) (li_blk KZ.out KZ.out.lt rfl rfl) (Nat.le_refl _) (by omega) (by omega)
  rw [decide_eq_true rfl] at CALL
  refine CALL.mono ?_
  rintro e w16 ⟨rfl, hb⟩
  clear CALL
  have hsz16 := hb.size
  replace HL := Lib.hid (HL.out.below hb (by omega))
  replace H := Lib.hid (H.out.below hb (by omega))
  replace H1 := Lib.hid (H1.out.below hb (by omega))
  replace H3 := Lib.hid (H3.out.below hb (by omega))
  replace H4 := Lib.hid (H4.out.below hb (by omega))
  replace HK := Lib.hid (HK.out.below hb HK.out.lt)
  replace HK3 := Lib.hid (HK3.out.below hb HK3.out.lt)
  replace HK4 := Lib.hid (HK4.out.below hb HK4.out.lt)
  replace KZ := Lib.hid (KZ.out.below hb KZ.out.lt)
  replace HB := Lib.hid (HB.out.trans (hb.mono (by omega)))
  clear hb
  have t0 := HK.out.one.1
  have t3 := HK3.out.one.1
  have t4 := HK4.out.one.1
  skip
  clear KZ
  clear H1
  clear H3
  clear H4
  clear HK3
  clear HK4
  clear t3 t4
  go_wp2_with fail
  have CALL := Greatest_any w16.heap.size A 3 k exG 4 10 w16 (H.out.more (by omega)) (Nat.le_refl _) (by omega)
  rw [knGreatest.1, knGreatest.2] at CALL
  refine CALL.mono ?_
  rintro e w17 ⟨rfl, hb⟩
  clear CALL
  have hsz17 := hb.size
  replace HL := Lib.hid (HL.out.below hb (by omega))
  replace H := Lib.hid (H.out.below hb (by omega))
  replace HK := Lib.hid (HK.out.below hb HK.out.lt)
  replace HB := Lib.hid (HB.out.trans (hb.mono (by omega)))
  clear hb
  have t0 := HK.out.one.1
  go_wp2_with fail
  have CALL := Wow_any 160 1130000 1000 w17
  rw [knWow.1, knWow.2] at CALL
  refine CALL.mono ?_
  rintro e w_ ⟨rfl, rfl⟩
  clear CALL
  go_wp2_with fail
  have CALL := Hear_any w17.heap.size Af Af A 3 cf 3 cf 3 k exS exS exG 1 w17 (HL.out.more (by omega)) (HL.out.more (by omega)) (H.out.more (by omega)) (Nat.le_refl _) (by omega) (by omega) (by omega)
  rw [knHear.1, knHear.2] at CALL
  refine CALL.mono ?_
  rintro e w18 ⟨A5, n5, k5, rfl, hr, hc5, hb⟩
  clear CALL
  have hsz18 := hb.size
  replace HL := Lib.hid (HL.out.below hb (by omega))
  replace H := Lib.hid (H.out.below hb (by omega))
  replace HK := Lib.hid (HK.out.below hb HK.out.lt)
  replace HB := Lib.hid (HB.out.trans (hb.mono (by omega)))
  obtain rfl : n5 = 3 := hr.1
  obtain ⟨a5, hA5, _, y1, y2, y3, y4⟩ := hr.at_ (k := 0) (by decide)
  obtain rfl := hA5
  rw [show a5.add (0 * 4) = a5 by simp [Addr.add]] at y1 y2 y3 y4
  dsimp only [List.getElem_cons_zero] at y1 y2 y3 y4
  clear hr
  clear hb
  have t0 := HK.out.one.1
  go_wp2_with fail
  have CALL := Jump_any w18.heap.size A 3 k (20, 0) exG w18 (H.out.more (by omega)) (Nat.le_refl _) (by omega)
  rw [knJump1.1, knJump1.2.1, knJump1.2.2] at CALL
  refine CALL.mono ?_
  rintro e w19 ⟨rfl, hb⟩
  clear CALL
  have hsz19 := hb.size
  replace HL := Lib.hid (HL.out.below hb (by omega))
  replace H := Lib.hid (H.out.below hb (by omega))
  replace HK := Lib.hid (HK.out.below hb HK.out.lt)
  replace HB := Lib.hid (HB.out.trans (hb.mono (by omega)))
  clear y1 y2 y3 y4
  clear hb
  have t0 := HK.out.one.1
  go_wp2_with fail
  have CALL := Jump_any w19.heap.size A 3 k (30, 60) exG w19 (H.out.more (by omega)) (Nat.le_refl _) (by omega)
  rw [knJump2.1, knJump2.2.1, knJump2.2.2] at CALL
  refine CALL.mono ?_
  rintro e w20 ⟨rfl, hb⟩
  clear CALL
  have hsz20 := hb.size
  replace HL := Lib.hid (HL.out.below hb (by omega))
  replace H := Lib.hid (H.out.below hb (by omega))
  replace HK := Lib.hid (HK.out.below hb HK.out.lt)
  replace HB := Lib.hid (HB.out.trans (hb.mono (by omega)))
  clear hb
  have t0 := HK.out.one.1
  go_wp2_with fail
  have CALL := Jump_any w20.heap.size A 3 k (25, 0) exG w20 (H.out.more (by omega)) (Nat.le_refl _) (by omega)
  rw [knJump3.1, knJump3.2.1, knJump3.2.2] at CALL
  refine CALL.mono ?_
  rintro e w21 ⟨rfl, hb⟩
  clear CALL
  have hsz21 := hb.size
  replace HL := Lib.hid (HL.out.below hb (by omega))
  replace H := Lib.hid (H.out.below hb (by omega))
  replace HK := Lib.hid (HK.out.below hb HK.out.lt)
  replace HB := Lib.hid (HB.out.trans (hb.mono (by omega)))
  clear hb
  have t0 := HK.out.one.1
  go_upto_region 20 with fail
  obtain ⟨w22, hW⟩ : ∃ W, w21.alloc (.cells #[.int .i64 1000, .int .i64 990, .int .i64 980] 2) = W := ⟨_, rfl⟩
  have hb : Below w21.heap.size w21 w22 := by rw [← hW]; exact (Below.refl _ _).alloc (Nat.le_refl _) _
  have hsz22 := hb.size
  replace HL := Lib.hid (HL.out.below hb (by omega))
  replace H := Lib.hid (H.out.below hb (by omega))
  replace HK := Lib.hid (HK.out.below hb HK.out.lt)
  replace HB := Lib.hid (HB.out.trans (hb.mono (by omega)))
  have KR : Hid (Blk w22 w21.heap.size 2 #[.int .i64 1000, .int .i64 990, .int .i64 980]) := Lib.hid (by rw [← hW]; exact Blk.new _ _ _)
  try rw [hW]
  clear hW hb
  have t0 := HK.out.one.1
  skip
  have HRR := Lib.hid (li_blk (xs := [1000, 990, 980]) KR.out KR.out.lt rfl rfl)
  clear KR
  go_wp2_with fail
  have CALL := Drop_any w22.heap.size A (some ⟨w21.heap.size, 0, none⟩) 3 k 3 3 exG [1000, 990, 980] 2 0 950 w22 (H.out.more (by omega)) (HRR.out.more (by omega)) (Nat.le_refl _) (by omega) (by omega)
  rw [knDrop1.1, knDrop1.2] at CALL
  refine CALL.mono ?_
  rintro e w23 ⟨rfl, hb⟩
  clear CALL
  have hsz23 := hb.size
  replace HL := Lib.hid (HL.out.below hb (by omega))
  replace H := Lib.hid (H.out.below hb (by omega))
  replace HRR := Lib.hid (HRR.out.below hb (by omega))
  replace HK := Lib.hid (HK.out.below hb HK.out.lt)
  replace HB := Lib.hid (HB.out.trans (hb.mono (by omega)))
  clear hb
  have t0 := HK.out.one.1
  go_wp2_with fail
  have CALL := Drop_any w23.heap.size A (some ⟨w21.heap.size, 0, none⟩) 3 k 3 3 exG [1000, 990, 980] 2 0 890 w23 (H.out.more (by omega)) (HRR.out.more (by omega)) (Nat.le_refl _) (by omega) (by omega)
  rw [knDrop2.1, knDrop2.2] at CALL
  refine CALL.mono ?_
  rintro e w24 ⟨rfl, hb⟩
  clear CALL
  have hsz24 := hb.size
  replace HL := Lib.hid (HL.out.below hb (by omega))
  replace H := Lib.hid (H.out.below hb (by omega))
  replace HRR := Lib.hid (HRR.out.below hb (by omega))
  replace HK := Lib.hid (HK.out.below hb HK.out.lt)
  replace HB := Lib.hid (HB.out.trans (hb.mono (by omega)))
  clear hb
  have t0 := HK.out.one.1
  go_wp2_with fail
  have CALL := Drop_any w24.heap.size A (some ⟨w21.heap.size, 0, none⟩) 3 k 3 3 exG [1000, 990, 980] 2 0 840 w24 (H.out.more (by omega)) (HRR.out.more (by omega)) (Nat.le_refl _) (by omega) (by omega)
  rw [knDrop3.1, knDrop3.2] at CALL
  refine CALL.mono ?_
  rintro e w25 ⟨rfl, hb⟩
  clear CALL
  have hsz25 := hb.size
  replace HL := Lib.hid (HL.out.below hb (by omega))
  replace H := Lib.hid (H.out.below hb (by omega))
  replace HRR := Lib.hid (HRR.out.below hb (by omega))
  replace HK := Lib.hid (HK.out.below hb HK.out.lt)
  replace HB := Lib.hid (HB.out.trans (hb.mono (by omega)))
  clear hb
  have t0 := HK.out.one.1
  go_wp2_with fail
  have CALL := works6_any w25
  refine CALL.mono ?_
  rintro e w26 ⟨rfl, hb⟩
  clear CALL
  have hsz26 := hb.size
  replace HL := Lib.hid (HL.out.below hb (by omega))
  replace H := Lib.hid (H.out.below hb (by omega))
  replace HRR := Lib.hid (HRR.out.below hb (by omega))
  replace HK := Lib.hid (HK.out.below hb HK.out.lt)
  replace HB := Lib.hid (HB.out.trans (hb.mono (by omega)))
  clear hb
  have t0 := HK.out.one.1
  go_wp2
  go_ret
  exact ⟨rfl, HB.out⟩
end Go.Proofs.Ytjdnpgilinfkgaa
