/-
  The walk of PressCircle.
-/
import Derived.Test.YtomncopeekegoaaKA
import Derived.Test.YtomncopeekegoaaIC
import Derived.Test.YtomncopeekegoaaQ0
import Derived.StillTailTactics
namespace Go.Proofs.Ytomncopeekegoaa
open Go.RowKit

theorem cut3 {G : Nat → Nat → Nat → World → Prop} {F : Nat → Nat → Nat → World → Prop} {X : Prop} (a : (∀ p q r W, F p q r W → G p q r W) → X) (b : ∀ p q r W, F p q r W → G p q r W) : X := a b

theorem mul_bd' {x y : Int} (hx : -65536 ≤ x ∧ x ≤ 65536) (hy : -65536 ≤ y ∧ y ≤ 65536) : -4294967296 ≤ x * y ∧ x * y ≤ 4294967296 := by
  have h := Int.natAbs_mul x y
  have : x.natAbs * y.natAbs ≤ 65536 * 65536 := Nat.mul_le_mul (by omega) (by omega)
  omega
theorem dv_bd {d v : Int} (hd : 0 < d ∧ d ≤ 1099511627776) (hv : -32768 ≤ v ∧ v ≤ 32767) : -36028797018963968 ≤ d * v ∧ d * v ≤ 36028797018963968 := by
  have h := Int.natAbs_mul d v
  have : d.natAbs * v.natAbs ≤ 1099511627776 * 32768 := Nat.mul_le_mul (by omega) (by omega)
  omega
theorem quo_facts {x d m x' m' : Int} (_ : 0 < d) (hr : x.tmod d = 0) (hm : x.tdiv d = m) (hx : -x = x') (hm' : x'.tdiv d = m') (hb : -288230376151711744 ≤ x ∧ x ≤ 288230376151711744) :
    x = m * d ∧ m' = -m ∧ -288230376151711744 ≤ m ∧ m ≤ 288230376151711744 := by
  have h1 := Int.tmod_add_mul_tdiv x d
  rw [hr, hm, Int.zero_add] at h1
  have h2 : m' = -m := by rw [← hm', ← hx, Int.neg_tdiv, hm]
  have h3 : x = m * d := by rw [← h1, Int.mul_comm]
  have h4 : m.natAbs ≤ x.natAbs := by rw [← hm, Int.natAbs_tdiv]; exact Nat.div_le_self _ _
  exact ⟨h3, h2, by omega, by omega⟩
def mx3 (x y z : Int) : Int := if z > (if y > x then y else x) then z else (if y > x then y else x)
def mx4 (x y z u : Int) : Int := if u > mx3 x y z then u else mx3 x y z
theorem run_max_int4 {P : Program} {w : World} (ts : Array TypeId) (t : TypeId) (x y z u : Int) : (Builtin.max_ ts t #[.int .i64 x, .int .i64 y, .int .i64 z, .int .i64 u]).run P w = .ok (.int .i64 (mx4 x y z u)) w := by
  simp [Builtin.max_, Builtin.max2, mx4, mx3]
theorem mx4_bd {x y z u g : Int} (h : mx4 x y z u = g) : x ≤ g ∧ y ≤ g ∧ z ≤ g ∧ u ≤ g := by
  unfold mx4 mx3 at h
  (repeat' split at h) <;> omega
theorem sq20 {m : Int} (h : -1048576 < m ∧ m < 1048576) : 0 ≤ m * m ∧ m * m ≤ 1099511627776 := by
  have h1 := Int.natAbs_mul m m
  have : m.natAbs * m.natAbs ≤ 1048576 * 1048576 := Nat.mul_le_mul (by omega) (by omega)
  have h2 : m * m = ((m.natAbs * m.natAbs : Nat) : Int) := by rw [Int.natAbs_mul_self]
  omega
theorem sqlim {m : Int} (h : 0 ≤ m ∧ m ≤ 65535) : 0 ≤ m * m ∧ m * m ≤ 4294967296 := by
  have : m.natAbs * m.natAbs ≤ 65535 * 65535 := Nat.mul_le_mul (by omega) (by omega)
  have h2 : m * m = ((m.natAbs * m.natAbs : Nat) : Int) := by rw [Int.natAbs_mul_self]
  omega
theorem wrap64_in {x : Int} (h : -9223372036854775808 ≤ x ∧ x ≤ 9223372036854775807) : wrap64 x = x := by unfold wrap64; omega
abbrev CenIs (a b c : Smp) (x y d : Int) : Prop := ∀ W : World, Calls Try.prog 33 #[.agg #[.int .i64 a.1, .int .i64 a.2], .agg #[.int .i64 b.1, .int .i64 b.2], .agg #[.int .i64 c.1, .int .i64 c.2]] W fun e w' => e = .returned (.tuple #[.int .i64 x, .int .i64 y, .int .i64 d, .int .i64 0]) ∧ Below W.heap.size W w'
theorem cen_is {a b c : Smp} (ha : SpB a) (hb : SpB b) (hc : SpB c) (h : crs a b c ≠ 0) {x y d : Int} (hV : cenV a b c = (x, y, d)) : CenIs a b c x y d := fun W => by
  have h := Centre_any a b c W
  rw [(circ_pos ha hb hc ‹_›).1, (circ_pos ha hb hc ‹_›).2.1, hV] at h
  exact h
theorem circ_facts {a b c v : Smp} {lim : Int} (ha : S16 a) (hb : S16 b) (hc : S16 c) (hv : S16 v) (hl : 0 ≤ lim ∧ lim ≤ 65535) (hz : crs a b c ≠ 0) : ∃ x y d : Int,
    CenIs a b c x y d ∧ CenIs c a b x y d ∧ CenIs b a c x y d ∧ CenIs (mvd a v.1 v.2) (mvd b v.1 v.2) (mvd c v.1 v.2) (x + d * v.1) (y + d * v.2) d ∧
    (∀ W : World, Calls Try.prog 35 #[.agg #[.int .i64 a.1, .int .i64 a.2], .agg #[.int .i64 b.1, .int .i64 b.2], .agg #[.int .i64 c.1, .int .i64 c.2], .int .i64 lim] W fun e w' => e = .returned (.tuple #[.bool (decide (sqN [x, y] ≤ sqN [lim * d])), .int .i64 0]) ∧ Below W.heap.size W w') ∧
    d = 2 * max (crs a b c) (-crs a b c) ∧ 0 < d ∧ d ≤ 1099511627776 ∧ (-288230376151711744 ≤ x ∧ x ≤ 288230376151711744) ∧ (-288230376151711744 ≤ y ∧ y ≤ 288230376151711744) ∧
    (2 * x * (b.1 - a.1) + 2 * y * (b.2 - a.2) = d * (b.1 * b.1 + b.2 * b.2 - a.1 * a.1 - a.2 * a.2)) ∧ (2 * x * (c.1 - a.1) + 2 * y * (c.2 - a.2) = d * (c.1 * c.1 + c.2 * c.2 - a.1 * a.1 - a.2 * a.2)) := by
  obtain ⟨⟨x, y, d⟩, hV⟩ : ∃ V, cenV a b c = V := ⟨_, rfl⟩
  obtain ⟨h1, h2, h3, h4⟩ := circ_pos ha.sp hb.sp hc.sp hz
  have h5 := cenV_apart a b c
  have h6 := cen_bd h1
  rw [h2] at h6
  rw [hV] at h2 h3 h4 h5 h6
  refine ⟨x, y, d, cen_is ha.sp hb.sp hc.sp hz hV, cen_is hc.sp ha.sp hb.sp (by rw [crs_cyc]; exact hz) ((cenV_cyc a b c).trans hV), cen_is hb.sp ha.sp hc.sp (by rw [crs_swap]; omega) ((cenV_swap hz).trans hV), cen_is (ha.mvd hv.1 hv.2) (hb.mvd hv.1 hv.2) (hc.mvd hv.1 hv.2) (by rw [crs_mvd]; exact hz) (by rw [cenV_mvd, hV]), fun W => ?_, h3, h4, h6.2.2.2, h6.1, h6.2.1, h5.1, h5.2⟩
  have h := Centred_any a b c lim W
  have e : cdV a b c lim = (decide (sqN [x, y] ≤ sqN [lim * d]), 0) := by
    unfold cdV
    rw [if_pos h1, if_pos (by unfold win; simp; omega), h2]
  rw [e] at h
  exact h

set_option maxRecDepth 100000 in
set_option maxHeartbeats 8000000 in
theorem circle_walk (a b c v : Smp) (lim : Int) (w : World) (ha : S16 a) (hb : S16 b) (hc : S16 c) (hv : S16 v) (hl : 0 ≤ lim ∧ lim ≤ 65535) :
    Calls Try.prog 13 #[.agg #[.int .i16 a.1, .int .i16 a.2], .agg #[.int .i16 b.1, .int .i16 b.2], .agg #[.int .i16 c.1, .int .i16 c.2], .agg #[.int .i16 v.1, .int .i16 v.2], .int .u16 lim] w fun e w' => e = .returned (.bool true) ∧ Below w.heap.size w w' := by
  have wa1 : IntKind.i64.wrap a.1 = a.1 := IntWalk.i64_in _ (by have := ha.1; omega)
  have wa2 : IntKind.i64.wrap a.2 = a.2 := IntWalk.i64_in _ (by have := ha.2; omega)
  have wb1 : IntKind.i64.wrap b.1 = b.1 := IntWalk.i64_in _ (by have := hb.1; omega)
  have wb2 : IntKind.i64.wrap b.2 = b.2 := IntWalk.i64_in _ (by have := hb.2; omega)
  have wc1 : IntKind.i64.wrap c.1 = c.1 := IntWalk.i64_in _ (by have := hc.1; omega)
  have wc2 : IntKind.i64.wrap c.2 = c.2 := IntWalk.i64_in _ (by have := hc.2; omega)
  obtain ⟨P1, hP1⟩ : ∃ x, b.1 - a.1 = x := ⟨_, rfl⟩
  obtain ⟨P2, hP2⟩ : ∃ x, c.2 - a.2 = x := ⟨_, rfl⟩
  obtain ⟨P3, hP3⟩ : ∃ x, b.2 - a.2 = x := ⟨_, rfl⟩
  obtain ⟨P4, hP4⟩ : ∃ x, c.1 - a.1 = x := ⟨_, rfl⟩
  have v1 : IntKind.i64.wrap (b.1 - a.1) = P1 := by rw [hP1]; exact IntWalk.i64_in _ (by have := ha.1; have := hb.1; omega)
  have v2 : IntKind.i64.wrap (c.2 - a.2) = P2 := by rw [hP2]; exact IntWalk.i64_in _ (by have := ha.2; have := hc.2; omega)
  have v3 : IntKind.i64.wrap (b.2 - a.2) = P3 := by rw [hP3]; exact IntWalk.i64_in _ (by have := ha.2; have := hb.2; omega)
  have v4 : IntKind.i64.wrap (c.1 - a.1) = P4 := by rw [hP4]; exact IntWalk.i64_in _ (by have := ha.1; have := hc.1; omega)
  have b1 := mul_bd' (show -65536 ≤ P1 ∧ P1 ≤ 65536 by have := ha.1; have := hb.1; omega) (show -65536 ≤ P2 ∧ P2 ≤ 65536 by have := ha.2; have := hc.2; omega)
  have b2 := mul_bd' (show -65536 ≤ P3 ∧ P3 ≤ 65536 by have := ha.2; have := hb.2; omega) (show -65536 ≤ P4 ∧ P4 ≤ 65536 by have := ha.1; have := hc.1; omega)
  have hcr : crs a b c = P1 * P2 - P3 * P4 := by unfold crs; rw [hP1, hP2, hP3, hP4]
  obtain ⟨M1, hM1⟩ : ∃ x, P1 * P2 = x := ⟨_, rfl⟩
  obtain ⟨M2, hM2⟩ : ∃ x, P3 * P4 = x := ⟨_, rfl⟩
  rw [hM1] at b1 hcr
  rw [hM2] at b2 hcr
  have v5 : IntKind.i64.wrap (P1 * P2) = M1 := by rw [hM1]; exact IntWalk.i64_in _ (by omega)
  have v6 : IntKind.i64.wrap (P3 * P4) = M2 := by rw [hM2]; exact IntWalk.i64_in _ (by omega)
  have v7_ : IntKind.i64.wrap (M1 - M2) = crs a b c := by rw [hcr]; exact IntWalk.i64_in _ (by omega)
  have hD : -8589934592 ≤ crs a b c ∧ crs a b c ≤ 8589934592 := by omega
  have HZ : Hid (crs a b c = 0 → (∀ W : World, Calls Try.prog 33 #[.agg #[.int .i64 a.1, .int .i64 a.2], .agg #[.int .i64 b.1, .int .i64 b.2], .agg #[.int .i64 c.1, .int .i64 c.2]] W fun e w' => e = .returned (.tuple #[.int .i64 0, .int .i64 0, .int .i64 0, .int .i64 9]) ∧ Below W.heap.size W w') ∧ IntKind.i64.wrap (M1 - M2) = 0) := Lib.hid (fun hz => by
    refine ⟨fun W => ?_, by rw [v7_, hz]⟩
    have h := Centre_any a b c W
    rw [(circ_zero ha.sp hb.sp hc.sp hz).1, (circ_zero ha.sp hb.sp hc.sp hz).2] at h
    exact h)
  have HP := Lib.hid (circ_facts ha hb hc hv (lim := lim) hl)
  clear hP1 hP2 hP3 hP4 hM1 hM2 b1 b2 hcr hD
  go_enter Try.func13, Try.ntmps13
  go_upto_region 1 with fail
  obtain ⟨W, hW⟩ : ∃ W, (((w.alloc (.cells #[.int .i16 a.1, .int .i16 a.2] 83)).alloc (.cells #[.int .i16 b.1, .int .i16 b.2] 83)).alloc (.cells #[.int .i16 c.1, .int .i16 c.2] 83)).alloc (.cells #[.int .i16 v.1, .int .i16 v.2] 83) = W := ⟨_, rfl⟩
  have hb0 : Below w.heap.size w W := by rw [← hW]; exact (((below_a _ _).alloc (by simp) _).alloc (by simp; omega) _).alloc (by simp; omega) _
  have k0 : Blk W w.heap.size 83 #[.int .i16 a.1, .int .i16 a.2] := by rw [← hW]; exact (((Blk.new _ _ _).alloc _).alloc _).alloc _
  have k1 : Blk W (w.heap.size + 1) 83 #[.int .i16 b.1, .int .i16 b.2] := by rw [← hW]; exact ((blk_al (by simp)).alloc _).alloc _
  have k2 : Blk W (w.heap.size + 1 + 1) 83 #[.int .i16 c.1, .int .i16 c.2] := by rw [← hW]; exact (blk_al (by simp)).alloc _
  have k3 : Blk W (w.heap.size + 1 + 1 + 1) 83 #[.int .i16 v.1, .int .i16 v.2] := by rw [← hW]; exact blk_al (by simp)
  rw [hW]
  have K0 := Lib.hid k0
  have K1 := Lib.hid k1
  have K2 := Lib.hid k2
  have K3 := Lib.hid k3
  have HB := Lib.hid hb0
  have hs0 := hb0.size
  have HA := Lib.hid (And.intro ha (And.intro hb (And.intro hc hv)))
  clear hW k0 k1 k2 k3 hb0 ha hb hc hv
  refine wp_region_held_drew (S := fun w' => Below W.heap.size W w') (by kernel_rfl) (Below.refl _ _).drew (fun hHeld => ?_)
  obtain ⟨wz, hwz⟩ : ∃ wd, W.drew = wd := ⟨_, rfl⟩
  rw [hwz] at hHeld ⊢
  clear hwz
  have hHeld : Below W.heap.size W wz := hHeld
  refine wpAnyH_take (i := 0) (oi := { dst := some 32, op := Go.Op.indexAddr 83 (Go.Operand.tmp 5) (Go.Operand.const (Go.Value.int Go.IntKind.i64 0)), type := 0, pos := "outright.go:266", after := #[], guard := none }) (v := ?vt1) rfl (by kernel_rfl) (by kernel_rfl) (by kernel_rfl) (fun _ _ _ h => h) (Or.inl ⟨by rfl, ?ht1⟩) hHeld ?_
  case ht1 => intro w hSw; (try dsimp only at hSw); obtain ⟨c0, c1⟩ := (K0.out.below hSw K0.out.lt).two_; obtain ⟨c2, c3⟩ := (K1.out.below hSw K1.out.lt).two_; obtain ⟨c4, c5⟩ := (K2.out.below hSw K2.out.lt).two_; go_simp; try with_reducible rfl
  simp only [Act.put, List.setIfInBounds_toArray, List.set_cons_zero, List.set_cons_succ]
  refine wpAnyH_take (i := 1) (oi := { dst := some 33, op := Go.Op.load 82 (Go.Operand.tmp 32), type := 82, pos := "outright.go:266", after := #[{ on := 0, ground := Go.Ground.data }], guard := none }) (v := ?vt2) rfl (by kernel_rfl) (by kernel_rfl) (by kernel_rfl) (fun _ _ _ h => h) (Or.inl ⟨by rfl, ?ht2⟩) hHeld ?_
  case ht2 => intro w hSw; (try dsimp only at hSw); obtain ⟨c0, c1⟩ := (K0.out.below hSw K0.out.lt).two_; obtain ⟨c2, c3⟩ := (K1.out.below hSw K1.out.lt).two_; obtain ⟨c4, c5⟩ := (K2.out.below hSw K2.out.lt).two_; go_simp; try with_reducible rfl
  simp only [Act.put, List.setIfInBounds_toArray, List.set_cons_zero, List.set_cons_succ]
  refine wpAnyH_take (i := 2) (oi := { dst := some 34, op := Go.Op.convert 82 2 (Go.Operand.tmp 33), type := 2, pos := "outright.go:266", after := #[{ on := 1, ground := Go.Ground.data }], guard := none }) (v := ?vt3) rfl (by kernel_rfl) (by kernel_rfl) (by kernel_rfl) (fun _ _ _ h => h) (Or.inl ⟨by rfl, ?ht3⟩) hHeld ?_
  case ht3 => intro w hSw; (try dsimp only at hSw); obtain ⟨c0, c1⟩ := (K0.out.below hSw K0.out.lt).two_; obtain ⟨c2, c3⟩ := (K1.out.below hSw K1.out.lt).two_; obtain ⟨c4, c5⟩ := (K2.out.below hSw K2.out.lt).two_; go_simp; try with_reducible rfl
  simp only [Act.put, List.setIfInBounds_toArray, List.set_cons_zero, List.set_cons_succ]
  refine wpAnyH_take (i := 3) (oi := { dst := some 35, op := Go.Op.indexAddr 83 (Go.Operand.tmp 5) (Go.Operand.const (Go.Value.int Go.IntKind.i64 1)), type := 0, pos := "outright.go:266", after := #[], guard := none }) (v := ?vt4) rfl (by kernel_rfl) (by kernel_rfl) (by kernel_rfl) (fun _ _ _ h => h) (Or.inl ⟨by rfl, ?ht4⟩) hHeld ?_
  case ht4 => intro w hSw; (try dsimp only at hSw); obtain ⟨c0, c1⟩ := (K0.out.below hSw K0.out.lt).two_; obtain ⟨c2, c3⟩ := (K1.out.below hSw K1.out.lt).two_; obtain ⟨c4, c5⟩ := (K2.out.below hSw K2.out.lt).two_; go_simp; try with_reducible rfl
  simp only [Act.put, List.setIfInBounds_toArray, List.set_cons_zero, List.set_cons_succ]
  refine wpAnyH_take (i := 4) (oi := { dst := some 36, op := Go.Op.load 82 (Go.Operand.tmp 35), type := 82, pos := "outright.go:266", after := #[{ on := 3, ground := Go.Ground.data }], guard := none }) (v := ?vt5) rfl (by kernel_rfl) (by kernel_rfl) (by kernel_rfl) (fun _ _ _ h => h) (Or.inl ⟨by rfl, ?ht5⟩) hHeld ?_
  case ht5 => intro w hSw; (try dsimp only at hSw); obtain ⟨c0, c1⟩ := (K0.out.below hSw K0.out.lt).two_; obtain ⟨c2, c3⟩ := (K1.out.below hSw K1.out.lt).two_; obtain ⟨c4, c5⟩ := (K2.out.below hSw K2.out.lt).two_; go_simp; try with_reducible rfl
  simp only [Act.put, List.setIfInBounds_toArray, List.set_cons_zero, List.set_cons_succ]
  refine wpAnyH_take (i := 5) (oi := { dst := some 37, op := Go.Op.convert 82 2 (Go.Operand.tmp 36), type := 2, pos := "outright.go:266", after := #[{ on := 4, ground := Go.Ground.data }], guard := none }) (v := ?vt6) rfl (by kernel_rfl) (by kernel_rfl) (by kernel_rfl) (fun _ _ _ h => h) (Or.inl ⟨by rfl, ?ht6⟩) hHeld ?_
  case ht6 => intro w hSw; (try dsimp only at hSw); obtain ⟨c0, c1⟩ := (K0.out.below hSw K0.out.lt).two_; obtain ⟨c2, c3⟩ := (K1.out.below hSw K1.out.lt).two_; obtain ⟨c4, c5⟩ := (K2.out.below hSw K2.out.lt).two_; go_simp; try with_reducible rfl
  simp only [Act.put, List.setIfInBounds_toArray, List.set_cons_zero, List.set_cons_succ]
  refine wpAnyH_take (i := 6) (oi := { dst := some 38, op := Go.Op.build 66 #[(0, Go.Operand.tmp 34), (1, Go.Operand.tmp 37)], type := 66, pos := "outright.go:266", after := #[{ on := 2, ground := Go.Ground.data }, { on := 5, ground := Go.Ground.data }], guard := none }) (v := ?vt7) rfl (by kernel_rfl) (by kernel_rfl) (by kernel_rfl) (fun _ _ _ h => h) (Or.inl ⟨by rfl, ?ht7⟩) hHeld ?_
  case ht7 => intro w hSw; (try dsimp only at hSw); obtain ⟨c0, c1⟩ := (K0.out.below hSw K0.out.lt).two_; obtain ⟨c2, c3⟩ := (K1.out.below hSw K1.out.lt).two_; obtain ⟨c4, c5⟩ := (K2.out.below hSw K2.out.lt).two_; go_simp; try with_reducible rfl
  simp only [Act.put, List.setIfInBounds_toArray, List.set_cons_zero, List.set_cons_succ]
  refine wpAnyH_take (i := 7) (oi := { dst := some 39, op := Go.Op.indexAddr 83 (Go.Operand.tmp 6) (Go.Operand.const (Go.Value.int Go.IntKind.i64 0)), type := 0, pos := "outright.go:266", after := #[{ on := 24, ground := Go.Ground.gcOnly Go.Departure.lateStores }], guard := none }) (v := ?vt8) rfl (by kernel_rfl) (by kernel_rfl) (by kernel_rfl) (fun _ _ _ h => h) (Or.inl ⟨by rfl, ?ht8⟩) hHeld ?_
  case ht8 => intro w hSw; (try dsimp only at hSw); obtain ⟨c0, c1⟩ := (K0.out.below hSw K0.out.lt).two_; obtain ⟨c2, c3⟩ := (K1.out.below hSw K1.out.lt).two_; obtain ⟨c4, c5⟩ := (K2.out.below hSw K2.out.lt).two_; go_simp; try with_reducible rfl
  simp only [Act.put, List.setIfInBounds_toArray, List.set_cons_zero, List.set_cons_succ]
  refine wpAnyH_take (i := 8) (oi := { dst := some 40, op := Go.Op.load 82 (Go.Operand.tmp 39), type := 82, pos := "outright.go:266", after := #[{ on := 7, ground := Go.Ground.data }, { on := 24, ground := Go.Ground.gcOnly Go.Departure.lateStores }], guard := none }) (v := ?vt9) rfl (by kernel_rfl) (by kernel_rfl) (by kernel_rfl) (fun _ _ _ h => h) (Or.inl ⟨by rfl, ?ht9⟩) hHeld ?_
  case ht9 => intro w hSw; (try dsimp only at hSw); obtain ⟨c0, c1⟩ := (K0.out.below hSw K0.out.lt).two_; obtain ⟨c2, c3⟩ := (K1.out.below hSw K1.out.lt).two_; obtain ⟨c4, c5⟩ := (K2.out.below hSw K2.out.lt).two_; go_simp; try with_reducible rfl
  simp only [Act.put, List.setIfInBounds_toArray, List.set_cons_zero, List.set_cons_succ]
  refine wpAnyH_take (i := 9) (oi := { dst := some 41, op := Go.Op.convert 82 2 (Go.Operand.tmp 40), type := 2, pos := "outright.go:266", after := #[{ on := 8, ground := Go.Ground.data }, { on := 24, ground := Go.Ground.gcOnly Go.Departure.lateStores }], guard := none }) (v := ?vt10) rfl (by kernel_rfl) (by kernel_rfl) (by kernel_rfl) (fun _ _ _ h => h) (Or.inl ⟨by rfl, ?ht10⟩) hHeld ?_
  case ht10 => intro w hSw; (try dsimp only at hSw); obtain ⟨c0, c1⟩ := (K0.out.below hSw K0.out.lt).two_; obtain ⟨c2, c3⟩ := (K1.out.below hSw K1.out.lt).two_; obtain ⟨c4, c5⟩ := (K2.out.below hSw K2.out.lt).two_; go_simp; try with_reducible rfl
  simp only [Act.put, List.setIfInBounds_toArray, List.set_cons_zero, List.set_cons_succ]
  refine wpAnyH_take (i := 10) (oi := { dst := some 42, op := Go.Op.indexAddr 83 (Go.Operand.tmp 6) (Go.Operand.const (Go.Value.int Go.IntKind.i64 1)), type := 0, pos := "outright.go:266", after := #[{ on := 24, ground := Go.Ground.gcOnly Go.Departure.lateStores }], guard := none }) (v := ?vt11) rfl (by kernel_rfl) (by kernel_rfl) (by kernel_rfl) (fun _ _ _ h => h) (Or.inl ⟨by rfl, ?ht11⟩) hHeld ?_
  case ht11 => intro w hSw; (try dsimp only at hSw); obtain ⟨c0, c1⟩ := (K0.out.below hSw K0.out.lt).two_; obtain ⟨c2, c3⟩ := (K1.out.below hSw K1.out.lt).two_; obtain ⟨c4, c5⟩ := (K2.out.below hSw K2.out.lt).two_; go_simp; try with_reducible rfl
  simp only [Act.put, List.setIfInBounds_toArray, List.set_cons_zero, List.set_cons_succ]
  refine wpAnyH_take (i := 11) (oi := { dst := some 43, op := Go.Op.load 82 (Go.Operand.tmp 42), type := 82, pos := "outright.go:266", after := #[{ on := 10, ground := Go.Ground.data }, { on := 24, ground := Go.Ground.gcOnly Go.Departure.lateStores }], guard := none }) (v := ?vt12) rfl (by kernel_rfl) (by kernel_rfl) (by kernel_rfl) (fun _ _ _ h => h) (Or.inl ⟨by rfl, ?ht12⟩) hHeld ?_
  case ht12 => intro w hSw; (try dsimp only at hSw); obtain ⟨c0, c1⟩ := (K0.out.below hSw K0.out.lt).two_; obtain ⟨c2, c3⟩ := (K1.out.below hSw K1.out.lt).two_; obtain ⟨c4, c5⟩ := (K2.out.below hSw K2.out.lt).two_; go_simp; try with_reducible rfl
  simp only [Act.put, List.setIfInBounds_toArray, List.set_cons_zero, List.set_cons_succ]
  refine wpAnyH_take (i := 12) (oi := { dst := some 44, op := Go.Op.convert 82 2 (Go.Operand.tmp 43), type := 2, pos := "outright.go:266", after := #[{ on := 11, ground := Go.Ground.data }, { on := 24, ground := Go.Ground.gcOnly Go.Departure.lateStores }], guard := none }) (v := ?vt13) rfl (by kernel_rfl) (by kernel_rfl) (by kernel_rfl) (fun _ _ _ h => h) (Or.inl ⟨by rfl, ?ht13⟩) hHeld ?_
  case ht13 => intro w hSw; (try dsimp only at hSw); obtain ⟨c0, c1⟩ := (K0.out.below hSw K0.out.lt).two_; obtain ⟨c2, c3⟩ := (K1.out.below hSw K1.out.lt).two_; obtain ⟨c4, c5⟩ := (K2.out.below hSw K2.out.lt).two_; go_simp; try with_reducible rfl
  simp only [Act.put, List.setIfInBounds_toArray, List.set_cons_zero, List.set_cons_succ]
  refine wpAnyH_take (i := 13) (oi := { dst := some 45, op := Go.Op.build 66 #[(0, Go.Operand.tmp 41), (1, Go.Operand.tmp 44)], type := 66, pos := "outright.go:266", after := #[{ on := 9, ground := Go.Ground.data }, { on := 12, ground := Go.Ground.data }, { on := 24, ground := Go.Ground.gcOnly Go.Departure.lateStores }], guard := none }) (v := ?vt14) rfl (by kernel_rfl) (by kernel_rfl) (by kernel_rfl) (fun _ _ _ h => h) (Or.inl ⟨by rfl, ?ht14⟩) hHeld ?_
  case ht14 => intro w hSw; (try dsimp only at hSw); obtain ⟨c0, c1⟩ := (K0.out.below hSw K0.out.lt).two_; obtain ⟨c2, c3⟩ := (K1.out.below hSw K1.out.lt).two_; obtain ⟨c4, c5⟩ := (K2.out.below hSw K2.out.lt).two_; go_simp; try with_reducible rfl
  simp only [Act.put, List.setIfInBounds_toArray, List.set_cons_zero, List.set_cons_succ]
  refine wpAnyH_take (i := 14) (oi := { dst := some 46, op := Go.Op.indexAddr 83 (Go.Operand.tmp 7) (Go.Operand.const (Go.Value.int Go.IntKind.i64 0)), type := 0, pos := "outright.go:266", after := #[{ on := 25, ground := Go.Ground.gcOnly Go.Departure.lateStores }], guard := none }) (v := ?vt15) rfl (by kernel_rfl) (by kernel_rfl) (by kernel_rfl) (fun _ _ _ h => h) (Or.inl ⟨by rfl, ?ht15⟩) hHeld ?_
  case ht15 => intro w hSw; (try dsimp only at hSw); obtain ⟨c0, c1⟩ := (K0.out.below hSw K0.out.lt).two_; obtain ⟨c2, c3⟩ := (K1.out.below hSw K1.out.lt).two_; obtain ⟨c4, c5⟩ := (K2.out.below hSw K2.out.lt).two_; go_simp; try with_reducible rfl
  simp only [Act.put, List.setIfInBounds_toArray, List.set_cons_zero, List.set_cons_succ]
  refine wpAnyH_take (i := 15) (oi := { dst := some 47, op := Go.Op.load 82 (Go.Operand.tmp 46), type := 82, pos := "outright.go:266", after := #[{ on := 14, ground := Go.Ground.data }, { on := 25, ground := Go.Ground.gcOnly Go.Departure.lateStores }], guard := none }) (v := ?vt16) rfl (by kernel_rfl) (by kernel_rfl) (by kernel_rfl) (fun _ _ _ h => h) (Or.inl ⟨by rfl, ?ht16⟩) hHeld ?_
  case ht16 => intro w hSw; (try dsimp only at hSw); obtain ⟨c0, c1⟩ := (K0.out.below hSw K0.out.lt).two_; obtain ⟨c2, c3⟩ := (K1.out.below hSw K1.out.lt).two_; obtain ⟨c4, c5⟩ := (K2.out.below hSw K2.out.lt).two_; go_simp; try with_reducible rfl
  simp only [Act.put, List.setIfInBounds_toArray, List.set_cons_zero, List.set_cons_succ]
  refine wpAnyH_take (i := 16) (oi := { dst := some 48, op := Go.Op.convert 82 2 (Go.Operand.tmp 47), type := 2, pos := "outright.go:266", after := #[{ on := 15, ground := Go.Ground.data }, { on := 25, ground := Go.Ground.gcOnly Go.Departure.lateStores }], guard := none }) (v := ?vt17) rfl (by kernel_rfl) (by kernel_rfl) (by kernel_rfl) (fun _ _ _ h => h) (Or.inl ⟨by rfl, ?ht17⟩) hHeld ?_
  case ht17 => intro w hSw; (try dsimp only at hSw); obtain ⟨c0, c1⟩ := (K0.out.below hSw K0.out.lt).two_; obtain ⟨c2, c3⟩ := (K1.out.below hSw K1.out.lt).two_; obtain ⟨c4, c5⟩ := (K2.out.below hSw K2.out.lt).two_; go_simp; try with_reducible rfl
  simp only [Act.put, List.setIfInBounds_toArray, List.set_cons_zero, List.set_cons_succ]
  refine wpAnyH_take (i := 17) (oi := { dst := some 49, op := Go.Op.indexAddr 83 (Go.Operand.tmp 7) (Go.Operand.const (Go.Value.int Go.IntKind.i64 1)), type := 0, pos := "outright.go:266", after := #[{ on := 25, ground := Go.Ground.gcOnly Go.Departure.lateStores }], guard := none }) (v := ?vt18) rfl (by kernel_rfl) (by kernel_rfl) (by kernel_rfl) (fun _ _ _ h => h) (Or.inl ⟨by rfl, ?ht18⟩) hHeld ?_
  case ht18 => intro w hSw; (try dsimp only at hSw); obtain ⟨c0, c1⟩ := (K0.out.below hSw K0.out.lt).two_; obtain ⟨c2, c3⟩ := (K1.out.below hSw K1.out.lt).two_; obtain ⟨c4, c5⟩ := (K2.out.below hSw K2.out.lt).two_; go_simp; try with_reducible rfl
  simp only [Act.put, List.setIfInBounds_toArray, List.set_cons_zero, List.set_cons_succ]
  refine wpAnyH_take (i := 18) (oi := { dst := some 50, op := Go.Op.load 82 (Go.Operand.tmp 49), type := 82, pos := "outright.go:266", after := #[{ on := 17, ground := Go.Ground.data }, { on := 25, ground := Go.Ground.gcOnly Go.Departure.lateStores }], guard := none }) (v := ?vt19) rfl (by kernel_rfl) (by kernel_rfl) (by kernel_rfl) (fun _ _ _ h => h) (Or.inl ⟨by rfl, ?ht19⟩) hHeld ?_
  case ht19 => intro w hSw; (try dsimp only at hSw); obtain ⟨c0, c1⟩ := (K0.out.below hSw K0.out.lt).two_; obtain ⟨c2, c3⟩ := (K1.out.below hSw K1.out.lt).two_; obtain ⟨c4, c5⟩ := (K2.out.below hSw K2.out.lt).two_; go_simp; try with_reducible rfl
  simp only [Act.put, List.setIfInBounds_toArray, List.set_cons_zero, List.set_cons_succ]
  refine wpAnyH_take (i := 19) (oi := { dst := some 51, op := Go.Op.convert 82 2 (Go.Operand.tmp 50), type := 2, pos := "outright.go:266", after := #[{ on := 18, ground := Go.Ground.data }, { on := 25, ground := Go.Ground.gcOnly Go.Departure.lateStores }], guard := none }) (v := ?vt20) rfl (by kernel_rfl) (by kernel_rfl) (by kernel_rfl) (fun _ _ _ h => h) (Or.inl ⟨by rfl, ?ht20⟩) hHeld ?_
  case ht20 => intro w hSw; (try dsimp only at hSw); obtain ⟨c0, c1⟩ := (K0.out.below hSw K0.out.lt).two_; obtain ⟨c2, c3⟩ := (K1.out.below hSw K1.out.lt).two_; obtain ⟨c4, c5⟩ := (K2.out.below hSw K2.out.lt).two_; go_simp; try with_reducible rfl
  simp only [Act.put, List.setIfInBounds_toArray, List.set_cons_zero, List.set_cons_succ]
  refine wpAnyH_take (i := 20) (oi := { dst := some 52, op := Go.Op.build 66 #[(0, Go.Operand.tmp 48), (1, Go.Operand.tmp 51)], type := 66, pos := "outright.go:266", after := #[{ on := 16, ground := Go.Ground.data }, { on := 19, ground := Go.Ground.data }, { on := 25, ground := Go.Ground.gcOnly Go.Departure.lateStores }], guard := none }) (v := ?vt21) rfl (by kernel_rfl) (by kernel_rfl) (by kernel_rfl) (fun _ _ _ h => h) (Or.inl ⟨by rfl, ?ht21⟩) hHeld ?_
  case ht21 => intro w hSw; (try dsimp only at hSw); obtain ⟨c0, c1⟩ := (K0.out.below hSw K0.out.lt).two_; obtain ⟨c2, c3⟩ := (K1.out.below hSw K1.out.lt).two_; obtain ⟨c4, c5⟩ := (K2.out.below hSw K2.out.lt).two_; go_simp; try with_reducible rfl
  simp only [Act.put, List.setIfInBounds_toArray, List.set_cons_zero, List.set_cons_succ]
  apply cut3 (F := fun p q r W1 => Below W.heap.size W W1 ∧ Blk W1 p 66 #[.int .i64 0, .int .i64 0] ∧ Blk W1 q 66 #[.int .i64 0, .int .i64 0] ∧ Blk W1 r 66 #[.int .i64 0, .int .i64 0] ∧ W.heap.size ≤ p ∧ W.heap.size ≤ q ∧ W.heap.size ≤ r ∧ p ≠ q ∧ p ≠ r ∧ q ≠ r)
  · intro key
    refine wpAnyH_ready (rs := [21, 22, 23]) (by kernel_rfl) (by simp) ?_
    refine AllReadyH.cons rfl (fun K hK => ?_) ?_
    · go_simp
      obtain ⟨p, hp⟩ : ∃ p, wz.heap.size = p := ⟨_, rfl⟩
      obtain ⟨y1, hy⟩ : ∃ y, wz.alloc (.cells #[.int .i64 0, .int .i64 0] 66) = y := ⟨_, rfl⟩
      have hb : Below W.heap.size wz y1 := by rw [← hy]; exact (Below.refl _ _).alloc hHeld.size _
      have hd : Below wz.heap.size wz y1 := by rw [← hy]; exact (Below.refl _ _).alloc (Nat.le_refl _) _
      have Bp : Hid (Blk y1 p 66 #[.int .i64 0, .int .i64 0]) := Lib.hid (by rw [← hy, ← hp]; exact Blk.new _ _ _)
      have Gp : Hid (W.heap.size ≤ p) := Lib.hid (by rw [← hp]; exact hHeld.size)
      rw [hy, hp]
      clear hy hp hd
      refine hK.out _ _ ?_ (fun hH22 => ?_)
      · exact hHeld.trans hb
      clear hK K
      refine wpAnyH_ready (rs := [22, 23]) (by kernel_rfl) (by simp) ?_
      refine AllReadyH.cons rfl (fun K hK => ?_) ?_
      · go_simp
        obtain ⟨q, hp⟩ : ∃ p, y1.heap.size = p := ⟨_, rfl⟩
        obtain ⟨y2, hy⟩ : ∃ y, y1.alloc (.cells #[.int .i64 0, .int .i64 0] 66) = y := ⟨_, rfl⟩
        have hb : Below W.heap.size y1 y2 := by rw [← hy]; exact (Below.refl _ _).alloc hH22.size _
        have hd : Below y1.heap.size y1 y2 := by rw [← hy]; exact (Below.refl _ _).alloc (Nat.le_refl _) _
        have Nqp : Hid (q ≠ p) := Lib.hid (by rw [← hp]; have := Bp.out.lt; omega)
        replace Bp := Lib.hid (Bp.out.below hd Bp.out.lt)
        have Bq : Hid (Blk y2 q 66 #[.int .i64 0, .int .i64 0]) := Lib.hid (by rw [← hy, ← hp]; exact Blk.new _ _ _)
        have Gq : Hid (W.heap.size ≤ q) := Lib.hid (by rw [← hp]; exact hH22.size)
        rw [hy, hp]
        clear hy hp hd
        refine hK.out _ _ ?_ (fun hH23 => ?_)
        · exact hH22.trans hb
        clear hK K
        refine wpAnyH_ready (rs := [23]) (by kernel_rfl) (by simp) ?_
        refine AllReadyH.cons rfl (fun K hK => ?_) AllReadyH.nil
        go_simp
        obtain ⟨r, hp⟩ : ∃ p, y2.heap.size = p := ⟨_, rfl⟩
        obtain ⟨y3, hy⟩ : ∃ y, y2.alloc (.cells #[.int .i64 0, .int .i64 0] 66) = y := ⟨_, rfl⟩
        have hb : Below W.heap.size y2 y3 := by rw [← hy]; exact (Below.refl _ _).alloc hH23.size _
        have hd : Below y2.heap.size y2 y3 := by rw [← hy]; exact (Below.refl _ _).alloc (Nat.le_refl _) _
        have Nrp : Hid (r ≠ p) := Lib.hid (by rw [← hp]; have := Bp.out.lt; omega)
        replace Bp := Lib.hid (Bp.out.below hd Bp.out.lt)
        have Nrq : Hid (r ≠ q) := Lib.hid (by rw [← hp]; have := Bq.out.lt; omega)
        replace Bq := Lib.hid (Bq.out.below hd Bq.out.lt)
        have Br : Hid (Blk y3 r 66 #[.int .i64 0, .int .i64 0]) := Lib.hid (by rw [← hy, ← hp]; exact Blk.new _ _ _)
        have Gr : Hid (W.heap.size ≤ r) := Lib.hid (by rw [← hp]; exact hH23.size)
        rw [hy, hp]
        clear hy hp hd
        refine hK.out _ _ ?_ (fun hH24 => ?_)
        · exact hH23.trans hb
        clear hK K
        exact key p q r y3 ⟨hH24, Bp.out, Bq.out, Br.out, Gp.out, Gq.out, Gr.out, (Ne.symm Nqp.out), (Ne.symm Nrp.out), (Ne.symm Nrq.out)⟩
      refine AllReadyH.cons rfl (fun K hK => ?_) ?_
      · go_simp
        obtain ⟨r, hp⟩ : ∃ p, y1.heap.size = p := ⟨_, rfl⟩
        obtain ⟨y4, hy⟩ : ∃ y, y1.alloc (.cells #[.int .i64 0, .int .i64 0] 66) = y := ⟨_, rfl⟩
        have hb : Below W.heap.size y1 y4 := by rw [← hy]; exact (Below.refl _ _).alloc hH22.size _
        have hd : Below y1.heap.size y1 y4 := by rw [← hy]; exact (Below.refl _ _).alloc (Nat.le_refl _) _
        have Nrp : Hid (r ≠ p) := Lib.hid (by rw [← hp]; have := Bp.out.lt; omega)
        replace Bp := Lib.hid (Bp.out.below hd Bp.out.lt)
        have Br : Hid (Blk y4 r 66 #[.int .i64 0, .int .i64 0]) := Lib.hid (by rw [← hy, ← hp]; exact Blk.new _ _ _)
        have Gr : Hid (W.heap.size ≤ r) := Lib.hid (by rw [← hp]; exact hH22.size)
        rw [hy, hp]
        clear hy hp hd
        refine hK.out _ _ ?_ (fun hH25 => ?_)
        · exact hH22.trans hb
        clear hK K
        refine wpAnyH_ready (rs := [22]) (by kernel_rfl) (by simp) ?_
        refine AllReadyH.cons rfl (fun K hK => ?_) AllReadyH.nil
        go_simp
        obtain ⟨q, hp⟩ : ∃ p, y4.heap.size = p := ⟨_, rfl⟩
        obtain ⟨y5, hy⟩ : ∃ y, y4.alloc (.cells #[.int .i64 0, .int .i64 0] 66) = y := ⟨_, rfl⟩
        have hb : Below W.heap.size y4 y5 := by rw [← hy]; exact (Below.refl _ _).alloc hH25.size _
        have hd : Below y4.heap.size y4 y5 := by rw [← hy]; exact (Below.refl _ _).alloc (Nat.le_refl _) _
        have Nqp : Hid (q ≠ p) := Lib.hid (by rw [← hp]; have := Bp.out.lt; omega)
        replace Bp := Lib.hid (Bp.out.below hd Bp.out.lt)
        have Nqr : Hid (q ≠ r) := Lib.hid (by rw [← hp]; have := Br.out.lt; omega)
        replace Br := Lib.hid (Br.out.below hd Br.out.lt)
        have Bq : Hid (Blk y5 q 66 #[.int .i64 0, .int .i64 0]) := Lib.hid (by rw [← hy, ← hp]; exact Blk.new _ _ _)
        have Gq : Hid (W.heap.size ≤ q) := Lib.hid (by rw [← hp]; exact hH25.size)
        rw [hy, hp]
        clear hy hp hd
        refine hK.out _ _ ?_ (fun hH26 => ?_)
        · exact hH25.trans hb
        clear hK K
        exact key p q r y5 ⟨hH26, Bp.out, Bq.out, Br.out, Gp.out, Gq.out, Gr.out, (Ne.symm Nqp.out), (Ne.symm Nrp.out), Nqr.out⟩
      exact AllReadyH.nil
    refine AllReadyH.cons rfl (fun K hK => ?_) ?_
    · go_simp
      obtain ⟨q, hp⟩ : ∃ p, wz.heap.size = p := ⟨_, rfl⟩
      obtain ⟨y6, hy⟩ : ∃ y, wz.alloc (.cells #[.int .i64 0, .int .i64 0] 66) = y := ⟨_, rfl⟩
      have hb : Below W.heap.size wz y6 := by rw [← hy]; exact (Below.refl _ _).alloc hHeld.size _
      have hd : Below wz.heap.size wz y6 := by rw [← hy]; exact (Below.refl _ _).alloc (Nat.le_refl _) _
      have Bq : Hid (Blk y6 q 66 #[.int .i64 0, .int .i64 0]) := Lib.hid (by rw [← hy, ← hp]; exact Blk.new _ _ _)
      have Gq : Hid (W.heap.size ≤ q) := Lib.hid (by rw [← hp]; exact hHeld.size)
      rw [hy, hp]
      clear hy hp hd
      refine hK.out _ _ ?_ (fun hH27 => ?_)
      · exact hHeld.trans hb
      clear hK K
      refine wpAnyH_ready (rs := [21, 23]) (by kernel_rfl) (by simp) ?_
      refine AllReadyH.cons rfl (fun K hK => ?_) ?_
      · go_simp
        obtain ⟨p, hp⟩ : ∃ p, y6.heap.size = p := ⟨_, rfl⟩
        obtain ⟨y7, hy⟩ : ∃ y, y6.alloc (.cells #[.int .i64 0, .int .i64 0] 66) = y := ⟨_, rfl⟩
        have hb : Below W.heap.size y6 y7 := by rw [← hy]; exact (Below.refl _ _).alloc hH27.size _
        have hd : Below y6.heap.size y6 y7 := by rw [← hy]; exact (Below.refl _ _).alloc (Nat.le_refl _) _
        have Npq : Hid (p ≠ q) := Lib.hid (by rw [← hp]; have := Bq.out.lt; omega)
        replace Bq := Lib.hid (Bq.out.below hd Bq.out.lt)
        have Bp : Hid (Blk y7 p 66 #[.int .i64 0, .int .i64 0]) := Lib.hid (by rw [← hy, ← hp]; exact Blk.new _ _ _)
        have Gp : Hid (W.heap.size ≤ p) := Lib.hid (by rw [← hp]; exact hH27.size)
        rw [hy, hp]
        clear hy hp hd
        refine hK.out _ _ ?_ (fun hH28 => ?_)
        · exact hH27.trans hb
        clear hK K
        refine wpAnyH_ready (rs := [23]) (by kernel_rfl) (by simp) ?_
        refine AllReadyH.cons rfl (fun K hK => ?_) AllReadyH.nil
        go_simp
        obtain ⟨r, hp⟩ : ∃ p, y7.heap.size = p := ⟨_, rfl⟩
        obtain ⟨y8, hy⟩ : ∃ y, y7.alloc (.cells #[.int .i64 0, .int .i64 0] 66) = y := ⟨_, rfl⟩
        have hb : Below W.heap.size y7 y8 := by rw [← hy]; exact (Below.refl _ _).alloc hH28.size _
        have hd : Below y7.heap.size y7 y8 := by rw [← hy]; exact (Below.refl _ _).alloc (Nat.le_refl _) _
        have Nrq : Hid (r ≠ q) := Lib.hid (by rw [← hp]; have := Bq.out.lt; omega)
        replace Bq := Lib.hid (Bq.out.below hd Bq.out.lt)
        have Nrp : Hid (r ≠ p) := Lib.hid (by rw [← hp]; have := Bp.out.lt; omega)
        replace Bp := Lib.hid (Bp.out.below hd Bp.out.lt)
        have Br : Hid (Blk y8 r 66 #[.int .i64 0, .int .i64 0]) := Lib.hid (by rw [← hy, ← hp]; exact Blk.new _ _ _)
        have Gr : Hid (W.heap.size ≤ r) := Lib.hid (by rw [← hp]; exact hH28.size)
        rw [hy, hp]
        clear hy hp hd
        refine hK.out _ _ ?_ (fun hH29 => ?_)
        · exact hH28.trans hb
        clear hK K
        exact key p q r y8 ⟨hH29, Bp.out, Bq.out, Br.out, Gp.out, Gq.out, Gr.out, Npq.out, (Ne.symm Nrp.out), (Ne.symm Nrq.out)⟩
      refine AllReadyH.cons rfl (fun K hK => ?_) ?_
      · go_simp
        obtain ⟨r, hp⟩ : ∃ p, y6.heap.size = p := ⟨_, rfl⟩
        obtain ⟨y9, hy⟩ : ∃ y, y6.alloc (.cells #[.int .i64 0, .int .i64 0] 66) = y := ⟨_, rfl⟩
        have hb : Below W.heap.size y6 y9 := by rw [← hy]; exact (Below.refl _ _).alloc hH27.size _
        have hd : Below y6.heap.size y6 y9 := by rw [← hy]; exact (Below.refl _ _).alloc (Nat.le_refl _) _
        have Nrq : Hid (r ≠ q) := Lib.hid (by rw [← hp]; have := Bq.out.lt; omega)
        replace Bq := Lib.hid (Bq.out.below hd Bq.out.lt)
        have Br : Hid (Blk y9 r 66 #[.int .i64 0, .int .i64 0]) := Lib.hid (by rw [← hy, ← hp]; exact Blk.new _ _ _)
        have Gr : Hid (W.heap.size ≤ r) := Lib.hid (by rw [← hp]; exact hH27.size)
        rw [hy, hp]
        clear hy hp hd
        refine hK.out _ _ ?_ (fun hH30 => ?_)
        · exact hH27.trans hb
        clear hK K
        refine wpAnyH_ready (rs := [21]) (by kernel_rfl) (by simp) ?_
        refine AllReadyH.cons rfl (fun K hK => ?_) AllReadyH.nil
        go_simp
        obtain ⟨p, hp⟩ : ∃ p, y9.heap.size = p := ⟨_, rfl⟩
        obtain ⟨y10, hy⟩ : ∃ y, y9.alloc (.cells #[.int .i64 0, .int .i64 0] 66) = y := ⟨_, rfl⟩
        have hb : Below W.heap.size y9 y10 := by rw [← hy]; exact (Below.refl _ _).alloc hH30.size _
        have hd : Below y9.heap.size y9 y10 := by rw [← hy]; exact (Below.refl _ _).alloc (Nat.le_refl _) _
        have Npq : Hid (p ≠ q) := Lib.hid (by rw [← hp]; have := Bq.out.lt; omega)
        replace Bq := Lib.hid (Bq.out.below hd Bq.out.lt)
        have Npr : Hid (p ≠ r) := Lib.hid (by rw [← hp]; have := Br.out.lt; omega)
        replace Br := Lib.hid (Br.out.below hd Br.out.lt)
        have Bp : Hid (Blk y10 p 66 #[.int .i64 0, .int .i64 0]) := Lib.hid (by rw [← hy, ← hp]; exact Blk.new _ _ _)
        have Gp : Hid (W.heap.size ≤ p) := Lib.hid (by rw [← hp]; exact hH30.size)
        rw [hy, hp]
        clear hy hp hd
        refine hK.out _ _ ?_ (fun hH31 => ?_)
        · exact hH30.trans hb
        clear hK K
        exact key p q r y10 ⟨hH31, Bp.out, Bq.out, Br.out, Gp.out, Gq.out, Gr.out, Npq.out, Npr.out, (Ne.symm Nrq.out)⟩
      exact AllReadyH.nil
    refine AllReadyH.cons rfl (fun K hK => ?_) ?_
    · go_simp
      obtain ⟨r, hp⟩ : ∃ p, wz.heap.size = p := ⟨_, rfl⟩
      obtain ⟨y11, hy⟩ : ∃ y, wz.alloc (.cells #[.int .i64 0, .int .i64 0] 66) = y := ⟨_, rfl⟩
      have hb : Below W.heap.size wz y11 := by rw [← hy]; exact (Below.refl _ _).alloc hHeld.size _
      have hd : Below wz.heap.size wz y11 := by rw [← hy]; exact (Below.refl _ _).alloc (Nat.le_refl _) _
      have Br : Hid (Blk y11 r 66 #[.int .i64 0, .int .i64 0]) := Lib.hid (by rw [← hy, ← hp]; exact Blk.new _ _ _)
      have Gr : Hid (W.heap.size ≤ r) := Lib.hid (by rw [← hp]; exact hHeld.size)
      rw [hy, hp]
      clear hy hp hd
      refine hK.out _ _ ?_ (fun hH32 => ?_)
      · exact hHeld.trans hb
      clear hK K
      refine wpAnyH_ready (rs := [21, 22]) (by kernel_rfl) (by simp) ?_
      refine AllReadyH.cons rfl (fun K hK => ?_) ?_
      · go_simp
        obtain ⟨p, hp⟩ : ∃ p, y11.heap.size = p := ⟨_, rfl⟩
        obtain ⟨y12, hy⟩ : ∃ y, y11.alloc (.cells #[.int .i64 0, .int .i64 0] 66) = y := ⟨_, rfl⟩
        have hb : Below W.heap.size y11 y12 := by rw [← hy]; exact (Below.refl _ _).alloc hH32.size _
        have hd : Below y11.heap.size y11 y12 := by rw [← hy]; exact (Below.refl _ _).alloc (Nat.le_refl _) _
        have Npr : Hid (p ≠ r) := Lib.hid (by rw [← hp]; have := Br.out.lt; omega)
        replace Br := Lib.hid (Br.out.below hd Br.out.lt)
        have Bp : Hid (Blk y12 p 66 #[.int .i64 0, .int .i64 0]) := Lib.hid (by rw [← hy, ← hp]; exact Blk.new _ _ _)
        have Gp : Hid (W.heap.size ≤ p) := Lib.hid (by rw [← hp]; exact hH32.size)
        rw [hy, hp]
        clear hy hp hd
        refine hK.out _ _ ?_ (fun hH33 => ?_)
        · exact hH32.trans hb
        clear hK K
        refine wpAnyH_ready (rs := [22]) (by kernel_rfl) (by simp) ?_
        refine AllReadyH.cons rfl (fun K hK => ?_) AllReadyH.nil
        go_simp
        obtain ⟨q, hp⟩ : ∃ p, y12.heap.size = p := ⟨_, rfl⟩
        obtain ⟨y13, hy⟩ : ∃ y, y12.alloc (.cells #[.int .i64 0, .int .i64 0] 66) = y := ⟨_, rfl⟩
        have hb : Below W.heap.size y12 y13 := by rw [← hy]; exact (Below.refl _ _).alloc hH33.size _
        have hd : Below y12.heap.size y12 y13 := by rw [← hy]; exact (Below.refl _ _).alloc (Nat.le_refl _) _
        have Nqr : Hid (q ≠ r) := Lib.hid (by rw [← hp]; have := Br.out.lt; omega)
        replace Br := Lib.hid (Br.out.below hd Br.out.lt)
        have Nqp : Hid (q ≠ p) := Lib.hid (by rw [← hp]; have := Bp.out.lt; omega)
        replace Bp := Lib.hid (Bp.out.below hd Bp.out.lt)
        have Bq : Hid (Blk y13 q 66 #[.int .i64 0, .int .i64 0]) := Lib.hid (by rw [← hy, ← hp]; exact Blk.new _ _ _)
        have Gq : Hid (W.heap.size ≤ q) := Lib.hid (by rw [← hp]; exact hH33.size)
        rw [hy, hp]
        clear hy hp hd
        refine hK.out _ _ ?_ (fun hH34 => ?_)
        · exact hH33.trans hb
        clear hK K
        exact key p q r y13 ⟨hH34, Bp.out, Bq.out, Br.out, Gp.out, Gq.out, Gr.out, (Ne.symm Nqp.out), Npr.out, Nqr.out⟩
      refine AllReadyH.cons rfl (fun K hK => ?_) ?_
      · go_simp
        obtain ⟨q, hp⟩ : ∃ p, y11.heap.size = p := ⟨_, rfl⟩
        obtain ⟨y14, hy⟩ : ∃ y, y11.alloc (.cells #[.int .i64 0, .int .i64 0] 66) = y := ⟨_, rfl⟩
        have hb : Below W.heap.size y11 y14 := by rw [← hy]; exact (Below.refl _ _).alloc hH32.size _
        have hd : Below y11.heap.size y11 y14 := by rw [← hy]; exact (Below.refl _ _).alloc (Nat.le_refl _) _
        have Nqr : Hid (q ≠ r) := Lib.hid (by rw [← hp]; have := Br.out.lt; omega)
        replace Br := Lib.hid (Br.out.below hd Br.out.lt)
        have Bq : Hid (Blk y14 q 66 #[.int .i64 0, .int .i64 0]) := Lib.hid (by rw [← hy, ← hp]; exact Blk.new _ _ _)
        have Gq : Hid (W.heap.size ≤ q) := Lib.hid (by rw [← hp]; exact hH32.size)
        rw [hy, hp]
        clear hy hp hd
        refine hK.out _ _ ?_ (fun hH35 => ?_)
        · exact hH32.trans hb
        clear hK K
        refine wpAnyH_ready (rs := [21]) (by kernel_rfl) (by simp) ?_
        refine AllReadyH.cons rfl (fun K hK => ?_) AllReadyH.nil
        go_simp
        obtain ⟨p, hp⟩ : ∃ p, y14.heap.size = p := ⟨_, rfl⟩
        obtain ⟨y15, hy⟩ : ∃ y, y14.alloc (.cells #[.int .i64 0, .int .i64 0] 66) = y := ⟨_, rfl⟩
        have hb : Below W.heap.size y14 y15 := by rw [← hy]; exact (Below.refl _ _).alloc hH35.size _
        have hd : Below y14.heap.size y14 y15 := by rw [← hy]; exact (Below.refl _ _).alloc (Nat.le_refl _) _
        have Npr : Hid (p ≠ r) := Lib.hid (by rw [← hp]; have := Br.out.lt; omega)
        replace Br := Lib.hid (Br.out.below hd Br.out.lt)
        have Npq : Hid (p ≠ q) := Lib.hid (by rw [← hp]; have := Bq.out.lt; omega)
        replace Bq := Lib.hid (Bq.out.below hd Bq.out.lt)
        have Bp : Hid (Blk y15 p 66 #[.int .i64 0, .int .i64 0]) := Lib.hid (by rw [← hy, ← hp]; exact Blk.new _ _ _)
        have Gp : Hid (W.heap.size ≤ p) := Lib.hid (by rw [← hp]; exact hH35.size)
        rw [hy, hp]
        clear hy hp hd
        refine hK.out _ _ ?_ (fun hH36 => ?_)
        · exact hH35.trans hb
        clear hK K
        exact key p q r y15 ⟨hH36, Bp.out, Bq.out, Br.out, Gp.out, Gq.out, Gr.out, Npq.out, Npr.out, Nqr.out⟩
      exact AllReadyH.nil
    exact AllReadyH.nil
  intro p q r W1 ⟨h0, bp, bq, br, gp, gq, gr, npq, npr, nqr⟩
  have Bp := Lib.hid bp
  have Bq := Lib.hid bq
  have Br := Lib.hid br
  have Gp := Lib.hid gp
  have Gq := Lib.hid gq
  have Gr := Lib.hid gr
  have Npq := Lib.hid npq
  have Npr := Lib.hid npr
  have Nqr := Lib.hid nqr
  clear bp bq br gp gq gr npq npr nqr hHeld
  refine wpAnyH_ready (rs := [24]) (by kernel_rfl) (by simp) ?_
  refine AllReadyH.cons rfl (fun K hK => ?_) AllReadyH.nil
  obtain ⟨r0, r1, t0, t1, tl⟩ := Bp.out.two
  go_simp
  clear r0 r1 t0 t1 tl
  obtain ⟨z1, hy⟩ : ∃ y, (W1.setCell ⟨p, 0, none⟩ (.int .i64 a.1)).setCell ⟨p, 1, none⟩ (.int .i64 a.2) = y := ⟨_, rfl⟩
  have hb : Below W.heap.size W1 z1 := by rw [← hy]; exact ((Below.refl _ _).setCell Gp.out _).setCell Gp.out _
  replace Bq := Lib.hid (show Blk z1 _ _ _ by rw [← hy]; exact (Bq.out.far (Ne.symm Npq.out) _).far (Ne.symm Npq.out) _)
  replace Br := Lib.hid (show Blk z1 _ _ _ by rw [← hy]; exact (Br.out.far (Ne.symm Npr.out) _).far (Ne.symm Npr.out) _)
  replace Bp : Hid (Blk z1 p 66 #[.int .i64 a.1, .int .i64 a.2]) := Lib.hid (by rw [← hy]; exact (Bp.out.set_ 0 _).set_ 1 _)
  rw [hy]
  clear hy
  refine hK.out _ _ ?_ (fun hH501 => ?_)
  · exact h0.trans hb
  clear hK K hb
  refine wpAnyH_ready (rs := [25]) (by kernel_rfl) (by simp) ?_
  refine AllReadyH.cons rfl (fun K hK => ?_) AllReadyH.nil
  obtain ⟨r0, r1, t0, t1, tl⟩ := Bq.out.two
  go_simp
  clear r0 r1 t0 t1 tl
  obtain ⟨z2, hy⟩ : ∃ y, (z1.setCell ⟨q, 0, none⟩ (.int .i64 b.1)).setCell ⟨q, 1, none⟩ (.int .i64 b.2) = y := ⟨_, rfl⟩
  have hb : Below W.heap.size z1 z2 := by rw [← hy]; exact ((Below.refl _ _).setCell Gq.out _).setCell Gq.out _
  replace Bp := Lib.hid (show Blk z2 _ _ _ by rw [← hy]; exact (Bp.out.far Npq.out _).far Npq.out _)
  replace Br := Lib.hid (show Blk z2 _ _ _ by rw [← hy]; exact (Br.out.far (Ne.symm Nqr.out) _).far (Ne.symm Nqr.out) _)
  replace Bq : Hid (Blk z2 q 66 #[.int .i64 b.1, .int .i64 b.2]) := Lib.hid (by rw [← hy]; exact (Bq.out.set_ 0 _).set_ 1 _)
  rw [hy]
  clear hy
  refine hK.out _ _ ?_ (fun hH502 => ?_)
  · exact hH501.trans hb
  clear hK K hb
  refine wpAnyH_ready (rs := [26]) (by kernel_rfl) (by simp) ?_
  refine AllReadyH.cons rfl (fun K hK => ?_) AllReadyH.nil
  obtain ⟨r0, r1, t0, t1, tl⟩ := Br.out.two
  go_simp
  clear r0 r1 t0 t1 tl
  obtain ⟨z3, hy⟩ : ∃ y, (z2.setCell ⟨r, 0, none⟩ (.int .i64 c.1)).setCell ⟨r, 1, none⟩ (.int .i64 c.2) = y := ⟨_, rfl⟩
  have hb : Below W.heap.size z2 z3 := by rw [← hy]; exact ((Below.refl _ _).setCell Gr.out _).setCell Gr.out _
  replace Bp := Lib.hid (show Blk z3 _ _ _ by rw [← hy]; exact (Bp.out.far Npr.out _).far Npr.out _)
  replace Bq := Lib.hid (show Blk z3 _ _ _ by rw [← hy]; exact (Bq.out.far Nqr.out _).far Nqr.out _)
  replace Br : Hid (Blk z3 r 66 #[.int .i64 c.1, .int .i64 c.2]) := Lib.hid (by rw [← hy]; exact (Br.out.set_ 0 _).set_ 1 _)
  rw [hy]
  clear hy
  refine hK.out _ _ ?_ (fun hH503 => ?_)
  · exact hH502.trans hb
  clear hK K hb
  refine wpAnyH_done (by kernel_rfl) ?_ _
  replace K3 := Lib.hid (K3.out.below hH503 K3.out.lt)
  replace HB := Lib.hid (HB.out.trans (hH503.mono HB.out.size))
  clear hH501 hH502 hH503 h0 K0 K1 K2 Gp Gq Gr Npq Npr Nqr W1 z1 z2
  obtain ⟨c0, c1⟩ := Bp.out.two_
  obtain ⟨c2, c3⟩ := Bq.out.two_
  obtain ⟨c4, c5⟩ := Br.out.two_
  obtain ⟨c6, c7⟩ := K3.out.two_
  by_cases hz : crs a b c = 0
  · have HC1 := (HZ.out hz).1
    have v7 : IntKind.i64.wrap (M1 - M2) = 0 := (HZ.out hz).2
    go_wp2_with fail
    refine (HC1 _).mono ?_
    rintro e v2 ⟨rfl, hb⟩
    replace Bp := Lib.hid (Bp.out.below hb Bp.out.lt)
    replace Bq := Lib.hid (Bq.out.below hb Bq.out.lt)
    replace Br := Lib.hid (Br.out.below hb Br.out.lt)
    replace K3 := Lib.hid (K3.out.below hb K3.out.lt)
    replace HB := Lib.hid (HB.out.trans (hb.mono HB.out.size))
    clear hb c0 c1 c2 c3 c4 c5 c6 c7
    obtain ⟨c0, c1⟩ := Bp.out.two_
    obtain ⟨c2, c3⟩ := Bq.out.two_
    obtain ⟨c4, c5⟩ := Br.out.two_
    obtain ⟨c6, c7⟩ := K3.out.two_
    go_wp2_with fail
    refine (works8_any _).mono ?_
    rintro e u ⟨rfl, hb⟩
    replace Bp := Lib.hid (Bp.out.below hb Bp.out.lt)
    replace Bq := Lib.hid (Bq.out.below hb Bq.out.lt)
    replace Br := Lib.hid (Br.out.below hb Br.out.lt)
    replace K3 := Lib.hid (K3.out.below hb K3.out.lt)
    replace HB := Lib.hid (HB.out.trans (hb.mono HB.out.size))
    clear hb c0 c1 c2 c3 c4 c5 c6 c7
    go_wp2
    go_ret
    exact ⟨rfl, HB.out⟩
  · obtain ⟨x, y, d, HC1, HC2, HC3, HC4, HC5, hd, hd0, hd1, hx, hy, ha1, ha2⟩ := HP.out hz
    obtain ⟨D, hD⟩ : ∃ D, crs a b c = D := ⟨_, rfl⟩
    rw [hD] at v7_ hz hd
    have HN := Lib.hid hz
    obtain ⟨E0, hE0⟩ : ∃ E, -D = E := ⟨_, rfl⟩
    obtain ⟨G0, hG0⟩ : ∃ E, (if D < E0 then E0 else D) = E := ⟨_, rfl⟩
    have hdg : d = 2 * G0 := by rw [hd, ← hG0, ← hE0]; split <;> omega
    have hgb : 0 < G0 := by omega
    have wn : IntKind.i64.wrap (-D) = E0 := by rw [hE0]; exact IntWalk.i64_in _ (by have := hd1; omega)
    have w2 : IntKind.i64.wrap (2 * G0) = d := by rw [← hdg]; exact IntWalk.i64_in _ (by omega)
    have hz0 : (D == 0) = false := by simp only [beq_eq_false_iff_ne]; exact hz
    clear hE0 hdg hgb hd
    have wv1 : IntKind.i64.wrap v.1 = v.1 := IntWalk.i64_in _ (by have := HA.out.2.2.2.1; omega)
    have wv2 : IntKind.i64.wrap v.2 = v.2 := IntWalk.i64_in _ (by have := HA.out.2.2.2.2; omega)
    obtain ⟨m1, hm1⟩ : ∃ x, d * v.1 = x := ⟨_, rfl⟩
    obtain ⟨m2, hm2⟩ : ∃ x, d * v.2 = x := ⟨_, rfl⟩
    have bm1 := dv_bd ⟨hd0, hd1⟩ HA.out.2.2.2.1
    have bm2 := dv_bd ⟨hd0, hd1⟩ HA.out.2.2.2.2
    rw [hm1] at bm1 HC4
    rw [hm2] at bm2 HC4
    have wm1 : IntKind.i64.wrap (d * v.1) = m1 := by rw [hm1]; exact IntWalk.i64_in _ (by omega)
    have wm2 : IntKind.i64.wrap (d * v.2) = m2 := by rw [hm2]; exact IntWalk.i64_in _ (by omega)
    have wx1 : IntKind.i64.wrap (x + m1) = x + m1 := IntWalk.i64_in _ (by omega)
    have wx2 : IntKind.i64.wrap (y + m2) = y + m2 := IntWalk.i64_in _ (by omega)
    obtain ⟨X1, hX1⟩ : ∃ z, x + m1 = z := ⟨_, rfl⟩
    obtain ⟨X2, hX2⟩ : ∃ z, y + m2 = z := ⟨_, rfl⟩
    rw [hX1, hX2] at HC4
    rw [hX1] at wx1
    rw [hX2] at wx2
    have wx1' : IntKind.i64.wrap (x + m1) = X1 := by rw [hX1]; exact wx1
    have wx2' : IntKind.i64.wrap (y + m2) = X2 := by rw [hX2]; exact wx2
    have q1 : ((x : Int) == x) = true := by simp
    have q2 : ((y : Int) == y) = true := by simp
    have q3 : ((d : Int) == d) = true := by simp
    have q4 : ((X1 : Int) == X1) = true := by simp
    have q5 : ((X2 : Int) == X2) = true := by simp
    obtain ⟨NB, hNB⟩ : ∃ B, decide (sqN [x, y] ≤ sqN [lim * d]) = B := ⟨_, rfl⟩
    rw [hNB] at HC5
    have HNB := Lib.hid hNB
    clear hNB
    have HAP1 := Lib.hid (fun W : World => apart_any a b x y d W HA.out.1.sp HA.out.2.1.sp hx hy ha1)
    have HAP2 := Lib.hid (fun W : World => apart_any a c x y d W HA.out.1.sp HA.out.2.2.1.sp hx hy ha2)
    have HMA := Lib.hid (fun W : World => moved_any a v.1 v.2 W (by have := HA.out.1.1; have := HA.out.2.2.2.1; omega) (by have := HA.out.1.2; have := HA.out.2.2.2.2; omega))
    have HMB := Lib.hid (fun W : World => moved_any b v.1 v.2 W (by have := HA.out.2.1.1; have := HA.out.2.2.2.1; omega) (by have := HA.out.2.1.2; have := HA.out.2.2.2.2; omega))
    have HMC := Lib.hid (fun W : World => moved_any c v.1 v.2 W (by have := HA.out.2.2.1.1; have := HA.out.2.2.2.1; omega) (by have := HA.out.2.2.1.2; have := HA.out.2.2.2.2; omega))
    have wl : IntKind.i64.wrap lim = lim := IntWalk.i64_in _ (by omega)
    have HL := Lib.hid hl
    have HXY := Lib.hid (And.intro hx (And.intro hy hd1))
    clear HP HZ hD hm1 hm2 bm1 bm2 hX1 hX2 wx1 wx2 ha1 ha2 hl hx hy hd1
    go_wp2_with fail
    refine (HC1 _).mono ?_
    rintro e v3 ⟨rfl, hb⟩
    replace Bp := Lib.hid (Bp.out.below hb Bp.out.lt)
    replace Bq := Lib.hid (Bq.out.below hb Bq.out.lt)
    replace Br := Lib.hid (Br.out.below hb Br.out.lt)
    replace K3 := Lib.hid (K3.out.below hb K3.out.lt)
    replace HB := Lib.hid (HB.out.trans (hb.mono HB.out.size))
    clear hb c0 c1 c2 c3 c4 c5 c6 c7
    obtain ⟨c0, c1⟩ := Bp.out.two_
    obtain ⟨c2, c3⟩ := Bq.out.two_
    obtain ⟨c4, c5⟩ := Br.out.two_
    obtain ⟨c6, c7⟩ := K3.out.two_
    go_wp2_with fail
    refine (HAP1.out _).mono ?_
    rintro e v4 ⟨rfl, hb⟩
    replace Bp := Lib.hid (Bp.out.below hb Bp.out.lt)
    replace Bq := Lib.hid (Bq.out.below hb Bq.out.lt)
    replace Br := Lib.hid (Br.out.below hb Br.out.lt)
    replace K3 := Lib.hid (K3.out.below hb K3.out.lt)
    replace HB := Lib.hid (HB.out.trans (hb.mono HB.out.size))
    clear hb c0 c1 c2 c3 c4 c5 c6 c7
    obtain ⟨c0, c1⟩ := Bp.out.two_
    obtain ⟨c2, c3⟩ := Bq.out.two_
    obtain ⟨c4, c5⟩ := Br.out.two_
    obtain ⟨c6, c7⟩ := K3.out.two_
    go_wp2_with fail
    refine (HAP2.out _).mono ?_
    rintro e v5 ⟨rfl, hb⟩
    replace Bp := Lib.hid (Bp.out.below hb Bp.out.lt)
    replace Bq := Lib.hid (Bq.out.below hb Bq.out.lt)
    replace Br := Lib.hid (Br.out.below hb Br.out.lt)
    replace K3 := Lib.hid (K3.out.below hb K3.out.lt)
    replace HB := Lib.hid (HB.out.trans (hb.mono HB.out.size))
    clear hb c0 c1 c2 c3 c4 c5 c6 c7
    obtain ⟨c0, c1⟩ := Bp.out.two_
    obtain ⟨c2, c3⟩ := Bq.out.two_
    obtain ⟨c4, c5⟩ := Br.out.two_
    obtain ⟨c6, c7⟩ := K3.out.two_
    go_wp2_with fail
    refine (HC2 _).mono ?_
    rintro e v6 ⟨rfl, hb⟩
    replace Bp := Lib.hid (Bp.out.below hb Bp.out.lt)
    replace Bq := Lib.hid (Bq.out.below hb Bq.out.lt)
    replace Br := Lib.hid (Br.out.below hb Br.out.lt)
    replace K3 := Lib.hid (K3.out.below hb K3.out.lt)
    replace HB := Lib.hid (HB.out.trans (hb.mono HB.out.size))
    clear hb c0 c1 c2 c3 c4 c5 c6 c7
    obtain ⟨c0, c1⟩ := Bp.out.two_
    obtain ⟨c2, c3⟩ := Bq.out.two_
    obtain ⟨c4, c5⟩ := Br.out.two_
    obtain ⟨c6, c7⟩ := K3.out.two_
    go_wp2_with fail
    refine (HC3 _).mono ?_
    rintro e v7 ⟨rfl, hb⟩
    replace Bp := Lib.hid (Bp.out.below hb Bp.out.lt)
    replace Bq := Lib.hid (Bq.out.below hb Bq.out.lt)
    replace Br := Lib.hid (Br.out.below hb Br.out.lt)
    replace K3 := Lib.hid (K3.out.below hb K3.out.lt)
    replace HB := Lib.hid (HB.out.trans (hb.mono HB.out.size))
    clear hb c0 c1 c2 c3 c4 c5 c6 c7
    obtain ⟨c0, c1⟩ := Bp.out.two_
    obtain ⟨c2, c3⟩ := Bq.out.two_
    obtain ⟨c4, c5⟩ := Br.out.two_
    obtain ⟨c6, c7⟩ := K3.out.two_
    go_wp2_with fail
    try dsimp only [List.append]
    have hk0 := Lat.cell (p := ⟨p, 0, none⟩) (v := .int .i64 a.1) c0
    have hk1 := Lat.cell (p := ⟨p, 1, none⟩) (v := .int .i64 a.2) c1
    have hk2 := Lat.cell (p := ⟨q, 0, none⟩) (v := .int .i64 b.1) c2
    have hk3 := Lat.cell (p := ⟨q, 1, none⟩) (v := .int .i64 b.2) c3
    have hk4 := Lat.cell (p := ⟨r, 0, none⟩) (v := .int .i64 c.1) c4
    have hk5 := Lat.cell (p := ⟨r, 1, none⟩) (v := .int .i64 c.2) c5
    have hk6 := Lat.cell (p := ⟨(w.heap.size + 1 + 1 + 1), 0, none⟩) (v := .int .i16 v.1) c6
    have hk7 := Lat.cell (p := ⟨(w.heap.size + 1 + 1 + 1), 1, none⟩) (v := .int .i16 v.2) c7
    refine wp_region_lat (by kernel_rfl) (by kernel_rfl) ?_
    repeat (go_big_quiet_step (first | fail))
    refine wpQuiet_nil ?_
    intro v8 hw
    have hb := lat_out hw
    clear hw hk0 hk1 hk2 hk3 hk4 hk5 hk6 hk7
    replace Bp := Lib.hid (Bp.out.below hb Bp.out.lt)
    replace Bq := Lib.hid (Bq.out.below hb Bq.out.lt)
    replace Br := Lib.hid (Br.out.below hb Br.out.lt)
    replace K3 := Lib.hid (K3.out.below hb K3.out.lt)
    replace HB := Lib.hid (HB.out.trans (hb.mono HB.out.size))
    clear hb c0 c1 c2 c3 c4 c5 c6 c7
    obtain ⟨c0, c1⟩ := Bp.out.two_
    obtain ⟨c2, c3⟩ := Bq.out.two_
    obtain ⟨c4, c5⟩ := Br.out.two_
    obtain ⟨c6, c7⟩ := K3.out.two_
    go_wp2_with fail
    try dsimp only [List.append]
    have hk0 := Lat.cell (p := ⟨p, 0, none⟩) (v := .int .i64 a.1) c0
    have hk1 := Lat.cell (p := ⟨p, 1, none⟩) (v := .int .i64 a.2) c1
    have hk2 := Lat.cell (p := ⟨q, 0, none⟩) (v := .int .i64 b.1) c2
    have hk3 := Lat.cell (p := ⟨q, 1, none⟩) (v := .int .i64 b.2) c3
    have hk4 := Lat.cell (p := ⟨r, 0, none⟩) (v := .int .i64 c.1) c4
    have hk5 := Lat.cell (p := ⟨r, 1, none⟩) (v := .int .i64 c.2) c5
    have hk6 := Lat.cell (p := ⟨(w.heap.size + 1 + 1 + 1), 0, none⟩) (v := .int .i16 v.1) c6
    have hk7 := Lat.cell (p := ⟨(w.heap.size + 1 + 1 + 1), 1, none⟩) (v := .int .i16 v.2) c7
    refine wp_region_lat (by kernel_rfl) (by kernel_rfl) ?_
    repeat (go_big_quiet_step (first | (with_reducible exact Calls.lat (HMA.out _)) | (with_reducible exact Calls.lat (HMB.out _)) | (with_reducible exact Calls.lat (HMC.out _)) | (with_reducible exact Calls.lat (HC4 _))))
    refine wpQuiet_nil ?_
    intro v9 hw
    have hb := lat_out hw
    clear hw hk0 hk1 hk2 hk3 hk4 hk5 hk6 hk7
    replace Bp := Lib.hid (Bp.out.below hb Bp.out.lt)
    replace Bq := Lib.hid (Bq.out.below hb Bq.out.lt)
    replace Br := Lib.hid (Br.out.below hb Br.out.lt)
    replace K3 := Lib.hid (K3.out.below hb K3.out.lt)
    replace HB := Lib.hid (HB.out.trans (hb.mono HB.out.size))
    clear hb c0 c1 c2 c3 c4 c5 c6 c7
    obtain ⟨c0, c1⟩ := Bp.out.two_
    obtain ⟨c2, c3⟩ := Bq.out.two_
    obtain ⟨c4, c5⟩ := Br.out.two_
    obtain ⟨c6, c7⟩ := K3.out.two_
    go_wp2_with fail
    go_wp2_with fail
    refine (HC5 _).mono ?_
    rintro e v10 ⟨rfl, hb⟩
    replace Bp := Lib.hid (Bp.out.below hb Bp.out.lt)
    replace Bq := Lib.hid (Bq.out.below hb Bq.out.lt)
    replace Br := Lib.hid (Br.out.below hb Br.out.lt)
    replace K3 := Lib.hid (K3.out.below hb K3.out.lt)
    replace HB := Lib.hid (HB.out.trans (hb.mono HB.out.size))
    clear hb c0 c1 c2 c3 c4 c5 c6 c7
    obtain ⟨c0, c1⟩ := Bp.out.two_
    obtain ⟨c2, c3⟩ := Bq.out.two_
    obtain ⟨c4, c5⟩ := Br.out.two_
    obtain ⟨c6, c7⟩ := K3.out.two_
    go_wp2_with fail
    have hd3 : (d == 0) = false := by have := hd0; simp; omega
    by_cases r1 : x.tmod d = 0
    · by_cases r2 : y.tmod d = 0
      · have t1 : (x.tmod d == 0) = true := by rw [r1]; rfl
        have t2 : (y.tmod d == 0) = true := by rw [r2]; rfl
        have t3 : IntKind.i64.wrap (-x) = -x := IntWalk.i64_in _ (by have := HXY.out.1; omega)
        have t4 : IntKind.i64.wrap (-y) = -y := IntWalk.i64_in _ (by have := HXY.out.2.1; omega)
        obtain ⟨x', hx'⟩ : ∃ z, -x = z := ⟨_, rfl⟩
        obtain ⟨y', hy'⟩ : ∃ z, -y = z := ⟨_, rfl⟩
        rw [hx'] at t3
        rw [hy'] at t4
        obtain ⟨m, hm⟩ : ∃ m, x.tdiv d = m := ⟨_, rfl⟩
        obtain ⟨n, hn⟩ : ∃ n, y.tdiv d = n := ⟨_, rfl⟩
        obtain ⟨m', hm'⟩ : ∃ m, x'.tdiv d = m := ⟨_, rfl⟩
        obtain ⟨n', hn'⟩ : ∃ n, y'.tdiv d = n := ⟨_, rfl⟩
        have bq := quo_facts hd0 r1 hm hx' hm' HXY.out.1
        have bq2 := quo_facts hd0 r2 hn hy' hn' HXY.out.2.1
        have t5 : IntKind.i64.wrap m = m := IntWalk.i64_in _ (by omega)
        have t6 : IntKind.i64.wrap n = n := IntWalk.i64_in _ (by omega)
        have t7 : IntKind.i64.wrap m' = m' := IntWalk.i64_in _ (by omega)
        have t8 : IntKind.i64.wrap n' = n' := IntWalk.i64_in _ (by omega)
        have A1 : wrap64 ((wrap64 (-x)).tdiv d) = m' := by rw [hx', wrap64_in (x := x') (by have := HXY.out.1; omega), hm', wrap64_in (by omega)]
        have A2 : wrap64 ((wrap64 (-y)).tdiv d) = n' := by rw [hy', wrap64_in (x := y') (by have := HXY.out.2.1; omega), hn', wrap64_in (by omega)]
        obtain ⟨G4, hG4⟩ : ∃ g, mx4 m m' n n' = g := ⟨_, rfl⟩
        have bG := mx4_bd hG4
        have HNN : Hid (G4 < 1048576 → NB = decide (m * m + n * n ≤ lim * lim)) := Lib.hid (fun _ => by rw [← HNB.out, bq.1, bq2.1]; exact near_iff m n d lim hd0)
        have HBQ : Hid (G4 < 1048576 → (-1048576 < m ∧ m < 1048576) ∧ (-1048576 < n ∧ n < 1048576)) := Lib.hid (fun h => by omega)
        clear hx' hy' bq bq2 r1 r2 t3 t4 t7 t8 bG
        by_cases hg : G4 < 1048576
        · have t9 : decide (G4 < 1048576) = true := by simpa using hg
          have hb_ := HBQ.out hg
          have hn_ := HNN.out hg
          have sq1 := sq20 hb_.1
          have sq2 := sq20 hb_.2
          have sq3 := sqlim HL.out
          obtain ⟨mm, hmm⟩ : ∃ z, m * m = z := ⟨_, rfl⟩
          obtain ⟨nn, hnn⟩ : ∃ z, n * n = z := ⟨_, rfl⟩
          obtain ⟨ll, hll⟩ : ∃ z, lim * lim = z := ⟨_, rfl⟩
          rw [hmm] at sq1
          rw [hnn] at sq2
          rw [hll] at sq3
          rw [hmm, hnn, hll] at hn_
          have u1 : IntKind.i64.wrap (m * m) = mm := by rw [hmm]; exact IntWalk.i64_in _ (by omega)
          have u2 : IntKind.i64.wrap (n * n) = nn := by rw [hnn]; exact IntWalk.i64_in _ (by omega)
          have u3 : IntKind.i64.wrap (mm + nn) = mm + nn := IntWalk.i64_in _ (by omega)
          have u4 : IntKind.i64.wrap (lim * lim) = ll := by rw [hll]; exact IntWalk.i64_in _ (by omega)
          have u5 : decide (mm + nn ≤ ll) = NB := hn_.symm
          have u6 : (NB == NB) = true := by simp
          clear hg hb_ hn_ sq1 sq2 sq3 hmm hnn hll
          try dsimp only [List.append]
          have hk0 := Lat.cell (p := ⟨p, 0, none⟩) (v := .int .i64 a.1) c0
          have hk1 := Lat.cell (p := ⟨p, 1, none⟩) (v := .int .i64 a.2) c1
          have hk2 := Lat.cell (p := ⟨q, 0, none⟩) (v := .int .i64 b.1) c2
          have hk3 := Lat.cell (p := ⟨q, 1, none⟩) (v := .int .i64 b.2) c3
          have hk4 := Lat.cell (p := ⟨r, 0, none⟩) (v := .int .i64 c.1) c4
          have hk5 := Lat.cell (p := ⟨r, 1, none⟩) (v := .int .i64 c.2) c5
          have hk6 := Lat.cell (p := ⟨(w.heap.size + 1 + 1 + 1), 0, none⟩) (v := .int .i16 v.1) c6
          have hk7 := Lat.cell (p := ⟨(w.heap.size + 1 + 1 + 1), 1, none⟩) (v := .int .i16 v.2) c7
          refine wp_region_lat (by kernel_rfl) (by kernel_rfl) ?_
          repeat (go_big_quiet_step (fail))
          refine wpQuiet_step (fun K hK => ?_)
          go_simp
          refine ⟨.int .i64 G4, fun u => ?_, hK _ ?_⟩
          · rw [run_max_int4, hG4]; exact ⟨rfl, rfl⟩
          clear hK K
          repeat (go_big_quiet_step (fail))
          refine wpQuiet_nil ?_
          intro v11 hw
          have hb := lat_out hw
          clear hw hk0 hk1 hk2 hk3 hk4 hk5 hk6 hk7
          replace Bp := Lib.hid (Bp.out.below hb Bp.out.lt)
          replace Bq := Lib.hid (Bq.out.below hb Bq.out.lt)
          replace Br := Lib.hid (Br.out.below hb Br.out.lt)
          replace K3 := Lib.hid (K3.out.below hb K3.out.lt)
          replace HB := Lib.hid (HB.out.trans (hb.mono HB.out.size))
          clear hb c0 c1 c2 c3 c4 c5 c6 c7
          obtain ⟨c0, c1⟩ := Bp.out.two_
          obtain ⟨c2, c3⟩ := Bq.out.two_
          obtain ⟨c4, c5⟩ := Br.out.two_
          obtain ⟨c6, c7⟩ := K3.out.two_
          go_wp2_with fail
          try dsimp only [List.append]
          have hk0 := Lat.cell (p := ⟨p, 0, none⟩) (v := .int .i64 a.1) c0
          have hk1 := Lat.cell (p := ⟨p, 1, none⟩) (v := .int .i64 a.2) c1
          have hk2 := Lat.cell (p := ⟨q, 0, none⟩) (v := .int .i64 b.1) c2
          have hk3 := Lat.cell (p := ⟨q, 1, none⟩) (v := .int .i64 b.2) c3
          have hk4 := Lat.cell (p := ⟨r, 0, none⟩) (v := .int .i64 c.1) c4
          have hk5 := Lat.cell (p := ⟨r, 1, none⟩) (v := .int .i64 c.2) c5
          have hk6 := Lat.cell (p := ⟨(w.heap.size + 1 + 1 + 1), 0, none⟩) (v := .int .i16 v.1) c6
          have hk7 := Lat.cell (p := ⟨(w.heap.size + 1 + 1 + 1), 1, none⟩) (v := .int .i16 v.2) c7
          refine wp_region_lat (by kernel_rfl) (by kernel_rfl) ?_
          repeat (go_big_quiet_step (first | fail))
          refine wpQuiet_nil ?_
          intro v12 hw
          have hb := lat_out hw
          clear hw hk0 hk1 hk2 hk3 hk4 hk5 hk6 hk7
          replace Bp := Lib.hid (Bp.out.below hb Bp.out.lt)
          replace Bq := Lib.hid (Bq.out.below hb Bq.out.lt)
          replace Br := Lib.hid (Br.out.below hb Br.out.lt)
          replace K3 := Lib.hid (K3.out.below hb K3.out.lt)
          replace HB := Lib.hid (HB.out.trans (hb.mono HB.out.size))
          clear hb c0 c1 c2 c3 c4 c5 c6 c7
          obtain ⟨c0, c1⟩ := Bp.out.two_
          obtain ⟨c2, c3⟩ := Bq.out.two_
          obtain ⟨c4, c5⟩ := Br.out.two_
          obtain ⟨c6, c7⟩ := K3.out.two_
          go_wp2_with fail
          refine (works8_any _).mono ?_
          rintro e u ⟨rfl, hb⟩
          replace Bp := Lib.hid (Bp.out.below hb Bp.out.lt)
          replace Bq := Lib.hid (Bq.out.below hb Bq.out.lt)
          replace Br := Lib.hid (Br.out.below hb Br.out.lt)
          replace K3 := Lib.hid (K3.out.below hb K3.out.lt)
          replace HB := Lib.hid (HB.out.trans (hb.mono HB.out.size))
          clear hb c0 c1 c2 c3 c4 c5 c6 c7
          go_wp2
          go_ret
          exact ⟨rfl, HB.out⟩
        · have t9 : decide (G4 < 1048576) = false := by simpa using hg
          clear hg
          try dsimp only [List.append]
          have hk0 := Lat.cell (p := ⟨p, 0, none⟩) (v := .int .i64 a.1) c0
          have hk1 := Lat.cell (p := ⟨p, 1, none⟩) (v := .int .i64 a.2) c1
          have hk2 := Lat.cell (p := ⟨q, 0, none⟩) (v := .int .i64 b.1) c2
          have hk3 := Lat.cell (p := ⟨q, 1, none⟩) (v := .int .i64 b.2) c3
          have hk4 := Lat.cell (p := ⟨r, 0, none⟩) (v := .int .i64 c.1) c4
          have hk5 := Lat.cell (p := ⟨r, 1, none⟩) (v := .int .i64 c.2) c5
          have hk6 := Lat.cell (p := ⟨(w.heap.size + 1 + 1 + 1), 0, none⟩) (v := .int .i16 v.1) c6
          have hk7 := Lat.cell (p := ⟨(w.heap.size + 1 + 1 + 1), 1, none⟩) (v := .int .i16 v.2) c7
          refine wp_region_lat (by kernel_rfl) (by kernel_rfl) ?_
          repeat (go_big_quiet_step (fail))
          refine wpQuiet_step (fun K hK => ?_)
          go_simp
          refine ⟨.int .i64 G4, fun u => ?_, hK _ ?_⟩
          · rw [run_max_int4, hG4]; exact ⟨rfl, rfl⟩
          clear hK K
          repeat (go_big_quiet_step (fail))
          refine wpQuiet_nil ?_
          intro v13 hw
          have hb := lat_out hw
          clear hw hk0 hk1 hk2 hk3 hk4 hk5 hk6 hk7
          replace Bp := Lib.hid (Bp.out.below hb Bp.out.lt)
          replace Bq := Lib.hid (Bq.out.below hb Bq.out.lt)
          replace Br := Lib.hid (Br.out.below hb Br.out.lt)
          replace K3 := Lib.hid (K3.out.below hb K3.out.lt)
          replace HB := Lib.hid (HB.out.trans (hb.mono HB.out.size))
          clear hb c0 c1 c2 c3 c4 c5 c6 c7
          obtain ⟨c0, c1⟩ := Bp.out.two_
          obtain ⟨c2, c3⟩ := Bq.out.two_
          obtain ⟨c4, c5⟩ := Br.out.two_
          obtain ⟨c6, c7⟩ := K3.out.two_
          go_wp2_with fail
          refine (works8_any _).mono ?_
          rintro e u ⟨rfl, hb⟩
          replace Bp := Lib.hid (Bp.out.below hb Bp.out.lt)
          replace Bq := Lib.hid (Bq.out.below hb Bq.out.lt)
          replace Br := Lib.hid (Br.out.below hb Br.out.lt)
          replace K3 := Lib.hid (K3.out.below hb K3.out.lt)
          replace HB := Lib.hid (HB.out.trans (hb.mono HB.out.size))
          clear hb c0 c1 c2 c3 c4 c5 c6 c7
          go_wp2
          go_ret
          exact ⟨rfl, HB.out⟩

      · have t1 : (x.tmod d == 0) = true := by rw [r1]; rfl
        have t2 : (y.tmod d == 0) = false := by simp only [beq_eq_false_iff_ne]; exact r2
        clear r1 r2
        try dsimp only [List.append]
        have hk0 := Lat.cell (p := ⟨p, 0, none⟩) (v := .int .i64 a.1) c0
        have hk1 := Lat.cell (p := ⟨p, 1, none⟩) (v := .int .i64 a.2) c1
        have hk2 := Lat.cell (p := ⟨q, 0, none⟩) (v := .int .i64 b.1) c2
        have hk3 := Lat.cell (p := ⟨q, 1, none⟩) (v := .int .i64 b.2) c3
        have hk4 := Lat.cell (p := ⟨r, 0, none⟩) (v := .int .i64 c.1) c4
        have hk5 := Lat.cell (p := ⟨r, 1, none⟩) (v := .int .i64 c.2) c5
        have hk6 := Lat.cell (p := ⟨(w.heap.size + 1 + 1 + 1), 0, none⟩) (v := .int .i16 v.1) c6
        have hk7 := Lat.cell (p := ⟨(w.heap.size + 1 + 1 + 1), 1, none⟩) (v := .int .i16 v.2) c7
        refine wp_region_lat (by kernel_rfl) (by kernel_rfl) ?_
        repeat (go_big_quiet_step (first | fail))
        refine wpQuiet_nil ?_
        intro v1 hw
        have hb := lat_out hw
        clear hw hk0 hk1 hk2 hk3 hk4 hk5 hk6 hk7
        replace Bp := Lib.hid (Bp.out.below hb Bp.out.lt)
        replace Bq := Lib.hid (Bq.out.below hb Bq.out.lt)
        replace Br := Lib.hid (Br.out.below hb Br.out.lt)
        replace K3 := Lib.hid (K3.out.below hb K3.out.lt)
        replace HB := Lib.hid (HB.out.trans (hb.mono HB.out.size))
        clear hb c0 c1 c2 c3 c4 c5 c6 c7
        obtain ⟨c0, c1⟩ := Bp.out.two_
        obtain ⟨c2, c3⟩ := Bq.out.two_
        obtain ⟨c4, c5⟩ := Br.out.two_
        obtain ⟨c6, c7⟩ := K3.out.two_
        go_wp2_with fail
        refine (works8_any _).mono ?_
        rintro e u ⟨rfl, hb⟩
        replace Bp := Lib.hid (Bp.out.below hb Bp.out.lt)
        replace Bq := Lib.hid (Bq.out.below hb Bq.out.lt)
        replace Br := Lib.hid (Br.out.below hb Br.out.lt)
        replace K3 := Lib.hid (K3.out.below hb K3.out.lt)
        replace HB := Lib.hid (HB.out.trans (hb.mono HB.out.size))
        clear hb c0 c1 c2 c3 c4 c5 c6 c7
        go_wp2
        go_ret
        exact ⟨rfl, HB.out⟩
    · have t1 : (x.tmod d == 0) = false := by simp only [beq_eq_false_iff_ne]; exact r1
      clear r1
      try dsimp only [List.append]
      have hk0 := Lat.cell (p := ⟨p, 0, none⟩) (v := .int .i64 a.1) c0
      have hk1 := Lat.cell (p := ⟨p, 1, none⟩) (v := .int .i64 a.2) c1
      have hk2 := Lat.cell (p := ⟨q, 0, none⟩) (v := .int .i64 b.1) c2
      have hk3 := Lat.cell (p := ⟨q, 1, none⟩) (v := .int .i64 b.2) c3
      have hk4 := Lat.cell (p := ⟨r, 0, none⟩) (v := .int .i64 c.1) c4
      have hk5 := Lat.cell (p := ⟨r, 1, none⟩) (v := .int .i64 c.2) c5
      have hk6 := Lat.cell (p := ⟨(w.heap.size + 1 + 1 + 1), 0, none⟩) (v := .int .i16 v.1) c6
      have hk7 := Lat.cell (p := ⟨(w.heap.size + 1 + 1 + 1), 1, none⟩) (v := .int .i16 v.2) c7
      refine wp_region_lat (by kernel_rfl) (by kernel_rfl) ?_
      repeat (go_big_quiet_step (first | fail))
      refine wpQuiet_nil ?_
      intro v1 hw
      have hb := lat_out hw
      clear hw hk0 hk1 hk2 hk3 hk4 hk5 hk6 hk7
      replace Bp := Lib.hid (Bp.out.below hb Bp.out.lt)
      replace Bq := Lib.hid (Bq.out.below hb Bq.out.lt)
      replace Br := Lib.hid (Br.out.below hb Br.out.lt)
      replace K3 := Lib.hid (K3.out.below hb K3.out.lt)
      replace HB := Lib.hid (HB.out.trans (hb.mono HB.out.size))
      clear hb c0 c1 c2 c3 c4 c5 c6 c7
      obtain ⟨c0, c1⟩ := Bp.out.two_
      obtain ⟨c2, c3⟩ := Bq.out.two_
      obtain ⟨c4, c5⟩ := Br.out.two_
      obtain ⟨c6, c7⟩ := K3.out.two_
      go_wp2_with fail
      refine (works8_any _).mono ?_
      rintro e u ⟨rfl, hb⟩
      replace Bp := Lib.hid (Bp.out.below hb Bp.out.lt)
      replace Bq := Lib.hid (Bq.out.below hb Bq.out.lt)
      replace Br := Lib.hid (Br.out.below hb Br.out.lt)
      replace K3 := Lib.hid (K3.out.below hb K3.out.lt)
      replace HB := Lib.hid (HB.out.trans (hb.mono HB.out.size))
      clear hb c0 c1 c2 c3 c4 c5 c6 c7
      go_wp2
      go_ret
      exact ⟨rfl, HB.out⟩
end Go.Proofs.Ytomncopeekegoaa
