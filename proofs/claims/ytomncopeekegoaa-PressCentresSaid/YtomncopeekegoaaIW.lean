/-
  The document's square of a number in three digits, and its Centred.
-/
import Derived.Test.YtomncopeekegoaaIB
import Derived.Test.YtomncopeekegoaaIU
namespace Go.Proofs.Ytomncopeekegoaa
open Go.RowKit

/-- The three digits of a number. -/
def dg (V : Nat) : Nat × Nat × Nat := (V / 288230376151711744, V / 536870912 % 536870912, V % 536870912)
theorem dg_of (a b c : Nat) : dg (a * 288230376151711744 + b * 536870912 + c) = (a + (b + c / 536870912) / 536870912, (b + c / 536870912) % 536870912, c % 536870912) := by
  unfold dg
  refine Prod.ext ?_ (Prod.ext ?_ ?_) <;> dsimp only <;> omega
theorem dg_lt (a b : Nat) : (dg a).1 = (dg b).1 → (dg a).2.1 = (dg b).2.1 → (dg a).2.2 = (dg b).2.2 → a = b := by
  unfold dg
  dsimp only
  omega
theorem dg_0 {a b : Nat} (h : (dg a).1 ≠ (dg b).1) : decide (a ≤ b) = decide ((dg a).1 < (dg b).1) := by
  unfold dg at h ⊢
  dsimp only at h ⊢
  exact decide_eq_decide.2 (by omega)
theorem dg_1 {a b : Nat} (h0 : (dg a).1 = (dg b).1) (h : (dg a).2.1 ≠ (dg b).2.1) : decide (a ≤ b) = decide ((dg a).2.1 < (dg b).2.1) := by
  unfold dg at h h0 ⊢
  dsimp only at h h0 ⊢
  exact decide_eq_decide.2 (by omega)
theorem dg_2 {a b : Nat} (h0 : (dg a).1 = (dg b).1) (h1 : (dg a).2.1 = (dg b).2.1) (h : (dg a).2.2 ≠ (dg b).2.2) : decide (a ≤ b) = decide ((dg a).2.2 < (dg b).2.2) := by
  unfold dg at h h0 h1 ⊢
  dsimp only at h h0 h1 ⊢
  exact decide_eq_decide.2 (by omega)
abbrev dgV (V : Nat) : Value := .agg #[.int .i64 ((dg V).1 : Int), .int .i64 ((dg V).2.1 : Int), .int .i64 ((dg V).2.2 : Int)]

set_option maxRecDepth 100000 in
set_option maxHeartbeats 4000000 in
theorem digits_any (a b c : Nat) (w : World) (ha : a < 2305843009213693952) (hb : b < 2305843009213693952) (hc : c < 2305843009213693952) :
    Calls Try.prog 73 #[.agg #[.int .i64 a, .int .i64 b, .int .i64 c]] w fun e w' => e = .returned (dgV (a * 288230376151711744 + b * 536870912 + c)) ∧ Below w.heap.size w w' := by
  have HD := Lib.hid (dg_of a b c)
  have e1 : IntKind.i64.wrap ((b : Int) + ((c / 536870912 : Nat) : Int)) = ((b + c / 536870912 : Nat) : Int) := by rw [show (b : Int) + ((c / 536870912 : Nat) : Int) = ((b + c / 536870912 : Nat) : Int) by omega]; exact IntWalk.i64_in _ (by omega)
  go_enter Try.func73, Try.ntmps73
  go_wp2
  obtain ⟨X, hX⟩ : ∃ X : Int, (a : Int) + ((b : Int) + (c : Int) / 536870912) / 536870912 = X := ⟨_, rfl⟩
  obtain ⟨Y, hY⟩ : ∃ Y : Int, ((b : Int) + (c : Int) / 536870912) % 536870912 = Y := ⟨_, rfl⟩
  obtain ⟨Z, hZ⟩ : ∃ Z : Int, (c : Int) % 536870912 = Z := ⟨_, rfl⟩
  rw [hX, hY, hZ]
  obtain ⟨W, hW⟩ : ∃ W, (w.alloc (.cells #[.int .i64 X, .int .i64 Y, .int .i64 Z] 127)).alloc (.cells #[.int .i64 X, .int .i64 Y, .int .i64 Z] 127) = W := ⟨_, rfl⟩
  have hb : Below w.heap.size w W := by rw [← hW]; exact (below_a _ _).alloc (by simp) _
  have k1 : Blk W (w.heap.size + 1) 127 #[.int .i64 X, .int .i64 Y, .int .i64 Z] := by rw [← hW]; exact blk_al (by simp)
  rw [hW]
  have c0 := (k1.cell 0).trans rfl
  have c1 := (k1.cell 1).trans rfl
  have c2 := (k1.cell 2).trans rfl
  refine bodyPost_ret (v := .agg #[.int .i64 X, .int .i64 Y, .int .i64 Z]) ?_ rfl ⟨?_, hb⟩
  · simp [results, Try.results73, go_sem, c0, c1, c2]
  · have q0 : X = ((a + (b + c / 536870912) / 536870912 : Nat) : Int) := by omega
    have q1 : Y = (((b + c / 536870912) % 536870912 : Nat) : Int) := by omega
    have q2 : Z = ((c % 536870912 : Nat) : Int) := by omega
    unfold dgV
    rw [HD.out, q0, q1, q2]
theorem sq_dg (h l : Nat) : h * h * 288230376151711744 + 2 * h * l * 536870912 + l * l = (h * 536870912 + l) * (h * 536870912 + l) := by
  simp only [Nat.add_mul, Nat.mul_add]
  have e1 : h * 536870912 * (h * 536870912) = h * h * 288230376151711744 := by rw [Nat.mul_mul_mul_comm]
  have e2 : l * (h * 536870912) = h * l * 536870912 := by rw [← Nat.mul_assoc, Nat.mul_comm l h]
  have e3 : h * 536870912 * l = h * l * 536870912 := by rw [Nat.mul_right_comm]
  have e4 : 2 * h * l = 2 * (h * l) := Nat.mul_assoc _ _ _
  rw [e1, e2, e3, e4]
  omega
set_option maxRecDepth 100000 in
set_option maxHeartbeats 4000000 in
theorem square_any (n : Int) (w : World) (hn : n.natAbs ≤ 288230376151711744) :
    Calls Try.prog 72 #[.int .i64 n] w fun e w' => e = .returned (dgV (n.natAbs * n.natAbs)) ∧ Below w.heap.size w w' := by
  obtain ⟨a, ha⟩ : ∃ a, n.natAbs = a := ⟨_, rfl⟩
  rw [ha] at hn ⊢
  obtain ⟨h, hh⟩ : ∃ h, a / 536870912 = h := ⟨_, rfl⟩
  obtain ⟨l, hl⟩ : ∃ l, a % 536870912 = l := ⟨_, rfl⟩
  have hal : a = h * 536870912 + l := by omega
  have b1 : h ≤ 536870912 := by omega
  have b2 : l ≤ 536870912 := by omega
  have HS := Lib.hid (sq_dg h l)
  rw [← hal] at HS
  obtain ⟨p1, hp1⟩ : ∃ p, h * h = p := ⟨_, rfl⟩
  obtain ⟨h2, hh2⟩ : ∃ p, 2 * h = p := ⟨_, rfl⟩
  rw [hh2, hp1] at HS
  obtain ⟨p2, hp2⟩ : ∃ p, h2 * l = p := ⟨_, rfl⟩
  obtain ⟨p3, hp3⟩ : ∃ p, l * l = p := ⟨_, rfl⟩
  rw [hp2, hp3] at HS
  have d1 : p1 ≤ 288230376151711744 := by rw [← hp1]; exact Nat.mul_le_mul b1 b1
  have d2 : p2 ≤ 1073741824 * 536870912 := by rw [← hp2]; exact Nat.mul_le_mul (by omega) b2
  have d3 : p3 ≤ 288230376151711744 := by rw [← hp3]; exact Nat.mul_le_mul b2 b2
  have e1 : (if n < -n then -n else n) = (a : Int) := by split <;> omega
  have e1' : (if -n < n then n else -n) = (a : Int) := by split <;> omega
  have e2 : IntKind.i64.wrap (-n) = -n := IntWalk.i64_in _ (by omega)
  have f1 : (a : Int) / 536870912 = (h : Int) := by omega
  have f2 : (a : Int) % 536870912 = (l : Int) := by omega
  have f2' : (a : Int).tmod 536870912 = (l : Int) := by rw [Int.tmod_eq_emod_of_nonneg (by omega)]; exact f2
  have m1 : (h : Int) * (h : Int) = (p1 : Int) := by rw [← hp1]; simp
  have m2 : (2 : Int) * (h : Int) = (h2 : Int) := by rw [← hh2]; simp
  have m3 : (h2 : Int) * (l : Int) = (p2 : Int) := by rw [← hp2]; simp
  have m4 : (l : Int) * (l : Int) = (p3 : Int) := by rw [← hp3]; simp
  have r1 : IntKind.i64.wrap (p1 : Int) = (p1 : Int) := IntWalk.i64_in _ (by omega)
  have r2 : IntKind.i64.wrap (h2 : Int) = (h2 : Int) := IntWalk.i64_in _ (by omega)
  have r3 : IntKind.i64.wrap (p2 : Int) = (p2 : Int) := IntWalk.i64_in _ (by omega)
  have r4 : IntKind.i64.wrap (p3 : Int) = (p3 : Int) := IntWalk.i64_in _ (by omega)
  have HDG : Hid (∀ W : World, Calls Try.prog 73 #[.agg #[.int .i64 p1, .int .i64 p2, .int .i64 p3]] W fun e w' => e = .returned (dgV (a * a)) ∧ Below W.heap.size W w') := Lib.hid (fun W => by
    rw [← HS.out]
    exact digits_any p1 p2 p3 W (by omega) (by omega) (by omega))
  clear hn ha hh hl hal b1 b2 hp1 hh2 hp2 hp3 d1 d2 d3
  go_enter Try.func72, Try.ntmps72
  go_wp2_with fail
  obtain ⟨W, hW⟩ : ∃ W, w.alloc (.cells #[.int .i64 0, .int .i64 0, .int .i64 0] 127) = W := ⟨_, rfl⟩
  have hb0 : Below w.heap.size w W := by rw [← hW]; exact below_a _ _
  have k0 : Blk W w.heap.size 127 #[.int .i64 0, .int .i64 0, .int .i64 0] := by rw [← hW]; exact Blk.new _ _ _
  rw [hW]
  refine (HDG.out W).mono ?_
  rintro e w1 ⟨rfl, hb⟩
  have K0 := Lib.hid (k0.below hb k0.lt)
  have HB := Lib.hid (hb0.trans (hb.mono hb0.size))
  clear hW hb0 k0 hb
  obtain ⟨⟨x, y, z⟩, hd⟩ : ∃ d, dg (a * a) = d := ⟨_, rfl⟩
  have HDD := Lib.hid hd
  simp only [dgV, hd]
  clear hd e1 e1' e2 f1 f2 f2' m1 m2 m3 m4 r1 r2 r3 r4
  have c0 := (K0.out.cell 0).trans rfl
  have c1 := (K0.out.cell 1).trans rfl
  have c2 := (K0.out.cell 2).trans rfl
  have z0 := K0.out.frozen 0
  have z1 := K0.out.frozen 1
  have z2 := K0.out.frozen 2
  go_wp2_with fail
  obtain ⟨V, hV⟩ : ∃ V, ((w1.setCell ⟨w.heap.size, 0, none⟩ (.int .i64 (x : Int))).setCell ⟨w.heap.size, 1, none⟩ (.int .i64 (y : Int))).setCell ⟨w.heap.size, 2, none⟩ (.int .i64 (z : Int)) = V := ⟨_, rfl⟩
  have KV : Blk V w.heap.size 127 #[.int .i64 x, .int .i64 y, .int .i64 z] := by rw [← hV]; exact (((K0.out.set_ 0 (.int .i64 (x : Int))).set_ 1 (.int .i64 (y : Int))).set_ 2 (.int .i64 (z : Int)))
  have HBV : Below w.heap.size w V := by rw [← hV]; exact ((HB.out.setCell (p := ⟨w.heap.size, 0, none⟩) (Nat.le_refl _) _).setCell (p := ⟨w.heap.size, 1, none⟩) (Nat.le_refl _) _).setCell (p := ⟨w.heap.size, 2, none⟩) (Nat.le_refl _) _
  rw [hV]
  clear c0 c1 c2 z0 z1 z2
  have c0 := (KV.cell 0).trans rfl
  have c1 := (KV.cell 1).trans rfl
  have c2 := (KV.cell 2).trans rfl
  refine bodyPost_ret (v := .agg #[.int .i64 (x : Int), .int .i64 (y : Int), .int .i64 (z : Int)]) ?_ rfl ⟨?_, HBV⟩
  · simp [results, Try.results72, go_sem, c0, c1, c2]
  · simp only [dgV, HDD.out]
end Go.Proofs.Ytomncopeekegoaa
