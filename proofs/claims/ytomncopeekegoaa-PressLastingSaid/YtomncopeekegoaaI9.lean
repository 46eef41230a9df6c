/-
  The centre of three spots: the variadic centre of package press.
-/
import Derived.Test.YtomncopeekegoaaI8
import Derived.Deep.RegionHeld3
import Derived.RegionTactic
import Derived.BigRegion
import Derived.BigQuiet
import Derived.OrdersHeld
namespace Go.Proofs.Ytomncopeekegoaa
open Go.RowKit

def rot (a b c : Smp) : Nat → Smp × Smp × Smp
  | 0 => (a, b, c)
  | 1 => (b, c, a)
  | _ => (c, a, b)
def pX (a b c : Smp) : Nat → Int
  | 0 => 0
  | k + 1 => pX a b c k + sqS (rot a b c k).1 * ((rot a b c k).2.1.2 - (rot a b c k).2.2.2)
def pY (a b c : Smp) : Nat → Int
  | 0 => 0
  | k + 1 => pY a b c k - sqS (rot a b c k).1 * ((rot a b c k).2.1.1 - (rot a b c k).2.2.1)
def pD (a b c : Smp) : Nat → Int
  | 0 => 0
  | k + 1 => pD a b c k + 2 * (rot a b c k).1.1 * ((rot a b c k).2.1.2 - (rot a b c k).2.2.2)
/-- The coordinates of a spot are possible. -/
def SpB (s : Smp) : Prop := (-262144 ≤ s.1 ∧ s.1 ≤ 262144) ∧ (-262144 ≤ s.2 ∧ s.2 ≤ 262144)
theorem spW_iff {s : Smp} : spW s = true ↔ SpB s := by unfold spW SpB; rw [Bool.and_eq_true, win_iff, win_iff]
theorem sq_bd {s : Smp} (h : SpB s) : (0 ≤ s.1 * s.1 ∧ s.1 * s.1 ≤ 68719476736) ∧ (0 ≤ s.2 * s.2 ∧ s.2 * s.2 ≤ 68719476736) := by
  have h1 := mul_bd h.1 h.1
  have h2 := mul_bd h.2 h.2
  have h3 : 0 ≤ s.1 * s.1 := by rw [← Int.natAbs_mul_self]; exact Int.natCast_nonneg _
  have h4 : 0 ≤ s.2 * s.2 := by rw [← Int.natAbs_mul_self]; exact Int.natCast_nonneg _
  omega
theorem sqS_bd {s : Smp} (h : SpB s) : 0 ≤ sqS s ∧ sqS s ≤ 137438953472 := by have := sq_bd h; unfold sqS; omega
theorem rot_ok {a b c : Smp} (ha : SpB a) (hb : SpB b) (hc : SpB c) : ∀ k, SpB (rot a b c k).1 ∧ SpB (rot a b c k).2.1 ∧ SpB (rot a b c k).2.2
  | 0 => ⟨ha, hb, hc⟩
  | 1 => ⟨hb, hc, ha⟩
  | _ + 2 => ⟨hc, ha, hb⟩
theorem stp_bd {s o t : Smp} (hs : SpB s) (ho : SpB o) (ht : SpB t) :
    (-72057594037927936 ≤ sqS s * (o.2 - t.2) ∧ sqS s * (o.2 - t.2) ≤ 72057594037927936) ∧ (-72057594037927936 ≤ sqS s * (o.1 - t.1) ∧ sqS s * (o.1 - t.1) ≤ 72057594037927936) ∧
    (-274877906944 ≤ 2 * s.1 * (o.2 - t.2) ∧ 2 * s.1 * (o.2 - t.2) ≤ 274877906944) := by
  have h := sqS_bd hs
  obtain ⟨h1, h2⟩ := ho; obtain ⟨h3, h4⟩ := ht; obtain ⟨h5, h6⟩ := hs
  have q1 := mul_bd (a := sqS s) (A := 137438953472) (b := o.2 - t.2) (B := 524288) (by omega) (by omega)
  have q2 := mul_bd (a := sqS s) (A := 137438953472) (b := o.1 - t.1) (B := 524288) (by omega) (by omega)
  have q3 := mul_bd (a := 2 * s.1) (A := 524288) (b := o.2 - t.2) (B := 524288) (by omega) (by omega)
  omega
theorem p_bd {a b c : Smp} (ha : SpB a) (hb : SpB b) (hc : SpB c) : ∀ k : Nat, (-(k * 72057594037927936 : Int) ≤ pX a b c k ∧ pX a b c k ≤ k * 72057594037927936) ∧ (-(k * 72057594037927936 : Int) ≤ pY a b c k ∧ pY a b c k ≤ k * 72057594037927936) ∧ (-(k * 274877906944 : Int) ≤ pD a b c k ∧ pD a b c k ≤ k * 274877906944)
  | 0 => by simp [pX, pY, pD]
  | k + 1 => by
    have ih := p_bd ha hb hc k
    obtain ⟨h1, h2, h3⟩ := rot_ok ha hb hc k
    have h := stp_bd h1 h2 h3
    simp only [pX, pY, pD]
    omega
theorem p_three (a b c : Smp) : pX a b c 3 = cX a b c ∧ pY a b c 3 = cY a b c ∧ pD a b c 3 = cD a b c := by
  simp only [pX, pY, pD, rot, cX, cY, cD]
  obtain ⟨a1, a2⟩ := a; obtain ⟨b1, b2⟩ := b; obtain ⟨c1, c2⟩ := c
  refine ⟨by omega, ?_, ?_⟩
  · dsimp only
    rw [show sqS (a1, a2) * (c1 - b1) = -(sqS (a1, a2) * (b1 - c1)) by rw [← Int.mul_neg]; congr 1; omega, show sqS (b1, b2) * (a1 - c1) = -(sqS (b1, b2) * (c1 - a1)) by rw [← Int.mul_neg]; congr 1; omega, show sqS (c1, c2) * (b1 - a1) = -(sqS (c1, c2) * (a1 - b1)) by rw [← Int.mul_neg]; congr 1; omega]
    omega
  · dsimp only
    simp only [Int.mul_sub, Int.sub_mul, Int.mul_assoc]
    have e1 := Int.mul_comm c1 a2; have e2 := Int.mul_comm b2 c1; have e3 := Int.mul_comm b2 a1; have e4 := Int.mul_comm a2 c1; have e5 := Int.mul_comm a2 a1
    omega
/-- The centre: x, y, d. -/
def cenV (a b c : Smp) : Int × Int × Int := if cD a b c < 0 then (-cX a b c, -cY a b c, -cD a b c) else (cX a b c, cY a b c, cD a b c)
theorem rot_at {w : World} {g : Nat} {a b c : Smp} (h : Blk w g 66 #[.int .i64 a.1, .int .i64 a.2, .int .i64 b.1, .int .i64 b.2, .int .i64 c.1, .int .i64 c.2]) {k : Nat} (hk : k < 3) :
    ∃ (s o t : Smp) (i j : Nat), rot a b c k = (s, o, t) ∧ i < 3 ∧ j < 3 ∧ (((k : Int) + 1).tmod 3 = (i : Int)) ∧ (((k : Int) + 2).tmod 3 = (j : Int)) ∧
      w.cell? ⟨g, k * 2, none⟩ = some (.int .i64 s.1) ∧ w.cell? ⟨g, k * 2 + 1, none⟩ = some (.int .i64 s.2) ∧
      w.cell? ⟨g, i * 2, none⟩ = some (.int .i64 o.1) ∧ w.cell? ⟨g, i * 2 + 1, none⟩ = some (.int .i64 o.2) ∧
      w.cell? ⟨g, j * 2, none⟩ = some (.int .i64 t.1) ∧ w.cell? ⟨g, j * 2 + 1, none⟩ = some (.int .i64 t.2) := by
  have c0 := (h.cell 0).trans rfl
  have c1 := (h.cell 1).trans rfl
  have c2 := (h.cell 2).trans rfl
  have c3 := (h.cell 3).trans rfl
  have c4 := (h.cell 4).trans rfl
  have c5 := (h.cell 5).trans rfl
  match k, hk with
  | 0, _ => exact ⟨a, b, c, 1, 2, rfl, by omega, by omega, rfl, rfl, c0, c1, c2, c3, c4, c5⟩
  | 1, _ => exact ⟨b, c, a, 2, 0, rfl, by omega, by omega, rfl, rfl, c2, c3, c4, c5, c0, c1⟩
  | 2, _ => exact ⟨c, a, b, 0, 1, rfl, by omega, by omega, rfl, rfl, c4, c5, c0, c1, c2, c3⟩

set_option maxRecDepth 100000 in
set_option maxHeartbeats 8000000 in
theorem centre_any (g : Nat) (a b c : Smp) (w : World) (h0 : Blk w g 66 #[.int .i64 a.1, .int .i64 a.2, .int .i64 b.1, .int .i64 b.2, .int .i64 c.1, .int .i64 c.2]) (ha : SpB a) (hb : SpB b) (hc : SpB c) :
    Calls Try.prog 68 #[.slice (some ⟨g, 0, none⟩) 3 3] w fun e w' => e = .returned (.tuple #[.int .i64 (cenV a b c).1, .int .i64 (cenV a b c).2.1, .int .i64 (cenV a b c).2.2]) ∧ Below w.heap.size w w' := by
  have H := Lib.hid h0
  have HG : Hid (g < w.heap.size) := Lib.hid h0.lt
  have HP := Lib.hid (p_bd ha hb hc)
  have HROT := Lib.hid (rot_ok ha hb hc)
  obtain ⟨X, hX⟩ : ∃ X, pX a b c = X := ⟨_, rfl⟩
  obtain ⟨Y, hY⟩ : ∃ Y, pY a b c = Y := ⟨_, rfl⟩
  obtain ⟨D, hD⟩ : ∃ D, pD a b c = D := ⟨_, rfl⟩
  have H3 := Lib.hid (p_three a b c)
  have HSTEP : Hid (∀ k, X (k + 1) = X k + sqS (rot a b c k).1 * ((rot a b c k).2.1.2 - (rot a b c k).2.2.2) ∧ Y (k + 1) = Y k - sqS (rot a b c k).1 * ((rot a b c k).2.1.1 - (rot a b c k).2.2.1) ∧ D (k + 1) = D k + 2 * (rot a b c k).1.1 * ((rot a b c k).2.1.2 - (rot a b c k).2.2.2)) :=
    Lib.hid (fun k => by subst hX hY hD; exact ⟨rfl, rfl, rfl⟩)
  have H0 : Hid (X 0 = 0 ∧ Y 0 = 0 ∧ D 0 = 0) := Lib.hid (by subst hX hY hD; exact ⟨rfl, rfl, rfl⟩)
  rw [hX, hY, hD] at HP H3
  have HV : Hid (cenV a b c = if D 3 < 0 then (-X 3, -Y 3, -D 3) else (X 3, Y 3, D 3)) := Lib.hid (by unfold cenV; rw [← H3.out.1, ← H3.out.2.1, ← H3.out.2.2])
  clear h0 ha hb hc hX hY hD H3
  go_enter Try.func68, Try.ntmps68
  go_wp2
  go_loopw [2, 3, 4, 14] (fun x y d z wr => ∃ k : Nat, k ≤ 3 ∧ z = .int .i64 k ∧ x = .int .i64 (X k) ∧ y = .int .i64 (Y k) ∧ d = .int .i64 (D k) ∧ Hid (Below w.heap.size w wr)) (fun _ _ _ z _ => 3 - (intOf z).toNat)
  case atStart => exact ⟨0, by omega, rfl, by rw [H0.out.1], by rw [H0.out.2.1], by rw [H0.out.2.2], Lib.hid (Below.refl _ _)⟩
  case round =>
    obtain ⟨k, hk, rfl, rfl, rfl, rfl, HB⟩ := hrel
    by_cases hlt : k < 3
    · obtain ⟨s, o, t, i, j, hrot, hi, hj, e1, e2, c1, c2, c3, c4, c5, c6⟩ := rot_at (H.out.below HB.out HG.out) hlt
      have hro := HROT.out k
      have hst := HSTEP.out k
      have hp := HP.out k
      have hp1 := HP.out (k + 1)
      rw [hrot] at hro hst
      dsimp only at hro hst
      obtain ⟨r1, r2, r3⟩ := hro
      have hbd := stp_bd r1 r2 r3
      have hsq := sq_bd r1
      have hss := sqS_bd r1
      obtain ⟨t1, t2, t3⟩ := hst
      obtain ⟨⟨s1, s2⟩, hs⟩ : ∃ q, s = q := ⟨_, rfl⟩
      subst hs
      have w1 : IntKind.i64.wrap ((k : Int) + 1) = (k : Int) + 1 := IntWalk.i64_in _ (by omega)
      have w2 : IntKind.i64.wrap ((k : Int) + 2) = (k : Int) + 2 := IntWalk.i64_in _ (by omega)
      have w3 : IntKind.i64.wrap (o.1 - t.1) = o.1 - t.1 := IntWalk.i64_in _ (by have := r2.1; have := r3.1; omega)
      have w4 : IntKind.i64.wrap (o.2 - t.2) = o.2 - t.2 := IntWalk.i64_in _ (by have := r2.2; have := r3.2; omega)
      have w5 : IntKind.i64.wrap (s1 * s1) = s1 * s1 := IntWalk.i64_in _ (by have := hsq.1; dsimp only at this; omega)
      have w6 : IntKind.i64.wrap (s2 * s2) = s2 * s2 := IntWalk.i64_in _ (by have := hsq.2; dsimp only at this; omega)
      have w7 : IntKind.i64.wrap (s1 * s1 + s2 * s2) = sqS (s1, s2) := IntWalk.i64_in _ (by have := hss; unfold sqS at this; dsimp only at this; omega)
      have w8 : IntKind.i64.wrap (sqS (s1, s2) * (o.2 - t.2)) = sqS (s1, s2) * (o.2 - t.2) := IntWalk.i64_in _ (by omega)
      have w9 : IntKind.i64.wrap (sqS (s1, s2) * (o.1 - t.1)) = sqS (s1, s2) * (o.1 - t.1) := IntWalk.i64_in _ (by omega)
      have w10 : IntKind.i64.wrap (2 * s1) = 2 * s1 := IntWalk.i64_in _ (by have := r1.1; dsimp only at this; omega)
      have w11 : IntKind.i64.wrap (2 * s1 * (o.2 - t.2)) = 2 * s1 * (o.2 - t.2) := IntWalk.i64_in _ (by have := hbd.2.2; dsimp only at this; omega)
      have w12 : IntKind.i64.wrap (X k + sqS (s1, s2) * (o.2 - t.2)) = X (k + 1) := by rw [t1]; exact IntWalk.i64_in _ (by rw [← t1]; omega)
      have w13 : IntKind.i64.wrap (Y k - sqS (s1, s2) * (o.1 - t.1)) = Y (k + 1) := by rw [t2]; exact IntWalk.i64_in _ (by rw [← t2]; omega)
      have w14 : IntKind.i64.wrap (D k + 2 * s1 * (o.2 - t.2)) = D (k + 1) := by rw [t3]; exact IntWalk.i64_in _ (by rw [← t3]; omega)
      clear hp hp1 hbd hsq hss t1 t2 t3 r1 r2 r3 hrot
      go_wp2_with fail
      obtain ⟨W, hW⟩ : ∃ W, wr.alloc (.cells #[.int .i64 s1, .int .i64 s2] 66) = W := ⟨_, rfl⟩
      have HBW : Hid (Below w.heap.size w W) := Lib.hid (by rw [← hW]; exact HB.out.alloc HB.out.size _)
      have d3 : W.cell? ⟨g, i * 2, none⟩ = some (.int .i64 o.1) := by rw [← hW]; exact cell_al _ c3
      have d4 : W.cell? ⟨g, i * 2 + 1, none⟩ = some (.int .i64 o.2) := by rw [← hW]; exact cell_al _ c4
      have d5 : W.cell? ⟨g, j * 2, none⟩ = some (.int .i64 t.1) := by rw [← hW]; exact cell_al _ c5
      have d6 : W.cell? ⟨g, j * 2 + 1, none⟩ = some (.int .i64 t.2) := by rw [← hW]; exact cell_al _ c6
      have K6 : Hid (Blk W wr.heap.size 66 #[.int .i64 s1, .int .i64 s2]) := Lib.hid (by rw [← hW]; exact Blk.new _ _ _)
      have g1 : (i : Int) < 3 := by omega
      have g2 : (j : Int) < 3 := by omega
      rw [hW]
      obtain ⟨b6, hb6⟩ : ∃ b6, wr.heap.size = b6 := ⟨_, rfl⟩
      rw [hb6] at K6 ⊢
      have hsz : b6 < W.heap.size := K6.out.lt
      have hwb : w.heap.size ≤ b6 := by have := HB.out.size; omega
      clear hW c1 c2 c3 c4 c5 c6 hb6 HB
      go_region_held3 (fun w' => w'.cell? ⟨g, i * 2, none⟩ = some (.int .i64 o.1) ∧ w'.cell? ⟨g, i * 2 + 1, none⟩ = some (.int .i64 o.2) ∧ w'.cell? ⟨g, j * 2, none⟩ = some (.int .i64 t.1) ∧ w'.cell? ⟨g, j * 2 + 1, none⟩ = some (.int .i64 t.2))
        ((refine ⟨?_, ?_, ?_, ?_⟩ <;> (repeat (with_reducible (first | refine cell_al _ ?_ | refine cell_dr ?_))) <;> (with_reducible assumption))) ((fail))
      all_goals
        rename_i hHeld'
        first
        | (obtain ⟨V, hV⟩ : ∃ V, ((W.alloc (.cells #[.int .i64 o.1, .int .i64 o.2] 66)).alloc (.cells #[.int .i64 t.1, .int .i64 t.2] 66)).drew = V := ⟨_, rfl⟩
           rw [hV] at hHeld' ⊢
           have hbV : Below W.heap.size W V := by rw [← hV]; exact (((Below.refl _ _).alloc (Nat.le_refl _) _).alloc (by simp) _).drew
           have K7 : Hid (Blk V W.heap.size 66 #[.int .i64 o.1, .int .i64 o.2]) := Lib.hid (by rw [← hV]; exact ((Blk.new _ _ _).alloc _).drew)
           have K8 : Hid (Blk V (W.heap.size + 1) 66 #[.int .i64 t.1, .int .i64 t.2]) := Lib.hid (by rw [← hV]; exact (blk_al (by simp)).drew))
        | (obtain ⟨V, hV⟩ : ∃ V, ((W.alloc (.cells #[.int .i64 t.1, .int .i64 t.2] 66)).alloc (.cells #[.int .i64 o.1, .int .i64 o.2] 66)).drew = V := ⟨_, rfl⟩
           rw [hV] at hHeld' ⊢
           have hbV : Below W.heap.size W V := by rw [← hV]; exact (((Below.refl _ _).alloc (Nat.le_refl _) _).alloc (by simp) _).drew
           have K7 : Hid (Blk V (W.heap.size + 1) 66 #[.int .i64 o.1, .int .i64 o.2]) := Lib.hid (by rw [← hV]; exact (blk_al (by simp)).drew)
           have K8 : Hid (Blk V W.heap.size 66 #[.int .i64 t.1, .int .i64 t.2]) := Lib.hid (by rw [← hV]; exact ((Blk.new _ _ _).alloc _).drew))
        clear hHeld' hV d3 d4 d5 d6
        have K9 := Lib.hid (K6.out.below hbV hsz)
        have HBV := Lib.hid (HBW.out.trans (hbV.mono HBW.out.size))
        have c6a := (K9.out.cell 0).trans rfl
        have c6b := (K9.out.cell 1).trans rfl
        have c7a := (K7.out.cell 0).trans rfl
        have c7b := (K7.out.cell 1).trans rfl
        have c8a := (K8.out.cell 0).trans rfl
        have c8b := (K8.out.cell 1).trans rfl
        clear hbV
        go_wp2_with fail
        go_quiet (fail)
        go_wp2
        go_roundw
        case rel => exact ⟨k + 1, by omega, by go_num, rfl, rfl, rfl, Lib.hid (below_drewN_ HBV.out _)⟩
        case measure => simp [intOf]; omega
    · have hk3 : k = 3 := by omega
      subst hk3
      by_cases hneg : D 3 < 0
      · have HRES : Hid (cenV a b c = (-X 3, -Y 3, -D 3)) := Lib.hid (by rw [HV.out, if_pos hneg])
        have n1 : IntKind.i64.wrap (-X 3) = -X 3 := IntWalk.i64_in _ (by have := HP.out 3; omega)
        have n2 : IntKind.i64.wrap (-Y 3) = -Y 3 := IntWalk.i64_in _ (by have := HP.out 3; omega)
        have n3 : IntKind.i64.wrap (-D 3) = -D 3 := IntWalk.i64_in _ (by have := HP.out 3; omega)
        go_wp2
        go_ret3
        rw [HRES.out]
        exact ⟨rfl, HB.out⟩
      · have HRES : Hid (cenV a b c = (X 3, Y 3, D 3)) := Lib.hid (by rw [HV.out, if_neg hneg])
        go_wp2
        go_ret3
        rw [HRES.out]
        exact ⟨rfl, HB.out⟩
end Go.Proofs.Ytomncopeekegoaa
