/-
  Centred of package press.
-/
import Derived.Test.YtomncopeekegoaaIB
import Derived.Test.YtomncopeekegoaaIU
namespace Go.Proofs.Ytomncopeekegoaa
open Go.RowKit

theorem less_iff (a b : Nat) : decide (a / 18446744073709551616 < b / 18446744073709551616 ∨ (a / 18446744073709551616 = b / 18446744073709551616 ∧ a % 18446744073709551616 < b % 18446744073709551616)) = decide (a < b) := by
  congr 1
  exact propext ⟨fun h => by omega, fun h => by omega⟩
/-- Whether a centre is near the hole, or the error. -/
def cdV (a b c : Smp) (lim : Int) : Bool × Int :=
  if cenE a b c = 0 then (if win lim 0 262144 = true then (decide (sqN [(cenR a b c).1, (cenR a b c).2.1] ≤ sqN [lim * (cenR a b c).2.2]), 0) else (false, 2)) else (false, cenE a b c)
theorem cen_bd {a b c : Smp} (h : cenE a b c = 0) : (-288230376151711744 ≤ (cenR a b c).1 ∧ (cenR a b c).1 ≤ 288230376151711744) ∧ (-288230376151711744 ≤ (cenR a b c).2.1 ∧ (cenR a b c).2.1 ≤ 288230376151711744) ∧ (-1099511627776 ≤ (cenR a b c).2.2 ∧ (cenR a b c).2.2 ≤ 1099511627776) := by
  have hr : cenR a b c = cenV a b c := by unfold cenR; rw [if_pos h]
  have hs : (spW a && spW b && spW c) = true := by
    unfold cenE at h
    split at h
    · assumption
    · omega
  simp only [Bool.and_eq_true, spW_iff] at hs
  have h1 := c_bd hs.1.1 hs.1.2 hs.2
  rw [hr]
  unfold cenV
  split <;> dsimp only <;> omega
set_option maxRecDepth 100000 in
set_option maxHeartbeats 8000000 in
theorem Centred_any (a b c : Smp) (lim : Int) (w : World) :
    Calls Try.prog 35 #[.agg #[.int .i64 a.1, .int .i64 a.2], .agg #[.int .i64 b.1, .int .i64 b.2], .agg #[.int .i64 c.1, .int .i64 c.2], .int .i64 lim] w fun e w' =>
      e = .returned (.tuple #[.bool (cdV a b c lim).1, .int .i64 (cdV a b c lim).2]) ∧ Below w.heap.size w w' := by
  have hbd := @cen_bd a b c
  obtain ⟨V, hV⟩ : ∃ V, cdV a b c lim = V := ⟨_, rfl⟩
  have hcd : cdV a b c lim = if cenE a b c = 0 then (if win lim 0 262144 = true then (decide (sqN [(cenR a b c).1, (cenR a b c).2.1] ≤ sqN [lim * (cenR a b c).2.2]), 0) else (false, 2)) else (false, cenE a b c) := rfl
  rw [hV] at hcd ⊢
  have HC : Hid (Calls Try.prog 33 #[.agg #[.int .i64 a.1, .int .i64 a.2], .agg #[.int .i64 b.1, .int .i64 b.2], .agg #[.int .i64 c.1, .int .i64 c.2]] = Calls Try.prog 33 #[.agg #[.int .i64 a.1, .int .i64 a.2], .agg #[.int .i64 b.1, .int .i64 b.2], .agg #[.int .i64 c.1, .int .i64 c.2]]) := Lib.hid rfl
  have HCE : Hid (∀ W : World, Calls Try.prog 33 #[.agg #[.int .i64 a.1, .int .i64 a.2], .agg #[.int .i64 b.1, .int .i64 b.2], .agg #[.int .i64 c.1, .int .i64 c.2]] W fun e w' =>
      e = .returned (.tuple #[.int .i64 (cenR a b c).1, .int .i64 (cenR a b c).2.1, .int .i64 (cenR a b c).2.2, .int .i64 (cenE a b c)]) ∧ Below W.heap.size W w') := Lib.hid (fun W => Centre_any a b c W)
  obtain ⟨⟨x, y, d⟩, hR⟩ : ∃ R, cenR a b c = R := ⟨_, rfl⟩
  obtain ⟨E, hE⟩ : ∃ E, cenE a b c = E := ⟨_, rfl⟩
  rw [hR, hE] at hcd hbd HCE
  dsimp only at hcd hbd
  clear hV hR hE HC
  by_cases h0 : E = 0
  · subst h0
    rw [if_pos rfl] at hcd
    obtain ⟨⟨x1, x2⟩, ⟨y1, y2⟩, ⟨d1, d2⟩⟩ := hbd rfl
    clear hbd
    cases hw : win lim 0 262144
    · rw [hw] at hcd
      have HV : Hid (V = (false, 2)) := Lib.hid (by rw [hcd]; rfl)
      have HW := Lib.hid hw
      clear hcd hw x1 x2 y1 y2 d1 d2
      go_enter Try.func35, Try.ntmps35
      go_upto_region 1 with fail
      obtain ⟨W, hW⟩ : ∃ W, ((w.alloc (.cells #[.int .i64 a.1, .int .i64 a.2] 66)).alloc (.cells #[.int .i64 b.1, .int .i64 b.2] 66)).alloc (.cells #[.int .i64 c.1, .int .i64 c.2] 66) = W := ⟨_, rfl⟩
      have hb0 : Below w.heap.size w W := by rw [← hW]; exact ((below_a _ _).alloc (by simp) _).alloc (by simp; omega) _
      have k0 : Blk W w.heap.size 66 #[.int .i64 a.1, .int .i64 a.2] := by rw [← hW]; exact ((Blk.new _ _ _).alloc _).alloc _
      have k1 : Blk W (w.heap.size + 1) 66 #[.int .i64 b.1, .int .i64 b.2] := by rw [← hW]; exact (blk_al (by simp)).alloc _
      have k2 : Blk W (w.heap.size + 1 + 1) 66 #[.int .i64 c.1, .int .i64 c.2] := by rw [← hW]; exact blk_al (by simp)
      rw [hW]
      obtain ⟨c0, c1⟩ := k0.two_
      obtain ⟨c2, c3⟩ := k1.two_
      obtain ⟨c4, c5⟩ := k2.two_
      have HB := Lib.hid hb0
      clear hW k0 k1 k2 hb0
      go_wp2_with fail
      refine (HCE.out W).mono ?_
      rintro e w1 ⟨rfl, hb⟩
      replace HB := Lib.hid (HB.out.trans (hb.mono HB.out.size))
      clear hb c0 c1 c2 c3 c4 c5
      go_wp2_with ((refine (between64_any _ _ _ _).mono ?_); rintro e w2 ⟨rfl, rfl⟩; rw [HW.out])
      go_ret2
      rw [HV.out]
      exact ⟨rfl, HB.out⟩
    · rw [hw, if_pos rfl] at hcd
      have hl := win_iff.1 hw
      have hm := mul_bd (a := lim) (A := 262144) (b := d) (B := 1099511627776) (by omega) (by omega)
      have hq : IntKind.i64.wrap (lim * d) = lim * d := IntWalk.i64_in _ (by omega)
      obtain ⟨z, hz⟩ : ∃ z, lim * d = z := ⟨_, rfl⟩
      have HZ := Lib.hid hz
      rw [hz] at hq hcd
      obtain ⟨S1, hS1⟩ : ∃ S, sqN [z] = S := ⟨_, rfl⟩
      obtain ⟨S2, hS2⟩ : ∃ S, sqN [x, y] = S := ⟨_, rfl⟩
      rw [hS1, hS2] at hcd
      have HQ1 : Hid (∀ W : World, Calls Try.prog 70 #[.slice (some ⟨W.heap.size, 0, none⟩) 1 1] (W.alloc (.cells #[.int .i64 z] 2)) fun e w' => e = .returned (.agg #[.int .u64 ((S1 / 18446744073709551616 : Nat) : Int), .int .u64 ((S1 % 18446744073709551616 : Nat) : Int)]) ∧ Below W.heap.size W w') := Lib.hid (fun W => by
        rw [← hS1]
        refine (squares_any (W.heap.size + 1) _ 1 1 [z] _ (li_new W [z]) (by simp) (by omega) (fun u hu => by simp only [List.mem_singleton] at hu; subst hu; omega)).mono ?_
        rintro e w' ⟨rfl, hb⟩
        exact ⟨rfl, (below_a _ _).trans (hb.mono (by simp))⟩)
      have HQ2 : Hid (∀ W : World, Calls Try.prog 70 #[.slice (some ⟨W.heap.size, 0, none⟩) 2 2] (W.alloc (.cells #[.int .i64 x, .int .i64 y] 2)) fun e w' => e = .returned (.agg #[.int .u64 ((S2 / 18446744073709551616 : Nat) : Int), .int .u64 ((S2 % 18446744073709551616 : Nat) : Int)]) ∧ Below W.heap.size W w') := Lib.hid (fun W => by
        rw [← hS2]
        refine (squares_any (W.heap.size + 1) _ 2 2 [x, y] _ (li_new W [x, y]) (by simp) (by omega) (fun u hu => by simp only [List.mem_cons, List.not_mem_nil, or_false] at hu; rcases hu with rfl | rfl <;> omega)).mono ?_
        rintro e w' ⟨rfl, hb⟩
        exact ⟨rfl, (below_a _ _).trans (hb.mono (by simp))⟩)
      have hle := less_iff S1 S2
      obtain ⟨a1, ha1⟩ : ∃ v, S1 / 18446744073709551616 = v := ⟨_, rfl⟩
      obtain ⟨a2, ha2⟩ : ∃ v, S1 % 18446744073709551616 = v := ⟨_, rfl⟩
      obtain ⟨b1, hb1⟩ : ∃ v, S2 / 18446744073709551616 = v := ⟨_, rfl⟩
      obtain ⟨b2, hb2⟩ : ∃ v, S2 % 18446744073709551616 = v := ⟨_, rfl⟩
      rw [ha1, ha2] at HQ1
      rw [hb1, hb2] at HQ2
      rw [ha1, ha2, hb1, hb2] at hle
      obtain ⟨r, hr⟩ : ∃ r, decide (S1 < S2) = r := ⟨_, rfl⟩
      rw [hr] at hle
      have HV : Hid (V = (!r, 0)) := Lib.hid (by
        rw [hcd, ← hr]
        congr 1
        by_cases h : S1 < S2 <;> simp [h] <;> omega)
      have HLE : Hid (∀ W : World, Calls Try.prog 71 #[.agg #[.int .u64 a1, .int .u64 a2], .agg #[.int .u64 b1, .int .u64 b2]] W fun e w' => e = .returned (.bool r) ∧ Below W.heap.size W w') := Lib.hid (fun W => by rw [← hle]; exact less_any a1 a2 b1 b2 W)
      have HW := Lib.hid hw
      clear hcd hw x1 x2 y1 y2 d1 d2 hl hm hS1 hS2 hle ha1 ha2 hb1 hb2 hr
      go_enter Try.func35, Try.ntmps35
      go_upto_region 1 with fail
      obtain ⟨W, hW⟩ : ∃ W, ((w.alloc (.cells #[.int .i64 a.1, .int .i64 a.2] 66)).alloc (.cells #[.int .i64 b.1, .int .i64 b.2] 66)).alloc (.cells #[.int .i64 c.1, .int .i64 c.2] 66) = W := ⟨_, rfl⟩
      have hb0 : Below w.heap.size w W := by rw [← hW]; exact ((below_a _ _).alloc (by simp) _).alloc (by simp; omega) _
      have k0 : Blk W w.heap.size 66 #[.int .i64 a.1, .int .i64 a.2] := by rw [← hW]; exact ((Blk.new _ _ _).alloc _).alloc _
      have k1 : Blk W (w.heap.size + 1) 66 #[.int .i64 b.1, .int .i64 b.2] := by rw [← hW]; exact (blk_al (by simp)).alloc _
      have k2 : Blk W (w.heap.size + 1 + 1) 66 #[.int .i64 c.1, .int .i64 c.2] := by rw [← hW]; exact blk_al (by simp)
      rw [hW]
      obtain ⟨c0, c1⟩ := k0.two_
      obtain ⟨c2, c3⟩ := k1.two_
      obtain ⟨c4, c5⟩ := k2.two_
      have HB := Lib.hid hb0
      clear hW k0 k1 k2 hb0
      go_wp2_with fail
      refine (HCE.out W).mono ?_
      rintro e w1 ⟨rfl, hb⟩
      replace HB := Lib.hid (HB.out.trans (hb.mono HB.out.size))
      clear hb c0 c1 c2 c3 c4 c5
      go_wp2_with fail
      refine (between64_any _ _ _ _).mono ?_
      rintro e w2 ⟨rfl, rfl⟩
      rw [HW.out]
      go_wp2_with fail
      refine (HQ1.out _).mono ?_
      rintro e w2 ⟨rfl, hb⟩
      replace HB := Lib.hid (HB.out.trans (hb.mono HB.out.size))
      clear hb
      go_wp2_with fail
      refine (HQ2.out _).mono ?_
      rintro e w3 ⟨rfl, hb⟩
      replace HB := Lib.hid (HB.out.trans (hb.mono HB.out.size))
      clear hb
      go_wp2_with fail
      refine (HLE.out _).mono ?_
      rintro e w4 ⟨rfl, hb⟩
      replace HB := Lib.hid (HB.out.trans (hb.mono HB.out.size))
      clear hb
      go_wp2
      go_ret2
      rw [HV.out]
      exact ⟨rfl, HB.out⟩
  · rw [if_neg h0] at hcd
    have HV := Lib.hid hcd
    have q : ((E : Int) != 0) = true := by rw [bne_iff_ne]; exact h0
    clear hcd hbd
    go_enter Try.func35, Try.ntmps35
    go_upto_region 1 with fail
    obtain ⟨W, hW⟩ : ∃ W, ((w.alloc (.cells #[.int .i64 a.1, .int .i64 a.2] 66)).alloc (.cells #[.int .i64 b.1, .int .i64 b.2] 66)).alloc (.cells #[.int .i64 c.1, .int .i64 c.2] 66) = W := ⟨_, rfl⟩
    have hb0 : Below w.heap.size w W := by rw [← hW]; exact ((below_a _ _).alloc (by simp) _).alloc (by simp; omega) _
    have k0 : Blk W w.heap.size 66 #[.int .i64 a.1, .int .i64 a.2] := by rw [← hW]; exact ((Blk.new _ _ _).alloc _).alloc _
    have k1 : Blk W (w.heap.size + 1) 66 #[.int .i64 b.1, .int .i64 b.2] := by rw [← hW]; exact (blk_al (by simp)).alloc _
    have k2 : Blk W (w.heap.size + 1 + 1) 66 #[.int .i64 c.1, .int .i64 c.2] := by rw [← hW]; exact blk_al (by simp)
    rw [hW]
    obtain ⟨c0, c1⟩ := k0.two_
    obtain ⟨c2, c3⟩ := k1.two_
    obtain ⟨c4, c5⟩ := k2.two_
    have HB := Lib.hid hb0
    clear hW k0 k1 k2 hb0
    go_wp2_with fail
    refine (HCE.out W).mono ?_
    rintro e w1 ⟨rfl, hb⟩
    replace HB := Lib.hid (HB.out.trans (hb.mono HB.out.size))
    clear hb c0 c1 c2 c3 c4 c5
    go_wp2
    go_ret2
    rw [HV.out]
    exact ⟨rfl, HB.out⟩
end Go.Proofs.Ytomncopeekegoaa
