/-
  The library's Reverse over steps.
-/
import Derived.Test.YtgdkcbnpgpjnbaaLP
import Derived.BigRegion
import Derived.RegionTactic
namespace Go.Proofs.Ytgdkcbnpgpjnbaa
open Go.RowKit

def pAt (l : List Smp) (i : Nat) : Smp := l.getD i (0, 0)
theorem pAt_eq {l : List Smp} {i : Nat} (h : i < l.length) : pAt l i = l[i] := by unfold pAt; rw [List.getD_eq_getElem?_getD, List.getElem?_eq_getElem h]; rfl
/-- The first k and the last k are changed for each other. -/
def rvP (xs : List Smp) (k : Nat) : List Smp := (List.range xs.length).map fun i => if i < k ∨ xs.length - k ≤ i then pAt xs (xs.length - 1 - i) else pAt xs i
theorem rvP_len (xs : List Smp) (k : Nat) : (rvP xs k).length = xs.length := by simp [rvP]
theorem rvP_zero (xs : List Smp) : rvP xs 0 = xs := by
  refine List.ext_getElem (rvP_len _ _) fun i h1 h2 => ?_
  simp only [rvP, List.getElem_map, List.getElem_range]
  rw [if_neg (by omega), pAt_eq h2]
theorem rvP_end {xs : List Smp} {k : Nat} (h : xs.length - 1 ≤ 2 * k) : rvP xs k = xs.reverse := by
  refine List.ext_getElem (by simp [rvP]) fun i h1 h2 => ?_
  have h3 : i < xs.length := by rw [rvP_len] at h1; exact h1
  simp only [rvP, List.getElem_map, List.getElem_range, List.getElem_reverse]
  rw [← pAt_eq (l := xs) (i := xs.length - 1 - i) (by omega)]
  split
  · rfl
  · congr 1; omega
theorem rvP_at {xs : List Smp} {k i : Nat} (h : i < xs.length) : pAt (rvP xs k) i = if i < k ∨ xs.length - k ≤ i then pAt xs (xs.length - 1 - i) else pAt xs i := by
  rw [pAt_eq (by rw [rvP_len]; exact h)]
  simp [rvP]
theorem rvP_step {xs : List Smp} {k : Nat} (h : 2 * k < xs.length - 1) : ((rvP xs k).set k (pAt (rvP xs k) (xs.length - 1 - k))).set (xs.length - 1 - k) (pAt (rvP xs k) k) = rvP xs (k + 1) := by
  refine List.ext_getElem (by simp [rvP]) fun i h1 h2 => ?_
  have h3 : i < xs.length := by rw [rvP_len] at h2; exact h2
  simp only [List.getElem_set, rvP_at (show k < xs.length by omega), rvP_at (show xs.length - 1 - k < xs.length by omega)]
  simp only [rvP, List.getElem_map, List.getElem_range]
  by_cases e1 : xs.length - 1 - k = i
  · subst e1
    rw [if_pos rfl, if_neg (by omega), if_pos (by omega)]
    congr 1; omega
  · rw [if_neg e1]
    by_cases e2 : k = i
    · subst e2
      rw [if_pos rfl, if_neg (by omega), if_pos (by omega)]
    · rw [if_neg e2]
      by_cases e3 : i < k ∨ xs.length - k ≤ i
      · rw [if_pos e3, if_pos (by omega)]
      · rw [if_neg e3, if_neg (by omega)]
theorem grown_drewS {w w' : World} {row : Option Nat} (h : w.grownBy w' row) : w.grownBy w'.drew row := ⟨h.os, h.tape, h.output, h.size, h.block⟩
theorem grown_setCellS {w w' : World} {g : Nat} (h : w.grownBy w' (some g)) (k : Nat) (u : Value) : w.grownBy (w'.setCell ⟨g, k, none⟩ u) (some g) :=
  ⟨h.os, h.tape, h.output, Nat.le_trans h.size (by simp [World.setCell]), fun i hi hne => (Below.heap_setCell w' ⟨g, k, none⟩ u i (fun e => hne (by rw [e]))).trans (h.block i hi hne)⟩

set_option maxRecDepth 100000 in
set_option maxHeartbeats 4000000 in
theorem reverseP_any (base g n c : Nat) (xs : List Smp) (w : World) (h0 : w.ownsRow base 52 2 (.slice (some ⟨g, 0, none⟩) n c) n (smpCells xs)) (hl : n ≤ 1000000) :
    Calls Try.prog 75 #[.slice (some ⟨g, 0, none⟩) n c] w fun e w' => (∃ v, e = .returned v) ∧ w'.ownsRow base 52 2 (.slice (some ⟨g, 0, none⟩) n c) n (smpCells xs.reverse) ∧ w.grownBy w' (some g) := by
  have HN : Hid (n = xs.length) := Lib.hid (by have := h0.1; rw [smpCells_length] at this; omega)
  have HK : Hid (w.ownsRow base 52 2 (.slice (some ⟨g, 0, none⟩) n c) n (smpCells (rvP xs 0))) := Lib.hid (by rw [rvP_zero]; exact h0)
  clear h0
  have e1 : IntKind.i64.wrap ((n : Int) - 1) = (n : Int) - 1 := IntWalk.i64_in _ (by omega)
  go_enter Try.func75, Try.ntmps75
  go_wp2
  go_loopw [2, 3] (fun a b wr => ∃ k : Nat, k ≤ n ∧ a = .int .i64 k ∧ b = .int .i64 ((n : Int) - 1 - k) ∧ Hid (wr.ownsRow base 52 2 (.slice (some ⟨g, 0, none⟩) n c) n (smpCells (rvP xs k))) ∧ Hid (w.grownBy wr (some g))) (fun a b _ => (intOf b + 1).toNat)
  case atStart => exact ⟨0, Nat.zero_le _, rfl, by simp, HK, Lib.hid (World.grownBy.refl _ _)⟩
  case round =>
    clear e1 HK
    obtain ⟨k, hk, rfl, rfl, HK, HG⟩ := hrel
    by_cases hlt : (k : Int) < (n : Int) - 1 - k
    · have hj : n - 1 - k < n := by omega
      obtain ⟨j, hj2⟩ : ∃ j, n - 1 - k = j := ⟨_, rfl⟩
      have hjj : (n : Int) - 1 - k = j := by omega
      rw [hjj] at hlt ⊢
      have hkx : k < xs.length := by have := HN.out; omega
      have hjx : j < xs.length := by have := HN.out; omega
      have ST := Lib.hid (rvP_step (xs := xs) (k := k) (by have := HN.out; omega))
      rw [show xs.length - 1 - k = j by have := HN.out; omega] at ST
      have RL := Lib.hid (rvP_len xs k)
      obtain ⟨ys, hys⟩ : ∃ ys, rvP xs k = ys := ⟨_, rfl⟩
      rw [hys] at HK ST RL
      have hky : k < ys.length := by have := RL.out; omega
      have hjy : j < ys.length := by have := RL.out; omega
      have ck := smpCells_at ys k hky
      have cj := smpCells_at ys j hjy
      rw [← pAt_eq hky] at ck
      rw [← pAt_eq hjy] at cj
      obtain ⟨⟨u0, u1⟩, hu⟩ : ∃ u, pAt ys k = u := ⟨_, rfl⟩
      obtain ⟨⟨v0, v1⟩, hv⟩ : ∃ v, pAt ys j = v := ⟨_, rfl⟩
      rw [hu] at ck ST
      rw [hv] at cj ST
      have c1 := (HK.out.cellAt (k * 2) (by omega)).trans ck.1
      have c2 := (HK.out.cellAt (k * 2 + 1) (by omega)).trans ck.2
      have c3 := (HK.out.cellAt (j * 2) (by omega)).trans cj.1
      have c4 := (HK.out.cellAt (j * 2 + 1) (by omega)).trans cj.2
      have f1 := HK.out.frozenAt (k * 2)
      have f2 := HK.out.frozenAt (k * 2 + 1)
      have f3 := HK.out.frozenAt (j * 2)
      have f4 := HK.out.frozenAt (j * 2 + 1)
      have n1 : k ≠ j := by omega
      have q1 : (k : Int) < (n : Int) := by omega
      have q2 : (j : Int) < (n : Int) := by omega
      have e2 : IntKind.i64.wrap ((j : Int) - 1) = (j : Int) - 1 := IntWalk.i64_in _ (by omega)
      have e3 : IntKind.i64.wrap ((k : Int) + 1) = (k : Int) + 1 := IntWalk.i64_in _ (by omega)
      have a1 := (HK.out.stored (k * 2) (.int .i64 v0)).1
      have a2 := (a1.stored (k * 2 + 1) (.int .i64 v1)).1
      have a3 := (a2.stored (j * 2) (.int .i64 u0)).1
      have a4 := (a3.stored (j * 2 + 1) (.int .i64 u1)).1
      rw [smpCells_setL ys k (v0, v1) hky, smpCells_setL _ j (u0, u1) (by rw [List.length_set]; exact hjy), ST.out] at a4
      have HA4 := Lib.hid a4
      have HG4 := Lib.hid (grown_setCellS (grown_setCellS (grown_setCellS (grown_setCellS HG.out (k * 2) (.int .i64 v0)) (k * 2 + 1) (.int .i64 v1)) (j * 2) (.int .i64 u0)) (j * 2 + 1) (.int .i64 u1))
      clear hys hu hv ck cj a1 a2 a3 a4
      go_wp2_with fail
      go_region
      clear c1 c2 c3 c4 f1 f2 f3 f4 HK HG
      go_wp2
      go_roundw
      case rel => exact ⟨k + 1, by omega, by first | rfl | go_num, by congr 1; omega, HA4, Lib.hid (grown_drewS HG4.out)⟩
      case measure => simp [intOf] <;> omega
    · go_wp2
      go_end0
      refine ⟨⟨_, rfl⟩, ?_, HG.out⟩
      have h := HK.out
      rw [rvP_end (by have := HN.out; omega)] at h
      exact h
end Go.Proofs.Ytgdkcbnpgpjnbaa
