/-
  Beginnings of a groove: mathematics; a beginning of a slice of points.
-/
import Derived.Test.YtgdkcbnpgpjnbaaL19
namespace Go.Proofs.Ytgdkcbnpgpjnbaa
open Go.RowKit

theorem el_pts : Try.prog.elem 24 = 55 := by kernel_rfl
theorem size_ptN (W : World) : (sizeOf 55).run Try.prog W = .ok 2 W := by kernel_rfl
theorem pts_to (A : Option Addr) (m n c : Nat) (h : m ≤ c) (W : World) : (Instr.slice 24 (.slice A n c) none (some (.int .i64 (m : Int))) none).run Try.prog W = .ok (.slice A m c) W := by
  rw [run_slice_h (P := Try.prog) W 24 A n c (by rw [el_pts]; exact Try.underlying24) .i64 (m : Int) (by omega) (by omega), el_pts, size_ptN]
  by_cases h0 : c = 0
  · subst h0
    simp [sliced, Result.andThen]
  · have e : A.map (fun x => x.add 0) = A := by cases A <;> simp [Addr.add]
    simp [sliced, Result.andThen, h0, e]
theorem smpCells_take (l : List Smp) (m : Nat) : smpCells (l.take m) = (smpCells l).take (m * 2) := by
  induction m generalizing l with
  | zero => simp [smpCells]
  | succ m ih =>
    cases l with
    | nil => simp [smpCells]
    | cons s l =>
      rw [List.take_succ_cons]
      show [Value.int .i64 s.1, Value.int .i64 s.2] ++ smpCells (l.take m) = ([Value.int .i64 s.1, Value.int .i64 s.2] ++ smpCells l).take ((m + 1) * 2)
      rw [ih, show (m + 1) * 2 = m * 2 + 1 + 1 by omega]
      rfl
theorem RS.take {w : World} {B : Nat} {A : Option Addr} {n : Nat} {l : List Smp} (h : RS w B A n l) (m : Nat) (hm : m ≤ n) : RS w B A m (l.take m) := by
  obtain ⟨rfl, h⟩ := h
  refine ⟨by rw [List.length_take]; omega, by rw [smpCells_length, List.length_take]; omega, fun hn => ?_⟩
  obtain ⟨ad, e, hb, hc⟩ := h.2 (by omega)
  refine ⟨ad, e, hb, fun j u hu => hc j u ?_⟩
  rw [smpCells_take] at hu
  have hj : j < m * 2 := by have := (List.getElem?_eq_some_iff.1 hu).1; rw [List.length_take] at this; omega
  rwa [List.getElem?_take_of_lt hj] at hu
theorem pin_take {P : List Smp} {m i : Nat} (h : i < m) : pin (P.take m) i = pin P i := by
  unfold pin; rw [List.getD_eq_getElem?_getD, List.getElem?_take_of_lt h, ← List.getD_eq_getElem?_getD]
theorem pout_take {P : List Smp} {m i : Nat} (h : i < m) : pout (P.take m) i = pout P i := by
  unfold pout; rw [List.getD_eq_getElem?_getD, List.getElem?_take_of_lt h, ← List.getD_eq_getElem?_getD]
theorem wLand_take {b : Bk} {P : List Smp} {m i : Nat} (h : i < m) : wLand b (P.take m) i = wLand b P i := by
  unfold wLand; rw [pin_take (by omega), pout_take h]
theorem keeps_take {b : Bk} {P : List Smp} {m k : Nat} {x : Nat → Int} (h : k ≤ m) : Keeps b (P.take m) k x ↔ Keeps b P k x := by
  constructor
  · intro hk i hi
    have := hk i hi
    rwa [pout_take (by omega), wLand_take (by omega)] at this
  · intro hk i hi
    have := hk i hi
    rwa [← pout_take (m := m) (by omega), ← wLand_take (m := m) (by omega)] at this
theorem cores_take {b : Bk} {P : List Smp} {m k : Nat} {x : Nat → Int} (h : k ≤ m) : Cores b (P.take m) k x ↔ Cores b P k x := by
  constructor
  · intro hk i hi
    have := hk i hi
    rwa [pin_take (by omega)] at this
  · intro hk i hi
    have := hk i hi
    rwa [← pin_take (m := m) (by omega)] at this
theorem sol_take {b : Bk} {P : List Smp} {m : Nat} (hb : BkOk b) : sol b (P.take m) m = sol b P m := by
  cases hs : sol b P m with
  | some R =>
    have ht := (sol_some hb hs).1
    exact top_sol hb ⟨ht.len, (keeps_take (Nat.le_refl _)).2 ht.keeps, (cores_take (Nat.le_refl _)).2 ht.cores, fun y hy => ht.upper y ((keeps_take (Nat.le_refl _)).1 hy)⟩
  | none =>
    cases hq : sol b (P.take m) m with
    | none => rfl
    | some R =>
      have ht := (sol_some hb hq).1
      exact absurd ⟨fx R, (keeps_take (Nat.le_refl _)).1 ht.keeps, (cores_take (Nat.le_refl _)).1 ht.cores⟩ (sol_none hb hs)
theorem vld_take {b : Bk} {P : List Smp} (m : Nat) (h : vldG b P = true) : vldG b (P.take m) = true := by
  obtain ⟨h1, h2, h3⟩ := vldG_ok h
  have hP := (vld_er h).2.2.1
  unfold vldG
  simp only [Bool.and_eq_true, decide_eq_true_eq]
  have hl : (P.take m).length ≤ 40 := by rw [List.length_take]; omega
  refine ⟨⟨hl, h2⟩, ?_⟩
  unfold ckG
  rw [if_neg (by omega), if_pos]
  unfold vPs
  rw [List.all_eq_true]
  intro p hp
  have := hP p (List.mem_of_mem_take hp)
  unfold PtOk at this
  unfold vE win
  simp only [Bool.and_eq_true, decide_eq_true_eq]
  omega
/-- What the outermost cut of a beginning is. -/
theorem out_take {b : Bk} {P : List Smp} {m : Nat} (h : vldG b P = true) (hm : m ≤ P.length) : outE b (P.take m) = (match sol b P m with | none => 15 | some _ => 0) ∧ outR b (P.take m) = (match sol b P m with | none => [] | some R => R) := by
  have hv := vld_take m h
  have hl : (P.take m).length = m := by rw [List.length_take]; omega
  have hs := sol_take (P := P) (m := m) (vld_er h).2.1
  unfold outE outR
  rw [if_pos (vld_er hv).1, if_pos (vld_er hv).1, hl, hs]
  exact ⟨rfl, rfl⟩
theorem sol_mono {b : Bk} {P : List Smp} {k m : Nat} {X : List Int} (hb : BkOk b) (hm : m ≤ k) (h : sol b P k = some X) : ∃ Y, sol b P m = some Y ∧ Y.length = m ∧ X.length = k ∧ ∀ i, i < m → fx X i ≤ fx Y i := by
  have ht := (sol_some hb h).1
  have hk : Keeps b P m (fx X) := ht.keeps.mono hm
  obtain ⟨Y, hY⟩ := (sol_iff hb m).2 ⟨fx X, hk, ht.cores.mono hm⟩
  have hy := (sol_some hb hY).1
  exact ⟨Y, hY, hy.len, ht.len, fun i hi => hy.upper _ hk i hi⟩
end Go.Proofs.Ytgdkcbnpgpjnbaa
