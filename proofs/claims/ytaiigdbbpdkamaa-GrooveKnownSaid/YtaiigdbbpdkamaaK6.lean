/-
  A part of samples: the slice between two indexes.
-/
import Derived.Test.YtaiigdbbpdkamaaA2
import Derived.DataElems
namespace Go.Proofs.Ytaiigdbbpdkamaa
open Go.RowKit

theorem el_smps : Try.prog.elem 28 = 25 := by kernel_rfl
theorem size_smp (W : World) : (sizeOf 25).run Try.prog W = .ok 2 W := by kernel_rfl
theorem slice_mid (A : Option Addr) (n c fr to : Nat) (h1 : fr ≤ to) (h2 : to ≤ c) (W : World) :
    (Instr.slice 28 (.slice A n c) (some (.int .i64 (fr : Int))) (some (.int .i64 (to : Int))) none).run Try.prog W = .ok (.slice (if c = fr then A else A.map (·.add (fr * 2))) (to - fr) (c - fr)) W := by
  rw [run_slice_lh (P := Try.prog) W 28 A n c (by rw [el_smps]; exact Try.underlying28) .i64 .i64 (fr : Int) (to : Int) (by omega) (by omega) (by omega), el_smps, size_smp]
  simp [sliced, Result.andThen]
theorem smpCells_append (xs ys : List Smp) : smpCells (xs ++ ys) = smpCells xs ++ smpCells ys := by simp [smpCells]
theorem smpCells_len (xs : List Smp) : (smpCells xs).length = xs.length * 2 := by
  induction xs with
  | nil => rfl
  | cons x xs ih => simp [smpCells] at ih ⊢; omega
theorem smpCells_mid (xs : List Smp) (fr m : Nat) (h : fr + m ≤ xs.length) (j : Nat) (u : Value) (hu : (smpCells ((xs.drop fr).take m))[j]? = some u) : (smpCells xs)[fr * 2 + j]? = some u := by
  have hj : j < m * 2 := by
    have := (List.getElem?_eq_some_iff.1 hu).1
    rw [smpCells_len, List.length_take, List.length_drop] at this
    omega
  have e : smpCells xs = smpCells (xs.take fr) ++ (smpCells ((xs.drop fr).take m) ++ smpCells ((xs.drop fr).drop m)) := by
    rw [← smpCells_append, List.take_append_drop, ← smpCells_append, List.take_append_drop]
  have l1 : (smpCells (xs.take fr)).length = fr * 2 := by rw [smpCells_len, List.length_take]; omega
  have l2 : (smpCells ((xs.drop fr).take m)).length = m * 2 := by rw [smpCells_len, List.length_take, List.length_drop]; omega
  rw [e, List.getElem?_append_right (by omega), l1, show fr * 2 + j - fr * 2 = j by omega, List.getElem?_append_left (by omega)]
  exact hu
theorem rs_mid {W : World} {B : Nat} {A : Option Addr} {n : Nat} {xs : List Smp} (h : RS W B A n xs) (fr to : Nat) (h1 : fr < to) (h2 : to ≤ n) : RS W B (A.map (·.add (fr * 2))) (to - fr) ((xs.drop fr).take (to - fr)) := by
  obtain ⟨hn, hl, hr⟩ := h
  obtain ⟨ad, rfl, hb, hc⟩ := hr (by omega)
  refine ⟨by rw [List.length_take, List.length_drop]; omega, by rw [smpCells_len, List.length_take, List.length_drop]; omega, fun _ => ⟨ad.add (fr * 2), rfl, ?_, fun j u hu => ?_⟩⟩
  · unfold Addr.add; split <;> exact hb
  · have := hc _ _ (smpCells_mid xs fr (to - fr) (by omega) j u hu)
    rw [Addr.add_add]
    exact this
theorem smp_zeros (n : Nat) : (madeCells #[Value.int .i64 0, Value.int .i64 0] (n * 2)).toList = smpCells (List.replicate n (0, 0)) := by
  have h1 : smpCells (List.replicate n (0, 0)) = List.replicate (n * 2) (Value.int .i64 0) := by
    refine List.eq_replicate_iff.2 ⟨by rw [smpCells_len, List.length_replicate], fun u hu => ?_⟩
    obtain ⟨s, hs, hu⟩ := List.mem_flatMap.1 hu
    rw [List.eq_of_mem_replicate hs] at hu
    simp at hu
    exact hu
  rw [h1]
  refine List.eq_replicate_iff.2 ⟨by simp [madeCells], fun u hu => ?_⟩
  unfold madeCells at hu
  simp at hu
  obtain ⟨a, -, rfl⟩ := hu
  have h2 : a % 2 = 0 ∨ a % 2 = 1 := by omega
  rcases h2 with h2 | h2 <;> simp [h2]
end Go.Proofs.Ytaiigdbbpdkamaa
