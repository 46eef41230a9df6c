/-
  Slices of numbers; the first numbers of a run, and zeros before a signal.
-/
import Derived.Test.YtlghgehbmlgacaaUF
import Derived.Test.YtlghgehbmlgacaaUI
namespace Go.Proofs.Ytlghgehbmlgacaa
open Go.RowKit

theorem el_i64s : Try.prog.elem 22 = 2 := by kernel_rfl
theorem size_i64 (W : World) : (sizeOf 2).run Try.prog W = .ok 1 W := by kernel_rfl
theorem nums_to (A : Option Addr) (m n c : Nat) (h : m ≤ c) (W : World) : (Instr.slice 22 (.slice A n c) none (some (.int .i64 (m : Int))) none).run Try.prog W = .ok (.slice A m c) W := by
  rw [run_slice_h (P := Try.prog) W 22 A n c (by rw [el_i64s]; exact Try.underlying22) .i64 (m : Int) (by omega) (by omega), el_i64s, size_i64]
  by_cases h0 : c = 0
  · subst h0
    simp [sliced, Result.andThen]
  · have e : A.map (fun x => x.add 0) = A := by cases A <;> simp [Addr.add]
    simp [sliced, Result.andThen, h0, e]
/-- Where the rest of a list begins. -/
def restA (A : Option Addr) (c m : Nat) : Option Addr := if c = m then A else A.map (·.add m)
theorem nums_from (A : Option Addr) (kl : IntKind) (m n c : Nat) (h : m ≤ n) (W : World) : (Instr.slice 22 (.slice A n c) (some (.int kl (m : Int))) none none).run Try.prog W = .ok (.slice (restA A c m) (n - m) (c - m)) W := by
  rw [run_slice_l (P := Try.prog) W 22 A n c (by rw [el_i64s]; exact Try.underlying22) kl (m : Int) (by omega) (by omega), el_i64s, size_i64]
  simp [sliced, Result.andThen, restA]
theorem LI.take {w : World} {B : Nat} {A : Option Addr} {n : Nat} {l : List Int} (h : LI w B A n l) (m : Nat) (hm : m ≤ n) : LI w B A m (l.take m) := by
  obtain ⟨rfl, h⟩ := h
  refine ⟨by rw [List.length_take]; omega, by simp; omega, fun hn => ?_⟩
  obtain ⟨ad, e, hb, hc⟩ := h.2 (by omega)
  refine ⟨ad, e, hb, fun j u hu => hc j u ?_⟩
  have hj : j < m := by have := (List.getElem?_eq_some_iff.1 hu).1; simp at this; omega
  rw [List.getElem?_map] at hu ⊢
  rwa [List.getElem?_take_of_lt hj] at hu
theorem LI.drop {w : World} {B : Nat} {A : Option Addr} {n c : Nat} {l : List Int} (h : LI w B A n l) (m : Nat) (hm : m ≤ n) (hc : n ≤ c) : LI w B (restA A c m) (n - m) (l.drop m) := by
  obtain ⟨rfl, h⟩ := h
  refine ⟨by rw [List.length_drop], by simp, fun hn => ?_⟩
  obtain ⟨ad, rfl, hb, hcell⟩ := h.2 (by omega)
  unfold restA
  rw [if_neg (by omega)]
  refine ⟨ad.add m, rfl, by rw [block_of_add]; exact hb, fun j u hu => ?_⟩
  rw [add_of_add]
  refine hcell _ u ?_
  rw [List.getElem?_map] at hu ⊢
  rwa [List.getElem?_drop] at hu
theorem own_readsU {w : World} {base n : Nat} {v : Value} {xs : List Int} (h : w.ownsRow base 2 1 v n (nums xs)) : ∃ A c, v = .slice A n c ∧ LI w w.heap.size A n xs ∧ n ≤ c := by
  obtain ⟨A, c, rfl, h1⟩ := li_own h
  refine ⟨A, c, rfl, h1, ?_⟩
  rcases h.2 with ⟨e, hn⟩ | ⟨g, cap, cur, e, _, _, h2, _⟩
  · simp only [Value.slice.injEq] at e; omega
  · simp only [Value.slice.injEq] at e; omega

/-- The first outputs are the outputs of the first inputs. -/
theorem run1_take {d : Bool} {m : Int} {c : Cur} : ∀ {x : List Int} {h : List (Int × Int)} {y : List Int} (k : Nat), run1 d m c h x = some y → run1 d m c h (x.take k) = some (y.take k)
  | [], h, y, k, e => by unfold run1 at e; cases e; simp [run1]
  | v :: vs, h, y, 0, e => by simp [run1]
  | v :: vs, h, y, k + 1, e => by
    unfold run1 at e
    by_cases hw : wib (outM d (mom d c h v)) m = true
    · rw [if_pos hw] at e
      cases hr : run1 d m c (mom d c h v :: h) vs with
      | none => rw [hr] at e; cases e
      | some z =>
        rw [hr] at e
        simp only [Option.map_some, Option.some.injEq] at e
        obtain rfl := e
        rw [List.take_succ_cons, List.take_succ_cons]
        unfold run1
        rw [if_pos hw, run1_take k hr]; rfl
    · rw [if_neg hw] at e; cases e
theorem hAt_zeros (h : List (Int × Int)) (z : Nat) : hAt (h ++ List.replicate z (0, 0)) = hAt h := by
  funext i
  unfold hAt
  rw [List.getElem?_append]
  split
  · rfl
  · rw [List.getElem?_replicate, List.getElem?_eq_none (l := h) (by omega)]
    split <;> rfl
theorem cor_zeros (c : Cur) (h : List (Int × Int)) (z : Nat) : cor c (h ++ List.replicate z (0, 0)) = cor c h := by unfold cor corS; rw [hAt_zeros]
theorem sumTo_zero (ws : List Int) (f : Nat → Int) (hf : ∀ i, f i = 0) : ∀ k, sumTo ws f k = 0
  | 0 => rfl
  | k + 1 => by unfold sumTo; rw [sumTo_zero ws f hf k, hf]; simp
theorem cor_none (c : Cur) : cor c [] = 0 := by
  unfold cor corS
  rw [sumTo_zero _ _ (fun i => by simp [hAt]), sumTo_zero _ _ (fun i => by simp [hAt])]; simp
theorem run1_zeros {d : Bool} {m : Int} {c : Cur} (z : Nat) : ∀ (x : List Int) (h : List (Int × Int)), run1 d m c (h ++ List.replicate z (0, 0)) x = run1 d m c h x
  | [], h => by simp [run1]
  | v :: vs, h => by
    unfold run1
    have e : mom d c (h ++ List.replicate z (0, 0)) v = mom d c h v := by unfold mom; rw [cor_zeros]
    rw [e, ← List.cons_append, run1_zeros z vs]
/-- Zeros before a signal are zeros before its output. -/
theorem run1_lead {m : Int} {c : Cur} (hm : 0 ≤ m) (x : List Int) : ∀ (z j : Nat), run1 true m c (List.replicate j (0, 0)) (List.replicate z 0 ++ x) = (run1 true m c [] x).map (List.replicate z 0 ++ ·)
  | 0, j => by
    have := run1_zeros (d := true) (m := m) (c := c) j x []
    simp only [List.nil_append] at this
    simp only [List.replicate_zero, List.nil_append, this]
    cases run1 true m c [] x <;> rfl
  | z + 1, j => by
    have e : mom true c (List.replicate j (0, 0)) 0 = (0, 0) := by
      have := cor_zeros c [] j
      rw [List.nil_append, cor_none] at this
      simp [mom, this]
    have ih := run1_lead (c := c) hm x z (j + 1)
    obtain ⟨R, hR⟩ : ∃ R, run1 true m c [] x = R := ⟨_, rfl⟩
    rw [hR] at ih ⊢
    rw [List.replicate_succ, List.cons_append]
    unfold run1
    rw [e]
    have hw : wib (outM true ((0, 0) : Int × Int)) m = true := by unfold wib outM; simp; omega
    rw [if_pos hw, ← List.replicate_succ, ih]
    cases R <;> rfl
theorem chain_take {d : Bool} {c : Cur} {x y : List Int} (k : Nat) (h : chain d [c] x = some y) : chain d [c] (x.take k) = some (y.take k) := by
  rw [chain_one] at h ⊢; exact run1_take k h
theorem chain_lead (c : Cur) (x : List Int) (z : Nat) : chain true [c] (List.replicate z 0 ++ x) = (chain true [c] x).map (List.replicate z 0 ++ ·) := by
  rw [chain_one, chain_one]; exact run1_lead (by omega) x z 0
theorem ckX_take {x : List Int} (k : Nat) (h : ckX x = 0) : ckX (x.take k) = 0 := by
  obtain ⟨h1, h2⟩ := ckX_ok h
  exact ckX_mk (by rw [List.length_take]; omega) (fun v hv => h2 v (List.mem_of_mem_take hv))
theorem ckX_lead {x : List Int} (z : Nat) (h : ckX x = 0) (hz : z + x.length ≤ 4096) : ckX (List.replicate z 0 ++ x) = 0 := by
  obtain ⟨h1, h2⟩ := ckX_ok h
  refine ckX_mk (by simp; omega) (fun v hv => ?_)
  rcases List.mem_append.1 hv with hv | hv
  · rw [List.eq_of_mem_replicate hv]; decide
  · exact h2 v hv
theorem nums_zeros (z : Nat) : (madeCells #[.int .i64 0] z).toList = nums (List.replicate z 0) := by
  rw [toList_madeCells_one, nums, List.map_replicate]
end Go.Proofs.Ytlghgehbmlgacaa
