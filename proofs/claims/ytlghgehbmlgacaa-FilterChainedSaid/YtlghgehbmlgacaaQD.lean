/-
  For FilterChained: chains that are cut, a curve that changes nothing, slices of curves.
-/
import Derived.Test.YtlghgehbmlgacaaUU
import Derived.Test.YtlghgehbmlgacaaUS
import Derived.Test.YtlghgehbmlgacaaUH
namespace Go.Proofs.Ytlghgehbmlgacaa
open Go.RowKit

theorem chS_append (d : Bool) : ∀ (a b : List Cur) (x : List Int), chS d (a ++ b) x = (chS d a x).bind (chS d b)
  | [], b, x => by simp [chS]
  | c :: a, b, x => by
    rw [List.cons_append]
    unfold chS
    cases run1 d 32767 c [] x with
    | none => rfl
    | some y => simp only [Option.bind_some]; rw [chS_append d a b y]
theorem chS_ck {d : Bool} : ∀ {l : List Cur} {x y : List Int}, ckX x = 0 → chS d l x = some y → ckX y = 0
  | [], x, y, hx, h => by unfold chS at h; cases h; exact hx
  | c :: l, x, y, hx, h => by
    unfold chS at h
    cases hr : run1 d 32767 c [] x with
    | none => rw [hr] at h; cases h
    | some z => rw [hr] at h; exact chS_ck (run1_ck hx hr) h
theorem chS_back : ∀ {l : List Cur} {x y : List Int}, ckX x = 0 → chS true l x = some y → chS false l.reverse y = some x
  | [], x, y, hx, h => by unfold chS at h; cases h; rfl
  | c :: l, x, y, hx, h => by
    unfold chS at h
    cases hr : run1 true 32767 c [] x with
    | none => rw [hr] at h; cases h
    | some z =>
      rw [hr] at h
      rw [List.reverse_cons, chS_append, chS_back (run1_ck hx hr) h]
      obtain ⟨h1, _, _⟩ := run1_back (ckX_ok hx).2 hr
      simp only [Option.bind_some, chS]
      rw [show (!true) = false from rfl] at h1
      rw [h1]; rfl
/-- A curve without a coefficient other than 0. -/
def idleC (sh : Int) : Cur := ⟨[0, 0], [0], sh⟩
theorem cor_idle (sh : Int) (h : List (Int × Int)) : cor (idleC sh) h = 0 := by simp [cor, corS, idleC, sumTo]
theorem run1_idle (sh : Int) : ∀ (x : List Int) (h : List (Int × Int)), (∀ v ∈ x, wib v 32767 = true) → run1 true 32767 (idleC sh) h x = some x
  | [], h, _ => by simp [run1]
  | v :: vs, h, hx => by
    unfold run1
    have e : mom true (idleC sh) h v = (v, v) := by simp [mom, cor_idle]
    rw [e]
    have hw : wib (outM true (v, v)) 32767 = true := hx v (by simp)
    rw [if_pos hw, run1_idle sh vs _ (fun u hu => hx u (by simp [hu]))]
    rfl
theorem chS_idle (sh : Int) (a b : List Cur) {x : List Int} (hx : ckX x = 0) : chS true (a ++ idleC sh :: b) x = chS true (a ++ b) x := by
  rw [chS_append, chS_append]
  cases hr : chS true a x with
  | none => rfl
  | some y =>
    simp only [Option.bind_some]
    rw [show chS true (idleC sh :: b) y = (run1 true 32767 (idleC sh) [] y).bind (chS true b) from rfl, run1_idle sh y [] (ckX_ok (chS_ck hx hr)).2]
    rfl
theorem errs_zero : ∀ {l : List Cur}, (∀ c ∈ l, ckV c = 0) → errs l = 0
  | [], _ => rfl
  | c :: l, h => by unfold errs; rw [if_pos (h c (by simp))]; exact errs_zero (fun d hd => h d (by simp [hd]))
theorem ckCs_ok {l : List Cur} (h : ckCs l = 0) : l.length ≤ 8 ∧ ∀ c ∈ l, ckV c = 0 := by
  unfold ckCs at h
  split at h
  · cases h
  · exact ⟨by omega, errs_ok h⟩
theorem ckCs_mk {l : List Cur} (h1 : l.length ≤ 8) (h2 : ∀ c ∈ l, ckV c = 0) : ckCs l = 0 := by
  unfold ckCs; rw [if_neg (by omega)]; exact errs_zero h2
theorem idle_ok {sh : Int} (h1 : 1 ≤ sh) (h2 : sh ≤ 4096) : ckV (idleC sh) = 0 := by
  have e1 : wibs [0, 0] 4096 = true := by decide
  have e2 : wibs [0] 4096 = true := by decide
  unfold ckV idleC
  simp [e1, e2, h1, h2]
theorem chEr_mk {l : List Cur} {xs : List Int} (h1 : ckCs l = 0) (h2 : ckX xs = 0) : chEr l xs = 0 := by
  unfold chEr orL
  rw [if_pos h1]
  unfold orL
  rw [if_pos h2]; rfl
theorem many_some {l : List Cur} {xs ys : List Int} {d : Bool} (h : chEr l xs = 0) (hy : chS d (if d then l else l.reverse) xs = some ys) : chRes d l xs = ys ∧ chErr d l xs = 0 := by
  unfold chRes chErr
  rw [if_pos h, if_pos h, chain_chS, hy]
  exact ⟨rfl, by simp⟩
theorem many_none {l : List Cur} {xs : List Int} {d : Bool} (h : chEr l xs = 0) (hy : chS d (if d then l else l.reverse) xs = none) : chRes d l xs = [] ∧ chErr d l xs = 4 := by
  unfold chRes chErr
  rw [if_pos h, if_pos h, chain_chS, hy]
  exact ⟨rfl, by simp⟩

theorem el_cvs : Try.prog.elem 26 = 24 := by kernel_rfl
theorem size_cv (W : World) : (sizeOf 24).run Try.prog W = .ok 3 W := by kernel_rfl
theorem cvs_to (A : Option Addr) (m n c : Nat) (h : m ≤ c) (W : World) : (Instr.slice 26 (.slice A n c) none (some (.int .i64 (m : Int))) none).run Try.prog W = .ok (.slice A m c) W := by
  rw [run_slice_h (P := Try.prog) W 26 A n c (by rw [el_cvs]; exact Try.underlying26) .i64 (m : Int) (by omega) (by omega), el_cvs, size_cv]
  by_cases h0 : c = 0
  · subst h0
    simp [sliced, Result.andThen]
  · have e : A.map (fun x => x.add 0) = A := by cases A <;> simp [Addr.add]
    simp [sliced, Result.andThen, h0, e]
def restC (A : Option Addr) (c m : Nat) : Option Addr := if c = m then A else A.map (·.add (m * 3))
theorem cvs_from (A : Option Addr) (m n c : Nat) (h : m ≤ n) (W : World) : (Instr.slice 26 (.slice A n c) (some (.int .i64 (m : Int))) none none).run Try.prog W = .ok (.slice (restC A c m) (n - m) (c - m)) W := by
  rw [run_slice_l (P := Try.prog) W 26 A n c (by rw [el_cvs]; exact Try.underlying26) .i64 (m : Int) (by omega) (by omega), el_cvs, size_cv]
  simp [sliced, Result.andThen, restC]
theorem cvCells_append (a b : List CV) : cvCells (a ++ b) = cvCells a ++ cvCells b := by simp [cvCells]
theorem RC.take {w : World} {B : Nat} {A : Option Addr} {n : Nat} {l : List CV} (h : RC w B A n l) (m : Nat) (hm : m ≤ n) : RC w B A m (l.take m) := by
  obtain ⟨rfl, h, hs⟩ := h
  refine ⟨by rw [List.length_take]; omega, ⟨by rw [cvCells_length, List.length_take]; omega, fun hn => ?_⟩, fun t ht => hs t (List.mem_of_mem_take ht)⟩
  obtain ⟨ad, e, hb, hc⟩ := h.2 (by omega)
  refine ⟨ad, e, hb, fun j u hu => hc j u ?_⟩
  have hj : j < (cvCells (l.take m)).length := (List.getElem?_eq_some_iff.1 hu).1
  rw [← List.take_append_drop m l, cvCells_append, List.getElem?_append_left hj, hu]
theorem RC.drop {w : World} {B : Nat} {A : Option Addr} {n c : Nat} {l : List CV} (h : RC w B A n l) (m : Nat) (hm : m ≤ n) (hc : n ≤ c) : RC w B (restC A c m) (n - m) (l.drop m) := by
  obtain ⟨rfl, h, hs⟩ := h
  refine ⟨by rw [List.length_drop], ⟨by rw [cvCells_length, List.length_drop], fun hn => ?_⟩, fun t ht => hs t (List.mem_of_mem_drop ht)⟩
  obtain ⟨ad, rfl, hb, hcell⟩ := h.2 (by omega)
  unfold restC
  rw [if_neg (by omega)]
  refine ⟨ad.add (m * 3), rfl, by rw [block_of_add]; exact hb, fun j u hu => ?_⟩
  rw [add_of_add]
  refine hcell _ u ?_
  have hl : (cvCells (l.take m)).length = m * 3 := by rw [cvCells_length, List.length_take]; omega
  rw [← List.take_append_drop m l, cvCells_append, List.getElem?_append_right (by omega), hl, show m * 3 + j - m * 3 = j from by omega, hu]
theorem cv_one (l : List CV) : ∀ u ∈ cvCells l, u.oneCell' = true := by
  intro u hu
  obtain ⟨q, _, hq⟩ := List.mem_flatMap.1 hu
  simp only [List.mem_cons, List.not_mem_nil, or_false] at hq
  rcases hq with rfl | rfl | rfl <;> rfl
theorem CSm.take {l : List CV} (h : CSm l) (m : Nat) : CSm (l.take m) := fun t ht => h t (List.mem_of_mem_take ht)
theorem CSm.drop {l : List CV} (h : CSm l) (m : Nat) : CSm (l.drop m) := fun t ht => h t (List.mem_of_mem_drop ht)
end Go.Proofs.Ytlghgehbmlgacaa
