/-
  The mathematics of PlayExact: what a tip misses and what it reads; the head of a slice of points.
-/
import Derived.Test.YtjdnpgilinfkgaaMK
import Derived.Test.YtjdnpgilinfkgaaMH
import Derived.Test.YtjdnpgilinfkgaaMM
namespace Go.Proofs.Ytjdnpgilinfkgaa
open Go.RowKit

section
variable {s s' : List Int} {l : List Smp} {t u i : Nat} {n : Nat} {a : Nat → Int}
theorem missB_f : missB s l t u = false ↔ outW l t ≤ outW l u + atI s (dst u t) ∧ innW l t ≤ innW l u + atI s (dst u t) := by
  unfold missB
  rw [Bool.or_eq_false_iff, decide_eq_false_iff_not, decide_eq_false_iff_not]
  omega
theorem missB_tr : missB s l t u = true ↔ outW l u + atI s (dst u t) < outW l t ∨ innW l u + atI s (dst u t) < innW l t := by
  unfold missB
  rw [Bool.or_eq_true, decide_eq_true_eq, decide_eq_true_eq]
theorem msU_none_iff (hs : Shp s) : msU s l t = none ↔ ∀ u, u < l.length → dst u t < s.length → missB s l t u = false := by
  unfold msU
  rw [List.find?_eq_none]
  have hp := hs.pos
  constructor
  · intro h u hu hd
    have := h u (nbr_mem.2 ⟨hu, by omega⟩)
    simpa using this
  · intro h u hu
    have := nbr_mem.1 hu
    rw [h u this.1 (by omega)]; simp
theorem msU_get (hs : Shp s) (h : msU s l t = some u) : u < l.length ∧ dst u t < s.length ∧ missB s l t u = true := by
  unfold msU at h
  have h1 := List.find?_some h
  have h2 := nbr_mem.1 (List.mem_of_find?_eq_some h)
  have hp := hs.pos
  exact ⟨h2.1, by omega, h1⟩
theorem miL_none_all (h : miL s l = none) (i : Nat) (hi : i < l.length) : msU s l i = none := by
  unfold miL at h
  rw [List.findSome?_eq_none_iff] at h
  have := h i (List.mem_range.2 hi)
  simpa using this
theorem least_miss (s : List Int) (l : List Smp) : ∀ m, (∀ i, i < m → msU s l i = none) ∨ ∃ j v, j < m ∧ msU s l j = some v ∧ ∀ k, k < j → msU s l k = none
  | 0 => .inl (fun i hi => absurd hi (by omega))
  | m + 1 => by
    rcases least_miss s l m with h | ⟨j, v, h1, h2, h3⟩
    · cases hm : msU s l m with
      | none => exact .inl (fun i hi => by
          rcases Nat.lt_or_ge i m with h1 | h1
          · exact h i h1
          · rw [show i = m by omega]; exact hm)
      | some v => exact .inr ⟨m, v, by omega, hm, h⟩
    · exact .inr ⟨j, v, by omega, h2, h3⟩
theorem miL_get (h : miL s l = some (i, u)) : i < l.length ∧ msU s l i = some u ∧ ∀ j, j < i → msU s l j = none := by
  rcases least_miss s l l.length with h1 | ⟨j, v, h1, h2, h3⟩
  · rw [miL_none h1] at h; cases h
  · rw [miL_some h1 h3 h2] at h
    injection h with h
    injection h with e1 e2
    subst e1
    subst e2
    exact ⟨h1, h2, h3⟩
theorem er_same (hs : Shp s) (ha : Wal n a) (ht : t < n) (h : ∀ u, u < n → dst u t < s.length → a t ≤ a u + atI s (dst u t)) : er s n a t = a t := by
  have h1 := er_below hs ha ht
  obtain ⟨u, hu, hd, e⟩ := er_at hs ha ht
  have := h u hu hd
  omega
theorem gel (ht : t < l.length) : l[t]? = some (-(innW l t), outW l t) := by
  unfold innW outW
  rw [List.getElem?_eq_getElem ht]
  simp
theorem rdL_get (ht : t < l.length) : (rdL s l)[t]? = some (-(er s l.length (innW l) t), er s l.length (outW l) t) := by
  unfold rdL ofW
  rw [List.getElem?_map, List.getElem?_range ht]; rfl
theorem rd_at (hs : Shp s) (he : Edg l) (ht : t < l.length) (h : msU s l t = none) : (rdL s l)[t]? = l[t]? := by
  have h1 := (msU_none_iff hs).1 h
  rw [rdL_get ht, gel ht, er_same hs he.1 ht (fun u hu hd => (missB_f.1 (h1 u hu hd)).2), er_same hs he.2 ht (fun u hu hd => (missB_f.1 (h1 u hu hd)).1)]
theorem rd_take (hs : Shp s) (he : Edg l) (hi : i ≤ l.length) (h : ∀ j, j < i → msU s l j = none) : (rdL s l).take i = l.take i := by
  refine List.ext_getElem? fun t => ?_
  rcases Nat.lt_or_ge t i with ht | ht
  · rw [List.getElem?_take_of_lt ht, List.getElem?_take_of_lt ht, rd_at hs he (by omega) (h t ht)]
  · rw [List.getElem?_eq_none (by rw [List.length_take, rdL_len]; omega), List.getElem?_eq_none (by rw [List.length_take]; omega)]
theorem rd_exact (hs : Shp s) (he : Edg l) (h : miL s l = none) : rdL s l = l := by
  have := rd_take hs he (Nat.le_refl _) (fun j hj => miL_none_all h j hj)
  rw [List.take_of_length_le (by rw [rdL_len]; omega), List.take_length] at this
  exact this
theorem dl_same (hs : Shp s) (ha : Wal n a) (h : ∀ t, t < n → er s n a t = a t) (ht : t < n) : dl s n a t = a t := by
  have h1 := dl_above hs ha ht
  have h2 := dler_le hs ha ht
  rw [dl_congr h] at h2
  omega
theorem sw_exact (hs : Shp s) (he : Edg l) (h : miL s l = none) : swL s (rdL s l) = l := by
  have k : ∀ t, t < l.length → er s l.length (innW l) t = innW l t ∧ er s l.length (outW l) t = outW l t := fun t ht => by
    have h1 := (msU_none_iff hs).1 (miL_none_all h t ht)
    exact ⟨er_same hs he.1 ht (fun u hu hd => (missB_f.1 (h1 u hu hd)).2), er_same hs he.2 ht (fun u hu hd => (missB_f.1 (h1 u hu hd)).1)⟩
  rw [rd_exact hs he h]
  have : swL s l = ofW l.length (innW l) (outW l) := ofW_congr (fun t ht => dl_same hs he.1 (fun t ht => (k t ht).1) ht) (fun t ht => dl_same hs he.2 (fun t ht => (k t ht).2) ht)
  rw [this, ofW_self]
theorem shp_zero : Shp [0] := ⟨by decide, by decide, rfl, fun i j hij hj => by
  have : j = 0 := by simp at hj; omega
  subst this
  rw [show i = 0 by omega]
  exact Int.le_refl _, fun k => by
  cases k with
  | zero => decide
  | succ k => simp [atI]⟩
/-- The ideal tip misses nothing. -/
theorem mi_ideal (l : List Smp) : miL [0] l = none := miL_none (fun i _ => (msU_none_iff shp_zero).2 (fun u hu hd => by
  have hd : dst u i < 1 := hd
  have : u = i := by unfold dst at hd; omega
  subst this
  rw [missB_f, dst_self, shp_zero.zero]
  omega))
/-- A sharper tip misses nothing of what a blunter one reads exactly. -/
theorem mi_sharper (hs : Shp s) (hs' : Shp s') (hl : s'.length ≤ s.length) (hk : ∀ k, k < s'.length → atI s k ≤ atI s' k) (h : miL s l = none) : miL s' l = none :=
  miL_none (fun i hi => (msU_none_iff hs').2 (fun u hu hd => by
    have h1 := missB_f.1 ((msU_none_iff hs).1 (miL_none_all h i hi) u hu (by omega))
    have := hk _ hd
    rw [missB_f]
    omega))
/-- What it misses it reads otherwise. -/
theorem rd_missed (hs : Shp s) (he : Edg l) (h : miL s l = some (i, u)) : (rdL s l)[i]? ≠ l[i]? := by
  obtain ⟨h1, h2, _⟩ := miL_get h
  obtain ⟨h3, h4, h5⟩ := msU_get hs h2
  rw [rdL_get h1, gel h1]
  intro e
  injection e with e
  injection e with e1 e2
  have k1 := er_le hs he.1 h1 h3 h4
  have k2 := er_le hs he.2 h1 h3 h4
  rw [missB_tr] at h5
  omega
end
theorem miE_ok {s : List Int} {l : List Smp} (h : rdEr s l = 0) : miE s l = (if miL s l = none then 5 else 0) := if_pos h
theorem mi_none {s : List Int} {l : List Smp} (h : rdEr s l = 0) (hm : miL s l = none) : miI s l = 0 ∧ miU s l = 0 ∧ miE s l = 5 := by
  unfold miI miU miE
  rw [if_pos h, if_pos h, if_pos h, hm]
  exact ⟨rfl, rfl, rfl⟩
theorem mi_some {s : List Int} {l : List Smp} {i u : Nat} (h : rdEr s l = 0) (hm : miL s l = some (i, u)) : miI s l = i ∧ miU s l = u ∧ miE s l = 0 := by
  unfold miI miU miE
  rw [if_pos h, if_pos h, if_pos h, hm]
  exact ⟨rfl, rfl, rfl⟩

theorem el_ptsX : Try.prog.elem 32 = 69 := by kernel_rfl
theorem size_ptX (W : World) : (sizeOf 69).run Try.prog W = .ok 2 W := by kernel_rfl
theorem slice_hd (A : Option Addr) (n c to : Nat) (h2 : to ≤ c) (W : World) :
    (Instr.slice 32 (.slice A n c) none (some (.int .i64 (to : Int))) none).run Try.prog W = .ok (.slice A to c) W := by
  rw [run_slice_h (P := Try.prog) W 32 A n c (by rw [el_ptsX]; exact Try.underlying32) .i64 (to : Int) (by omega) (by omega), el_ptsX, size_ptX]
  cases A <;> simp [sliced, Result.andThen, Addr.add]
theorem rs_head {W : World} {B : Nat} {A : Option Addr} {n : Nat} {xs : List Smp} (h : RS W B A n xs) (to : Nat) (h2 : to ≤ n) : RS W B A to (xs.take to) := by
  obtain ⟨hn, hl, hr⟩ := h
  refine ⟨by rw [List.length_take]; omega, by rw [smpCells_length, List.length_take]; omega, fun h0 => ?_⟩
  obtain ⟨ad, e, hb, hc⟩ := hr (by omega)
  refine ⟨ad, e, hb, fun j u hu => hc j u ?_⟩
  have : smpCells xs = smpCells (xs.take to) ++ smpCells (xs.drop to) := by
    unfold smpCells; rw [← List.flatMap_append, List.take_append_drop]
  rw [this]
  obtain ⟨hj, _⟩ := List.getElem?_eq_some_iff.1 hu
  rw [List.getElem?_append_left hj]
  exact hu
end Go.Proofs.Ytjdnpgilinfkgaa
