/-
  The mathematics of grooves that are turned round, mirrored and cut.
-/
import Derived.Test.YtjdnpgilinfkgaaMX
import Derived.Test.YtjdnpgilinfkgaaMD
namespace Go.Proofs.Ytjdnpgilinfkgaa
open Go.RowKit

section
variable {s : List Int} {l : List Smp} {n m t : Nat} {a b : Nat → Int}
theorem er_rev (hs : Shp s) (ha : Wal n a) (hb : Wal n b) (h : ∀ u, u < n → b u = a (n - 1 - u)) (ht : t < n) : er s n b t = er s n a (n - 1 - t) := by
  refine Int.le_antisymm ?_ ?_
  · obtain ⟨u, hu, hd, e⟩ := er_at hs ha (t := n - 1 - t) (by omega)
    have h1 := er_le hs hb ht (u := n - 1 - u) (by omega) (by unfold dst at hd ⊢; omega)
    rw [h _ (by omega), show n - 1 - (n - 1 - u) = u by omega, show dst (n - 1 - u) t = dst u (n - 1 - t) by unfold dst; omega] at h1
    omega
  · obtain ⟨u, hu, hd, e⟩ := er_at hs hb ht
    have h1 := er_le hs ha (t := n - 1 - t) (by omega) (u := n - 1 - u) (by omega) (by unfold dst at hd ⊢; omega)
    rw [show dst (n - 1 - u) (n - 1 - t) = dst u t by unfold dst; omega] at h1
    rw [h u hu] at e
    omega
/-- Farther from the end of a part than the tip reaches, the rest does not matter. -/
theorem er_part (hs : Shp s) (ha : Wal n a) (hmn : m ≤ n) (ht : t + s.length ≤ m) : er s m a t = er s n a t := by
  have hp := hs.pos
  have ha' : Wal m a := fun u hu => ha u (by omega)
  refine Int.le_antisymm ?_ ?_
  · obtain ⟨u, hu, hd, e⟩ := er_at hs ha (t := t) (by omega)
    have h1 := er_le hs ha' (t := t) (by omega) (u := u) (by unfold dst at hd; omega) hd
    omega
  · obtain ⟨u, hu, hd, e⟩ := er_at hs ha' (t := t) (by omega)
    have h1 := er_le hs ha (t := t) (by omega) (u := u) (by omega) hd
    omega
theorem er_part_ge (hs : Shp s) (ha : Wal n a) (hmn : m ≤ n) (ht : t < m) : er s n a t ≤ er s m a t := by
  have ha' : Wal m a := fun u hu => ha u (by omega)
  obtain ⟨u, hu, hd, e⟩ := er_at hs ha' ht
  have h1 := er_le hs ha (t := t) (by omega) (u := u) (by omega) hd
  omega
/-- A groove that is mirrored. -/
def mirL (l : List Smp) : List Smp := l.map fun p => (-p.2, -p.1)
theorem mirL_len (l : List Smp) : (mirL l).length = l.length := List.length_map ..
theorem mirL_at {k : Nat} (h : k < l.length) : (mirL l)[k]? = some (-l[k].2, -l[k].1) := by simp [mirL, h]
theorem innW_mir (h : t < l.length) : innW (mirL l) t = outW l t := by simp [innW, outW, mirL, h]
theorem outW_mir (h : t < l.length) : outW (mirL l) t = innW l t := by simp [innW, outW, mirL, h]
theorem innW_rev (h : t < l.length) : innW l.reverse t = innW l (l.length - 1 - t) := by unfold innW; rw [List.getElem?_reverse h]
theorem outW_rev (h : t < l.length) : outW l.reverse t = outW l (l.length - 1 - t) := by unfold outW; rw [List.getElem?_reverse h]
theorem edg_mir (he : Edg l) : Edg (mirL l) := by
  refine ⟨fun u hu => ?_, fun u hu => ?_⟩
  · rw [mirL_len] at hu; rw [innW_mir hu]; exact he.2 u hu
  · rw [mirL_len] at hu; rw [outW_mir hu]; exact he.1 u hu
theorem edg_rev (he : Edg l) : Edg l.reverse := by
  refine ⟨fun u hu => ?_, fun u hu => ?_⟩
  · rw [List.length_reverse] at hu; rw [innW_rev hu]; exact he.1 _ (by omega)
  · rw [List.length_reverse] at hu; rw [outW_rev hu]; exact he.2 _ (by omega)
theorem innW_take (h : t < m) : innW (l.take m) t = innW l t := by unfold innW; rw [List.getElem?_take_of_lt h]
theorem outW_take (h : t < m) : outW (l.take m) t = outW l t := by unfold outW; rw [List.getElem?_take_of_lt h]
theorem edg_take (he : Edg l) (hm : m ≤ l.length) : Edg (l.take m) := by
  have hl : (l.take m).length = m := by rw [List.length_take]; omega
  refine ⟨fun u hu => ?_, fun u hu => ?_⟩
  · rw [innW_take (by omega)]; exact he.1 _ (by omega)
  · rw [outW_take (by omega)]; exact he.2 _ (by omega)
theorem rd_mir (s : List Int) (l : List Smp) : rdL s (mirL l) = mirL (rdL s l) := by
  refine List.ext_getElem? fun t => ?_
  rcases Nat.lt_or_ge t l.length with ht | ht
  · rw [rdL_get (by rw [mirL_len]; exact ht), mirL_len, er_congr (fun u hu => innW_mir hu), er_congr (a := outW (mirL l)) (fun u hu => outW_mir hu)]
    unfold mirL
    rw [List.getElem?_map, rdL_get ht]
    simp
  · rw [List.getElem?_eq_none (by rw [rdL_len, mirL_len]; exact ht), List.getElem?_eq_none (by rw [mirL_len, rdL_len]; exact ht)]
theorem rd_rev (hs : Shp s) (he : Edg l) : rdL s l.reverse = (rdL s l).reverse := by
  have h1 := edg_rev he
  have w1 := h1.1
  have w2 := h1.2
  rw [List.length_reverse] at w1 w2
  refine List.ext_getElem? fun t => ?_
  rcases Nat.lt_or_ge t l.length with ht | ht
  · rw [rdL_get (by rw [List.length_reverse]; exact ht), List.length_reverse, er_rev hs he.1 w1 (fun u hu => innW_rev hu) ht, er_rev hs he.2 w2 (fun u hu => outW_rev hu) ht]
    rw [List.getElem?_reverse (by rw [rdL_len]; exact ht), rdL_len, rdL_get (by omega)]
  · rw [List.getElem?_eq_none (by rw [rdL_len, List.length_reverse]; exact ht), List.getElem?_eq_none (by rw [List.length_reverse, rdL_len]; exact ht)]
theorem rd_part (hs : Shp s) (he : Edg l) (hm : m ≤ l.length) (ht : t + s.length ≤ m) : (rdL s (l.take m))[t]? = (rdL s l)[t]? := by
  have hp := hs.pos
  have hl : (l.take m).length = m := by rw [List.length_take]; omega
  rw [rdL_get (by omega), rdL_get (by omega), hl, er_congr (fun u hu => innW_take hu), er_congr (a := outW (l.take m)) (fun u hu => outW_take hu), er_part hs he.1 hm ht, er_part hs he.2 hm ht]
theorem rd_part_in (hs : Shp s) (he : Edg l) (hm : m ≤ l.length) : insP ((rdL s l).take m) (rdL s (l.take m)) = true := by
  have hl : (l.take m).length = m := by rw [List.length_take]; omega
  have hl2 : ((rdL s l).take m).length = m := by rw [List.length_take, rdL_len]; omega
  rw [insP_t, hl2, rdL_len, hl]
  refine ⟨rfl, fun t ht => ?_⟩
  rw [outW_take ht, innW_take ht]
  have g : rdL s (l.take m) = ofW m (er s m (innW (l.take m))) (er s m (outW (l.take m))) := by unfold rdL; rw [hl]
  rw [g]
  unfold rdL
  rw [outW_of (by omega), innW_of (by omega), outW_of ht, innW_of ht, er_congr (fun u hu => innW_take hu), er_congr (a := outW (l.take m)) (fun u hu => outW_take hu)]
  exact ⟨er_part_ge hs he.2 hm ht, er_part_ge hs he.1 hm ht⟩
theorem midL_mir (h : t < l.length) : midL (mirL l) t = -midL l t := by
  unfold midL
  rw [mirL_at h, List.getElem?_eq_getElem h]
  dsimp only [Option.getD]
  omega
theorem bdL_mir (h1 : 1 ≤ t) (h : t + 1 < l.length) : bdL (mirL l) t = -bdL l t := by
  unfold bdL
  rw [midL_mir (by omega), midL_mir h, midL_mir (by omega)]
  omega
theorem lo_mir (l : List Smp) : loB (mirL l) = -hiB l ∧ hiB (mirL l) = -loB l := by
  have e1 : mnL (bdL (mirL l)) (bns l.length) = mnL (fun u => -bdL l u) (bns l.length) := mnL_congr fun u hu => bdL_mir (bns_mem.1 hu).1 (bns_mem.1 hu).2
  have e2 : mnL (fun u => -bdL (mirL l) u) (bns l.length) = mnL (bdL l) (bns l.length) := mnL_congr fun u hu => by rw [bdL_mir (bns_mem.1 hu).1 (bns_mem.1 hu).2]; omega
  unfold loB hiB
  rw [mirL_len, e1, e2]
  omega
theorem ba_mir (l : List Smp) : (baL (mirL l)).1 = (baL l).1 := by
  unfold baL
  rw [mirL_len, (lo_mir l).1, (lo_mir l).2]
  split
  · rfl
  · show (-loB l - -hiB l + 1) / 2 = (hiB l - loB l + 1) / 2
    congr 1; omega
end
end Go.Proofs.Ytjdnpgilinfkgaa
