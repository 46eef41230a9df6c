/-
  Gains: they grow with the ceiling and the step, and are no greater than the needs; a programme that nowhere exceeds the ceiling keeps full gains: mathematics.
-/
import Derived.Test.YtilihdkfflfniaaUE
namespace Go.Proofs.Ytilihdkfflfniaa
open Go.RowKit

def gd (g : List Int) (i : Nat) : Int := g[i]?.getD 0
theorem gd_set (g : List Int) (j : Nat) (v : Int) (i : Nat) : gd (g.set j v) i = if i = j ∧ j < g.length then v else gd g i := by
  unfold gd
  rw [List.getElem?_set]
  by_cases e : j = i
  · subst e
    by_cases h : j < g.length
    · simp [h]
    · simp [h]
  · rw [if_neg e, if_neg (fun h => e h.1.symm)]
def Le (g g' : List Int) : Prop := g.length = g'.length ∧ ∀ i, gd g i ≤ gd g' i
theorem relax_gd (st : Int) (g : List Int) (p : Nat × Nat) (i : Nat) : gd (relax st g p) i = if i = p.2 ∧ p.2 < g.length then min (gd g p.2) (gd g p.1 + st) else gd g i := gd_set _ _ _ _
theorem relax_mono {st st' : Int} {g g' : List Int} (h : Le g g') (hs : st ≤ st') (p : Nat × Nat) : Le (relax st g p) (relax st' g' p) := by
  refine ⟨by rw [relax_len, relax_len]; exact h.1, fun i => ?_⟩
  rw [relax_gd, relax_gd, ← h.1]
  have h1 := h.2 p.1
  have h2 := h.2 p.2
  have h3 := h.2 i
  split <;> omega
theorem relaxes_mono {st st' : Int} (hs : st ≤ st') : ∀ (ps : List (Nat × Nat)) {g g' : List Int}, Le g g' → Le (ps.foldl (relax st) g) (ps.foldl (relax st') g')
  | [], _, _, h => h
  | p :: ps, _, _, h => relaxes_mono hs ps (relax_mono h hs p)
theorem gainsL_mono {ns ns' : List Int} {st st' : Int} (h : Le ns ns') (hs : st ≤ st') : Le (gainsL ns st) (gainsL ns' st') := by
  unfold gainsL
  rw [h.1]
  exact relaxes_mono hs _ h
theorem relaxes_le (st : Int) : ∀ (ps : List (Nat × Nat)) (g : List Int) (i : Nat), gd (ps.foldl (relax st) g) i ≤ gd g i
  | [], _, _ => Int.le_refl _
  | p :: ps, g, i => by
    have h1 := relaxes_le st ps (relax st g p) i
    have h2 := relax_gd st g p i
    rw [List.foldl_cons]
    split at h2
    · rename_i h
      have : i = p.2 := h.1
      subst this
      omega
    · omega
theorem gainsL_le (ns : List Int) (st : Int) (i : Nat) : gd (gainsL ns st) i ≤ gd ns i := relaxes_le st _ ns i
theorem ext_gd {g g' : List Int} (hl : g.length = g'.length) (h : ∀ i, gd g i = gd g' i) : g = g' := by
  refine List.ext_getElem hl (fun i h1 h2 => ?_)
  have := h i
  unfold gd at this
  rwa [List.getElem?_eq_getElem h1, List.getElem?_eq_getElem h2] at this
theorem relax_same {st : Int} {g : List Int} {p : Nat × Nat} (h : gd g p.2 ≤ gd g p.1 + st) : relax st g p = g := by
  refine ext_gd (relax_len _ _ _) (fun i => ?_)
  rw [relax_gd]
  split
  · rename_i e; rw [e.1]; omega
  · rfl
theorem relaxes_same {st : Int} {g : List Int} : ∀ (ps : List (Nat × Nat)), (∀ p ∈ ps, gd g p.2 ≤ gd g p.1 + st) → ps.foldl (relax st) g = g
  | [], _ => rfl
  | p :: ps, h => by
    rw [List.foldl_cons, relax_same (h p (by simp))]
    exact relaxes_same ps (fun q hq => h q (List.mem_cons_of_mem _ hq))
theorem gainsL_full {ns : List Int} (h : Lim ns) : gainsL ns 256 = ns := relaxes_same _ (fun p _ => by
  have h1 := h.at_ p.1
  have h2 := h.at_ p.2
  unfold gd
  omega)
theorem gainsL_quiet {ns : List Int} {st : Int} (h : ∀ x ∈ ns, x = 256) (hs : 0 ≤ st) : gainsL ns st = ns := relaxes_same _ (fun p hp => by
  obtain ⟨h1, h2⟩ := prs_mem hp
  unfold gd
  rw [List.getElem?_eq_getElem h1, List.getElem?_eq_getElem h2, Option.getD_some, Option.getD_some, h _ (List.getElem_mem h1), h _ (List.getElem_mem h2)]
  omega)
theorem need1_mono {s : Smp} {ce ce' : Int} (hv : vs s.1 s.2 = true) (h1 : 1 ≤ ce) (h : ce ≤ ce') : need1 s ce ≤ need1 s ce' := by
  have hb := (need1_bd hv h1).2
  unfold need1 at *
  by_cases c1 : loud s ≤ ce
  · rw [if_pos c1, if_pos (by omega)]; exact Int.le_refl _
  · rw [if_neg c1] at hb ⊢
    by_cases c2 : loud s ≤ ce'
    · rw [if_pos c2]; exact hb
    · rw [if_neg c2]
      exact Int.ediv_le_ediv (by omega) (by omega)
theorem needs_le {xs : List Smp} {ce ce' : Int} (hv : vss xs = true) (h1 : 1 ≤ ce) (h : ce ≤ ce') : Le (xs.map (need1 · ce)) (xs.map (need1 · ce')) := by
  refine ⟨by simp, fun i => ?_⟩
  unfold gd
  rw [List.getElem?_map, List.getElem?_map]
  by_cases hi : i < xs.length
  · rw [List.getElem?_eq_getElem hi]
    exact need1_mono (vss_at hv hi) h1 h
  · rw [List.getElem?_eq_none (by omega)]; simp
theorem needs_lim {xs : List Smp} {ce : Int} (hv : vss xs = true) (h1 : 1 ≤ ce) : Lim (xs.map (need1 · ce)) := by
  intro x hx
  obtain ⟨s, hs, rfl⟩ := List.mem_map.1 hx
  obtain ⟨i, hi, rfl⟩ := List.getElem_of_mem hs
  exact need1_bd (vss_at hv hi) h1
/-- The greatest amount of the first k samples. -/
def lmx (xs : List Smp) : Nat → Int
  | 0 => 0
  | k + 1 => max (lmx xs k) (loud (xs.getD k (0, 0)))
theorem lmx_bd {xs : List Smp} (hv : vss xs = true) : ∀ k, k ≤ xs.length → 0 ≤ lmx xs k ∧ lmx xs k ≤ 32767
  | 0, _ => by unfold lmx; omega
  | k + 1, hk => by
    have h1 := lmx_bd hv k (by omega)
    have h2 := loud_bd (vss_at hv (show k < xs.length by omega))
    rw [lmx, List.getD_eq_getElem?_getD, List.getElem?_eq_getElem (show k < xs.length by omega), Option.getD_some]
    omega
theorem lmx_ge {xs : List Smp} : ∀ k i, i < k → i < xs.length → loud (xs.getD i (0, 0)) ≤ lmx xs k
  | k + 1, i, hi, hx => by
    rw [lmx]
    by_cases e : i = k
    · subst e; omega
    · have := lmx_ge k i (by omega) hx; omega
theorem needs_quiet {xs : List Smp} {ce : Int} (h : lmx xs xs.length ≤ ce) : ∀ x ∈ xs.map (need1 · ce), x = 256 := by
  intro x hx
  obtain ⟨s, hs, rfl⟩ := List.mem_map.1 hx
  obtain ⟨i, hi, rfl⟩ := List.getElem_of_mem hs
  have := lmx_ge (xs := xs) xs.length i hi hi
  rw [List.getD_eq_getElem?_getD, List.getElem?_eq_getElem hi] at this
  have h2 : loud xs[i] ≤ ce := Int.le_trans this h
  show need1 xs[i] ce = 256
  unfold need1
  rw [if_pos h2]
theorem ckLi_of {xs : List Smp} {ce st : Int} (h0 : ckQ xs = 0) (h1 : 1 ≤ ce) (h2 : ce ≤ 32767) (h3 : 0 ≤ st) (h4 : st ≤ 256) : ckLi xs ce st = 0 ∧ ckCe xs ce = 0 := by
  have a : ckCe xs ce = 0 := by unfold ckCe rngE; rw [h0]; simp [orL, h1, h2]
  refine ⟨?_, a⟩
  unfold ckLi rngE
  rw [a]
  simp [orL, h3, h4]
end Go.Proofs.Ytilihdkfflfniaa
