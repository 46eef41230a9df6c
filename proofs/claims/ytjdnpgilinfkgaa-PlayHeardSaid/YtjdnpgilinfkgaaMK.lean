/-
  The mathematics of what a tip reads, sweeps and reads again.
-/
import Derived.Test.YtjdnpgilinfkgaaMF
import Derived.Test.YtjdnpgilinfkgaaMH
namespace Go.Proofs.Ytjdnpgilinfkgaa
open Go.RowKit

theorem vdL_t {s : List Int} {l : List Smp} {m : Int} (h : vdL s l m = true) : ckTip s = 0 ∧ (l.length : Int) ≤ m ∧ ckG l = 0 := by
  unfold vdL at h
  simp only [Bool.and_eq_true, decide_eq_true_eq] at h
  exact ⟨h.1.1, h.1.2, h.2⟩
theorem rd_ok {s : List Int} {l : List Smp} (hs : Shp s) (hl : l.length ≤ 4096) (he : Edg l) : rdEr s l = 0 := rdEr_of (ckTip_of hs) (ckG_of hl he)
theorem sw_edg {s : List Int} {l : List Smp} (hs : Shp s) (he : Edg l) : Edg (swL s (rdL s l)) := ofW_edg (swL_edg hs he).1 (swL_edg hs he).2
theorem swL_rd {s : List Int} {l : List Smp} : swL s (rdL s l) = ofW l.length (dl s l.length (er s l.length (innW l))) (dl s l.length (er s l.length (outW l))) := by
  unfold swL
  rw [rdL_len]
  exact ofW_congr (fun t _ => dl_rd.1) (fun t _ => dl_rd.2)
/-- A tip reads the same of what it sweeps. -/
theorem rd_sw {s : List Int} {l : List Smp} (hs : Shp s) (he : Edg l) : rdL s (swL s (rdL s l)) = rdL s l := by
  have e : (swL s (rdL s l)).length = l.length := by rw [swL_len, rdL_len]
  have h : rdL s (swL s (rdL s l)) = ofW l.length (er s l.length (innW (swL s (rdL s l)))) (er s l.length (outW (swL s (rdL s l)))) := by
    show ofW (swL s (rdL s l)).length (er s (swL s (rdL s l)).length (innW (swL s (rdL s l)))) (er s (swL s (rdL s l)).length (outW (swL s (rdL s l)))) = _
    rw [e]
  rw [h]
  show _ = ofW l.length (er s l.length (innW l)) (er s l.length (outW l))
  refine ofW_congr (fun t ht => ?_) (fun t ht => ?_)
  · rw [er_congr (fun u hu => by rw [swL_rd, innW_of hu]), erdler hs he.1 ht]
  · rw [er_congr (fun u hu => by rw [swL_rd, outW_of hu]), erdler hs he.2 ht]
/-- What is read the same contains what is swept. -/
theorem sw_least {s : List Int} {l o : List Smp} (hs : Shp s) (he : Edg l) (ho : Edg o) (hl : o.length = l.length) (h : rdL s o = rdL s l) : insP (swL s (rdL s l)) o = true := by
  rw [insP_t, swL_len, rdL_len]
  refine ⟨hl.symm, ?_⟩
  have k1 : ∀ t, t < l.length → er s l.length (innW l) t ≤ er s l.length (innW o) t := fun t ht => by
    have e := congrArg (fun z => innW z t) h
    have e : innW (rdL s o) t = innW (rdL s l) t := e
    unfold rdL at e
    rw [innW_of (by rw [hl]; exact ht), innW_of ht, hl] at e
    omega
  have k2 : ∀ t, t < l.length → er s l.length (outW l) t ≤ er s l.length (outW o) t := fun t ht => by
    have e := congrArg (fun z => outW z t) h
    have e : outW (rdL s o) t = outW (rdL s l) t := e
    unfold rdL at e
    rw [outW_of (by rw [hl]; exact ht), outW_of ht, hl] at e
    omega
  have o1 := ho.1
  have o2 := ho.2
  rw [hl] at o1 o2
  intro t ht
  rw [swL_rd, outW_of ht, innW_of ht]
  exact ⟨(dl_le_iff hs o2 (er_wal hs he.2)).2 k2 t ht, (dl_le_iff hs o1 (er_wal hs he.1)).2 k1 t ht⟩
theorem rd_in_sw {s : List Int} {l : List Smp} (hs : Shp s) (he : Edg l) : insP (rdL s l) (swL s (rdL s l)) = true := by
  rw [insP_t, rdL_len, swL_len, rdL_len]
  refine ⟨rfl, fun t ht => ?_⟩
  rw [swL_rd, outW_of ht, innW_of ht]
  unfold rdL
  rw [outW_of ht, innW_of ht]
  exact ⟨dl_above hs (er_wal hs he.2) ht, dl_above hs (er_wal hs he.1) ht⟩
theorem sw_in {s : List Int} {l : List Smp} (hs : Shp s) (he : Edg l) : insP (swL s (rdL s l)) l = true := by
  rw [insP_t, swL_len, rdL_len]
  refine ⟨rfl, fun t ht => ?_⟩
  rw [swL_rd, outW_of ht, innW_of ht]
  exact ⟨dler_le hs he.2 ht, dler_le hs he.1 ht⟩
theorem rd_mono {s : List Int} {l o : List Smp} (hs : Shp s) (he : Edg l) (ho : Edg o) (hl : o.length = l.length) (h : ∀ t, t < l.length → outW o t ≤ outW l t ∧ innW o t ≤ innW l t) : insP (rdL s o) (rdL s l) = true := by
  rw [insP_t, rdL_len, rdL_len]
  refine ⟨hl, fun t ht => ?_⟩
  have ht' : t < l.length := by omega
  have o1 := ho.1
  have o2 := ho.2
  rw [hl] at o1 o2
  unfold rdL
  rw [outW_of ht, innW_of ht, outW_of ht', innW_of ht', hl]
  exact ⟨er_mono hs o2 he.2 (fun t ht => (h t ht).1) ht', er_mono hs o1 he.1 (fun t ht => (h t ht).2) ht'⟩
theorem rd_sharper {s s' : List Int} {l : List Smp} (hs : Shp s) (hs' : Shp s') (hl : s'.length ≤ s.length) (hk : ∀ k, k < s'.length → atI s k ≤ atI s' k) (he : Edg l) : insP (rdL s l) (rdL s' l) = true := by
  rw [insP_t, rdL_len, rdL_len]
  refine ⟨rfl, fun t ht => ?_⟩
  unfold rdL
  rw [outW_of ht, innW_of ht, outW_of ht, innW_of ht]
  exact ⟨er_sharper hs hs' hl hk he.2 ht, er_sharper hs hs' hl hk he.1 ht⟩
theorem nrL_le {l : List Smp} {by_ : List Int} (he : Edg l) (hb : ∀ k, 0 ≤ atI by_ k ∧ atI by_ k ≤ 255) (t : Nat) (h : t < l.length) : outW (nrL l by_) t ≤ outW l t ∧ innW (nrL l by_) t ≤ innW l t := by
  unfold nrL
  rw [outW_of h, innW_of h]
  exact ⟨(nr_bd he hb h).1.2, (nr_bd he hb h).2.2⟩
theorem rdRes_ok {s : List Int} {l : List Smp} (h : rdEr s l = 0) : rdRes s l = rdL s l := if_pos h
theorem swRes_ok {s : List Int} {l : List Smp} (h : rdEr s l = 0) : swRes s l = swL s (rdL s l) := if_pos h

end Go.Proofs.Ytjdnpgilinfkgaa
