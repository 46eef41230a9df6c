/-
  Read and Sweep of package play.
-/
import Derived.Test.YtjdnpgilinfkgaaM6
import Derived.Test.YtjdnpgilinfkgaaM8
import Derived.Test.YtjdnpgilinfkgaaM9
import Derived.Test.YtjdnpgilinfkgaaJG
namespace Go.Proofs.Ytjdnpgilinfkgaa
open Go.RowKit

theorem ckG_edg {l : List Smp} (h : ckG l = 0) : l.length ≤ 4096 ∧ Edg l := by
  unfold ckG at h
  split at h
  · cases h
  · split at h
    · rename_i h1 h2
      unfold vPs at h2
      rw [List.all_eq_true] at h2
      have g : ∀ u (hu : u < l.length), (-4194304 ≤ l[u].1 ∧ l[u].1 ≤ 4194304) ∧ (-4194304 ≤ l[u].2 ∧ l[u].2 ≤ 4194304) := fun u hu => by
        have := h2 _ (List.getElem_mem hu)
        unfold vE win at this
        simp only [Bool.and_eq_true, decide_eq_true_eq] at this
        exact this
      refine ⟨by omega, fun u hu => ?_, fun u hu => ?_⟩
      · rw [innW_eq hu]; have := (g u hu).1; omega
      · rw [outW_eq hu]; exact (g u hu).2
    · cases h
theorem ckG_of {l : List Smp} (h : l.length ≤ 4096) (he : Edg l) : ckG l = 0 := by
  unfold ckG
  rw [if_neg (by omega), if_pos]
  unfold vPs
  rw [List.all_eq_true]
  intro p hp
  obtain ⟨u, hu, rfl⟩ := List.getElem_of_mem hp
  have h1 := he.1 u hu
  have h2 := he.2 u hu
  rw [innW_eq hu] at h1
  rw [outW_eq hu] at h2
  unfold vE win
  simp only [Bool.and_eq_true, decide_eq_true_eq]
  omega
theorem ofW_edg {n : Nat} {i o : Nat → Int} (hi : Wal n i) (ho : Wal n o) : Edg (ofW n i o) := by
  unfold Edg
  rw [ofW_len]
  exact ⟨fun u hu => by rw [innW_of hu]; exact hi u hu, fun u hu => by rw [outW_of hu]; exact ho u hu⟩
theorem rdL_edg {s : List Int} {l : List Smp} (hs : Shp s) (he : Edg l) : Edg (rdL s l) := ofW_edg (er_wal hs he.1) (er_wal hs he.2)
theorem dl_rd {s : List Int} {l : List Smp} {t : Nat} : dl s l.length (innW (rdL s l)) t = dl s l.length (er s l.length (innW l)) t ∧ dl s l.length (outW (rdL s l)) t = dl s l.length (er s l.length (outW l)) t :=
  ⟨dl_congr fun _ h => innW_of h, dl_congr fun _ h => outW_of h⟩
theorem swL_edg {s : List Int} {l : List Smp} (hs : Shp s) (he : Edg l) : Wal (rdL s l).length (dl s (rdL s l).length (innW (rdL s l))) ∧ Wal (rdL s l).length (dl s (rdL s l).length (outW (rdL s l))) := by
  rw [rdL_len]
  exact ⟨fun t ht => by rw [dl_rd.1]; exact dler_wal hs he.1 t ht, fun t ht => by rw [dl_rd.2]; exact dler_wal hs he.2 t ht⟩

def rdEr (s : List Int) (l : List Smp) : Int := orL [ckTip s, ckG l]
def rdRes (s : List Int) (l : List Smp) : List Smp := if rdEr s l = 0 then rdL s l else []
def swRes (s : List Int) (l : List Smp) : List Smp := if rdEr s l = 0 then swL s (rdL s l) else []
theorem rdEr_ok {s : List Int} {l : List Smp} (h : rdEr s l = 0) : Shp s ∧ l.length ≤ 4096 ∧ Edg l := by
  unfold rdEr orL at h
  split at h
  · rename_i h1
    unfold orL at h
    split at h
    · rename_i h2
      exact ⟨ckTip_ok h1, ckG_edg h2⟩
    · rename_i h2; exact absurd h h2
  · rename_i h1; exact absurd h h1
theorem rdEr_of {s : List Int} {l : List Smp} (h1 : ckTip s = 0) (h2 : ckG l = 0) : rdEr s l = 0 := by simp [rdEr, orL, h1, h2]

set_option maxRecDepth 100000 in
set_option maxHeartbeats 4000000 in
theorem Read_any (B : Nat) (Af A : Option Addr) (nf cf n c : Nat) (s : List Int) (l : List Smp) (w : World) (hL : LI w B Af nf s) (h0 : RS w B A n l) (hB : B ≤ w.heap.size) (hf : nf ≤ 9223372036854775807) (hl : n ≤ 9223372036854775807) :
    Calls Try.prog 38 #[.agg #[.slice Af nf cf], .slice A n c] w (PtsPost w (rdEr s l) (rdRes s l)) := by
  have HN := Lib.hid h0.1
  have H := Lib.hid (h0.more hB)
  have HL := Lib.hid (hL.more hB)
  clear h0 hL hB
  have CT := Lib.hid (fun W (hb : Below w.heap.size w W) => CheckTip_any w.heap.size Af nf cf s W (HL.out.below hb (Nat.le_refl _)) hb.size hf)
  have CG := Lib.hid (fun W (hb : Below w.heap.size w W) => CheckPoints_any w.heap.size A n c l W (H.out.below hb (Nat.le_refl _)) hb.size hl)
  have he : rdEr s l = orL [ckTip s, ckG l] := rfl
  obtain ⟨e1, h1⟩ : ∃ x, ckTip s = x := ⟨_, rfl⟩
  obtain ⟨e2, h2⟩ : ∃ x, ckG l = x := ⟨_, rfl⟩
  rw [h1] at CT
  rw [h2] at CG
  rw [h1, h2] at he
  obtain ⟨er_, h5⟩ : ∃ x, orL [e1, e2] = x := ⟨_, rfl⟩
  rw [h5] at he
  have HER := Lib.hid he
  have HOR := Lib.hid (fun B A n c W h1 h2 h3 h4 => cmpOr_any B A n c [e1, e2] W h1 h2 h3 h4)
  rw [h5] at HOR
  rw [he]
  clear h1 h2 h5 he
  go_enter Try.func38, Try.ntmps38
  go_wp2_with fail
  refine (CT.out _ ((Below.refl _ _).alloc (Nat.le_refl _) _)).mono ?_
  rintro e w1 ⟨rfl, hb1⟩
  have k0 : Blk w1 w.heap.size 24 #[.slice Af nf cf] := (Blk.new _ _ _).below hb1 (by simp)
  have HK := Lib.hid k0
  have HB := Lib.hid (((Below.refl _ w).alloc (Nat.le_refl _) (.cells #[.slice Af nf cf] 24)).trans (hb1.mono (by simp)))
  clear hb1 k0
  go_wp2_with fail
  refine (CG.out _ HB.out).mono ?_
  rintro e w2 ⟨rfl, hb1⟩
  replace HK := Lib.hid (HK.out.below hb1 HK.out.lt)
  replace HB := Lib.hid (HB.out.trans (hb1.mono HB.out.size))
  clear hb1
  go_wp2_with fail
  refine (HOR.out _ _ _ _ _ rfl (reads_cells (blk_al rfl) (Nat.lt_succ_self _) (by rfl) (by rfl)) (by simp) (by simp)).mono ?_
  rintro e w' ⟨rfl, rfl⟩
  obtain ⟨W2, hW2⟩ : ∃ W2, w2.alloc (.cells #[.int .i64 e1, .int .i64 e2] 26) = W2 := ⟨_, rfl⟩
  replace HK : Hid (Blk W2 w.heap.size 24 #[.slice Af nf cf]) := Lib.hid (by rw [← hW2]; exact HK.out.alloc _)
  replace HB : Hid (Below w.heap.size w W2) := Lib.hid (by rw [← hW2]; exact HB.out.alloc HB.out.size _)
  rw [hW2]
  clear hW2 CT CG HOR
  by_cases hz : er_ = 0
  · subst hz
    have HRES : Hid (rdRes s l = rdL s l) := Lib.hid (by unfold rdRes; rw [if_pos HER.out])
    obtain ⟨hs, hl4, he⟩ := rdEr_ok HER.out
    have HSH := Lib.hid hs
    have HE := Lib.hid he
    have hn4 : n ≤ 4096 := by have := HN.out; omega
    have t0 := HK.out.one.1
    clear hs he hl4
    go_wp2_with fail
    refine (stylusOf_any w.heap.size Af nf cf s W2 (HL.out.below HB.out (Nat.le_refl _)) HB.out.size HSH.out).mono ?_
    rintro e w3 ⟨Ag, ng, cg, rfl, hg, hb3⟩
    have HG := Lib.hid hg
    replace HB := Lib.hid (HB.out.trans (hb3.mono HB.out.size))
    clear hg hb3 t0
    go_wp2_with fail
    refine (traceRead_any w3.heap.size s Ag A ng cg n c l w3 HG.out ((H.out.below HB.out (Nat.le_refl _)).more HB.out.size) (Nat.le_refl _) HSH.out HE.out hn4).mono ?_
    rintro e w4 ⟨A', n', k', rfl, hr, hc, hb4⟩
    have HR := Lib.hid hr
    have HB4 := Lib.hid (HB.out.trans (hb4.mono HB.out.size))
    clear hr hb4
    go_wp2
    go_ret2
    refine ⟨A', n', k', rfl, ?_, hc, HB4.out⟩
    rw [HRES.out]
    have h := HR.out
    rw [HN.out] at h
    exact h
  · have q1 : (er_ != 0) = true := by rw [bne_iff_ne]; exact hz
    have HRES : Hid (rdRes s l = []) := Lib.hid (by unfold rdRes; rw [if_neg (by rw [HER.out]; exact hz)])
    clear hz
    go_wp2
    go_ret2
    exact ⟨none, 0, 0, rfl, by rw [HRES.out]; exact ⟨rfl, Reads.none_⟩, Nat.le_refl _, HB.out⟩

set_option maxRecDepth 100000 in
set_option maxHeartbeats 4000000 in
theorem Sweep_any (B : Nat) (Af A : Option Addr) (nf cf n c : Nat) (s : List Int) (l : List Smp) (w : World) (hL : LI w B Af nf s) (h0 : RS w B A n l) (hB : B ≤ w.heap.size) (hf : nf ≤ 9223372036854775807) (hl : n ≤ 9223372036854775807) :
    Calls Try.prog 48 #[.agg #[.slice Af nf cf], .slice A n c] w (PtsPost w (rdEr s l) (swRes s l)) := by
  have HN := Lib.hid h0.1
  have H := Lib.hid (h0.more hB)
  have HL := Lib.hid (hL.more hB)
  clear h0 hL hB
  have CT := Lib.hid (fun W (hb : Below w.heap.size w W) => CheckTip_any w.heap.size Af nf cf s W (HL.out.below hb (Nat.le_refl _)) hb.size hf)
  have CG := Lib.hid (fun W (hb : Below w.heap.size w W) => CheckPoints_any w.heap.size A n c l W (H.out.below hb (Nat.le_refl _)) hb.size hl)
  have he : rdEr s l = orL [ckTip s, ckG l] := rfl
  obtain ⟨e1, h1⟩ : ∃ x, ckTip s = x := ⟨_, rfl⟩
  obtain ⟨e2, h2⟩ : ∃ x, ckG l = x := ⟨_, rfl⟩
  rw [h1] at CT
  rw [h2] at CG
  rw [h1, h2] at he
  obtain ⟨er_, h5⟩ : ∃ x, orL [e1, e2] = x := ⟨_, rfl⟩
  rw [h5] at he
  have HER := Lib.hid he
  have HOR := Lib.hid (fun B A n c W h1 h2 h3 h4 => cmpOr_any B A n c [e1, e2] W h1 h2 h3 h4)
  rw [h5] at HOR
  rw [he]
  clear h1 h2 h5 he
  go_enter Try.func48, Try.ntmps48
  go_wp2_with fail
  refine (CT.out _ ((Below.refl _ _).alloc (Nat.le_refl _) _)).mono ?_
  rintro e w1 ⟨rfl, hb1⟩
  have k0 : Blk w1 w.heap.size 24 #[.slice Af nf cf] := (Blk.new _ _ _).below hb1 (by simp)
  have HK := Lib.hid k0
  have HB := Lib.hid (((Below.refl _ w).alloc (Nat.le_refl _) (.cells #[.slice Af nf cf] 24)).trans (hb1.mono (by simp)))
  clear hb1 k0
  go_wp2_with fail
  refine (CG.out _ HB.out).mono ?_
  rintro e w2 ⟨rfl, hb1⟩
  replace HK := Lib.hid (HK.out.below hb1 HK.out.lt)
  replace HB := Lib.hid (HB.out.trans (hb1.mono HB.out.size))
  clear hb1
  go_wp2_with fail
  refine (HOR.out _ _ _ _ _ rfl (reads_cells (blk_al rfl) (Nat.lt_succ_self _) (by rfl) (by rfl)) (by simp) (by simp)).mono ?_
  rintro e w' ⟨rfl, rfl⟩
  obtain ⟨W2, hW2⟩ : ∃ W2, w2.alloc (.cells #[.int .i64 e1, .int .i64 e2] 26) = W2 := ⟨_, rfl⟩
  replace HK : Hid (Blk W2 w.heap.size 24 #[.slice Af nf cf]) := Lib.hid (by rw [← hW2]; exact HK.out.alloc _)
  replace HB : Hid (Below w.heap.size w W2) := Lib.hid (by rw [← hW2]; exact HB.out.alloc HB.out.size _)
  rw [hW2]
  clear hW2 CT CG HOR
  by_cases hz : er_ = 0
  · subst hz
    have HRES : Hid (swRes s l = swL s (rdL s l)) := Lib.hid (by unfold swRes; rw [if_pos HER.out])
    obtain ⟨hs, hl4, he⟩ := rdEr_ok HER.out
    have HSH := Lib.hid hs
    have HE := Lib.hid he
    have hn4 : n ≤ 4096 := by have := HN.out; omega
    have t0 := HK.out.one.1
    clear hs he hl4
    go_wp2_with fail
    refine (stylusOf_any w.heap.size Af nf cf s W2 (HL.out.below HB.out (Nat.le_refl _)) HB.out.size HSH.out).mono ?_
    rintro e w3 ⟨Ag, ng, cg, rfl, hg, hb3⟩
    have HG := Lib.hid hg
    replace HB := Lib.hid (HB.out.trans (hb3.mono HB.out.size))
    clear hg hb3 t0
    go_wp2_with fail
    obtain ⟨W3, hW3⟩ : ∃ W3, w3.alloc (.cells #[.slice Ag ng cg, .int .i64 ((s.length - 1 : Nat) : Int)] 107) = W3 := ⟨_, rfl⟩
    have hb3 : Below w3.heap.size w3 W3 := by rw [← hW3]; exact (Below.refl _ _).alloc (Nat.le_refl _) _
    have k3 : Blk W3 w3.heap.size 107 #[.slice Ag ng cg, .int .i64 ((s.length - 1 : Nat) : Int)] := by rw [← hW3]; exact Blk.new _ _ _
    have HK3 := Lib.hid k3
    replace HG := Lib.hid ((HG.out.below hb3 (Nat.le_refl _)).more hb3.size)
    have hs3 := HB.out.size
    replace HB := Lib.hid (HB.out.trans (hb3.mono HB.out.size))
    rw [hW3]
    clear hW3 hb3 k3
    refine (traceRead_any W3.heap.size s Ag A ng cg n c l W3 HG.out ((H.out.below HB.out (Nat.le_refl _)).more HB.out.size) (Nat.le_refl _) HSH.out HE.out hn4).mono ?_
    rintro e w4 ⟨A', n', k', rfl, hr, hc, hb4⟩
    have HR : Hid (RS w4 w4.heap.size A' n' (rdL s l)) := Lib.hid (by have h := hr; rw [HN.out] at h; exact h)
    replace HG := Lib.hid ((HG.out.below hb4 (Nat.le_refl _)).more hb4.size)
    replace HK3 := Lib.hid (HK3.out.below hb4 HK3.out.lt)
    replace HB := Lib.hid (HB.out.trans (hb4.mono HB.out.size))
    have hn' : n' = n := by have h := HR.out.1; rw [rdL_len] at h; rw [h]; exact HN.out.symm
    clear hr hb4
    subst hn'
    have g0 := (HK3.out.cell 0).trans rfl
    have g1 := (HK3.out.cell 1).trans rfl
    go_wp2_with fail
    refine (traceSweep_any w4.heap.size s Ag A' ng cg n' k' (rdL s l) w4 HG.out HR.out (Nat.le_refl _) HSH.out (rdL_edg HSH.out HE.out) (swL_edg HSH.out HE.out) hn4).mono ?_
    rintro e w5 ⟨A2, n2, k2, rfl, hr, hc2, hb5⟩
    have HR5 := Lib.hid hr
    have HB5 := Lib.hid (HB.out.trans (hb5.mono HB.out.size))
    clear hr hb5 g0 g1
    go_wp2
    go_ret2
    refine ⟨A2, n2, k2, rfl, ?_, hc2, HB5.out⟩
    rw [HRES.out]
    have h := HR5.out
    have hn := HR.out.1
    unfold swL
    rw [← hn]
    exact h
  · have q1 : (er_ != 0) = true := by rw [bne_iff_ne]; exact hz
    have HRES : Hid (swRes s l = []) := Lib.hid (by unfold swRes; rw [if_neg (by rw [HER.out]; exact hz)])
    clear hz
    go_wp2
    go_ret2
    exact ⟨none, 0, 0, rfl, by rw [HRES.out]; exact ⟨rfl, Reads.none_⟩, Nat.le_refl _, HB.out⟩
end Go.Proofs.Ytjdnpgilinfkgaa
