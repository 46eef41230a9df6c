/-
  Miss of package play.
-/
import Derived.Test.YtjdnpgilinfkgaaMA
import Derived.Test.YtjdnpgilinfkgaaML
namespace Go.Proofs.Ytjdnpgilinfkgaa
open Go.RowKit

/-- The first sample that a tip misses, and the first one because of which it does. -/
def miL (s : List Int) (l : List Smp) : Option (Nat × Nat) := (List.range l.length).findSome? fun i => (msU s l i).map fun u => (i, u)
theorem miL_none {s : List Int} {l : List Smp} (h : ∀ i, i < l.length → msU s l i = none) : miL s l = none := by
  unfold miL
  rw [List.findSome?_eq_none_iff]
  intro i hi
  rw [h i (List.mem_range.1 hi)]; rfl
theorem miL_some {s : List Int} {l : List Smp} {i u : Nat} (hi : i < l.length) (h : ∀ j, j < i → msU s l j = none) (hu : msU s l i = some u) : miL s l = some (i, u) := by
  unfold miL
  obtain ⟨d, rfl⟩ : ∃ d, d = l.length - (i + 1) := ⟨_, rfl⟩
  rw [show l.length = i + (1 + (l.length - (i + 1))) by omega, List.range_add, List.findSome?_append, List.findSome?_eq_none_iff.2 (fun j hj => by rw [h j (List.mem_range.1 hj)]; rfl)]
  rw [Nat.add_comm 1, List.range_succ_eq_map]
  simp [hu]
def miI (s : List Int) (l : List Smp) : Nat := if rdEr s l = 0 then ((miL s l).getD (0, 0)).1 else 0
def miU (s : List Int) (l : List Smp) : Nat := if rdEr s l = 0 then ((miL s l).getD (0, 0)).2 else 0
def miE (s : List Int) (l : List Smp) : Int := if rdEr s l = 0 then (if miL s l = none then 5 else 0) else rdEr s l

set_option maxRecDepth 100000 in
set_option maxHeartbeats 4000000 in
theorem Miss_any (B : Nat) (Af A : Option Addr) (nf cf n c : Nat) (s : List Int) (l : List Smp) (w : World) (hL : LI w B Af nf s) (h0 : RS w B A n l) (hB : B ≤ w.heap.size) (hf : nf ≤ 9223372036854775807) (hl : n ≤ 9223372036854775807) :
    Calls Try.prog 40 #[.agg #[.slice Af nf cf], .slice A n c] w fun e w' => e = .returned (.tuple #[.int .i64 (miI s l), .int .i64 (miU s l), .int .i64 (miE s l)]) ∧ Below w.heap.size w w' := by
  have HN := Lib.hid h0.1
  have H := Lib.hid (h0.more hB)
  have HL := Lib.hid (hL.more hB)
  clear h0 hL hB
  have CT := Lib.hid (fun W (hb : Below w.heap.size w W) => CheckTip_any w.heap.size Af nf cf s W (HL.out.below hb (Nat.le_refl _)) hb.size hf)
  have CG := Lib.hid (fun W (hb : Below w.heap.size w W) => CheckPoints_any w.heap.size A n c l W (H.out.below hb (Nat.le_refl _)) hb.size hl)
  have he : rdEr s l = orL [ckTip s, ckG l] := rfl
  obtain ⟨e1, h1⟩ : ∃ x, ckTip s = x := ⟨_, rfl⟩
  obtain ⟨e2, h2⟩ : ∃ x, ckG l = x := ⟨_, rfl⟩
  rw [h1] at CT
  rw [h2] at CG
  rw [h1, h2] at he
  obtain ⟨er_, h5⟩ : ∃ x, orL [e1, e2] = x := ⟨_, rfl⟩
  rw [h5] at he
  have HER := Lib.hid he
  have HOR := Lib.hid (fun B A n c W h1 h2 h3 h4 => cmpOr_any B A n c [e1, e2] W h1 h2 h3 h4)
  rw [h5] at HOR
  clear h1 h2 h5 he
  go_enter Try.func40, Try.ntmps40
  go_wp2_with fail
  refine (CT.out _ ((Below.refl _ _).alloc (Nat.le_refl _) _)).mono ?_
  rintro e w1 ⟨rfl, hb1⟩
  have k0 : Blk w1 w.heap.size 24 #[.slice Af nf cf] := (Blk.new _ _ _).below hb1 (by simp)
  have HK := Lib.hid k0
  have HB := Lib.hid (((Below.refl _ w).alloc (Nat.le_refl _) (.cells #[.slice Af nf cf] 24)).trans (hb1.mono (by simp)))
  clear hb1 k0
  go_wp2_with fail
  refine (CG.out _ HB.out).mono ?_
  rintro e w2 ⟨rfl, hb1⟩
  replace HK := Lib.hid (HK.out.below hb1 HK.out.lt)
  replace HB := Lib.hid (HB.out.trans (hb1.mono HB.out.size))
  clear hb1
  go_wp2_with fail
  refine (HOR.out _ _ _ _ _ rfl (reads_cells (blk_al rfl) (Nat.lt_succ_self _) (by rfl) (by rfl)) (by simp) (by simp)).mono ?_
  rintro e w' ⟨rfl, rfl⟩
  obtain ⟨W2, hW2⟩ : ∃ W2, w2.alloc (.cells #[.int .i64 e1, .int .i64 e2] 26) = W2 := ⟨_, rfl⟩
  replace HK : Hid (Blk W2 w.heap.size 24 #[.slice Af nf cf]) := Lib.hid (by rw [← hW2]; exact HK.out.alloc _)
  replace HB : Hid (Below w.heap.size w W2) := Lib.hid (by rw [← hW2]; exact HB.out.alloc HB.out.size _)
  rw [hW2]
  clear hW2 CT CG HOR
  by_cases hz : er_ = 0
  · subst hz
    have HI : Hid (miI s l = ((miL s l).getD (0, 0)).1 ∧ miU s l = ((miL s l).getD (0, 0)).2 ∧ miE s l = if miL s l = none then 5 else 0) := Lib.hid (by unfold miI miU miE; rw [if_pos HER.out, if_pos HER.out, if_pos HER.out]; exact ⟨rfl, rfl, rfl⟩)
    obtain ⟨hs, hl4, he⟩ := rdEr_ok HER.out
    have HSH := Lib.hid hs
    have HE := Lib.hid he
    have hn4 : n ≤ 4096 := by have := HN.out; omega
    have t0 := HK.out.one.1
    clear hs he hl4
    go_wp2_with fail
    refine (stylusOf_any w.heap.size Af nf cf s W2 (HL.out.below HB.out (Nat.le_refl _)) HB.out.size HSH.out).mono ?_
    rintro e w3 ⟨Ag, ng, cg, rfl, hg, hb3⟩
    have HG := Lib.hid hg
    replace HB := Lib.hid (HB.out.trans (hb3.mono HB.out.size))
    clear hg hb3 t0
    go_wp2_with fail
    obtain ⟨W3, hW3⟩ : ∃ W3, w3.alloc (.cells #[.slice Ag ng cg, .int .i64 ((s.length - 1 : Nat) : Int)] 107) = W3 := ⟨_, rfl⟩
    have hb3 : Below w3.heap.size w3 W3 := by rw [← hW3]; exact (Below.refl _ _).alloc (Nat.le_refl _) _
    have k3 : Blk W3 w3.heap.size 107 #[.slice Ag ng cg, .int .i64 ((s.length - 1 : Nat) : Int)] := by rw [← hW3]; exact Blk.new _ _ _
    have HK3 := Lib.hid k3
    replace HG := Lib.hid ((HG.out.below hb3 (Nat.le_refl _)).more hb3.size)
    have hs3 := HB.out.size
    replace HB := Lib.hid (HB.out.trans (hb3.mono HB.out.size))
    rw [hW3]
    have HSZ : Hid (w.heap.size ≤ W3.heap.size) := Lib.hid HB.out.size
    clear hW3 hb3 k3
    go_loopw [25] (fun z wr => ∃ j : Nat, j ≤ n ∧ z = .int .i64 j ∧ Hid (Below w.heap.size w wr) ∧ Hid (Below W3.heap.size W3 wr) ∧ Hid (∀ q, q < j → msU s l q = none)) (fun z _ => n - (intOf z).toNat)
    case atStart => exact ⟨0, Nat.zero_le _, rfl, HB, Lib.hid (Below.refl _ _), Lib.hid (fun q hq => absurd hq (by omega))⟩
    case round =>
      clear HB
      obtain ⟨j, hj, rfl, HB, HW, HV⟩ := hrel
      by_cases hlt : j < n
      · have g0 := ((HK3.out.below HW.out HK3.out.lt).cell 0).trans rfl
        have g1 := ((HK3.out.below HW.out HK3.out.lt).cell 1).trans rfl
        have CALL := missed_any W3.heap.size s Ag A ng cg n c j l wr (HG.out.below HW.out (Nat.le_refl _)) ((H.out.below HB.out (Nat.le_refl _)).more HSZ.out) HW.out.size HSH.out HE.out hlt hn4
        cases hm : msU s l j with
        | none =>
          rw [hm] at CALL
          have HM := Lib.hid hm
          clear hm
          go_wp2_with fail
          refine CALL.mono ?_
          rintro e w8 ⟨rfl, hb8⟩
          replace HB := Lib.hid (HB.out.trans (hb8.mono HB.out.size))
          replace HW := Lib.hid (HW.out.trans (hb8.mono HW.out.size))
          clear CALL hb8 g0 g1
          go_wp2
          go_roundw
          case rel => exact ⟨j + 1, by omega, by go_num, HB, HW, Lib.hid (fun q hq => by
            rcases Nat.lt_or_ge q j with h | h
            · exact HV.out q h
            · rw [show q = j by omega]; exact HM.out)⟩
          case measure => simp [intOf]; omega
        | some u =>
          rw [hm] at CALL
          have HM := Lib.hid (miL_some (by have := HN.out; omega) HV.out hm)
          clear hm
          go_wp2_with fail
          refine CALL.mono ?_
          rintro e w8 ⟨rfl, hb8⟩
          replace HB := Lib.hid (HB.out.trans (hb8.mono HB.out.size))
          clear CALL hb8 g0 g1
          go_wp2
          refine bodyPost_ret (results_tmp3 rfl _ _ _) rfl ?_
          exact ⟨by rw [HI.out.1, HI.out.2.1, HI.out.2.2, HM.out]; rfl, HB.out⟩
      · have HM := Lib.hid (miL_none (fun q hq => HV.out q (by have := HN.out; omega)))
        go_wp2
        refine bodyPost_ret (results_tmp3 rfl _ _ _) rfl ?_
        exact ⟨by rw [HI.out.1, HI.out.2.1, HI.out.2.2, HM.out]; rfl, HB.out⟩
  · have q1 : (er_ != 0) = true := by rw [bne_iff_ne]; exact hz
    have HI : Hid (miI s l = 0 ∧ miU s l = 0 ∧ miE s l = er_) := Lib.hid (by unfold miI miU miE; rw [HER.out, if_neg hz, if_neg hz, if_neg hz]; exact ⟨rfl, rfl, rfl⟩)
    clear hz
    go_wp2
    refine bodyPost_ret (results_tmp3 rfl _ _ _) rfl ?_
    exact ⟨by rw [HI.out.1, HI.out.2.1, HI.out.2.2]; rfl, HB.out⟩
end Go.Proofs.Ytjdnpgilinfkgaa
