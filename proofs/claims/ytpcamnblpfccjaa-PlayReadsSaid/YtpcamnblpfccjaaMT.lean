/-
  The document's Read.
-/
import Derived.Test.YtpcamnblpfccjaaMS
namespace Go.Proofs.Ytpcamnblpfccjaa
open Go.RowKit

set_option maxRecDepth 100000 in
set_option maxHeartbeats 2000000 in
theorem refReadP_any (B : Nat) (Af A : Option Addr) (nf cf n c : Nat) (s : List Int) (l : List Smp) (w : World) (hL : LI w B Af nf s) (h0 : RS w B A n l) (hB : B ≤ w.heap.size) (hf : nf ≤ 9223372036854775807) (hl : n ≤ 9223372036854775807) :
    Calls Try.prog 18 #[.agg #[.slice Af nf cf], .slice A n c] w (PtsPost w (rdEr s l) (rdRes s l)) := by
  have HN := Lib.hid h0.1
  have H := Lib.hid (h0.more hB)
  have HL := Lib.hid (hL.more hB)
  clear h0 hL hB
  have BO := Lib.hid (fun W (hb : Below w.heap.size w W) => refBoth_any w.heap.size Af A nf cf n c s l W (HL.out.below hb (Nat.le_refl _)) (H.out.below hb (Nat.le_refl _)) hb.size hf hl)
  obtain ⟨er_, h5⟩ : ∃ x, rdEr s l = x := ⟨_, rfl⟩
  have HER := Lib.hid h5
  rw [h5] at BO
  rw [h5]
  clear h5
  go_enter Try.func18, Try.ntmps18
  go_wp2_with fail
  refine (BO.out _ ((Below.refl _ _).alloc (Nat.le_refl _) _)).mono ?_
  rintro e w1 ⟨rfl, hb1⟩
  have k0 : Blk w1 w.heap.size 24 #[.slice Af nf cf] := (Blk.new _ _ _).below hb1 (by simp)
  have HB := Lib.hid (((Below.refl _ w).alloc (Nat.le_refl _) (.cells #[.slice Af nf cf] 24)).trans (hb1.mono (by simp)))
  have t0 := k0.one.1
  clear hb1 k0 BO
  by_cases hz : er_ = 0
  · subst hz
    have HRES : Hid (rdRes s l = rdL s l) := Lib.hid (by unfold rdRes; rw [if_pos HER.out])
    obtain ⟨hs, hl4, he⟩ := rdEr_ok HER.out
    have HSH := Lib.hid hs
    have HE := Lib.hid he
    have hn4 : n ≤ 4096 := by have := HN.out; omega
    clear hs he hl4
    go_wp2_with fail
    refine (refReadIn_any w.heap.size Af A nf cf n c s l w1 (HL.out.below HB.out (Nat.le_refl _)) (H.out.below HB.out (Nat.le_refl _)) HB.out.size HSH.out HE.out hn4).mono ?_
    rintro e w4 ⟨A', n', k', rfl, hr, hc, hb4⟩
    have HR := Lib.hid hr
    have HB4 := Lib.hid (HB.out.trans (hb4.mono HB.out.size))
    clear hr hb4
    go_wp2
    go_ret2
    exact ⟨A', n', k', rfl, by rw [HRES.out]; exact HR.out, hc, HB4.out⟩
  · have q1 : (er_ != 0) = true := by rw [bne_iff_ne]; exact hz
    have HRES : Hid (rdRes s l = []) := Lib.hid (by unfold rdRes; rw [if_neg (by rw [HER.out]; exact hz)])
    clear hz
    go_wp2
    go_ret2
    exact ⟨none, 0, 0, rfl, by rw [HRES.out]; exact ⟨rfl, Reads.none_⟩, Nat.le_refl _, HB.out⟩
end Go.Proofs.Ytpcamnblpfccjaa
