/-
  The document's Miss.
-/
import Derived.Test.YtpcamnblpfccjaaMV
namespace Go.Proofs.Ytpcamnblpfccjaa
open Go.RowKit

set_option maxRecDepth 100000 in
set_option maxHeartbeats 2000000 in
theorem refMissP_any (B : Nat) (Af A : Option Addr) (nf cf n c : Nat) (s : List Int) (l : List Smp) (w : World) (hL : LI w B Af nf s) (h0 : RS w B A n l) (hB : B ≤ w.heap.size) (hf : nf ≤ 9223372036854775807) (hl : n ≤ 9223372036854775807) :
    Calls Try.prog 23 #[.agg #[.slice Af nf cf], .slice A n c] w fun e w' => e = .returned (.tuple #[.int .i64 (miI s l), .int .i64 (miU s l), .int .i64 (miE s l)]) ∧ Below w.heap.size w w' := by
  have HN := Lib.hid h0.1
  have H := Lib.hid (h0.more hB)
  have HL := Lib.hid (hL.more hB)
  clear h0 hL hB
  have BO := Lib.hid (fun W (hb : Below w.heap.size w W) => refBoth_any w.heap.size Af A nf cf n c s l W (HL.out.below hb (Nat.le_refl _)) (H.out.below hb (Nat.le_refl _)) hb.size hf hl)
  obtain ⟨er_, h5⟩ : ∃ x, rdEr s l = x := ⟨_, rfl⟩
  have HER := Lib.hid h5
  rw [h5] at BO
  clear h5
  go_enter Try.func23, Try.ntmps23
  go_wp2_with fail
  refine (BO.out _ ((Below.refl _ _).alloc (Nat.le_refl _) _)).mono ?_
  rintro e w1 ⟨rfl, hb1⟩
  have k0 : Blk w1 w.heap.size 24 #[.slice Af nf cf] := (Blk.new _ _ _).below hb1 (by simp)
  have HB := Lib.hid (((Below.refl _ w).alloc (Nat.le_refl _) (.cells #[.slice Af nf cf] 24)).trans (hb1.mono (by simp)))
  have t0 := k0.one.1
  clear hb1 k0 BO
  by_cases hz : er_ = 0
  · subst hz
    obtain ⟨hs, hl4, he⟩ := rdEr_ok HER.out
    have HSH := Lib.hid hs
    have HE := Lib.hid he
    have hn4 : n ≤ 4096 := by have := HN.out; omega
    clear hs he hl4
    go_wp2_with fail
    refine (refMissIn_any w.heap.size Af A nf cf n c s l w1 (HL.out.below HB.out (Nat.le_refl _)) (H.out.below HB.out (Nat.le_refl _)) HB.out.size HSH.out HE.out hn4).mono ?_
    rintro e w4 ⟨rfl, hb4⟩
    have HB4 := Lib.hid (HB.out.trans (hb4.mono HB.out.size))
    clear hb4
    cases hm : miL s l with
    | none =>
      have HI := Lib.hid (mi_none HER.out hm)
      clear hm
      go_wp2
      refine bodyPost_ret (results_tmp3 rfl _ _ _) rfl ?_
      exact ⟨by rw [HI.out.1, HI.out.2.1, HI.out.2.2]; rfl, HB4.out⟩
    | some iu =>
      obtain ⟨i, u⟩ := iu
      have HI := Lib.hid (mi_some HER.out hm)
      clear hm
      go_wp2
      refine bodyPost_ret (results_tmp3 rfl _ _ _) rfl ?_
      exact ⟨by rw [HI.out.1, HI.out.2.1, HI.out.2.2]; rfl, HB4.out⟩
  · have q1 : (er_ != 0) = true := by rw [bne_iff_ne]; exact hz
    have HI : Hid (miI s l = 0 ∧ miU s l = 0 ∧ miE s l = er_) := Lib.hid (by unfold miI miU miE; rw [HER.out, if_neg hz, if_neg hz, if_neg hz]; exact ⟨rfl, rfl, rfl⟩)
    clear hz
    go_wp2
    refine bodyPost_ret (results_tmp3 rfl _ _ _) rfl ?_
    exact ⟨by rw [HI.out.1, HI.out.2.1, HI.out.2.2]; rfl, HB.out⟩
end Go.Proofs.Ytpcamnblpfccjaa
