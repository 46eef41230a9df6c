/-
  TakeSounds, whatever its arguments.
-/
import Derived.Test.YtbcahkklhdnboaaV3
import Derived.Test.YtbcahkklhdnboaaV5
namespace Go.Proofs.Ytbcahkklhdnboaa
open Go.RowKit

set_option maxRecDepth 100000 in
set_option maxHeartbeats 4000000 in
theorem soundsLaw_any (A A' : Option Addr) (n c n' c' : Nat) (l : List TV) (ps : List Prt) (w : World) (h0 : RT w w.heap.size A n l) (g0 : RP w w.heap.size A' n' ps)
    (hl : n ≤ 9223372036854775807) (hl' : n' ≤ 9223372036854775807) (hs : TSm l) (hi : I64t l) :
    Calls Try.prog 6 #[.slice A n c, .slice A' n' c'] w fun e w' => e = .returned (.bool true) ∧ Below w.heap.size w w' := by
  by_cases hc : ckP l ps = 0
  · obtain ⟨z1, z2, z3, z4⟩ := ckP_zero l ps hc
    have hpr : ∀ p ∈ ps, PrOk p := fun p hp => prOk_of l z1 p (List.all_eq_true.1 z3 p hp)
    have hok : ∀ q ∈ placeL ps 0 0, PlOk q := placeL_ok ps hpr 0 0 (by omega) (by omega)
    have hbd := lenP_bd _ z4 hok
    have hN : lenP (placeL ps 0 0) = ((lenP (placeL ps 0 0)).toNat : Int) := by omega
    cases hv : vss (rend l (placeL ps 0 0))
    · refine sounds_4 A A' n c n' c' l ps _ (lenP (placeL ps 0 0)).toNat (rnEr l ps) (rnRes l ps) w ?_ h0 g0 hl hl' hs hi hc rfl hN ?_ ⟨rfl, rfl⟩
      · unfold rnEr; rw [if_pos hc, hv]; simp
      · unfold rnEr rnRes
        rw [if_pos hc, if_pos hc, hv]
        exact .inr ⟨rfl, by simp, by simp⟩
    · refine sounds_0 A A' n c n' c' l ps _ (lenP (placeL ps 0 0)).toNat (rnEr l ps) (rnRes l ps) w ?_ h0 g0 hl hl' hs hi hc rfl hN ?_ ⟨rfl, rfl⟩
      · unfold rnEr; rw [if_pos hc, hv]; simp
      · unfold rnEr rnRes
        rw [if_pos hc, if_pos hc, hv]
        exact .inl ⟨rfl, by simp, by simp⟩
  · have H := Lib.hid h0
    have G := Lib.hid g0
    have HS := Lib.hid hs
    have HI := Lib.hid hi
    have PR := Lib.hid (fun W (h : RT W W.heap.size A n l) (g : RP W W.heap.size A' n' ps) => refCheckProgramme_any _ A A' n c n' c' l ps W h g (Nat.le_refl _) hl hl' HS.out HI.out)
    have HGR := Lib.hid (great_any _ A A' n c n' c' l w H.out (Nat.le_refl _) hl hl' HS.out)
    obtain ⟨e0, he0⟩ : ∃ e, ckP l ps = e := ⟨_, rfl⟩
    rw [he0] at PR hc
    have hc1 : (e0 == 0) = false := by simp; exact hc
    have hc2 : decide (e0 = 0) = false := by simp; exact hc
    have hc3 : (e0 != 0) = true := by simp; exact hc
    clear h0 g0 hs hi he0
    go_enter Try.func6, Try.ntmps6
    go_wp2_with fail
    refine HGR.out.mono ?_
    rintro e w1 ⟨b, rfl, hb1⟩
    have HB1 := Lib.hid hb1
    clear hb1
    cases b
    rotate_left
    · go_wp2_with fail
      refine (Works_any _).mono ?_
      rintro e w2 ⟨rfl, hb2⟩
      go_wp2
      go_ret
      exact ⟨rfl, HB1.out.trans (hb2.mono HB1.out.size)⟩
    go_wp2_with fail
    refine (PR.out _ ((H.out.below HB1.out (Nat.le_refl _)).more HB1.out.size) ((G.out.below HB1.out (Nat.le_refl _)).more HB1.out.size)).mono ?_
    rintro e w2 ⟨rfl, hb2⟩
    have HB2 := Lib.hid (HB1.out.trans (hb2.mono HB1.out.size))
    clear hb2
    go_wp2_with fail
    refine (Works_any _).mono ?_
    rintro e w3 ⟨rfl, hb3⟩
    go_wp2
    go_ret
    exact ⟨rfl, HB2.out.trans (hb3.mono HB2.out.size)⟩
end Go.Proofs.Ytbcahkklhdnboaa
