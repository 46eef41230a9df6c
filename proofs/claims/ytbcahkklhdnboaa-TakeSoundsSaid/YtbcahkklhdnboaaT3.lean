/-
  Contract of the document's Sources.
-/
import Derived.Test.YtbcahkklhdnboaaT2
namespace Go.Proofs.Ytbcahkklhdnboaa
open Go.RowKit

set_option maxRecDepth 100000 in
set_option maxHeartbeats 4000000 in
theorem refSourcesAll_any (B : Nat) (A A' : Option Addr) (n c n' c' : Nat) (l : List TV) (ps : List Prt) (t : Int) (w : World) (h0 : RT w B A n l) (g0 : RP w B A' n' ps) (hB : B ≤ w.heap.size)
    (hl : n ≤ 9223372036854775807) (hl' : n' ≤ 9223372036854775807) (hs : TSm l) (hi : I64t l) :
    Calls Try.prog 21 #[.slice A n c, .slice A' n' c', .int .i64 t] w (SrcsPost w (soEr l ps t) (soL l ps t)) := by
  have G := Lib.hid (g0.more hB)
  have HST := Lib.hid (refStartsAll_any _ _ _ _ c _ c' l ps w (h0.more hB) G.out (Nat.le_refl _) hl hl' hs hi)
  clear h0 g0 hs hi hB
  by_cases hc : ckP l ps = 0
  · obtain ⟨z1, z2, z3, z4⟩ := ckP_zero l ps hc
    have HPR : Hid (∀ p ∈ ps, PrOk p) := Lib.hid (fun p hp => prOk_of l z1 p (List.all_eq_true.1 z3 p hp))
    have HOK : Hid (∀ q ∈ placeL ps 0 0, PlOk q) := Lib.hid (placeL_ok ps HPR.out 0 0 (by omega) (by omega))
    have hbd := lenP_bd _ z4 HOK.out
    have HSR : stsR l ps = placeL ps 0 0 := by unfold stsR; rw [if_pos hc]
    have H32 := Lib.hid z2
    have e1 : soEr l ps t = if t < 0 then 3 else if lenP (placeL ps 0 0) ≤ t then 3 else 0 := by unfold soEr; rw [if_pos hc]
    have e2 : soL l ps t = if soEr l ps t = 0 then sndL (placeL ps 0 0) t else [] := rfl
    rw [hc, HSR] at HST
    obtain ⟨R, hR⟩ : ∃ R, placeL ps 0 0 = R := ⟨_, rfl⟩
    rw [hR] at HST e1 e2 hbd
    have HR := Lib.hid hR
    obtain ⟨en, hen⟩ : ∃ en, lenP R = en := ⟨_, rfl⟩
    rw [hen] at e1 hbd
    obtain ⟨b0, b4⟩ := hbd
    have HEN := Lib.hid hen
    clear hc z1 z2 z3 z4 HSR hR hen
    by_cases t0 : t < 0
    · rw [if_pos t0] at e1
      rw [e1, if_neg (by omega)] at e2
      rw [e1, e2]
      have t0' : decide (t < 0) = true := decide_eq_true t0
      clear e1 e2
      go_enter Try.func21, Try.ntmps21
      go_wp2_with fail
      refine HST.out.mono ?_
      rintro e w1 ⟨A1, c1, rfl, hrd, hb1⟩
      rw [HEN.out]
      clear hrd
      go_wp2
      go_ret2
      exact srcs_nil hb1
    have t0' : decide (t < 0) = false := decide_eq_false t0
    by_cases t1 : en ≤ t
    · rw [if_neg t0, if_pos t1] at e1
      rw [e1, if_neg (by omega)] at e2
      rw [e1, e2]
      clear e1 e2
      go_enter Try.func21, Try.ntmps21
      go_wp2_with fail
      refine HST.out.mono ?_
      rintro e w1 ⟨A1, c1, rfl, hrd, hb1⟩
      rw [HEN.out]
      clear hrd
      go_wp2
      go_ret2
      exact srcs_nil hb1
    · have t1' : decide (en ≤ t) = false := decide_eq_false t1
      rw [if_neg t0, if_neg t1] at e1
      rw [e1, if_pos rfl] at e2
      rw [e1, e2]
      clear e1 e2
      go_enter Try.func21, Try.ntmps21
      go_wp2_with fail
      refine HST.out.mono ?_
      rintro e w1 ⟨A1, c1, rfl, hrd, hb1⟩
      rw [HEN.out]
      clear hrd
      go_wp2_with fail
      refine (refSources_any _ _ _ _ ps t _ (G.out.below hb1 (Nat.le_refl _)) hb1.size H32.out HPR.out (by omega) (by omega)).mono ?_
      rintro e w2 ⟨v, rfl, hown, hb2⟩
      rw [HR.out] at hown
      have HO := Lib.hid (own_base hown hb1.size)
      have HBW := Lib.hid (hb1.trans (hb2.mono hb1.size))
      clear hown hb1 hb2
      go_wp2
      go_ret2
      exact ⟨v, rfl, HO.out, HBW.out⟩
  · have e1 : soEr l ps t = ckP l ps := by unfold soEr; rw [if_neg hc]
    have e2 : soL l ps t = [] := by unfold soL; rw [e1, if_neg hc]
    have hsr : stsR l ps = [] := by unfold stsR; rw [if_neg hc]
    rw [e1, e2]
    rw [hsr] at HST
    have hc1 : (ckP l ps == 0) = false := by simpa using hc
    have hc2 : (ckP l ps != 0) = true := by simpa using hc
    clear hc e1 e2 hsr
    obtain ⟨q, hq⟩ : ∃ q, ckP l ps = q := ⟨_, rfl⟩
    rw [hq] at hc1 hc2 HST ⊢
    clear hq
    go_enter Try.func21, Try.ntmps21
    go_wp2_with fail
    refine HST.out.mono ?_
    rintro e w1 ⟨A1, c1, rfl, hrd, hb1⟩
    clear hrd
    go_wp2
    go_ret2
    exact srcs_nil hb1
end Go.Proofs.Ytbcahkklhdnboaa
