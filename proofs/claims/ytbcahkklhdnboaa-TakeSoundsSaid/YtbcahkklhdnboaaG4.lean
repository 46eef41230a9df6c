/-
  Contract of the document's CheckProgramme.
-/
import Derived.Test.YtbcahkklhdnboaaG3
import Derived.Test.YtbcahkklhdnboaaD4
namespace Go.Proofs.Ytbcahkklhdnboaa
open Go.RowKit

set_option maxRecDepth 100000 in
set_option maxHeartbeats 4000000 in
theorem refCheckProgramme_any (B : Nat) (A A' : Option Addr) (n c n' c' : Nat) (l : List TV) (ps : List Prt) (w : World) (h0 : RT w B A n l) (g0 : RP w B A' n' ps) (hB : B ≤ w.heap.size)
    (hl : n ≤ 9223372036854775807) (hl' : n' ≤ 9223372036854775807) (hs : TSm l) (hi : I64t l) :
    Calls Try.prog 19 #[.slice A n c, .slice A' n' c'] w fun e w' => e = .returned (.int .i64 (ckP l ps)) ∧ Below w.heap.size w w' := by
  have H := Lib.hid (h0.more hB)
  have G := Lib.hid (g0.more hB)
  have HS := Lib.hid hs
  have HI := Lib.hid hi
  obtain ⟨hn, -⟩ := g0
  have HN := Lib.hid hn
  clear hB hs hi h0 hn
  by_cases hc : ckT l = 0
  · have hr : ckP l ps = if 32 < ps.length then 6 else if ps.all (vPart l) = false then 2 else if poss (placeL ps 0 0) = false then 15 else 0 := by unfold ckP; rw [if_pos hc]
    have HC := Lib.hid hc
    have HR := Lib.hid hr
    clear hc hr
    by_cases h32 : 32 < n'
    · go_enter Try.func19, Try.ntmps19
      go_wp2_with fail
      refine (refCheckTakes_any _ _ _ _ l _ H.out (Nat.le_refl _) hl HS.out HI.out).mono ?_
      rintro e w1 ⟨rfl, hb1⟩
      rw [HC.out]
      go_wp2
      go_ret
      exact ⟨ret_i (by rw [HR.out, if_pos (by have := HN.out; omega)]), hb1⟩
    · have HR2 : Hid (ckP l ps = if ps.all (vPart l) = false then 2 else if poss (placeL ps 0 0) = false then 15 else 0) := Lib.hid (by rw [HR.out, if_neg (by have := HN.out; omega)])
      go_enter Try.func19, Try.ntmps19
      go_wp2_with fail
      refine (refCheckTakes_any _ _ _ _ l _ H.out (Nat.le_refl _) hl HS.out HI.out).mono ?_
      rintro e w1 ⟨rfl, hb1⟩
      rw [HC.out]
      go_wp2_with fail
      go_loopw [5] (fun i wr => ∃ k : Nat, k ≤ n' ∧ i = .int .i64 k ∧ Below w.heap.size w wr ∧ Hid ((ps.take k).all (vPart l) = true)) (fun i wr => n' - (intOf i).toNat)
      case atStart => exact ⟨0, Nat.zero_le _, rfl, hb1, Lib.hid rfl⟩
      case round =>
        clear hb1
        obtain ⟨k, hk, rfl, hb, hv⟩ := hrel
        have zz := hb.size
        by_cases hlt : k < n'
        · have hkR : k < ps.length := by have := HN.out; omega
          obtain ⟨ad, hA, hbl, p0, p1, p2, p3, p4, p5, p6⟩ := (G.out.below hb (Nat.le_refl _)).at_ hkR
          obtain rfl := hA
          obtain ⟨p, hpp⟩ : ∃ p, p = ps[k]'hkR := ⟨_, rfl⟩
          rw [← hpp] at p0 p1 p2 p3 p4 p5 p6
          have HPP := Lib.hid hpp
          clear hpp
          cases hx : vPart l p
          all_goals
            have HX := Lib.hid hx
            clear hx
            go_wp2_with fail
            refine (refPart_any _ _ _ _ l p _ (H.out.below hb (Nat.le_refl _)) hb.size).mono ?_
            rintro e w2 ⟨rfl, hb2⟩
            rw [HX.out]
            have hbw : Below w.heap.size w w2 := hb.trans (hb2.mono hb.size)
            clear hb2
            go_wp2
          · go_ret
            exact ⟨ret_i (by rw [HR2.out, show ps.all (vPart l) = false from by rw [List.all_eq_false]; exact ⟨_, List.getElem_mem hkR, by rw [← HPP.out, HX.out]; simp⟩]; rfl), hbw⟩
          · go_roundw
            case rel => exact ⟨k + 1, by omega, by go_num, hbw, Lib.hid (by rw [List.take_succ_eq_append_getElem hkR, List.all_append, hv.out, ← HPP.out]; simp [HX.out])⟩
            case measure => simp [intOf]; omega
        · have hall : ps.all (vPart l) = true := by
            have := hv.out
            rw [List.take_of_length_le (by have := HN.out; omega)] at this
            exact this
          have hpr : ∀ p ∈ ps, PrOk p := fun p hp => prOk_of l HC.out p (List.all_eq_true.1 hall p hp)
          have HALL := Lib.hid hall
          have HPR := Lib.hid hpr
          have h32' : ps.length ≤ 32 := by have := HN.out; omega
          have H32 := Lib.hid h32'
          clear hall hpr h32'
          cases hx : poss (placeL ps 0 0)
          all_goals
            have HX := Lib.hid hx
            clear hx
            go_wp2_with fail
            refine (refPossible_any _ _ _ _ ps _ (G.out.below hb (Nat.le_refl _)) hb.size H32.out HPR.out).mono ?_
            rintro e w3 ⟨rfl, hb3⟩
            rw [HX.out]
            go_wp2
            go_ret
            exact ⟨ret_i (by rw [HR2.out, HALL.out, HX.out]; rfl), hb.trans (hb3.mono hb.size)⟩
  · have hr : ckP l ps = ckT l := by unfold ckP; rw [if_neg hc]
    have hc1 : (ckT l == 0) = false := by simpa using hc
    have hc2 : (ckT l != 0) = true := by simpa using hc
    rw [hr]
    clear hc hr
    obtain ⟨q, hq⟩ : ∃ q, q = ckT l := ⟨_, rfl⟩
    rw [← hq] at hc1 hc2 ⊢
    have HQ := Lib.hid hq
    clear hq
    go_enter Try.func19, Try.ntmps19
    go_wp2_with fail
    refine (refCheckTakes_any _ _ _ _ l _ H.out (Nat.le_refl _) hl HS.out HI.out).mono ?_
    rintro e w1 ⟨rfl, hb1⟩
    rw [← HQ.out]
    go_wp2_with fail
    refine (refCheckTakes_any _ _ _ _ l _ (H.out.below hb1 (Nat.le_refl _)) hb1.size hl HS.out HI.out).mono ?_
    rintro e w2 ⟨rfl, hb2⟩
    rw [← HQ.out]
    go_wp2
    go_ret
    exact ⟨rfl, hb1.trans (hb2.mono hb1.size)⟩
end Go.Proofs.Ytbcahkklhdnboaa
