/-
  The walk of LatheOutermost.
-/
import Derived.Test.YtgdkcbnpgpjnbaaL16
import Derived.Test.YtgdkcbnpgpjnbaaL19
namespace Go.Proofs.Ytgdkcbnpgpjnbaa
open Go.RowKit

set_option maxRecDepth 100000 in
set_option maxHeartbeats 8000000 in
theorem outermost_walk (B : Nat) (A AR : Option Addr) (n c m d : Nat) (b : Bk) (P : List Smp) (R : List Int) (w : World) (h0 : RS w B A n P) (h1 : LI w B AR m R) (hB : B ≤ w.heap.size) (hl : n ≤ 9223372036854775807) (hl' : m ≤ 9223372036854775807) :
    Calls Try.prog 7 #[.agg #[.int .i64 b.per, .int .i64 b.rim, .int .i64 b.core, .int .i64 b.land, .int .i64 b.slow, .int .i64 b.fast], .slice A n c, .slice AR m d] w fun e w' => e = .returned (.bool true) ∧ Below w.heap.size w w' := by
  
  have HP := Lib.hid (h0.more hB)
  have HR := Lib.hid (h1.more hB)
  have HN := Lib.hid h0.1
  have HM := Lib.hid h1.1
  clear h0 h1 hB
  go_enter Try.func7, Try.ntmps7
  go_upto_region 1 with fail
  obtain ⟨w0, hW⟩ : ∃ W, w.alloc (.cells #[.int .i64 b.per, .int .i64 b.rim, .int .i64 b.core, .int .i64 b.land, .int .i64 b.slow, .int .i64 b.fast] 23) = W := ⟨_, rfl⟩
  have hb0 : Below w.heap.size w w0 := by rw [← hW]; exact below_a _ _
  have k0 : Blk w0 w.heap.size 23 #[.int .i64 b.per, .int .i64 b.rim, .int .i64 b.core, .int .i64 b.land, .int .i64 b.slow, .int .i64 b.fast] := by rw [← hW]; exact Blk.new _ _ _
  rw [hW]
  have HB := Lib.hid hb0
  have HK := Lib.hid k0
  obtain ⟨c0, c1, c2, c3, c4, c5⟩ := k0.six
  clear hW hb0 k0
  cases hv : vldG b P with
  | false =>
    have HV := Lib.hid hv
    clear hv
    go_wp2_with fail
    have CALL := valid5_any w.heap.size A n c b P w0 (HP.out.below HB.out (Nat.le_refl _)) HB.out.size hl
    refine CALL.mono ?_
    rintro e w1 ⟨rfl, hb⟩
    clear CALL
    replace HK := Lib.hid (HK.out.below hb HK.out.lt)
    replace HB := Lib.hid (HB.out.trans (hb.mono HB.out.size))
    clear hb c0 c1 c2 c3 c4 c5
    obtain ⟨c0, c1, c2, c3, c4, c5⟩ := HK.out.six
    rw [HV.out]
    go_wp2_with fail
    refine (works5_any _).mono ?_
    rintro e w2 ⟨rfl, hb⟩
    replace HB := Lib.hid (HB.out.trans (hb.mono HB.out.size))
    clear hb
    go_wp2
    go_ret
    exact ⟨rfl, HB.out⟩
  | true =>
    have HV := Lib.hid hv
    by_cases hm : 100 < m
    · have hm1 : ((m : Int) > 100) := by omega
      clear hv
      go_wp2_with fail
      have CALL := valid5_any w.heap.size A n c b P w0 (HP.out.below HB.out (Nat.le_refl _)) HB.out.size hl
      refine CALL.mono ?_
      rintro e w3 ⟨rfl, hb⟩
      clear CALL
      replace HK := Lib.hid (HK.out.below hb HK.out.lt)
      replace HB := Lib.hid (HB.out.trans (hb.mono HB.out.size))
      clear hb c0 c1 c2 c3 c4 c5
      obtain ⟨c0, c1, c2, c3, c4, c5⟩ := HK.out.six
      rw [HV.out]
      go_wp2_with fail
      refine (works5_any _).mono ?_
      rintro e w4 ⟨rfl, hb⟩
      replace HB := Lib.hid (HB.out.trans (hb.mono HB.out.size))
      clear hb
      go_wp2
      go_ret
      exact ⟨rfl, HB.out⟩
    · have hm1 : ¬ ((m : Int) > 100) := by omega
      have ONO := Lib.hid (fun hs => out_no (R := R) hv hs)
      have OUP := Lib.hid (fun X hs => out_up (X := X) (R := R) hv hs)
      obtain ⟨f, hf⟩ : ∃ f, cutE b P R = f := ⟨_, rfl⟩
      obtain ⟨fi, hfi⟩ : ∃ f, cutI b P R = f := ⟨_, rfl⟩
      obtain ⟨fq, hfq⟩ : ∃ f, cutQ b P R = f := ⟨_, rfl⟩
      rw [hf] at ONO OUP
      have HF := Lib.hid (show cutE b P R = f ∧ cutI b P R = fi ∧ cutQ b P R = fq from ⟨hf, hfi, hfq⟩)
      clear hf hfi hfq
      replace ONO := Lib.hid ONO.out
      replace OUP := Lib.hid OUP.out
      cases hs : sol b P P.length with
      | none =>
        have HS := Lib.hid (outE_none hv hs)
        have hfn : f ≠ 0 := ONO.out hs
        have hfn' : (f != 0) = true := by simpa using hfn
        clear hv hs ONO OUP
        go_wp2_with fail
        have CALL := valid5_any w.heap.size A n c b P w0 (HP.out.below HB.out (Nat.le_refl _)) HB.out.size hl
        refine CALL.mono ?_
        rintro e w5 ⟨rfl, hb⟩
        clear CALL
        replace HK := Lib.hid (HK.out.below hb HK.out.lt)
        replace HB := Lib.hid (HB.out.trans (hb.mono HB.out.size))
        clear hb c0 c1 c2 c3 c4 c5
        obtain ⟨c0, c1, c2, c3, c4, c5⟩ := HK.out.six
        rw [HV.out]
        go_wp2_with fail
        have CALL := Outermost_any w.heap.size A n c b P w5 (HP.out.below HB.out (Nat.le_refl _)) HB.out.size hl
        refine CALL.mono ?_
        rintro e w6 ⟨v, EO, rfl, hEO, ho, hb⟩
        clear CALL
        rw [HS.out.2, List.length_nil] at ho
        rw [HS.out.1] at hEO
        subst hEO
        obtain ⟨AO, kO, rfl, hO⟩ := li_own ho
        have HO := Lib.hid hO
        clear ho hO
        replace HK := Lib.hid (HK.out.below hb HK.out.lt)
        replace HB := Lib.hid (HB.out.trans (hb.mono HB.out.size))
        clear hb c0 c1 c2 c3 c4 c5
        obtain ⟨c0, c1, c2, c3, c4, c5⟩ := HK.out.six
        go_wp2_with fail
        have CALL := CheckCut_any w.heap.size A AR n c m d b P R w6 (HP.out.below HB.out (Nat.le_refl _)) (HR.out.below HB.out (Nat.le_refl _)) HB.out.size hl hl'
        refine CALL.mono ?_
        rintro e w7 ⟨rfl, hb⟩
        clear CALL
        replace HK := Lib.hid (HK.out.below hb HK.out.lt)
        replace HO := Lib.hid ((HO.out.below hb (Nat.le_refl _)).more hb.size)
        replace HB := Lib.hid (HB.out.trans (hb.mono HB.out.size))
        clear hb c0 c1 c2 c3 c4 c5
        obtain ⟨c0, c1, c2, c3, c4, c5⟩ := HK.out.six
        rw [HF.out.1, HF.out.2.1, HF.out.2.2]
        go_wp2_with fail
        refine (works5_any _).mono ?_
        rintro e w8 ⟨rfl, hb⟩
        replace HB := Lib.hid (HB.out.trans (hb.mono HB.out.size))
        clear hb
        go_wp2
        go_ret
        exact ⟨rfl, HB.out⟩
      | some X =>
        have HS := Lib.hid (outE_some hv hs)
        have HT := Lib.hid (top_of hv hs)
        have HC := Lib.hid (out_cut hv hs)
        have HU := Lib.hid (OUP.out X hs)
        clear hv hs ONO OUP
        go_wp2_with fail
        have CALL := valid5_any w.heap.size A n c b P w0 (HP.out.below HB.out (Nat.le_refl _)) HB.out.size hl
        refine CALL.mono ?_
        rintro e w9 ⟨rfl, hb⟩
        clear CALL
        replace HK := Lib.hid (HK.out.below hb HK.out.lt)
        replace HB := Lib.hid (HB.out.trans (hb.mono HB.out.size))
        clear hb c0 c1 c2 c3 c4 c5
        obtain ⟨c0, c1, c2, c3, c4, c5⟩ := HK.out.six
        rw [HV.out]
        go_wp2_with fail
        have CALL := Outermost_any w.heap.size A n c b P w9 (HP.out.below HB.out (Nat.le_refl _)) HB.out.size hl
        refine CALL.mono ?_
        rintro e w10 ⟨v, EO, rfl, hEO, ho, hb⟩
        clear CALL
        rw [HS.out.2, HT.out.len, ← HN.out] at ho
        rw [HS.out.1] at hEO
        subst hEO
        obtain ⟨AO, kO, rfl, hO⟩ := li_own ho
        have HO := Lib.hid hO
        clear ho hO
        replace HK := Lib.hid (HK.out.below hb HK.out.lt)
        replace HB := Lib.hid (HB.out.trans (hb.mono HB.out.size))
        clear hb c0 c1 c2 c3 c4 c5
        obtain ⟨c0, c1, c2, c3, c4, c5⟩ := HK.out.six
        go_wp2_with fail
        have CALL := CheckCut_any w.heap.size A AR n c m d b P R w10 (HP.out.below HB.out (Nat.le_refl _)) (HR.out.below HB.out (Nat.le_refl _)) HB.out.size hl hl'
        refine CALL.mono ?_
        rintro e w11 ⟨rfl, hb⟩
        clear CALL
        replace HK := Lib.hid (HK.out.below hb HK.out.lt)
        replace HO := Lib.hid ((HO.out.below hb (Nat.le_refl _)).more hb.size)
        replace HB := Lib.hid (HB.out.trans (hb.mono HB.out.size))
        clear hb c0 c1 c2 c3 c4 c5
        obtain ⟨c0, c1, c2, c3, c4, c5⟩ := HK.out.six
        rw [HF.out.1, HF.out.2.1, HF.out.2.2]
        go_wp2_with fail
        have CALL := CheckCut_any w11.heap.size A AO n c n kO b P X w11 ((HP.out.below HB.out (Nat.le_refl _)).more HB.out.size) HO.out (Nat.le_refl _) hl hl
        refine CALL.mono ?_
        rintro e w12 ⟨rfl, hb⟩
        clear CALL
        replace HK := Lib.hid (HK.out.below hb HK.out.lt)
        replace HO := Lib.hid ((HO.out.below hb (Nat.le_refl _)).more hb.size)
        replace HB := Lib.hid (HB.out.trans (hb.mono HB.out.size))
        clear hb c0 c1 c2 c3 c4 c5
        obtain ⟨c0, c1, c2, c3, c4, c5⟩ := HK.out.six
        rw [HC.out]
        by_cases hf0 : f = 0
        · have hu := HU.out hf0
          subst hf0
          have hmn : m = n := by rw [HM.out, HN.out, hu.1]
          subst hmn
          have HU2 := Lib.hid hu.2
          clear hu HU
          go_wp2_with fail
          go_loopw [15] (fun z wr => ∃ i : Nat, i ≤ m ∧ z = .int .i64 i ∧ Hid (Below w12.heap.size w12 wr)) (fun z _ => m - (intOf z).toNat)
          case atStart => exact ⟨0, Nat.zero_le _, rfl, Lib.hid (Below.refl _ _)⟩
          case round =>
            obtain ⟨i, hi, rfl, HB2⟩ := hrel
            by_cases hlt : i < m
            · obtain ⟨ad, hA, -, g1⟩ := (HR.out.below (HB.out.trans (HB2.out.mono HB.out.size)) (Nat.le_refl _)).fx hlt
              obtain ⟨ad', hA', -, g2⟩ := (HO.out.below HB2.out (Nat.le_refl _)).fx hlt
              subst hA hA'
              have hu := HU2.out i (by rw [← HN.out]; exact hlt)
              obtain ⟨x, hx⟩ : ∃ x, fx R i = x := ⟨_, rfl⟩
              obtain ⟨y, hy⟩ : ∃ y, fx X i = y := ⟨_, rfl⟩
              rw [hx, hy] at hu
              rw [hx] at g1
              rw [hy] at g2
              clear hx hy
              have hxy : ¬ x > y := by omega
              clear hu
              go_wp2_with fail
              go_quiet (fail)
              go_wp2
              go_roundw
              case rel => exact ⟨i + 1, by omega, by go_num, Lib.hid (below_drewN_ HB2.out _)⟩
              case measure => simp [intOf]; omega
            · obtain rfl : i = m := by omega
              replace HB := Lib.hid (HB.out.trans (HB2.out.mono HB.out.size))
              clear HB2
              go_wp2_with fail
              refine (works5_any _).mono ?_
              rintro e w13 ⟨rfl, hb⟩
              replace HB := Lib.hid (HB.out.trans (hb.mono HB.out.size))
              clear hb
              go_wp2
              go_ret
              exact ⟨rfl, HB.out⟩
        · have hf1 : (f == 0) = false := by simpa using hf0
          clear HU
          go_wp2_with fail
          refine (works5_any _).mono ?_
          rintro e w14 ⟨rfl, hb⟩
          replace HB := Lib.hid (HB.out.trans (hb.mono HB.out.size))
          clear hb
          go_wp2
          go_ret
          exact ⟨rfl, HB.out⟩
end Go.Proofs.Ytgdkcbnpgpjnbaa
