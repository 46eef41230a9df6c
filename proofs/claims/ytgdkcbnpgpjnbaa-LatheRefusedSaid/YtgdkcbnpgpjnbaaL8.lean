/-
  The document's both and cut.
-/
import Derived.Test.YtgdkcbnpgpjnbaaLZ
import Derived.Test.YtgdkcbnpgpjnbaaKG
namespace Go.Proofs.Ytgdkcbnpgpjnbaa
open Go.RowKit

set_option maxHeartbeats 4000000 in
theorem refboth_any (B : Nat) (A : Option Addr) (n c : Nat) (b : Bk) (P : List Smp) (w : World) (h0 : RS w B A n P) (hB : B ≤ w.heap.size) (hl : n ≤ 9223372036854775807) :
    Calls Try.prog 41 #[.agg #[.int .i64 b.per, .int .i64 b.rim, .int .i64 b.core, .int .i64 b.land, .int .i64 b.slow, .int .i64 b.fast], .slice A n c] w fun e w' => e = .returned (.int .i64 (erL b P)) ∧ Below w.heap.size w w' := by
  have HP := Lib.hid (h0.more hB)
  have C2 := Lib.hid (fun (W : World) (h : Below w.heap.size w W) => refCheckPoints_any w.heap.size A n c P W (HP.out.below h (Nat.le_refl _)) h.size hl)
  have CK := Lib.hid (fun W => refCheck5_any b W)
  have HBA := Lib.hid (below_a w (.cells #[.int .i64 b.per, .int .i64 b.rim, .int .i64 b.core, .int .i64 b.land, .int .i64 b.slow, .int .i64 b.fast] 23))
  clear h0 hB
  obtain ⟨q, hq⟩ : ∃ q, ckB b = q := ⟨_, rfl⟩
  rw [hq] at CK
  replace CK := Lib.hid CK.out
  have hcases : q = 0 ∨ q = 2 := by rw [← hq]; unfold ckB; split <;> simp
  have HE : Hid (erL b P = if q = 0 then ckG P else q) := Lib.hid (by
    unfold erL orL; rw [hq]; split
    · unfold orL; split
      · rename_i h2; rw [h2]; rfl
      · rfl
    · rfl)
  clear hq
  go_enter Try.func41, Try.ntmps41
  rcases hcases with rfl | rfl
  · go_wp2_with fail
    refine (CK.out _).mono ?_
    rintro e w1 ⟨rfl, hb1⟩
    have HB1 := Lib.hid (HBA.out.trans (hb1.mono HBA.out.size))
    clear hb1
    go_wp2_with fail
    refine (C2.out _ HB1.out).mono ?_
    rintro e w2 ⟨rfl, hb2⟩
    have HB2 := Lib.hid (HB1.out.trans (hb2.mono HB1.out.size))
    clear hb2
    go_wp2
    go_ret
    rw [HE.out]
    exact ⟨rfl, HB2.out⟩
  · go_wp2_with fail
    refine (CK.out _).mono ?_
    rintro e w1 ⟨rfl, hb1⟩
    have HB1 := Lib.hid (HBA.out.trans (hb1.mono HBA.out.size))
    clear hb1
    go_wp2
    go_ret
    rw [HE.out]
    exact ⟨rfl, HB1.out⟩

theorem erC_eq (b : Bk) (P : List Smp) (R : List Int) : erC b P R = if erL b P = 0 then ckR P.length R else erL b P := by
  unfold erC erL
  by_cases h1 : ckB b = 0
  · rw [orL_of h1, orL_of h1]
    by_cases h2 : ckG P = 0
    · rw [orL_of h2, orL_of h2, if_pos (by unfold orL; rfl)]
      unfold orL
      split
      · rename_i h; rw [h]; unfold orL; rfl
      · rfl
    · have e : ∀ l, orL (ckG P :: l) = ckG P := fun l => by rw [orL, if_neg h2]
      rw [e, e, if_neg h2]
  · have e : ∀ l, orL (ckB b :: l) = ckB b := fun l => by rw [orL, if_neg h1]
    rw [e, e, if_neg h1]
theorem ckR_all {R : List Int} {n : Nat} (hn : R.length = n) (h : ∀ j, j < n → win (fx R j) (-16777216) 16777216 = true) : ckR n R = 0 := by
  unfold ckR
  rw [if_neg (by simp [hn]), if_pos]
  rw [List.all_eq_true]
  intro r hr
  obtain ⟨j, hj, rfl⟩ := List.mem_iff_getElem.1 hr
  have := h j (by omega)
  rw [fx_eq hj] at this
  simp [far, this]
theorem ckR_some {R : List Int} {n j : Nat} (hn : R.length = n) (hj : j < n) (h : win (fx R j) (-16777216) 16777216 = false) : ckR n R = 2 := by
  unfold ckR
  rw [if_neg (by simp [hn]), if_neg]
  rw [List.all_eq_true]
  intro hc
  have := hc _ (List.getElem_mem (show j < R.length by omega))
  rw [fx_eq (show j < R.length by omega)] at h
  simp [far, h] at this

set_option maxRecDepth 100000 in
set_option maxHeartbeats 8000000 in
theorem refcut_any (B : Nat) (A AR : Option Addr) (n c m d : Nat) (b : Bk) (P : List Smp) (R : List Int) (w : World) (h0 : RS w B A n P) (h1 : LI w B AR m R) (hB : B ≤ w.heap.size) (hl : n ≤ 9223372036854775807) (hl' : m ≤ 9223372036854775807) :
    Calls Try.prog 48 #[.agg #[.int .i64 b.per, .int .i64 b.rim, .int .i64 b.core, .int .i64 b.land, .int .i64 b.slow, .int .i64 b.fast], .slice A n c, .slice AR m d] w fun e w' => e = .returned (.int .i64 (erC b P R)) ∧ Below w.heap.size w w' := by
  have HP := Lib.hid (h0.more hB)
  have HR := Lib.hid (h1.more hB)
  have HN := Lib.hid h0.1
  have HM := Lib.hid h1.1
  have C1 := Lib.hid (fun (W : World) (h : Below w.heap.size w W) => refboth_any w.heap.size A n c b P W (HP.out.below h (Nat.le_refl _)) h.size hl)
  have HEC := Lib.hid (erC_eq b P R)
  clear h0 h1 hB
  obtain ⟨q, hq⟩ : ∃ q, erL b P = q := ⟨_, rfl⟩
  rw [hq] at C1 HEC
  replace C1 := Lib.hid C1.out
  replace HEC := Lib.hid HEC.out
  clear hq
  go_enter Try.func48, Try.ntmps48
  go_upto_region 1 with fail
  obtain ⟨W, hW⟩ : ∃ W, w.alloc (.cells #[.int .i64 b.per, .int .i64 b.rim, .int .i64 b.core, .int .i64 b.land, .int .i64 b.slow, .int .i64 b.fast] 23) = W := ⟨_, rfl⟩
  have hb0 : Below w.heap.size w W := by rw [← hW]; exact below_a _ _
  have k0 : Blk W w.heap.size 23 #[.int .i64 b.per, .int .i64 b.rim, .int .i64 b.core, .int .i64 b.land, .int .i64 b.slow, .int .i64 b.fast] := by rw [← hW]; exact Blk.new _ _ _
  rw [hW]
  have HBW := Lib.hid hb0
  have HK := Lib.hid k0
  obtain ⟨c0, c1, c2, c3, c4, c5⟩ := k0.six
  clear hW hb0 k0
  go_wp2_with fail
  refine (C1.out _ HBW.out).mono ?_
  rintro e w1 ⟨rfl, hb1⟩
  replace HK := Lib.hid (HK.out.below hb1 HK.out.lt)
  replace HBW := Lib.hid (HBW.out.trans (hb1.mono HBW.out.size))
  clear hb1 c0 c1 c2 c3 c4 c5
  by_cases hq : q = 0
  · subst hq
    have HEC0 : Hid (erC b P R = ckR P.length R) := Lib.hid (by rw [HEC.out, if_pos rfl])
    clear HEC
    by_cases hmn : m = n
    · subst hmn
      have HL : Hid (R.length = P.length) := Lib.hid (by rw [← HM.out, HN.out])
      go_wp2_with fail
      go_loopw [7] (fun z wr => ∃ j : Nat, j ≤ m ∧ z = .int .i64 j ∧ Hid (Below w.heap.size w wr) ∧ Hid (∀ i, i < j → win (fx R i) (-16777216) 16777216 = true)) (fun z _ => m - (intOf z).toNat)
      case atStart => exact ⟨0, Nat.zero_le _, rfl, HBW, Lib.hid (fun i hi => by omega)⟩
      case round =>
        obtain ⟨j, hj, rfl, HB2, HA⟩ := hrel
        by_cases hlt : j < m
        · obtain ⟨ad', hA', -, g3⟩ := (HR.out.below HB2.out (Nat.le_refl _)).fx hlt
          subst hA'
          obtain ⟨x, hx⟩ : ∃ x, fx R j = x := ⟨_, rfl⟩
          rw [hx] at g3
          cases hv : win x (-16777216) 16777216 with
          | true =>
            have HV := Lib.hid hv
            have HX := Lib.hid hx
            clear hv hx
            go_wp2_with ((with_reducible refine (within5_any _ _ _ _).mono ?_); rintro e w' ⟨rfl, rfl⟩; rw [HV.out])
            go_roundw
            case rel => exact ⟨j + 1, by omega, by simp, HB2, Lib.hid (fun i hi => by
              rcases Nat.lt_or_ge i j with h | h
              · exact HA.out i h
              · have : i = j := by omega
                rw [this, HX.out]; exact HV.out)⟩
            case measure => simp [intOf]; omega
          | false =>
            have HV := Lib.hid hv
            have HE : Hid (erC b P R = 2) := Lib.hid (by rw [HEC0.out]; exact ckR_some HL.out (by rw [← HN.out]; exact hlt) (by rw [hx]; exact hv))
            clear hv hx
            go_wp2_with ((with_reducible refine (within5_any _ _ _ _).mono ?_); rintro e w' ⟨rfl, rfl⟩; rw [HV.out])
            go_ret
            rw [HE.out]
            exact ⟨rfl, HB2.out⟩
        · obtain rfl : j = m := by omega
          have HE : Hid (erC b P R = 0) := Lib.hid (by rw [HEC0.out]; exact ckR_all HL.out (fun i hi => HA.out i (by rw [HN.out]; exact hi)))
          go_wp2
          go_ret
          rw [HE.out]
          exact ⟨rfl, HB2.out⟩
    · have hmn' : ((m : Int) != (n : Int)) = true := by simp; omega
      have HE : Hid (erC b P R = 17) := Lib.hid (by rw [HEC0.out]; unfold ckR; rw [if_pos]; rw [← HM.out, ← HN.out]; exact hmn)
      go_wp2
      go_ret
      rw [HE.out]
      exact ⟨rfl, HBW.out⟩
  · have h1 : (q != 0) = true := by simpa using hq
    have h2 : (q == 0) = false := by simpa using hq
    have HE : Hid (erC b P R = q) := Lib.hid (by rw [HEC.out, if_neg hq])
    clear hq
    obtain ⟨c0, c1, c2, c3, c4, c5⟩ := HK.out.six
    go_wp2_with fail
    refine (C1.out _ HBW.out).mono ?_
    rintro e w2 ⟨rfl, hb2⟩
    have HB2 := Lib.hid (HBW.out.trans (hb2.mono HBW.out.size))
    clear hb2
    go_wp2
    go_ret
    rw [HE.out]
    exact ⟨rfl, HB2.out⟩
end Go.Proofs.Ytgdkcbnpgpjnbaa
