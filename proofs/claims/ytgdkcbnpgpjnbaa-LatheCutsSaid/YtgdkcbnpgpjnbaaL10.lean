/-
  The document's CheckCut.
-/
import Derived.Test.YtgdkcbnpgpjnbaaL7
import Derived.Test.YtgdkcbnpgpjnbaaL8
namespace Go.Proofs.Ytgdkcbnpgpjnbaa
open Go.RowKit

theorem brk_at {b : Bk} {P : List Smp} {R : List Int} {i r : Nat} (hi : i < P.length) (hr : r < 5) (h1 : ∀ e ∈ edsUp b P i, kptE R e = true) (h2 : ∀ e ∈ edsTo b P i r, kptE R e = true) (h3 : keptB b P R i (r + 1) = false) :
    ∃ e, brkE b P R = some e ∧ e.2.1 = (i : Int) ∧ e.1 = ((r + 1 : Nat) : Int) := by
  cases hE : edgO b P (((r + 1 : Nat) : Int), (i : Int)) with
  | none => unfold keptB at h3; rw [edAt_none hE] at h3; cases h3
  | some q =>
    refine ⟨(((r + 1 : Nat) : Int), (i : Int), q.1, q.2.1, q.2.2), ?_, rfl, rfl⟩
    unfold keptB at h3
    rw [edAt_some hE] at h3
    refine brkE_some (pre := edsUp b P i ++ edsTo b P i r) ?_ (fun x hx => ?_) (by simpa using h3)
    · rw [List.append_assoc, ← edAt_some hE, ← edsTo_succ]
      refine List.IsPrefix.trans ((List.prefix_append_right_inj _).2 (edsTo_prefix b P i (r + 1) (by omega))) ?_
      rw [← edsUp_succ]; exact edsUp_prefix b P (i + 1) P.length (by omega)
    · rcases List.mem_append.1 hx with hx | hx
      · exact h1 x hx
      · exact h2 x hx

set_option maxRecDepth 100000 in
set_option maxHeartbeats 8000000 in
theorem refCheckCut_any (B : Nat) (A AR : Option Addr) (n c m d : Nat) (b : Bk) (P : List Smp) (R : List Int) (w : World) (h0 : RS w B A n P) (h1 : LI w B AR m R) (hB : B ≤ w.heap.size) (hl : n ≤ 9223372036854775807) (hl' : m ≤ 9223372036854775807) :
    Calls Try.prog 20 #[.agg #[.int .i64 b.per, .int .i64 b.rim, .int .i64 b.core, .int .i64 b.land, .int .i64 b.slow, .int .i64 b.fast], .slice A n c, .slice AR m d] w fun e w' => e = .returned (.tuple #[.int .i64 (cutI b P R), .int .i64 (cutQ b P R), .int .i64 (cutE b P R)]) ∧ Below w.heap.size w w' := by
  have HP := Lib.hid (h0.more hB)
  have HR := Lib.hid (h1.more hB)
  have HN := Lib.hid h0.1
  have C1 := Lib.hid (fun (W : World) (h : Below w.heap.size w W) => refcut_any w.heap.size A AR n c m d b P R W (HP.out.below h (Nat.le_refl _)) (HR.out.below h (Nat.le_refl _)) h.size hl hl')
  clear h0 h1 hB
  obtain ⟨q, hq⟩ : ∃ q, erC b P R = q := ⟨_, rfl⟩
  rw [hq] at C1
  replace C1 := Lib.hid C1.out
  have HQ := Lib.hid hq
  clear hq
  go_enter Try.func20, Try.ntmps20
  go_upto_region 1 with fail
  obtain ⟨W, hW⟩ : ∃ W, w.alloc (.cells #[.int .i64 b.per, .int .i64 b.rim, .int .i64 b.core, .int .i64 b.land, .int .i64 b.slow, .int .i64 b.fast] 23) = W := ⟨_, rfl⟩
  have hb0 : Below w.heap.size w W := by rw [← hW]; exact below_a _ _
  have k0 : Blk W w.heap.size 23 #[.int .i64 b.per, .int .i64 b.rim, .int .i64 b.core, .int .i64 b.land, .int .i64 b.slow, .int .i64 b.fast] := by rw [← hW]; exact Blk.new _ _ _
  rw [hW]
  have HBW := Lib.hid hb0
  have HK := Lib.hid k0
  obtain ⟨c0, c1, c2, c3, c4, c5⟩ := k0.six
  clear hW hb0 k0
  go_wp2_with fail
  refine (C1.out _ HBW.out).mono ?_
  rintro e w5 ⟨rfl, hb1⟩
  replace HK := Lib.hid (HK.out.below hb1 HK.out.lt)
  replace HBW := Lib.hid (HBW.out.trans (hb1.mono HBW.out.size))
  clear hb1 c0 c1 c2 c3 c4 c5
  obtain ⟨c0, c1, c2, c3, c4, c5⟩ := HK.out.six
  by_cases h0 : q = 0
  · subst h0
    have CI := Lib.hid (erC_ok HQ.out)
    have HM := Lib.hid HR.out.1
    go_wp2_with fail
    go_loopw [9] (fun z wr => ∃ i : Nat, i ≤ n ∧ z = .int .i64 i ∧ Hid (Blk wr w.heap.size 23 #[.int .i64 b.per, .int .i64 b.rim, .int .i64 b.core, .int .i64 b.land, .int .i64 b.slow, .int .i64 b.fast]) ∧ Hid (Below w.heap.size w wr) ∧ Hid (∀ e ∈ edsUp b P i, kptE R e = true)) (fun z _ => n - (intOf z).toNat)
    case atStart => exact ⟨0, Nat.zero_le _, rfl, HK, HBW, Lib.hid (fun e he => by simp [edsUp] at he)⟩
    case round =>
      obtain ⟨i, hi, rfl, HK2, HB2, HU⟩ := hrel
      clear HK HBW c0 c1 c2 c3 c4 c5
      by_cases hlt : i < n
      · go_wp2_with fail
        go_loopw [10] (fun z wr => ∃ r : Nat, r ≤ 5 ∧ z = .int .i64 ((r + 1 : Nat) : Int) ∧ Hid (Blk wr w.heap.size 23 #[.int .i64 b.per, .int .i64 b.rim, .int .i64 b.core, .int .i64 b.land, .int .i64 b.slow, .int .i64 b.fast]) ∧ Hid (Below w.heap.size w wr) ∧ Hid (∀ e ∈ edsTo b P i r, kptE R e = true)) (fun z _ => 6 - (intOf z).toNat)
        case atStart => exact ⟨0, by omega, rfl, HK2, HB2, Lib.hid (fun e he => by simp [edsTo] at he)⟩
        case round =>
          obtain ⟨r, hr, rfl, HK3, HB3, HT⟩ := hrel
          clear HK2 HB2
          obtain ⟨c0, c1, c2, c3, c4, c5⟩ := HK3.out.six
          by_cases hr5 : r < 5
          · have hr6 : ((r + 1 : Nat) : Int) ≤ 5 := by omega
            have hnm : m = n := by rw [HM.out, CI.out.len, HN.out]
            have KC := Kept_any w.heap.size A AR n c m d b P R i (r + 1) wr (HP.out.below HB3.out (Nat.le_refl _)) (HR.out.below HB3.out (Nat.le_refl _)) HB3.out.size (by have := CI.out.n; rw [← HN.out] at this; omega) hlt (by omega) CI.out.bk CI.out.ps CI.out.rs ⟨by omega, by omega⟩
            clear hnm
            cases hk : keptB b P R i (r + 1) with
            | true =>
              have HT2 := Lib.hid (edsTo_all HT.out hk)
              rw [hk] at KC
              obtain ⟨r1, hr1⟩ : ∃ r1, r + 1 = r1 := ⟨_, rfl⟩
              rw [hr1] at KC hr6 HT2 ⊢
              have hle : r1 ≤ 5 := by omega
              have KC := Lib.hid KC
              clear hk hr hr5 hr1
              go_wp2_with fail
              refine KC.out.mono ?_
              rintro e w7 ⟨rfl, hb7⟩
              have HB7 := Lib.hid hb7
              clear hb7
              go_wp2
              go_roundw
              case rel => exact ⟨r1, hle, by go_num, Lib.hid (HK3.out.below HB7.out HK3.out.lt), Lib.hid (HB3.out.trans (HB7.out.mono HB3.out.size)), HT2⟩
              case measure => simp [intOf]; omega
            | false =>
              obtain ⟨ee, hE, he1, he2⟩ := brk_at (by rw [← HN.out]; exact hlt) hr5 HU.out HT.out hk
              have E1 : Hid (cutE b P R = 20) := Lib.hid (by unfold cutE; rw [if_pos HQ.out, hE]; rfl)
              have E2 : Hid (cutI b P R = (i : Int)) := Lib.hid (by unfold cutI; rw [if_pos HQ.out, hE]; exact he1)
              have E3 : Hid (cutQ b P R = ((r + 1 : Nat) : Int)) := Lib.hid (by unfold cutQ; rw [if_pos HQ.out, hE]; exact he2)
              rw [hk] at KC
              obtain ⟨r1, hr1⟩ : ∃ r1, r + 1 = r1 := ⟨_, rfl⟩
              rw [hr1] at KC hr6 E3 ⊢
              have KC := Lib.hid KC
              clear hk hr hr5 hr1 hE he1 he2
              go_wp2_with fail
              refine KC.out.mono ?_
              rintro e w7 ⟨rfl, hb7⟩
              have HB7 := Lib.hid hb7
              clear hb7
              go_wp2
              go_ret3
              rw [E1.out, E2.out, E3.out]
              exact ⟨rfl, HB3.out.trans (HB7.out.mono HB3.out.size)⟩
          · obtain rfl : r = 5 := by omega
            have HU2 : Hid (∀ e ∈ edsUp b P (i + 1), kptE R e = true) := Lib.hid (fun e he => by
              rw [edsUp_succ] at he
              rcases List.mem_append.1 he with he | he
              · exact HU.out e he
              · exact HT.out e he)
            go_wp2
            go_roundw
            case rel => exact ⟨i + 1, by omega, by go_num, HK3, HB3, HU2⟩
            case measure => simp [intOf]; omega
      · obtain rfl : i = n := by omega
        have hE : brkE b P R = none := brkE_none_of (fun e he => HU.out e (by rw [HN.out]; exact he))
        have E1 : Hid (cutE b P R = 0) := Lib.hid (by unfold cutE; rw [if_pos HQ.out, hE]; rfl)
        have E2 : Hid (cutI b P R = 0) := Lib.hid (by unfold cutI; rw [if_pos HQ.out, hE])
        have E3 : Hid (cutQ b P R = 0) := Lib.hid (by unfold cutQ; rw [if_pos HQ.out, hE])
        clear hE
        go_wp2
        go_ret3
        rw [E1.out, E2.out, E3.out]
        exact ⟨rfl, HB2.out⟩
  · have h1 : (q != 0) = true := by simpa using h0
    have h2 : (q == 0) = false := by simpa using h0
    have H0 := Lib.hid h0
    clear h0
    go_wp2_with fail
    refine (C1.out _ HBW.out).mono ?_
    rintro e w6 ⟨rfl, hb6⟩
    replace HBW := Lib.hid (HBW.out.trans (hb6.mono HBW.out.size))
    clear hb6
    go_wp2
    go_ret3
    have hne : ¬ erC b P R = 0 := by rw [HQ.out]; exact H0.out
    have e1 : cutE b P R = q := by unfold cutE; rw [if_neg hne]; exact HQ.out
    have e2 : cutI b P R = 0 := by unfold cutI; rw [if_neg hne]
    have e3 : cutQ b P R = 0 := by unfold cutQ; rw [if_neg hne]
    rw [e1, e2, e3]
    exact ⟨rfl, HBW.out⟩
end Go.Proofs.Ytgdkcbnpgpjnbaa
