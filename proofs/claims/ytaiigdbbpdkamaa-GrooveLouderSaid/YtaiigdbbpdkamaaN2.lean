/-
  The mathematics and the walk of GrooveFits.
-/
import Derived.Test.YtaiigdbbpdkamaaK8
import Derived.Test.YtaiigdbbpdkamaaK9
namespace Go.Proofs.Ytaiigdbbpdkamaa
open Go.RowKit

theorem vC_of_ {c : Ctr} (h : CtOk c) : vC c = true := by
  obtain ⟨A1, A2, A3, A4, A5, A6, A7, A8, A9, A10, A11, A12, A13⟩ := h
  unfold vC win
  simp only [Bool.and_eq_true, decide_eq_true_eq]
  omega
theorem lsEr_zero {c : Ctr} {l : List Smp} {per : Int} (hc : CtOk c) (hl : ckG l = 0) (p1 : 1 ≤ per) (p2 : per ≤ 65536) : lsEr c l per = 0 := by
  unfold lsEr ckC ckT ckN win; rw [vC_of_ hc, hl]; simp [orL]; omega
theorem fuEr_zero {c : Ctr} {l : List Smp} {r per : Int} (hc : CtOk c) (hl : ckG l = 0) (hs : SpOk r per) : fuEr c l r per = 0 := by
  obtain ⟨r1, r2, p1, p2⟩ := hs
  unfold fuEr ckC ckR ckT ckN win; rw [vC_of_ hc, hl]; simp [orL]; omega
theorem fu_true {c : Ctr} {l : List Smp} {r per : Int} (he : fuEr c l r per = 0) (h : fls c l r per = true) : fuR c l r per = (0, 0, 5) := by
  unfold fls at h
  unfold fuR
  rw [if_pos he, if_pos (by simpa using h)]
theorem brk_bd {c : Ctr} {l : List Smp} {r per : Int} {i : Nat} (h : brk c l r per i ≠ 0) : 1 ≤ brk c l r per i ∧ brk c l r per i ≤ 5 := by
  unfold brk at h ⊢
  repeat (first | (split at h) | (split)) <;> simp_all
theorem fu_false {c : Ctr} {l : List Smp} {r per : Int} (he : fuEr c l r per = 0) (h : fls c l r per = false) : ∃ (i : Nat) (q : Int), fuR c l r per = ((i : Int), q, 0) ∧ i < l.length ∧ 1 ≤ q ∧ q ≤ 5 ∧ brk c l r per i = q := by
  unfold fls at h
  have h2 : (flt c l r per).2 ≠ 0 := by simpa using h
  have hx : ∃ i, i < l.length ∧ flt c l r per = (i, brk c l r per i) ∧ brk c l r per i ≠ 0 := by
    unfold flt at h2 ⊢
    cases hf : (List.range l.length).find? (fun i => !(brk c l r per i == 0)) with
    | none => rw [hf] at h2; exact absurd rfl h2
    | some i =>
      have h3 := List.find?_some hf
      exact ⟨i, List.mem_range.1 (List.mem_of_find?_eq_some hf), rfl, by simpa using h3⟩
  obtain ⟨i, hi, hfl, hb⟩ := hx
  obtain ⟨b1, b2⟩ := brk_bd hb
  refine ⟨i, _, ?_, hi, b1, b2, rfl⟩
  unfold fuR
  rw [if_pos he, if_neg h2, hfl]

/-- What the needs of the first j indexes come to. -/
def FitInv (c : Ctr) (l : List Smp) (per : Int) (j : Nat) (mo : Int) (li : Bool) : Prop :=
  (li = false ∧ 0 ≤ mo ∧ mo ≤ 4194304 ∧ (∀ i, i < j → brk c l mo per i = 0) ∧ (mo = 0 ∨ ∃ i, i < j ∧ brk c l (mo - 1) per i ≠ 0)) ∨
  (li = true ∧ ∃ i, i < j ∧ ∀ q, 0 ≤ q → q ≤ 4194304 → brk c l q per i ≠ 0)
theorem brk_up {c : Ctr} {l : List Smp} {per : Int} {i : Nat} (hc : CtOk c) (p1 : 1 ≤ per) (p2 : per ≤ 65536) {a b : Int} (h0 : 0 ≤ a) (h1 : a ≤ b) (h2 : b ≤ 4194304) (h : brk c l a per i = 0) : brk c l b per i = 0 := by
  have := brk_mono hc p1 p2 a b h0 h1 h2 (show (brk c l a per i == 0) = true by simpa using h)
  simpa using this
theorem FitInv.step {c : Ctr} {l : List Smp} {per : Int} {j : Nat} {mo : Int} {li : Bool} {x g : Int} (hc : CtOk c) (p1 : 1 ≤ per) (p2 : per ≤ 65536) (hi : FitInv c l per j mo li) (hl : LeastIs (fun r => brk c l r per j == 0) x g) :
    (g = 0 ∨ g = 14) ∧ FitInv c l per (j + 1) (max mo x) (li || (g != 0)) := by
  rcases hl with ⟨rfl, h1, h2, h3, h4⟩ | ⟨rfl, h1, h2⟩
  · refine ⟨.inl rfl, ?_⟩
    have h3 : brk c l x per j = 0 := by simpa using h3
    rcases hi with ⟨rfl, i1, i2, i3, i4⟩ | ⟨rfl, i, i1, i2⟩
    · left
      refine ⟨rfl, by omega, by omega, fun i hi => ?_, ?_⟩
      · rcases Nat.lt_or_ge i j with h | h
        · exact brk_up hc p1 p2 i1 (by omega) (by omega) (i3 i h)
        · obtain rfl : i = j := by omega
          exact brk_up hc p1 p2 h1 (by omega) (by omega) h3
      · rcases Int.lt_or_le mo x with h | h
        · rw [show max mo x = x by omega]
          right
          refine ⟨j, by omega, ?_⟩
          have := h4 (x - 1) (by omega) (by omega)
          simpa using this
        · rw [show max mo x = mo by omega]
          rcases i4 with rfl | ⟨i, h5, h6⟩
          · exact .inl rfl
          · exact .inr ⟨i, by omega, h6⟩
    · exact .inr ⟨rfl, i, by omega, i2⟩
  · refine ⟨.inr rfl, .inr ⟨by simp, ?_⟩⟩
    rcases hi with ⟨rfl, i1, i2, i3, i4⟩ | ⟨rfl, i, i1, i2⟩
    · exact ⟨j, by omega, fun q q1 q2 => by simpa using h2 q q1 q2⟩
    · exact ⟨i, by omega, i2⟩
theorem FitInv.fin {c : Ctr} {l : List Smp} {per mo nq en : Int} {li : Bool} (hc : CtOk c) (p1 : 1 ≤ per) (p2 : per ≤ 65536) (hi : FitInv c l per l.length mo li) (hl : LeastIs (fun r => fls c l r per) nq en) :
    (li = true ∧ en = 14 ∧ nq = 0 ∧ ∀ q, 0 ≤ q → q ≤ 4194304 → fls c l q per = false) ∨
    (li = false ∧ en = 0 ∧ nq = mo ∧ 0 ≤ mo ∧ mo ≤ 4194304 ∧ fls c l mo per = true ∧ (∀ q, 0 ≤ q → q ≤ 4194304 → fls c l q per = decide (mo ≤ q)) ∧ ∀ i, i < l.length → brk c l mo per i = 0) := by
  have hmo := fls_mono (l := l) hc p1 p2
  rcases hi with ⟨rfl, i1, i2, i3, i4⟩ | ⟨rfl, i, i1, i2⟩
  · right
    have ht : fls c l mo per = true := fls_iff.2 i3
    have hall : ∀ q, 0 ≤ q → q ≤ 4194304 → fls c l q per = decide (mo ≤ q) := by
      intro q q1 q2
      rcases Int.lt_or_le q mo with h | h
      · rw [decide_eq_false (by omega)]
        rcases i4 with rfl | ⟨i, h5, h6⟩
        · omega
        · cases hq : fls c l q per
          · rfl
          · have h7 : fls c l (mo - 1) per = true := hmo q (mo - 1) q1 (by omega) (by omega) hq
            exact absurd (fls_iff.1 h7 i h5) h6
      · rw [decide_eq_true h]
        exact hmo mo q i1 h q2 ht
    have := hl.uniq (show LeastIs (fun r => fls c l r per) mo 0 from .inl ⟨rfl, i1, i2, ht, fun q q1 q2 => by
      show fls c l q per = false
      rw [hall q q1 (by omega), decide_eq_false (by omega)]⟩)
    exact ⟨rfl, this.2, this.1, i1, i2, ht, hall, i3⟩
  · left
    have hall : ∀ q, 0 ≤ q → q ≤ 4194304 → fls c l q per = false := by
      intro q q1 q2
      cases hq : fls c l q per
      · rfl
      · exact absurd (fls_iff.1 hq i i1) (i2 q q1 q2)
    have := hl.uniq (show LeastIs (fun r => fls c l r per) 0 14 from .inr ⟨rfl, rfl, hall⟩)
    exact ⟨rfl, this.2, this.1, hall⟩
/-- What is mended farther out was too steep, or too sharply bent. -/
theorem brk_35 {c : Ctr} {l : List Smp} {a b per : Int} {i : Nat} (h : brk c l a per i ≠ 0) (h' : brk c l b per i = 0) : brk c l a per i = 3 ∨ brk c l a per i = 5 := by
  unfold brk at h h' ⊢
  cases h1 : thinB c l i <;> cases h2 : wideB c l i <;> cases h3 : steepB c l a per i <;> cases h4 : suddenB c l i <;> cases h5 : bentB c l a per i <;> simp_all <;> (split at h' <;> omega)

set_option maxRecDepth 100000 in
set_option maxHeartbeats 8000000 in
theorem fits_walk (B : Nat) (A : Option Addr) (n k : Nat) (c : Ctr) (l : List Smp) (per r : Int) (w : World) (h0 : RS w B A n l) (hB : B ≤ w.heap.size) (hl : n ≤ 9223372036854775807) :
    Calls Try.prog 9 #[.agg #[.int .i64 c.half, .int .i64 c.gain, .int .i64 c.thin, .int .i64 c.wide, .int .i64 c.slope, .int .i64 c.jerk, .int .i64 c.stylus], .slice A n k, .int .i64 per, .int .i64 r] w fun e w' => e = .returned (.bool true) ∧ Below w.heap.size w w' := by
  have HN := Lib.hid h0.1
  have H := Lib.hid (h0.more hB)
  clear h0 hB
  have CP := Lib.hid (fun W (hb : Below w.heap.size w W) => refCheckPoints_any w.heap.size A n k l W (H.out.below hb (Nat.le_refl _)) hb.size hl)
  have CK := Lib.hid (fun W => refCheck_any c W)
  have WK := Lib.hid (fun W => Works_any W)
  by_cases c1 : 60 < n
  · go_enter Try.func9, Try.ntmps9
    go_wp2_with fail
    refine (WK.out _).mono ?_
    rintro e w1 ⟨rfl, hb1⟩
    go_wp2
    go_ret
    exact ⟨rfl, ((Below.refl _ w).alloc (Nat.le_refl _) _).trans (hb1.mono (by simp))⟩
  by_cases c2 : r < 0
  · go_enter Try.func9, Try.ntmps9
    go_wp2_with fail
    refine (WK.out _).mono ?_
    rintro e w1 ⟨rfl, hb1⟩
    go_wp2
    go_ret
    exact ⟨rfl, ((Below.refl _ w).alloc (Nat.le_refl _) _).trans (hb1.mono (by simp))⟩
  by_cases c3 : 4194304 < r
  · go_enter Try.func9, Try.ntmps9
    go_wp2_with fail
    refine (WK.out _).mono ?_
    rintro e w1 ⟨rfl, hb1⟩
    go_wp2
    go_ret
    exact ⟨rfl, ((Below.refl _ w).alloc (Nat.le_refl _) _).trans (hb1.mono (by simp))⟩
  by_cases c4 : per < 1
  · go_enter Try.func9, Try.ntmps9
    go_wp2_with fail
    refine (WK.out _).mono ?_
    rintro e w1 ⟨rfl, hb1⟩
    go_wp2
    go_ret
    exact ⟨rfl, ((Below.refl _ w).alloc (Nat.le_refl _) _).trans (hb1.mono (by simp))⟩
  by_cases c5 : 65536 < per
  · go_enter Try.func9, Try.ntmps9
    go_wp2_with fail
    refine (WK.out _).mono ?_
    rintro e w1 ⟨rfl, hb1⟩
    go_wp2
    go_ret
    exact ⟨rfl, ((Below.refl _ w).alloc (Nat.le_refl _) _).trans (hb1.mono (by simp))⟩
  have d1 : decide ((60 : Int) < (n : Int)) = false := decide_eq_false (by omega)
  by_cases c6 : ckC c = 0
  rotate_left
  · have hne : (ckC c == 0) = false := by simpa using c6
    have hne' : (ckC c != 0) = true := by simpa using c6
    obtain ⟨q, hq⟩ : ∃ q, ckC c = q := ⟨_, rfl⟩
    rw [hq] at CK hne hne'
    clear hq c6
    go_enter Try.func9, Try.ntmps9
    go_wp2_with fail
    refine (CK.out _).mono ?_
    rintro e w1 ⟨rfl, hb1⟩
    have HB := Lib.hid (((Below.refl _ w).alloc (Nat.le_refl _) (.cells #[.int .i64 c.half, .int .i64 c.gain, .int .i64 c.thin, .int .i64 c.wide, .int .i64 c.slope, .int .i64 c.jerk, .int .i64 c.stylus] 23)).trans (hb1.mono (by simp)))
    clear hb1
    go_wp2_with fail
    refine (WK.out _).mono ?_
    rintro e w2 ⟨rfl, hb2⟩
    go_wp2
    go_ret
    exact ⟨rfl, HB.out.trans (hb2.mono HB.out.size)⟩
  by_cases c7 : ckG l = 0
  rotate_left
  · have hne : (ckG l == 0) = false := by simpa using c7
    have hne' : (ckG l != 0) = true := by simpa using c7
    obtain ⟨q, hq⟩ : ∃ q, ckG l = q := ⟨_, rfl⟩
    rw [hq] at CP hne hne'
    rw [c6] at CK
    clear hq c7 c6
    go_enter Try.func9, Try.ntmps9
    go_wp2_with fail
    refine (CK.out _).mono ?_
    rintro e w1 ⟨rfl, hb1⟩
    have HB := Lib.hid (((Below.refl _ w).alloc (Nat.le_refl _) (.cells #[.int .i64 c.half, .int .i64 c.gain, .int .i64 c.thin, .int .i64 c.wide, .int .i64 c.slope, .int .i64 c.jerk, .int .i64 c.stylus] 23)).trans (hb1.mono (by simp)))
    clear hb1
    go_wp2_with fail
    refine (CP.out _ HB.out).mono ?_
    rintro e w2 ⟨rfl, hb2⟩
    have HB := Lib.hid (HB.out.trans (hb2.mono HB.out.size))
    clear hb2
    go_wp2_with fail
    refine (WK.out _).mono ?_
    rintro e w3 ⟨rfl, hb3⟩
    go_wp2
    go_ret
    exact ⟨rfl, HB.out.trans (hb3.mono HB.out.size)⟩
  have HC := Lib.hid (ckC_ok c6)
  have C7 := Lib.hid c7
  have E1 := Lib.hid (lsEr_zero (l := l) (per := per) HC.out c7 (by omega) (by omega))
  have HS := Lib.hid (show SpOk r per from ⟨by omega, by omega, by omega, by omega⟩)
  have HP := Lib.hid (show 1 ≤ per ∧ per ≤ 65536 by omega)
  rw [c6] at CK
  rw [c7] at CP
  clear c6 c7
  have LA := Lib.hid (fun W hb => Least_any w.heap.size A n k c l per W (H.out.below hb (Nat.le_refl _)) (Below.size hb) hl)
  have ND := Lib.hid (fun (i : Nat) W hb => Needs_any w.heap.size A n k c l per i W (H.out.below hb (Nat.le_refl _)) (Below.size hb) hl)
  have FU := Lib.hid (fun r W hb => Fault_any w.heap.size A n k c l r per W (H.out.below hb (Nat.le_refl _)) (Below.size hb) hl)
  obtain ⟨fi, fq, fe, hfr⟩ : ∃ fi fq fe, fuR c l r per = (fi, fq, fe) := ⟨_, _, _, rfl⟩
  have HFR := Lib.hid hfr
  have FR := Lib.hid (fun W hb => FU.out r W hb)
  rw [hfr] at FR
  clear hfr
  go_enter Try.func9, Try.ntmps9
  go_wp2_with fail
  refine (CK.out _).mono ?_
  rintro e w1 ⟨rfl, hb1⟩
  have k0' : Blk w1 w.heap.size 23 #[.int .i64 c.half, .int .i64 c.gain, .int .i64 c.thin, .int .i64 c.wide, .int .i64 c.slope, .int .i64 c.jerk, .int .i64 c.stylus] := (Blk.new _ _ _).below hb1 (by simp)
  have HK := Lib.hid k0'
  have HB := Lib.hid (((Below.refl _ w).alloc (Nat.le_refl _) (.cells #[.int .i64 c.half, .int .i64 c.gain, .int .i64 c.thin, .int .i64 c.wide, .int .i64 c.slope, .int .i64 c.jerk, .int .i64 c.stylus] 23)).trans (hb1.mono (by simp)))
  clear hb1 k0'
  go_wp2_with fail
  refine (CP.out _ HB.out).mono ?_
  rintro e w2 ⟨rfl, hb2⟩
  have HK := Lib.hid (HK.out.below hb2 HK.out.lt)
  have HB := Lib.hid (HB.out.trans (hb2.mono HB.out.size))
  clear hb2
  have hk := HK.out
  have p0 := (hk.cell 0).trans rfl
  have p1 := (hk.cell 1).trans rfl
  have p2 := (hk.cell 2).trans rfl
  have p3 := (hk.cell 3).trans rfl
  have p4 := (hk.cell 4).trans rfl
  have p5 := (hk.cell 5).trans rfl
  have p6 := (hk.cell 6).trans rfl
  clear hk
  go_wp2_with fail
  refine (LA.out _ HB.out).mono ?_
  rintro e w3 ⟨nq, en, rfl, hqa, hb3⟩
  have HK := Lib.hid (HK.out.below hb3 HK.out.lt)
  have HB := Lib.hid (HB.out.trans (hb3.mono HB.out.size))
  have HQA : Hid (LeastIs (fun r => fls c l r per) nq en) := Lib.hid (by unfold lsQ at hqa; rwa [if_pos E1.out] at hqa)
  clear hb3 hqa p0 p1 p2 p3 p4 p5 p6
  have hk := HK.out
  have p0 := (hk.cell 0).trans rfl
  have p1 := (hk.cell 1).trans rfl
  have p2 := (hk.cell 2).trans rfl
  have p3 := (hk.cell 3).trans rfl
  have p4 := (hk.cell 4).trans rfl
  have p5 := (hk.cell 5).trans rfl
  have p6 := (hk.cell 6).trans rfl
  clear hk
  go_wp2_with fail
  refine (FR.out _ HB.out).mono ?_
  rintro e w4 ⟨rfl, hb4⟩
  have HK := Lib.hid (HK.out.below hb4 HK.out.lt)
  have HB := Lib.hid (HB.out.trans (hb4.mono HB.out.size))
  clear hb4 p0 p1 p2 p3 p4 p5 p6
  go_wp2_with fail
  go_loopw [14, 15, 16] (fun a b z wr => ∃ (j : Nat) (mo : Int) (li : Bool), j ≤ n ∧ z = .int .i64 j ∧ a = .int .i64 mo ∧ b = .bool li ∧ Hid (FitInv c l per j mo li) ∧ Hid (Blk wr w.heap.size 23 #[.int .i64 c.half, .int .i64 c.gain, .int .i64 c.thin, .int .i64 c.wide, .int .i64 c.slope, .int .i64 c.jerk, .int .i64 c.stylus]) ∧ Hid (Below w.heap.size w wr)) (fun a b z wr => n - (intOf z).toNat)
  case atStart => exact ⟨0, 0, false, Nat.zero_le _, rfl, rfl, rfl, Lib.hid (.inl ⟨rfl, by omega, by omega, fun i hi => absurd hi (by omega), .inl rfl⟩), HK, HB⟩
  case round =>
    clear HK HB
    obtain ⟨j, mo, li, hj, rfl, rfl, rfl, HI, HK, HB⟩ := hrel
    by_cases hlt : j < n
    · have hk := HK.out
      have p0 := (hk.cell 0).trans rfl
      have p1 := (hk.cell 1).trans rfl
      have p2 := (hk.cell 2).trans rfl
      have p3 := (hk.cell 3).trans rfl
      have p4 := (hk.cell 4).trans rfl
      have p5 := (hk.cell 5).trans rfl
      have p6 := (hk.cell 6).trans rfl
      clear hk
      go_wp2_with fail
      refine (ND.out j _ HB.out).mono ?_
      rintro e w5 ⟨x, g, rfl, hq, hb5⟩
      have HB := Lib.hid (HB.out.trans (hb5.mono HB.out.size))
      have HK := Lib.hid (HK.out.below hb5 HK.out.lt)
      have hq2 : LeastIs (fun r => brk c l r per j == 0) x g := by
        unfold ndQ at hq
        rw [if_pos E1.out, if_neg (by have := HN.out; omega)] at hq
        exact hq
      obtain ⟨hg, hinv⟩ := FitInv.step HC.out HP.out.1 HP.out.2 HI.out hq2
      obtain ⟨m2, hm2⟩ : ∃ m2, max mo x = m2 := ⟨_, rfl⟩
      have e5 : (if mo < x then x else mo) = m2 := by rw [← hm2]; split <;> omega
      rw [hm2] at hinv
      have HINV := Lib.hid hinv
      clear hb5 hq hq2 hinv hm2 p0 p1 p2 p3 p4 p5 p6
      rcases hg with rfl | rfl <;> cases li
      all_goals
        go_wp2_with fail
        go_roundw
        case rel => exact ⟨j + 1, m2, _, by omega, by go_num, rfl, rfl, HINV, HK, HB⟩
        case measure => simp [intOf]; omega
    · obtain rfl : n = j := by omega
      have hfin := FitInv.fin HC.out HP.out.1 HP.out.2 (by rw [← HN.out]; exact HI.out) HQA.out
      have hk := HK.out
      have p0 := (hk.cell 0).trans rfl
      have p1 := (hk.cell 1).trans rfl
      have p2 := (hk.cell 2).trans rfl
      have p3 := (hk.cell 3).trans rfl
      have p4 := (hk.cell 4).trans rfl
      have p5 := (hk.cell 5).trans rfl
      have p6 := (hk.cell 6).trans rfl
      clear hk
      rcases hfin with ⟨rfl, rfl, rfl, hall⟩ | ⟨rfl, rfl, rfl, m0, m1, hmo, hall, hbrk⟩
      · have HE := Lib.hid (fuEr_zero HC.out C7.out HS.out)
        have hfr := hall r HS.out.r1 HS.out.r2
        obtain ⟨i', q', hx, -, -, -, -⟩ := fu_false HE.out hfr
        rw [HFR.out] at hx
        simp only [Prod.mk.injEq] at hx
        obtain ⟨-, -, rfl⟩ := hx
        have FM := Lib.hid (fun W hb => FU.out 4194304 W hb)
        obtain ⟨i2, q2, hx2, hi2, hq1, hq2, -⟩ := fu_false (fuEr_zero (r := 4194304) HC.out C7.out ⟨by omega, by omega, HP.out.1, HP.out.2⟩) (hall 4194304 (by omega) (by omega))
        rw [hx2] at FM
        have hi3 : (i2 : Int) < (n : Int) := by have := HN.out; omega
        have hi4 : 0 ≤ (i2 : Int) := by omega
        clear hx2 hi2 hall hfr HE
        go_wp2_with fail
        refine (FM.out _ HB.out).mono ?_
        rintro e w6 ⟨rfl, hb6⟩
        have HB := Lib.hid (HB.out.trans (hb6.mono HB.out.size))
        clear hb6 p0 p1 p2 p3 p4 p5 p6
        go_wp2_with fail
        refine (WK.out _).mono ?_
        rintro e w7 ⟨rfl, hb7⟩
        go_wp2
        go_ret
        exact ⟨rfl, HB.out.trans (hb7.mono HB.out.size)⟩
      · have hrr := hall r HS.out.r1 HS.out.r2
        have hfx : fe = if nq ≤ r then 5 else 0 := by
          by_cases hmr : nq ≤ r
          · rw [decide_eq_true hmr] at hrr
            have hx := fu_true (fuEr_zero HC.out C7.out HS.out) hrr
            rw [HFR.out] at hx
            simp only [Prod.mk.injEq] at hx
            rw [if_pos hmr]; exact hx.2.2
          · rw [decide_eq_false hmr] at hrr
            obtain ⟨i', q', hx, -, -, -, -⟩ := fu_false (fuEr_zero HC.out C7.out HS.out) hrr
            rw [HFR.out] at hx
            simp only [Prod.mk.injEq] at hx
            rw [if_neg hmr]; exact hx.2.2
        have FM := Lib.hid (fun W hb => FU.out nq W hb)
        rw [fu_true (fuEr_zero HC.out C7.out ⟨m0, m1, HP.out.1, HP.out.2⟩) hmo] at FM
        have HALL := Lib.hid hall
        have HBRK := Lib.hid hbrk
        clear hrr hmo hall hbrk
        by_cases hmr : nq ≤ r
        all_goals
          simp only [hmr, if_true, if_false] at hfx
          subst hfx
          go_wp2_with fail
          refine (FM.out _ HB.out).mono ?_
          rintro e w6 ⟨rfl, hb6⟩
          have HK := Lib.hid (HK.out.below hb6 HK.out.lt)
          have HB := Lib.hid (HB.out.trans (hb6.mono HB.out.size))
          clear hb6 p0 p1 p2 p3 p4 p5 p6
          by_cases hm0 : 0 < nq
          · have hf : fls c l (nq - 1) per = false := by rw [HALL.out (nq - 1) (by omega) (by omega), decide_eq_false (by omega)]
            obtain ⟨i2, q2, hx2, hi2, hq1, hq2, hq3⟩ := fu_false (fuEr_zero (r := nq - 1) HC.out C7.out ⟨by omega, by omega, HP.out.1, HP.out.2⟩) hf
            have h35 := brk_35 (b := nq) (show brk c l (nq - 1) per i2 ≠ 0 by omega) (HBRK.out i2 hi2)
            rw [hq3] at h35
            have FX := Lib.hid (fun W hb => FU.out (nq - 1) W hb)
            rw [hx2] at FX
            have hk := HK.out
            have p0 := (hk.cell 0).trans rfl
            have p1 := (hk.cell 1).trans rfl
            have p2 := (hk.cell 2).trans rfl
            have p3 := (hk.cell 3).trans rfl
            have p4 := (hk.cell 4).trans rfl
            have p5 := (hk.cell 5).trans rfl
            have p6 := (hk.cell 6).trans rfl
            clear hk hx2 hi2 hq3 hf
            rcases h35 with rfl | rfl
            all_goals
              go_wp2_with fail
              refine (FX.out _ HB.out).mono ?_
              rintro e w8 ⟨rfl, hb8⟩
              have HB := Lib.hid (HB.out.trans (hb8.mono HB.out.size))
              clear hb8
              go_wp2_with fail
              refine (WK.out _).mono ?_
              rintro e w7 ⟨rfl, hb7⟩
              go_wp2
              go_ret
              exact ⟨rfl, HB.out.trans (hb7.mono HB.out.size)⟩
          · first
              | (exfalso; have := HS.out.r1; omega)
              | (go_wp2_with fail; refine (WK.out _).mono ?_; rintro e w7 ⟨rfl, hb7⟩; go_wp2; go_ret; exact ⟨rfl, HB.out.trans (hb7.mono HB.out.size)⟩)
end Go.Proofs.Ytaiigdbbpdkamaa
