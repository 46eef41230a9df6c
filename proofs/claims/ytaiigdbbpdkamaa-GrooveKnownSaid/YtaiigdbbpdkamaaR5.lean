/-
  The document's least, Arc, Fault, Least and Needs of a groove.
-/
import Derived.Test.YtaiigdbbpdkamaaR4
namespace Go.Proofs.Ytaiigdbbpdkamaa
open Go.RowKit

/-- What the document's least gives. -/
def RlQ (p : Int → Bool) (v : Int) : Prop := (v = -1 ∧ LeastIs p 0 14) ∨ (0 ≤ v ∧ LeastIs p v 0)
def RlPost (Q : Int → Prop) (w : World) (e : Ending) (w' : World) : Prop := ∃ v, e = .returned (.int .i64 v) ∧ Q v ∧ Below w.heap.size w w'
/-- Halving: what is known of the two ends. -/
def Half (p : Int → Bool) (lo hi : Int) : Prop := (hi = 4194305 ∨ p hi = true) ∧ ∀ q, 0 ≤ q → q < lo → p q = false
theorem Half.lo {p : Int → Bool} (hm : Mono_ p) {lo hi mid : Int} (h : Half p lo hi) (h2 : mid ≤ 4194304) (hx : p mid = false) : Half p (mid + 1) hi := by
  refine ⟨h.1, fun q q1 q2 => ?_⟩
  cases hq : p q
  · rfl
  · have := hm q mid q1 (by omega) h2 hq; rw [hx] at this; cases this
theorem Half.hi {p : Int → Bool} {lo hi mid : Int} (h : Half p lo hi) (hx : p mid = true) : Half p lo mid := ⟨.inr hx, h.2⟩
theorem Half.fin {p : Int → Bool} {lo : Int} (h : Half p lo lo) (h0 : 0 ≤ lo) (h1 : lo ≤ 4194305) : if 4194304 < lo then LeastIs p 0 14 else LeastIs p lo 0 := by
  split
  · exact .inr ⟨rfl, rfl, fun q q1 q2 => h.2 q q1 (by omega)⟩
  · rcases h.1 with h2 | h2
    · omega
    · exact .inl ⟨rfl, h0, by omega, h2, h.2⟩

set_option maxRecDepth 100000 in
set_option maxHeartbeats 4000000 in
theorem refLeastN_any (B : Nat) (A : Option Addr) (n k : Nat) (c : Ctr) (l : List Smp) (per : Int) (w : World) (h0 : RS w B A n l) (hB : B ≤ w.heap.size) (hl : n ≤ 4096) (hk : n ≤ k) (he : ∀ p ∈ l, EdOk p) (hc : CtOk c) (p1 : 1 ≤ per) (p2 : per ≤ 65536) :
    Calls Try.prog 65 #[.agg #[.int .i64 c.half, .int .i64 c.gain, .int .i64 c.thin, .int .i64 c.wide, .int .i64 c.slope, .int .i64 c.jerk, .int .i64 c.stylus], .slice A n k, .int .i64 per] w (RlPost (RlQ (fun r => fls c l r per)) w) := by
  have H := Lib.hid (h0.more hB)
  have HE := Lib.hid he
  have HC := Lib.hid hc
  have HM := Lib.hid (fls_mono (l := l) hc p1 p2)
  clear h0 hB he hc
  have FA := Lib.hid (fun (r : Int) (r1 : 0 ≤ r) (r2 : r ≤ 4194304) (W : World) (hb : Below w.heap.size w W) => refFault_any w.heap.size A n k c l r per W (H.out.below hb (Nat.le_refl _)) hb.size hl hk HE.out HC.out ⟨r1, r2, p1, p2⟩)
  go_enter Try.func65, Try.ntmps65
  go_wp2_with fail
  go_loopw [7, 8] (fun a b wr => ∃ lo hi : Int, a = .int .i64 lo ∧ b = .int .i64 hi ∧ 0 ≤ lo ∧ lo ≤ hi ∧ hi ≤ 4194305 ∧ Hid (Half (fun r => fls c l r per) lo hi) ∧ Hid (Blk wr w.heap.size 23 #[.int .i64 c.half, .int .i64 c.gain, .int .i64 c.thin, .int .i64 c.wide, .int .i64 c.slope, .int .i64 c.jerk, .int .i64 c.stylus]) ∧ Hid (Below w.heap.size w wr)) (fun a b _ => (intOf b - intOf a).toNat)
  case atStart => exact ⟨0, 4194305, rfl, rfl, by omega, by omega, by omega, Lib.hid ⟨.inl rfl, fun q q1 q2 => absurd q2 (by omega)⟩, Lib.hid (Blk.new _ _ _), Lib.hid ((Below.refl _ _).alloc (Nat.le_refl _) _)⟩
  case round =>
    obtain ⟨lo, hi, rfl, rfl, h1, h2, h3, HH, HK, HB⟩ := hrel
    by_cases hlt : lo < hi
    · obtain ⟨mid, hmid⟩ : ∃ mid, (lo + hi) / 2 = mid := ⟨_, rfl⟩
      have hm1 : lo ≤ mid ∧ mid < hi := by omega
      obtain ⟨hm1, hm2⟩ := hm1
      have HMID := Lib.hid hmid
      have FM := Lib.hid (FA.out mid (by omega) (by omega))
      have HX : Hid (fls c l mid per = ((flt c l mid per).2 == 0)) := Lib.hid rfl
      obtain ⟨q, hq⟩ : ∃ q, flt c l mid per = q := ⟨_, rfl⟩
      rw [hq] at FM HX
      clear hq
      by_cases hz : q.2 = 0
      · have HH2 := Lib.hid (HH.out.hi (mid := mid) (by show fls c l mid per = true; rw [HX.out]; simpa using hz))
        have hz1 : (q.2 == 0) = true := by simpa using hz
        clear hz
        have hk_0 : wr.cell? ⟨w.heap.size, 0, none⟩ = some (.int .i64 c.half) := (HK.out.cell 0).trans rfl
        have hk_1 : wr.cell? ⟨w.heap.size, 1, none⟩ = some (.int .i64 c.gain) := (HK.out.cell 1).trans rfl
        have hk_2 : wr.cell? ⟨w.heap.size, 2, none⟩ = some (.int .i64 c.thin) := (HK.out.cell 2).trans rfl
        have hk_3 : wr.cell? ⟨w.heap.size, 3, none⟩ = some (.int .i64 c.wide) := (HK.out.cell 3).trans rfl
        have hk_4 : wr.cell? ⟨w.heap.size, 4, none⟩ = some (.int .i64 c.slope) := (HK.out.cell 4).trans rfl
        have hk_5 : wr.cell? ⟨w.heap.size, 5, none⟩ = some (.int .i64 c.jerk) := (HK.out.cell 5).trans rfl
        have hk_6 : wr.cell? ⟨w.heap.size, 6, none⟩ = some (.int .i64 c.stylus) := (HK.out.cell 6).trans rfl
        go_wp2_with fail
        refine (FM.out _ HB.out).mono ?_
        rintro e w2 ⟨rfl, hb1⟩
        replace HK := Lib.hid (HK.out.below hb1 HK.out.lt)
        replace HB := Lib.hid (HB.out.trans (hb1.mono HB.out.size))
        clear hb1 hmid hk_0 hk_1 hk_2 hk_3 hk_4 hk_5 hk_6
        go_wp2_with fail
        go_roundw
        case rel => exact ⟨lo, mid, by first | rfl | go_num, by first | rfl | exact congrArg _ (by have := HMID.out; omega), h1, by omega, by omega, HH2, HK, HB⟩
        case measure => have := HMID.out; simp [intOf]; omega
      · have HH2 := Lib.hid (HH.out.lo HM.out (mid := mid) (by omega) (by show fls c l mid per = false; rw [HX.out]; simpa using hz))
        have hz1 : (q.2 == 0) = false := by simpa using hz
        clear hz
        have hk_0 : wr.cell? ⟨w.heap.size, 0, none⟩ = some (.int .i64 c.half) := (HK.out.cell 0).trans rfl
        have hk_1 : wr.cell? ⟨w.heap.size, 1, none⟩ = some (.int .i64 c.gain) := (HK.out.cell 1).trans rfl
        have hk_2 : wr.cell? ⟨w.heap.size, 2, none⟩ = some (.int .i64 c.thin) := (HK.out.cell 2).trans rfl
        have hk_3 : wr.cell? ⟨w.heap.size, 3, none⟩ = some (.int .i64 c.wide) := (HK.out.cell 3).trans rfl
        have hk_4 : wr.cell? ⟨w.heap.size, 4, none⟩ = some (.int .i64 c.slope) := (HK.out.cell 4).trans rfl
        have hk_5 : wr.cell? ⟨w.heap.size, 5, none⟩ = some (.int .i64 c.jerk) := (HK.out.cell 5).trans rfl
        have hk_6 : wr.cell? ⟨w.heap.size, 6, none⟩ = some (.int .i64 c.stylus) := (HK.out.cell 6).trans rfl
        go_wp2_with fail
        refine (FM.out _ HB.out).mono ?_
        rintro e w2 ⟨rfl, hb1⟩
        replace HK := Lib.hid (HK.out.below hb1 HK.out.lt)
        replace HB := Lib.hid (HB.out.trans (hb1.mono HB.out.size))
        clear hb1 hmid hk_0 hk_1 hk_2 hk_3 hk_4 hk_5 hk_6
        go_wp2_with fail
        go_roundw
        case rel => exact ⟨mid + 1, hi, by first | rfl | exact congrArg _ (by have := HMID.out; omega), by first | rfl | go_num, by omega, by omega, h3, HH2, HK, HB⟩
        case measure => have := HMID.out; simp [intOf]; omega
    · obtain rfl : lo = hi := by omega
      have hf := HH.out.fin h1 h3
      by_cases hg : 4194304 < lo
      · rw [if_pos hg] at hf
        have HF := Lib.hid hf
        clear hf
        go_wp2_with fail
        go_ret
        exact ⟨_, rfl, .inl ⟨rfl, HF.out⟩, HB.out⟩
      · rw [if_neg hg] at hf
        have HF := Lib.hid hf
        clear hf
        go_wp2_with fail
        go_ret
        exact ⟨_, rfl, .inr ⟨h1, HF.out⟩, HB.out⟩

set_option maxHeartbeats 400000 in
theorem refTurn_any (per : Int) (w : World) :
    Calls Try.prog 64 #[.int .i64 per] w fun e w' => e = .returned (.int .i64 (ckT per)) ∧ w = w' := by
  cases h1 : win per 1 65536
  all_goals
    have H1 := Lib.hid h1
    clear h1
    go_enter Try.func64, Try.ntmps64
    go_wp2_with ((with_reducible refine (refWithin_any _ _ _ _).mono ?_); rintro e w' ⟨rfl, rfl⟩; rw [H1.out])
    go_ret
    exact ⟨ret_i (by unfold ckT ckN; rw [H1.out]; rfl), rfl⟩
def ckP2 (r per : Int) : Int := if ckR r = 0 then ckT per else 3
theorem ckR_3 (r : Int) : ckR r = 0 ∨ ckR r = 3 := by unfold ckR ckN; split <;> simp
theorem ckT_3 (r : Int) : ckT r = 0 ∨ ckT r = 3 := by unfold ckT ckN; split <;> simp
theorem ckP2_3 (r per : Int) : (ckP2 r per = 0 ∧ ckR r = 0 ∧ ckT per = 0) ∨ (ckP2 r per = 3 ∧ ¬ (ckR r = 0 ∧ ckT per = 0)) := by
  unfold ckP2
  rcases ckR_3 r with h | h <;> rcases ckT_3 per with h' | h' <;> simp [h, h']
set_option maxHeartbeats 400000 in
theorem refPlace_any (r per : Int) (w : World) :
    Calls Try.prog 56 #[.int .i64 r, .int .i64 per] w fun e w' => e = .returned (.int .i64 (ckP2 r per)) ∧ w = w' := by
  cases h1 : win r 0 4194304
  · have H1 := Lib.hid h1
    clear h1
    go_enter Try.func56, Try.ntmps56
    go_wp2_with ((with_reducible refine (refWithin_any _ _ _ _).mono ?_); rintro e w' ⟨rfl, rfl⟩; rw [H1.out])
    go_ret
    exact ⟨ret_i (by unfold ckP2 ckR ckN; rw [H1.out]; rfl), rfl⟩
  · have H1 := Lib.hid h1
    clear h1
    go_enter Try.func56, Try.ntmps56
    go_wp2_with fail
    refine (refWithin_any _ _ _ _).mono ?_
    rintro e w' ⟨rfl, rfl⟩
    rw [H1.out]
    go_wp2_with fail
    refine (refTurn_any _ _).mono ?_
    rintro e w' ⟨rfl, rfl⟩
    go_wp2
    go_ret
    exact ⟨ret_i (by unfold ckP2 ckR ckN; rw [H1.out]; rfl), rfl⟩
def ckGr (c : Ctr) (l : List Smp) : Int := if ckC c = 0 then ckG l else 2
theorem ckC_2 (c : Ctr) : ckC c = 0 ∨ ckC c = 2 := by unfold ckC; split <;> simp
theorem ckGr_or (c : Ctr) (l : List Smp) (xs : List Int) : (ckGr c l = 0 ∧ ckC c = 0 ∧ ckG l = 0 ∧ orL (ckC c :: ckG l :: xs) = orL xs) ∨ (ckGr c l ≠ 0 ∧ orL (ckC c :: ckG l :: xs) = ckGr c l) := by
  unfold ckGr
  rcases ckC_2 c with h | h
  · rw [if_pos h]
    by_cases hg : ckG l = 0
    · left; simp [orL, h, hg]
    · right; simp [orL, h, hg]
  · right; rw [if_neg (by omega)]; simp [orL, h]
set_option maxHeartbeats 1000000 in
theorem refGrooved_any (B : Nat) (A : Option Addr) (n k : Nat) (c : Ctr) (l : List Smp) (w : World) (h0 : RS w B A n l) (hB : B ≤ w.heap.size) (hl : n ≤ 9223372036854775807) :
    Calls Try.prog 59 #[.agg #[.int .i64 c.half, .int .i64 c.gain, .int .i64 c.thin, .int .i64 c.wide, .int .i64 c.slope, .int .i64 c.jerk, .int .i64 c.stylus], .slice A n k] w fun e w' => e = .returned (.int .i64 (ckGr c l)) ∧ Below w.heap.size w w' := by
  have H := Lib.hid (h0.more hB)
  clear h0 hB
  have CP := Lib.hid (fun W (hb : Below w.heap.size w W) => refCheckPoints_any w.heap.size A n k l W (H.out.below hb (Nat.le_refl _)) hb.size hl)
  have CK := Lib.hid (fun W => refCheck_any c W)
  have HR : Hid (ckGr c l = if ckC c = 0 then ckG l else 2) := Lib.hid rfl
  by_cases hz : ckC c = 0
  · rw [if_pos hz] at HR
    rw [hz] at CK
    clear hz
    go_enter Try.func59, Try.ntmps59
    go_wp2_with fail
    refine (CK.out _).mono ?_
    rintro e w1 ⟨rfl, hb1⟩
    have HB := Lib.hid (((Below.refl _ w).alloc (Nat.le_refl _) (.cells #[.int .i64 c.half, .int .i64 c.gain, .int .i64 c.thin, .int .i64 c.wide, .int .i64 c.slope, .int .i64 c.jerk, .int .i64 c.stylus] 23)).trans (hb1.mono (by simp)))
    clear hb1
    go_wp2_with fail
    refine (CP.out _ HB.out).mono ?_
    rintro e w2 ⟨rfl, hb2⟩
    go_wp2
    go_ret
    exact ⟨ret_i HR.out.symm, HB.out.trans (hb2.mono HB.out.size)⟩
  · rw [if_neg hz] at HR
    have h2 : ckC c = 2 := by rcases ckC_2 c with h | h <;> omega
    rw [h2] at CK
    clear hz h2
    go_enter Try.func59, Try.ntmps59
    go_wp2_with fail
    refine (CK.out _).mono ?_
    rintro e w1 ⟨rfl, hb1⟩
    go_wp2
    go_ret
    exact ⟨ret_i HR.out.symm, ((Below.refl _ w).alloc (Nat.le_refl _) (.cells #[.int .i64 c.half, .int .i64 c.gain, .int .i64 c.thin, .int .i64 c.wide, .int .i64 c.slope, .int .i64 c.jerk, .int .i64 c.stylus] 23)).trans (hb1.mono (by simp))⟩

set_option maxHeartbeats 1000000 in
theorem refArcE_any (r per : Int) (w : World) :
    Calls Try.prog 29 #[.int .i64 r, .int .i64 per] w fun e w' => e = .returned (.tuple #[.int .i64 (arV r per), .int .i64 (arEr r per)]) ∧ w = w' := by
  have CP := Lib.hid (fun W => refPlace_any r per W)
  rcases ckP2_3 r per with ⟨h1, h2, h3⟩ | ⟨h1, h2⟩
  · have he : arEr r per = 0 := by unfold arEr; rw [h2, h3]; rfl
    have hv : arV r per = arcN r per := by unfold arV; rw [if_pos he]
    obtain ⟨a1, a2⟩ := ckN_ok h2
    obtain ⟨a3, a4⟩ := ckN_ok h3
    have AR := Lib.hid (fun W => refArcN_any r per W ⟨a1, a2, a3, a4⟩)
    rw [h1] at CP
    rw [he, hv]
    obtain ⟨x, hx⟩ : ∃ x, arcN r per = x := ⟨_, rfl⟩
    rw [hx] at AR ⊢
    clear h1 h2 h3 he hv hx a1 a2 a3 a4
    go_enter Try.func29, Try.ntmps29
    go_wp2_with fail
    refine (CP.out _).mono ?_
    rintro e w' ⟨rfl, rfl⟩
    go_wp2_with fail
    refine (AR.out _).mono ?_
    rintro e w' ⟨rfl, rfl⟩
    go_wp2
    go_ret2
    exact ⟨rfl, rfl⟩
  · have he : arEr r per = 3 := by
      unfold arEr
      rcases ckR_3 r with h | h
      · rcases ckT_3 per with h' | h'
        · exact absurd ⟨h, h'⟩ h2
        · rw [h, h']; rfl
      · rw [h]; rfl
    have hv : arV r per = 0 := by unfold arV; rw [if_neg (by omega)]
    rw [h1] at CP
    rw [he, hv]
    clear h1 h2 he hv
    go_enter Try.func29, Try.ntmps29
    go_wp2_with fail
    refine (CP.out _).mono ?_
    rintro e w' ⟨rfl, rfl⟩
    go_wp2
    go_ret2
    exact ⟨rfl, rfl⟩
set_option maxRecDepth 100000 in
set_option maxHeartbeats 4000000 in
theorem refFaultE_any (B : Nat) (A : Option Addr) (n k : Nat) (c : Ctr) (l : List Smp) (r per : Int) (w : World) (h0 : RS w B A n l) (hB : B ≤ w.heap.size) (hl : n ≤ 9223372036854775807) (hk : n ≤ k) :
    Calls Try.prog 31 #[.agg #[.int .i64 c.half, .int .i64 c.gain, .int .i64 c.thin, .int .i64 c.wide, .int .i64 c.slope, .int .i64 c.jerk, .int .i64 c.stylus], .slice A n k, .int .i64 r, .int .i64 per] w fun e w' => e = .returned (.tuple #[.int .i64 (fuR c l r per).1, .int .i64 (fuR c l r per).2.1, .int .i64 (fuR c l r per).2.2]) ∧ Below w.heap.size w w' := by
  have HN := Lib.hid h0.1
  have H := Lib.hid (h0.more hB)
  clear h0 hB
  have GR := Lib.hid (fun W (hb : Below w.heap.size w W) => refGrooved_any w.heap.size A n k c l W (H.out.below hb (Nat.le_refl _)) hb.size hl)
  have CP := Lib.hid (fun W => refPlace_any r per W)
  obtain ⟨R, hR⟩ : ∃ R, fuR c l r per = R := ⟨_, rfl⟩
  have HR := Lib.hid hR
  rw [hR]
  clear hR
  rcases ckGr_or c l [ckR r, ckT per] with ⟨g1, g2, g3, g4⟩ | ⟨g1, g2⟩
  · rw [g1] at GR
    rcases ckP2_3 r per with ⟨h1, h2, h3⟩ | ⟨h1, h2⟩
    · rw [h1] at CP
      have he : fuEr c l r per = 0 := by unfold fuEr; rw [g4, h2, h3]; rfl
      have hok := fu_ok he
      have hl4 : n ≤ 4096 := by
        have := HN.out
        unfold ckG at g3
        split at g3 <;> omega
      have FF := Lib.hid (fun (W : World) (hb : Below w.heap.size w W) => refFault_any w.heap.size A n k c l r per W (H.out.below hb (Nat.le_refl _)) hb.size hl4 hk hok.2.1 hok.1 hok.2.2)
      have hr : R = if (flt c l r per).2 = 0 then (0, 0, 5) else (((flt c l r per).1 : Int), (flt c l r per).2, 0) := by rw [← HR.out, fuR, if_pos he]
      obtain ⟨q, hq⟩ : ∃ q, flt c l r per = q := ⟨_, rfl⟩
      rw [hq] at FF hr
      clear hq hok he g1 g2 g3 g4 h1 h2 h3
      by_cases hq0 : q.2 = 0
      · rw [if_pos hq0] at hr
        have HRR := Lib.hid hr
        have hq1 : (q.2 == 0) = true := by simpa using hq0
        clear hr hq0
        go_enter Try.func31, Try.ntmps31
        go_wp2_with fail
        obtain ⟨W0, hW⟩ : ∃ W0, w.alloc (.cells #[.int .i64 c.half, .int .i64 c.gain, .int .i64 c.thin, .int .i64 c.wide, .int .i64 c.slope, .int .i64 c.jerk, .int .i64 c.stylus] 23) = W0 := ⟨_, rfl⟩
        have HK : Hid (Blk W0 w.heap.size 23 #[.int .i64 c.half, .int .i64 c.gain, .int .i64 c.thin, .int .i64 c.wide, .int .i64 c.slope, .int .i64 c.jerk, .int .i64 c.stylus]) := Lib.hid (by rw [← hW]; exact Blk.new _ _ _)
        have HB : Hid (Below w.heap.size w W0) := Lib.hid (by rw [← hW]; exact (Below.refl _ w).alloc (Nat.le_refl _) _)
        rw [hW]
        clear hW
        refine (GR.out _ HB.out).mono ?_
        rintro e w1 ⟨rfl, hb1⟩
        replace HK := Lib.hid (HK.out.below hb1 HK.out.lt)
        replace HB := Lib.hid (HB.out.trans (hb1.mono HB.out.size))
        clear hb1
        have hk_0 : w1.cell? ⟨w.heap.size, 0, none⟩ = some (.int .i64 c.half) := (HK.out.cell 0).trans rfl
        have hk_1 : w1.cell? ⟨w.heap.size, 1, none⟩ = some (.int .i64 c.gain) := (HK.out.cell 1).trans rfl
        have hk_2 : w1.cell? ⟨w.heap.size, 2, none⟩ = some (.int .i64 c.thin) := (HK.out.cell 2).trans rfl
        have hk_3 : w1.cell? ⟨w.heap.size, 3, none⟩ = some (.int .i64 c.wide) := (HK.out.cell 3).trans rfl
        have hk_4 : w1.cell? ⟨w.heap.size, 4, none⟩ = some (.int .i64 c.slope) := (HK.out.cell 4).trans rfl
        have hk_5 : w1.cell? ⟨w.heap.size, 5, none⟩ = some (.int .i64 c.jerk) := (HK.out.cell 5).trans rfl
        have hk_6 : w1.cell? ⟨w.heap.size, 6, none⟩ = some (.int .i64 c.stylus) := (HK.out.cell 6).trans rfl
        go_wp2_with fail
        refine (CP.out _).mono ?_
        rintro e w' ⟨rfl, rfl⟩
        go_wp2_with fail
        refine (FF.out _ HB.out).mono ?_
        rintro e w3 ⟨rfl, hb1⟩
        replace HB := Lib.hid (HB.out.trans (hb1.mono HB.out.size))
        clear hb1 hk_0 hk_1 hk_2 hk_3 hk_4 hk_5 hk_6
        go_wp2
        go_ret3
        exact ⟨ret_3 (by rw [HRR.out]) (by rw [HRR.out]) (by rw [HRR.out]), HB.out⟩
      · rw [if_neg hq0] at hr
        have HRR := Lib.hid hr
        have hq1 : (q.2 == 0) = false := by simpa using hq0
        clear hr hq0
        go_enter Try.func31, Try.ntmps31
        go_wp2_with fail
        obtain ⟨W0, hW⟩ : ∃ W0, w.alloc (.cells #[.int .i64 c.half, .int .i64 c.gain, .int .i64 c.thin, .int .i64 c.wide, .int .i64 c.slope, .int .i64 c.jerk, .int .i64 c.stylus] 23) = W0 := ⟨_, rfl⟩
        have HK : Hid (Blk W0 w.heap.size 23 #[.int .i64 c.half, .int .i64 c.gain, .int .i64 c.thin, .int .i64 c.wide, .int .i64 c.slope, .int .i64 c.jerk, .int .i64 c.stylus]) := Lib.hid (by rw [← hW]; exact Blk.new _ _ _)
        have HB : Hid (Below w.heap.size w W0) := Lib.hid (by rw [← hW]; exact (Below.refl _ w).alloc (Nat.le_refl _) _)
        rw [hW]
        clear hW
        refine (GR.out _ HB.out).mono ?_
        rintro e w1 ⟨rfl, hb1⟩
        replace HK := Lib.hid (HK.out.below hb1 HK.out.lt)
        replace HB := Lib.hid (HB.out.trans (hb1.mono HB.out.size))
        clear hb1
        have hk_0 : w1.cell? ⟨w.heap.size, 0, none⟩ = some (.int .i64 c.half) := (HK.out.cell 0).trans rfl
        have hk_1 : w1.cell? ⟨w.heap.size, 1, none⟩ = some (.int .i64 c.gain) := (HK.out.cell 1).trans rfl
        have hk_2 : w1.cell? ⟨w.heap.size, 2, none⟩ = some (.int .i64 c.thin) := (HK.out.cell 2).trans rfl
        have hk_3 : w1.cell? ⟨w.heap.size, 3, none⟩ = some (.int .i64 c.wide) := (HK.out.cell 3).trans rfl
        have hk_4 : w1.cell? ⟨w.heap.size, 4, none⟩ = some (.int .i64 c.slope) := (HK.out.cell 4).trans rfl
        have hk_5 : w1.cell? ⟨w.heap.size, 5, none⟩ = some (.int .i64 c.jerk) := (HK.out.cell 5).trans rfl
        have hk_6 : w1.cell? ⟨w.heap.size, 6, none⟩ = some (.int .i64 c.stylus) := (HK.out.cell 6).trans rfl
        go_wp2_with fail
        refine (CP.out _).mono ?_
        rintro e w' ⟨rfl, rfl⟩
        go_wp2_with fail
        refine (FF.out _ HB.out).mono ?_
        rintro e w3 ⟨rfl, hb1⟩
        replace HB := Lib.hid (HB.out.trans (hb1.mono HB.out.size))
        clear hb1 hk_0 hk_1 hk_2 hk_3 hk_4 hk_5 hk_6
        go_wp2
        go_ret3
        exact ⟨ret_3 (by rw [HRR.out]) (by rw [HRR.out]) (by rw [HRR.out]), HB.out⟩
    · rw [h1] at CP
      have he : fuEr c l r per = 3 := by
        unfold fuEr; rw [g4]
        rcases ckR_3 r with h | h
        · rcases ckT_3 per with h' | h'
          · exact absurd ⟨h, h'⟩ h2
          · rw [h, h']; rfl
        · rw [h]; rfl
      have hr : R = (0, 0, 3) := by rw [← HR.out, fuR, if_neg (by omega), he]
      have HRR := Lib.hid hr
      clear hr he g1 g2 g3 g4 h1 h2
      go_enter Try.func31, Try.ntmps31
      go_wp2_with fail
      obtain ⟨W0, hW⟩ : ∃ W0, w.alloc (.cells #[.int .i64 c.half, .int .i64 c.gain, .int .i64 c.thin, .int .i64 c.wide, .int .i64 c.slope, .int .i64 c.jerk, .int .i64 c.stylus] 23) = W0 := ⟨_, rfl⟩
      have HK : Hid (Blk W0 w.heap.size 23 #[.int .i64 c.half, .int .i64 c.gain, .int .i64 c.thin, .int .i64 c.wide, .int .i64 c.slope, .int .i64 c.jerk, .int .i64 c.stylus]) := Lib.hid (by rw [← hW]; exact Blk.new _ _ _)
      have HB : Hid (Below w.heap.size w W0) := Lib.hid (by rw [← hW]; exact (Below.refl _ w).alloc (Nat.le_refl _) _)
      rw [hW]
      clear hW
      refine (GR.out _ HB.out).mono ?_
      rintro e w1 ⟨rfl, hb1⟩
      replace HK := Lib.hid (HK.out.below hb1 HK.out.lt)
      replace HB := Lib.hid (HB.out.trans (hb1.mono HB.out.size))
      clear hb1
      have hk_0 : w1.cell? ⟨w.heap.size, 0, none⟩ = some (.int .i64 c.half) := (HK.out.cell 0).trans rfl
      have hk_1 : w1.cell? ⟨w.heap.size, 1, none⟩ = some (.int .i64 c.gain) := (HK.out.cell 1).trans rfl
      have hk_2 : w1.cell? ⟨w.heap.size, 2, none⟩ = some (.int .i64 c.thin) := (HK.out.cell 2).trans rfl
      have hk_3 : w1.cell? ⟨w.heap.size, 3, none⟩ = some (.int .i64 c.wide) := (HK.out.cell 3).trans rfl
      have hk_4 : w1.cell? ⟨w.heap.size, 4, none⟩ = some (.int .i64 c.slope) := (HK.out.cell 4).trans rfl
      have hk_5 : w1.cell? ⟨w.heap.size, 5, none⟩ = some (.int .i64 c.jerk) := (HK.out.cell 5).trans rfl
      have hk_6 : w1.cell? ⟨w.heap.size, 6, none⟩ = some (.int .i64 c.stylus) := (HK.out.cell 6).trans rfl
      go_wp2_with fail
      refine (CP.out _).mono ?_
      rintro e w' ⟨rfl, rfl⟩
      go_wp2
      go_ret3
      exact ⟨ret_3 (by rw [HRR.out]) (by rw [HRR.out]) (by rw [HRR.out]), HB.out⟩
  · have he : fuEr c l r per = ckGr c l := g2
    have hr : R = (0, 0, ckGr c l) := by rw [← HR.out, fuR, if_neg (by rw [he]; exact g1), he]
    have HRR := Lib.hid hr
    obtain ⟨g, hg⟩ : ∃ g, ckGr c l = g := ⟨_, rfl⟩
    rw [hg] at GR HRR
    have hgz : ¬ g = 0 := by rw [← hg]; exact g1
    clear hr he g1 g2 hg
    have hne : (g == 0) = false := by simpa using hgz
    have hne' : (g != 0) = true := by simpa using hgz
    clear hgz
    go_enter Try.func31, Try.ntmps31
    go_wp2_with fail
    obtain ⟨W0, hW⟩ : ∃ W0, w.alloc (.cells #[.int .i64 c.half, .int .i64 c.gain, .int .i64 c.thin, .int .i64 c.wide, .int .i64 c.slope, .int .i64 c.jerk, .int .i64 c.stylus] 23) = W0 := ⟨_, rfl⟩
    have HK : Hid (Blk W0 w.heap.size 23 #[.int .i64 c.half, .int .i64 c.gain, .int .i64 c.thin, .int .i64 c.wide, .int .i64 c.slope, .int .i64 c.jerk, .int .i64 c.stylus]) := Lib.hid (by rw [← hW]; exact Blk.new _ _ _)
    have HB : Hid (Below w.heap.size w W0) := Lib.hid (by rw [← hW]; exact (Below.refl _ w).alloc (Nat.le_refl _) _)
    rw [hW]
    clear hW
    refine (GR.out _ HB.out).mono ?_
    rintro e w1 ⟨rfl, hb1⟩
    replace HK := Lib.hid (HK.out.below hb1 HK.out.lt)
    replace HB := Lib.hid (HB.out.trans (hb1.mono HB.out.size))
    clear hb1
    have hk_0 : w1.cell? ⟨w.heap.size, 0, none⟩ = some (.int .i64 c.half) := (HK.out.cell 0).trans rfl
    have hk_1 : w1.cell? ⟨w.heap.size, 1, none⟩ = some (.int .i64 c.gain) := (HK.out.cell 1).trans rfl
    have hk_2 : w1.cell? ⟨w.heap.size, 2, none⟩ = some (.int .i64 c.thin) := (HK.out.cell 2).trans rfl
    have hk_3 : w1.cell? ⟨w.heap.size, 3, none⟩ = some (.int .i64 c.wide) := (HK.out.cell 3).trans rfl
    have hk_4 : w1.cell? ⟨w.heap.size, 4, none⟩ = some (.int .i64 c.slope) := (HK.out.cell 4).trans rfl
    have hk_5 : w1.cell? ⟨w.heap.size, 5, none⟩ = some (.int .i64 c.jerk) := (HK.out.cell 5).trans rfl
    have hk_6 : w1.cell? ⟨w.heap.size, 6, none⟩ = some (.int .i64 c.stylus) := (HK.out.cell 6).trans rfl
    go_wp2_with fail
    refine (GR.out _ HB.out).mono ?_
    rintro e w2 ⟨rfl, hb1⟩
    replace HK := Lib.hid (HK.out.below hb1 HK.out.lt)
    replace HB := Lib.hid (HB.out.trans (hb1.mono HB.out.size))
    clear hb1
    clear hk_0 hk_1 hk_2 hk_3 hk_4 hk_5 hk_6
    go_wp2
    go_ret3
    exact ⟨ret_3 (by rw [HRR.out]) (by rw [HRR.out]) (by rw [HRR.out]), HB.out⟩
set_option maxRecDepth 100000 in
set_option maxHeartbeats 4000000 in
theorem refLeastE_any (B : Nat) (A : Option Addr) (n k : Nat) (c : Ctr) (l : List Smp) (per : Int) (w : World) (h0 : RS w B A n l) (hB : B ≤ w.heap.size) (hl : n ≤ 9223372036854775807) (hk : n ≤ k) :
    Calls Try.prog 33 #[.agg #[.int .i64 c.half, .int .i64 c.gain, .int .i64 c.thin, .int .i64 c.wide, .int .i64 c.slope, .int .i64 c.jerk, .int .i64 c.stylus], .slice A n k, .int .i64 per] w (LePost (lsQ c l per) w) := by
  have HN := Lib.hid h0.1
  have H := Lib.hid (h0.more hB)
  clear h0 hB
  have GR := Lib.hid (fun W (hb : Below w.heap.size w W) => refGrooved_any w.heap.size A n k c l W (H.out.below hb (Nat.le_refl _)) hb.size hl)
  have CT := Lib.hid (fun W => refTurn_any per W)
  rcases ckGr_or c l [ckT per] with ⟨g1, g2, g3, g4⟩ | ⟨g1, g2⟩
  · rw [g1] at GR
    rcases ckT_3 per with h1 | h1
    · rw [h1] at CT
      have he : lsEr c l per = 0 := by unfold lsEr; rw [g4, h1]; rfl
      obtain ⟨hc, hed, p1, p2⟩ := ls_ok he
      have hl4 : n ≤ 4096 := by
        have := HN.out
        unfold ckG at g3
        split at g3 <;> omega
      have LL := Lib.hid (fun (W : World) (hb : Below w.heap.size w W) => refLeastN_any w.heap.size A n k c l per W (H.out.below hb (Nat.le_refl _)) hb.size hl4 hk hed hc p1 p2)
      have HE := Lib.hid he
      clear he hc hed g1 g2 g3 g4 h1
      go_enter Try.func33, Try.ntmps33
      go_wp2_with fail
      obtain ⟨W0, hW⟩ : ∃ W0, w.alloc (.cells #[.int .i64 c.half, .int .i64 c.gain, .int .i64 c.thin, .int .i64 c.wide, .int .i64 c.slope, .int .i64 c.jerk, .int .i64 c.stylus] 23) = W0 := ⟨_, rfl⟩
      have HK : Hid (Blk W0 w.heap.size 23 #[.int .i64 c.half, .int .i64 c.gain, .int .i64 c.thin, .int .i64 c.wide, .int .i64 c.slope, .int .i64 c.jerk, .int .i64 c.stylus]) := Lib.hid (by rw [← hW]; exact Blk.new _ _ _)
      have HB : Hid (Below w.heap.size w W0) := Lib.hid (by rw [← hW]; exact (Below.refl _ w).alloc (Nat.le_refl _) _)
      rw [hW]
      clear hW
      refine (GR.out _ HB.out).mono ?_
      rintro e w1 ⟨rfl, hb1⟩
      replace HK := Lib.hid (HK.out.below hb1 HK.out.lt)
      replace HB := Lib.hid (HB.out.trans (hb1.mono HB.out.size))
      clear hb1
      have hk_0 : w1.cell? ⟨w.heap.size, 0, none⟩ = some (.int .i64 c.half) := (HK.out.cell 0).trans rfl
      have hk_1 : w1.cell? ⟨w.heap.size, 1, none⟩ = some (.int .i64 c.gain) := (HK.out.cell 1).trans rfl
      have hk_2 : w1.cell? ⟨w.heap.size, 2, none⟩ = some (.int .i64 c.thin) := (HK.out.cell 2).trans rfl
      have hk_3 : w1.cell? ⟨w.heap.size, 3, none⟩ = some (.int .i64 c.wide) := (HK.out.cell 3).trans rfl
      have hk_4 : w1.cell? ⟨w.heap.size, 4, none⟩ = some (.int .i64 c.slope) := (HK.out.cell 4).trans rfl
      have hk_5 : w1.cell? ⟨w.heap.size, 5, none⟩ = some (.int .i64 c.jerk) := (HK.out.cell 5).trans rfl
      have hk_6 : w1.cell? ⟨w.heap.size, 6, none⟩ = some (.int .i64 c.stylus) := (HK.out.cell 6).trans rfl
      go_wp2_with fail
      refine (CT.out _).mono ?_
      rintro e w' ⟨rfl, rfl⟩
      go_wp2_with fail
      refine (LL.out _ HB.out).mono ?_
      rintro e w3 ⟨v, rfl, hq, hb1⟩
      replace HB := Lib.hid (HB.out.trans (hb1.mono HB.out.size))
      have HQ := Lib.hid hq
      clear hb1 hq hk_0 hk_1 hk_2 hk_3 hk_4 hk_5 hk_6
      rcases HQ.out with ⟨rfl, h⟩ | ⟨hv, h⟩
      · have HH := Lib.hid h
        clear h
        go_wp2
        go_ret2
        exact ⟨_, _, rfl, by unfold lsQ; rw [if_pos HE.out]; exact HH.out, HB.out⟩
      · have HH := Lib.hid h
        clear h
        go_wp2
        go_ret2
        exact ⟨_, _, rfl, by unfold lsQ; rw [if_pos HE.out]; exact HH.out, HB.out⟩
    · rw [h1] at CT
      have he : lsEr c l per = 3 := by unfold lsEr; rw [g4, h1]; rfl
      have HE := Lib.hid he
      clear he g1 g2 g3 g4 h1
      go_enter Try.func33, Try.ntmps33
      go_wp2_with fail
      obtain ⟨W0, hW⟩ : ∃ W0, w.alloc (.cells #[.int .i64 c.half, .int .i64 c.gain, .int .i64 c.thin, .int .i64 c.wide, .int .i64 c.slope, .int .i64 c.jerk, .int .i64 c.stylus] 23) = W0 := ⟨_, rfl⟩
      have HK : Hid (Blk W0 w.heap.size 23 #[.int .i64 c.half, .int .i64 c.gain, .int .i64 c.thin, .int .i64 c.wide, .int .i64 c.slope, .int .i64 c.jerk, .int .i64 c.stylus]) := Lib.hid (by rw [← hW]; exact Blk.new _ _ _)
      have HB : Hid (Below w.heap.size w W0) := Lib.hid (by rw [← hW]; exact (Below.refl _ w).alloc (Nat.le_refl _) _)
      rw [hW]
      clear hW
      refine (GR.out _ HB.out).mono ?_
      rintro e w1 ⟨rfl, hb1⟩
      replace HK := Lib.hid (HK.out.below hb1 HK.out.lt)
      replace HB := Lib.hid (HB.out.trans (hb1.mono HB.out.size))
      clear hb1
      have hk_0 : w1.cell? ⟨w.heap.size, 0, none⟩ = some (.int .i64 c.half) := (HK.out.cell 0).trans rfl
      have hk_1 : w1.cell? ⟨w.heap.size, 1, none⟩ = some (.int .i64 c.gain) := (HK.out.cell 1).trans rfl
      have hk_2 : w1.cell? ⟨w.heap.size, 2, none⟩ = some (.int .i64 c.thin) := (HK.out.cell 2).trans rfl
      have hk_3 : w1.cell? ⟨w.heap.size, 3, none⟩ = some (.int .i64 c.wide) := (HK.out.cell 3).trans rfl
      have hk_4 : w1.cell? ⟨w.heap.size, 4, none⟩ = some (.int .i64 c.slope) := (HK.out.cell 4).trans rfl
      have hk_5 : w1.cell? ⟨w.heap.size, 5, none⟩ = some (.int .i64 c.jerk) := (HK.out.cell 5).trans rfl
      have hk_6 : w1.cell? ⟨w.heap.size, 6, none⟩ = some (.int .i64 c.stylus) := (HK.out.cell 6).trans rfl
      go_wp2_with fail
      refine (CT.out _).mono ?_
      rintro e w' ⟨rfl, rfl⟩
      go_wp2
      go_ret2
      exact ⟨_, _, rfl, by unfold lsQ; rw [if_neg (by rw [HE.out]; decide), HE.out]; exact ⟨rfl, rfl⟩, HB.out⟩
  · have he : lsEr c l per = ckGr c l := g2
    obtain ⟨g, hg⟩ : ∃ g, ckGr c l = g := ⟨_, rfl⟩
    rw [hg] at GR he
    have hgz : ¬ g = 0 := by rw [← hg]; exact g1
    have HE := Lib.hid he
    have HZ := Lib.hid hgz
    clear he g1 g2 hg
    have hne : (g == 0) = false := by simpa using hgz
    have hne' : (g != 0) = true := by simpa using hgz
    clear hgz
    go_enter Try.func33, Try.ntmps33
    go_wp2_with fail
    obtain ⟨W0, hW⟩ : ∃ W0, w.alloc (.cells #[.int .i64 c.half, .int .i64 c.gain, .int .i64 c.thin, .int .i64 c.wide, .int .i64 c.slope, .int .i64 c.jerk, .int .i64 c.stylus] 23) = W0 := ⟨_, rfl⟩
    have HK : Hid (Blk W0 w.heap.size 23 #[.int .i64 c.half, .int .i64 c.gain, .int .i64 c.thin, .int .i64 c.wide, .int .i64 c.slope, .int .i64 c.jerk, .int .i64 c.stylus]) := Lib.hid (by rw [← hW]; exact Blk.new _ _ _)
    have HB : Hid (Below w.heap.size w W0) := Lib.hid (by rw [← hW]; exact (Below.refl _ w).alloc (Nat.le_refl _) _)
    rw [hW]
    clear hW
    refine (GR.out _ HB.out).mono ?_
    rintro e w1 ⟨rfl, hb1⟩
    replace HK := Lib.hid (HK.out.below hb1 HK.out.lt)
    replace HB := Lib.hid (HB.out.trans (hb1.mono HB.out.size))
    clear hb1
    have hk_0 : w1.cell? ⟨w.heap.size, 0, none⟩ = some (.int .i64 c.half) := (HK.out.cell 0).trans rfl
    have hk_1 : w1.cell? ⟨w.heap.size, 1, none⟩ = some (.int .i64 c.gain) := (HK.out.cell 1).trans rfl
    have hk_2 : w1.cell? ⟨w.heap.size, 2, none⟩ = some (.int .i64 c.thin) := (HK.out.cell 2).trans rfl
    have hk_3 : w1.cell? ⟨w.heap.size, 3, none⟩ = some (.int .i64 c.wide) := (HK.out.cell 3).trans rfl
    have hk_4 : w1.cell? ⟨w.heap.size, 4, none⟩ = some (.int .i64 c.slope) := (HK.out.cell 4).trans rfl
    have hk_5 : w1.cell? ⟨w.heap.size, 5, none⟩ = some (.int .i64 c.jerk) := (HK.out.cell 5).trans rfl
    have hk_6 : w1.cell? ⟨w.heap.size, 6, none⟩ = some (.int .i64 c.stylus) := (HK.out.cell 6).trans rfl
    go_wp2_with fail
    refine (GR.out _ HB.out).mono ?_
    rintro e w2 ⟨rfl, hb1⟩
    replace HK := Lib.hid (HK.out.below hb1 HK.out.lt)
    replace HB := Lib.hid (HB.out.trans (hb1.mono HB.out.size))
    clear hb1
    clear hk_0 hk_1 hk_2 hk_3 hk_4 hk_5 hk_6
    go_wp2
    go_ret2
    exact ⟨_, _, rfl, by unfold lsQ; rw [if_neg (by rw [HE.out]; exact HZ.out), HE.out]; exact ⟨rfl, rfl⟩, HB.out⟩
end Go.Proofs.Ytaiigdbbpdkamaa
