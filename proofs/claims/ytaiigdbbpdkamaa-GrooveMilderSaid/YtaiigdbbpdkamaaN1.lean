/-
  The walk of GrooveMilder.
-/
import Derived.Test.YtaiigdbbpdkamaaK8
import Derived.Test.YtaiigdbbpdkamaaK9
namespace Go.Proofs.Ytaiigdbbpdkamaa
open Go.RowKit

theorem vC_of {c : Ctr} (h : CtOk c) : vC c = true := by
  obtain ⟨A1, A2, A3, A4, A5, A6, A7, A8, A9, A10, A11, A12, A13⟩ := h
  unfold vC win
  simp only [Bool.and_eq_true, decide_eq_true_eq]
  omega
def mild (c : Ctr) (b0 b1 b2 b3 b4 : Int) : Ctr := ⟨c.half, c.gain, max 0 (c.thin - b0), min 1048576 (c.wide + b1), min 10000 (c.slope + b2), min 1048576 (c.jerk + b3), max 0 (c.stylus - b4)⟩

theorem mild_fin {c d : Ctr} {l : List Smp} {per pm f b0 b1 b2 b3 b4 a ea b eb : Int} (hp : max 1 (per - f) = pm) (hd : mild c b0 b1 b2 b3 b4 = d) (g0 : 0 ≤ b0) (g1 : 0 ≤ b1) (g2 : 0 ≤ b2) (g3 : 0 ≤ b3) (g4 : 0 ≤ b4) (g5 : 0 ≤ f) (k5 : f ≤ 65535)
    (hc : CtOk c) (hl : ckG l = 0) (p1 : 1 ≤ per) (p2 : per ≤ 65536) (ha : lsQ c l per a ea) (hb : lsQ d l pm b eb) : (ea = 0 ∧ eb = 0 ∧ b ≤ a) ∨ ea = 14 := by
  obtain ⟨A1, A2, A3, A4, A5, A6, A7, A8, A9, A10, A11, A12, A13⟩ := hc
  have hc : CtOk c := ⟨A1, A2, A3, A4, A5, A6, A7, A8, A9, A10, A11, A12, A13⟩
  have hdo : CtOk d := by
    rw [← hd]
    constructor <;> simp only [mild] <;> omega
  have hm : Milder c d := by
    rw [← hd]
    refine ⟨?_, ?_, ?_, ?_, ?_⟩ <;> simp only [mild] <;> omega
  have hv : vC c = true := vC_of hc
  have hv' : vC d = true := vC_of hdo
  have e1 : lsEr c l per = 0 := by unfold lsEr ckC ckT ckN win; rw [hv, hl]; simp [orL]; omega
  have e2 : lsEr d l pm = 0 := by unfold lsEr ckC ckT ckN win; rw [hv', hl]; simp [orL]; omega
  unfold lsQ at ha hb
  rw [if_pos e1] at ha
  rw [if_pos e2] at hb
  rcases ha with ⟨rfl, h1, h2, h3, h4⟩ | ⟨rfl, h1, h2⟩
  · left
    have h3 : fls c l a per = true := h3
    rw [fls_ok hc ⟨h1, h2, p1, p2⟩] at h3
    have h5 : fls d l a pm = true := (fls_ok hdo ⟨h1, h2, by omega, by omega⟩).2 (okG_mono hm hc hdo h1 (Int.le_refl _) (by omega) (by omega) h3)
    rcases hb with ⟨rfl, q1, q2, q3, q4⟩ | ⟨rfl, q1, q2⟩
    · refine ⟨rfl, rfl, ?_⟩
      rcases Int.lt_or_le a b with h | h
      · have := q4 a h1 h; rw [show (fun r => fls d l r pm) a = fls d l a pm from rfl, h5] at this; cases this
      · exact h
    · have := q2 a h1 h2; rw [show (fun r => fls d l r pm) a = fls d l a pm from rfl, h5] at this; cases this
  · exact .inr rfl

set_option maxRecDepth 100000 in
set_option maxHeartbeats 8000000 in
theorem milder_walk (B : Nat) (A : Option Addr) (n k : Nat) (c : Ctr) (l : List Smp) (per b0 b1 b2 b3 b4 f : Int) (w : World) (h0 : RS w B A n l) (hB : B ≤ w.heap.size) (hl : n ≤ 9223372036854775807)
    (g0 : 0 ≤ b0) (g1 : 0 ≤ b1) (g2 : 0 ≤ b2) (g3 : 0 ≤ b3) (g4 : 0 ≤ b4) (g5 : 0 ≤ f) (k0 : b0 ≤ 65535) (k1 : b1 ≤ 65535) (k2 : b2 ≤ 65535) (k3 : b3 ≤ 65535) (k4 : b4 ≤ 65535) (k5 : f ≤ 65535) :
    Calls Try.prog 13 #[.agg #[.int .i64 c.half, .int .i64 c.gain, .int .i64 c.thin, .int .i64 c.wide, .int .i64 c.slope, .int .i64 c.jerk, .int .i64 c.stylus], .slice A n k, .int .i64 per, .agg #[.int .u16 b0, .int .u16 b1, .int .u16 b2, .int .u16 b3, .int .u16 b4], .int .u16 f] w fun e w' => e = .returned (.bool true) ∧ Below w.heap.size w w' := by
  have HN := Lib.hid h0.1
  have H := Lib.hid (h0.more hB)
  clear h0 hB
  have CP := Lib.hid (fun W (hb : Below w.heap.size w W) => refCheckPoints_any w.heap.size A n k l W (H.out.below hb (Nat.le_refl _)) hb.size hl)
  have CK := Lib.hid (fun W => refCheck_any c W)
  have WK := Lib.hid (fun W => Works_any W)
  by_cases c1 : 60 < n
  · go_enter Try.func13, Try.ntmps13
    go_wp2_with fail
    refine (WK.out _).mono ?_
    rintro e w1 ⟨rfl, hb1⟩
    go_wp2
    go_ret
    exact ⟨rfl, (((Below.refl _ w).alloc (Nat.le_refl _) _).alloc (by simp) _).trans (hb1.mono (by simp; omega))⟩
  by_cases c2 : per < 1
  · go_enter Try.func13, Try.ntmps13
    go_wp2_with fail
    refine (WK.out _).mono ?_
    rintro e w1 ⟨rfl, hb1⟩
    go_wp2
    go_ret
    exact ⟨rfl, (((Below.refl _ w).alloc (Nat.le_refl _) _).alloc (by simp) _).trans (hb1.mono (by simp; omega))⟩
  by_cases c3 : 65536 < per
  · go_enter Try.func13, Try.ntmps13
    go_wp2_with fail
    refine (WK.out _).mono ?_
    rintro e w1 ⟨rfl, hb1⟩
    go_wp2
    go_ret
    exact ⟨rfl, (((Below.refl _ w).alloc (Nat.le_refl _) _).alloc (by simp) _).trans (hb1.mono (by simp; omega))⟩
  by_cases c4 : ckC c = 0
  rotate_left
  · have hne : (ckC c == 0) = false := by simpa using c4
    have hne' : (ckC c != 0) = true := by simpa using c4
    obtain ⟨q, hq⟩ : ∃ q, ckC c = q := ⟨_, rfl⟩
    rw [hq] at CK hne hne'
    clear hq c4
    go_enter Try.func13, Try.ntmps13
    go_wp2_with fail
    refine (CK.out _).mono ?_
    rintro e w1 ⟨rfl, hb1⟩
    have HB := Lib.hid ((((Below.refl _ w).alloc (Nat.le_refl _) (.cells #[.int .i64 c.half, .int .i64 c.gain, .int .i64 c.thin, .int .i64 c.wide, .int .i64 c.slope, .int .i64 c.jerk, .int .i64 c.stylus] 23)).alloc (by simp) (.cells #[.int .u16 b0, .int .u16 b1, .int .u16 b2, .int .u16 b3, .int .u16 b4] 66)).trans (hb1.mono (by simp; omega)))
    clear hb1
    go_wp2_with fail
    refine (WK.out _).mono ?_
    rintro e w2 ⟨rfl, hb2⟩
    go_wp2
    go_ret
    exact ⟨rfl, HB.out.trans (hb2.mono HB.out.size)⟩
  by_cases c5 : ckG l = 0
  rotate_left
  · have hne : (ckG l == 0) = false := by simpa using c5
    have hne' : (ckG l != 0) = true := by simpa using c5
    obtain ⟨q, hq⟩ : ∃ q, ckG l = q := ⟨_, rfl⟩
    rw [hq] at CP hne hne'
    rw [c4] at CK
    clear hq c5 c4
    go_enter Try.func13, Try.ntmps13
    go_wp2_with fail
    refine (CK.out _).mono ?_
    rintro e w1 ⟨rfl, hb1⟩
    have HB := Lib.hid ((((Below.refl _ w).alloc (Nat.le_refl _) (.cells #[.int .i64 c.half, .int .i64 c.gain, .int .i64 c.thin, .int .i64 c.wide, .int .i64 c.slope, .int .i64 c.jerk, .int .i64 c.stylus] 23)).alloc (by simp) (.cells #[.int .u16 b0, .int .u16 b1, .int .u16 b2, .int .u16 b3, .int .u16 b4] 66)).trans (hb1.mono (by simp; omega)))
    clear hb1
    go_wp2_with fail
    refine (CP.out _ HB.out).mono ?_
    rintro e w2 ⟨rfl, hb2⟩
    have HB := Lib.hid (HB.out.trans (hb2.mono HB.out.size))
    clear hb2
    go_wp2_with fail
    refine (WK.out _).mono ?_
    rintro e w3 ⟨rfl, hb3⟩
    go_wp2
    go_ret
    exact ⟨rfl, HB.out.trans (hb3.mono HB.out.size)⟩
  have hc := ckC_ok c4
  have HC := Lib.hid hc
  have C4 := Lib.hid c4
  have C5 := Lib.hid c5
  rw [c4] at CK
  rw [c5] at CP
  clear c4 c5
  have d1 : decide ((60 : Int) < (n : Int)) = false := decide_eq_false (by omega)
  obtain ⟨hA1, hA2, hG1, hG2, ht1, ht2, hw2, hs1, hs2, hj1, hj2, hy1, hy2⟩ := hc
  go_enter Try.func13, Try.ntmps13
  go_wp2_with fail
  refine (CK.out _).mono ?_
  rintro e w1 ⟨rfl, hb1⟩
  have k0' : Blk w1 w.heap.size 23 #[.int .i64 c.half, .int .i64 c.gain, .int .i64 c.thin, .int .i64 c.wide, .int .i64 c.slope, .int .i64 c.jerk, .int .i64 c.stylus] := ((Blk.new _ _ _).alloc _).below hb1 (by simp; omega)
  have k1' : Blk w1 (w.heap.size + 1) 66 #[.int .u16 b0, .int .u16 b1, .int .u16 b2, .int .u16 b3, .int .u16 b4] := (blk_al (by simp)).below hb1 (by simp)
  have HK := Lib.hid k0'
  have HY := Lib.hid k1'
  have HB := Lib.hid ((((Below.refl _ w).alloc (Nat.le_refl _) (.cells #[.int .i64 c.half, .int .i64 c.gain, .int .i64 c.thin, .int .i64 c.wide, .int .i64 c.slope, .int .i64 c.jerk, .int .i64 c.stylus] 23)).alloc (by simp) (.cells #[.int .u16 b0, .int .u16 b1, .int .u16 b2, .int .u16 b3, .int .u16 b4] 66)).trans (hb1.mono (by simp; omega)))
  clear hb1 k0' k1'
  go_wp2_with fail
  refine (CP.out _ HB.out).mono ?_
  rintro e w2 ⟨rfl, hb2⟩
  have HK := Lib.hid (HK.out.below hb2 HK.out.lt)
  have HY := Lib.hid (HY.out.below hb2 HY.out.lt)
  have HB := Lib.hid (HB.out.trans (hb2.mono HB.out.size))
  clear hb2
  have hk := HK.out
  have hy := HY.out
  have p0 : w2.cell? ⟨w.heap.size, 0, none⟩ = some (.int .i64 c.half) := (hk.cell 0).trans rfl
  have pa0 := fun o => cell_al o p0
  have p1 : w2.cell? ⟨w.heap.size, 1, none⟩ = some (.int .i64 c.gain) := (hk.cell 1).trans rfl
  have pa1 := fun o => cell_al o p1
  have p2 : w2.cell? ⟨w.heap.size, 2, none⟩ = some (.int .i64 c.thin) := (hk.cell 2).trans rfl
  have pa2 := fun o => cell_al o p2
  have p3 : w2.cell? ⟨w.heap.size, 3, none⟩ = some (.int .i64 c.wide) := (hk.cell 3).trans rfl
  have pa3 := fun o => cell_al o p3
  have p4 : w2.cell? ⟨w.heap.size, 4, none⟩ = some (.int .i64 c.slope) := (hk.cell 4).trans rfl
  have pa4 := fun o => cell_al o p4
  have p5 : w2.cell? ⟨w.heap.size, 5, none⟩ = some (.int .i64 c.jerk) := (hk.cell 5).trans rfl
  have pa5 := fun o => cell_al o p5
  have p6 : w2.cell? ⟨w.heap.size, 6, none⟩ = some (.int .i64 c.stylus) := (hk.cell 6).trans rfl
  have pa6 := fun o => cell_al o p6
  have q0 : w2.cell? ⟨w.heap.size + 1, 0, none⟩ = some (.int .u16 b0) := (hy.cell 0).trans rfl
  have qa0 := fun o => cell_al o q0
  have q1 : w2.cell? ⟨w.heap.size + 1, 1, none⟩ = some (.int .u16 b1) := (hy.cell 1).trans rfl
  have qa1 := fun o => cell_al o q1
  have q2 : w2.cell? ⟨w.heap.size + 1, 2, none⟩ = some (.int .u16 b2) := (hy.cell 2).trans rfl
  have qa2 := fun o => cell_al o q2
  have q3 : w2.cell? ⟨w.heap.size + 1, 3, none⟩ = some (.int .u16 b3) := (hy.cell 3).trans rfl
  have qa3 := fun o => cell_al o q3
  have q4 : w2.cell? ⟨w.heap.size + 1, 4, none⟩ = some (.int .u16 b4) := (hy.cell 4).trans rfl
  have qa4 := fun o => cell_al o q4
  have hz := HY.out.lt
  clear hk hy
  obtain ⟨d, hd⟩ : ∃ d, mild c b0 b1 b2 b3 b4 = d := ⟨_, rfl⟩
  have e0 : (if b0 < c.thin then c.thin - b0 else 0) = d.thin := by rw [← hd]; simp only [mild]; split <;> omega
  have e1 : (if c.wide + b1 < 1048576 then c.wide + b1 else 1048576) = d.wide := by rw [← hd]; simp only [mild]; split <;> omega
  have e2 : (if c.slope + b2 < 10000 then c.slope + b2 else 10000) = d.slope := by rw [← hd]; simp only [mild]; split <;> omega
  have e3 : (if c.jerk + b3 < 1048576 then c.jerk + b3 else 1048576) = d.jerk := by rw [← hd]; simp only [mild]; split <;> omega
  have e4 : (if b4 < c.stylus then c.stylus - b4 else 0) = d.stylus := by rw [← hd]; simp only [mild]; split <;> omega
  obtain ⟨pm, hpm⟩ : ∃ pm, max 1 (per - f) = pm := ⟨_, rfl⟩
  have e5 : (if 1 < per - f then per - f else 1) = pm := by rw [← hpm]; split <;> omega
  have HPM := Lib.hid hpm
  have hdh : c.half = d.half := by rw [← hd]; rfl
  have hdg : c.gain = d.gain := by rw [← hd]; rfl
  have HDH := Lib.hid hdh
  have HDG := Lib.hid hdg
  have HD := Lib.hid hd
  clear hd hpm hdh hdg
  have LA := Lib.hid (fun W hb => Least_any w.heap.size A n k c l per W (H.out.below hb (Nat.le_refl _)) (Below.size hb) hl)
  have LB := Lib.hid (fun W hb => Least_any w.heap.size A n k d l pm W (H.out.below hb (Nat.le_refl _)) (Below.size hb) hl)
  go_wp2_with fail
  obtain ⟨W3, hW3⟩ : ∃ W3, w2.alloc (.cells #[.int .i64 c.half, .int .i64 c.gain, .int .i64 d.thin, .int .i64 d.wide, .int .i64 d.slope, .int .i64 d.jerk, .int .i64 d.stylus] 23) = W3 := ⟨_, rfl⟩
  have HB : Hid (Below w.heap.size w W3) := Lib.hid (by rw [← hW3]; exact HB.out.alloc HB.out.size _)
  have HM : Hid (Blk W3 w2.heap.size 23 #[.int .i64 d.half, .int .i64 d.gain, .int .i64 d.thin, .int .i64 d.wide, .int .i64 d.slope, .int .i64 d.jerk, .int .i64 d.stylus]) := Lib.hid (by rw [← hW3, HDH.out, HDG.out]; exact Blk.new _ _ _)
  rw [hW3]
  clear hW3 p0 pa0 p1 pa1 p2 pa2 p3 pa3 p4 pa4 p5 pa5 p6 pa6 q0 qa0 q1 qa1 q2 qa2 q3 qa3 q4 qa4 e0 e1 e2 e3 e4 hz
  refine (LA.out _ HB.out).mono ?_
  rintro e w4 ⟨a, ea, rfl, hqa, hb4⟩
  have HM := Lib.hid (HM.out.below hb4 HM.out.lt)
  have HB := Lib.hid (HB.out.trans (hb4.mono HB.out.size))
  have HQA := Lib.hid hqa
  clear hb4 hqa
  have hm := HM.out
  have m0 : w4.cell? ⟨w2.heap.size, 0, none⟩ = some (.int .i64 d.half) := (hm.cell 0).trans rfl
  have m1 : w4.cell? ⟨w2.heap.size, 1, none⟩ = some (.int .i64 d.gain) := (hm.cell 1).trans rfl
  have m2 : w4.cell? ⟨w2.heap.size, 2, none⟩ = some (.int .i64 d.thin) := (hm.cell 2).trans rfl
  have m3 : w4.cell? ⟨w2.heap.size, 3, none⟩ = some (.int .i64 d.wide) := (hm.cell 3).trans rfl
  have m4 : w4.cell? ⟨w2.heap.size, 4, none⟩ = some (.int .i64 d.slope) := (hm.cell 4).trans rfl
  have m5 : w4.cell? ⟨w2.heap.size, 5, none⟩ = some (.int .i64 d.jerk) := (hm.cell 5).trans rfl
  have m6 : w4.cell? ⟨w2.heap.size, 6, none⟩ = some (.int .i64 d.stylus) := (hm.cell 6).trans rfl
  clear hm
  go_wp2_with fail
  refine (LB.out _ HB.out).mono ?_
  rintro e w5 ⟨b, eb, rfl, hqb, hb5⟩
  have HB := Lib.hid (HB.out.trans (hb5.mono HB.out.size))
  have HQB := Lib.hid hqb
  clear hb5 hqb m0 m1 m2 m3 m4 m5 m6 e5
  have HFIN := Lib.hid (mild_fin (by rw [← HPM.out]) HD.out g0 g1 g2 g3 g4 g5 k5 HC.out C5.out (by omega) (by omega) HQA.out HQB.out)
  rcases HFIN.out with ⟨rfl, rfl, hle⟩ | rfl
  · go_wp2_with fail
    refine (WK.out _).mono ?_
    rintro e w6 ⟨rfl, hb6⟩
    go_wp2
    go_ret
    exact ⟨rfl, HB.out.trans (hb6.mono HB.out.size)⟩
  · go_wp2_with fail
    refine (WK.out _).mono ?_
    rintro e w6 ⟨rfl, hb6⟩
    go_wp2
    go_ret
    exact ⟨rfl, HB.out.trans (hb6.mono HB.out.size)⟩
end Go.Proofs.Ytaiigdbbpdkamaa
