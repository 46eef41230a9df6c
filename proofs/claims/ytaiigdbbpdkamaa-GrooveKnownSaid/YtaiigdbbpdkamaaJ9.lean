/-
  Contracts of Fault and Arc.
-/
import Derived.Test.YtaiigdbbpdkamaaJ8
namespace Go.Proofs.Ytaiigdbbpdkamaa
open Go.RowKit

theorem ret_2 {a b c d : Int} (h : a = b) (h' : c = d) : Ending.returned (.tuple #[.int .i64 a, .int .i64 c]) = .returned (.tuple #[.int .i64 b, .int .i64 d]) := by rw [h, h']
theorem ret_3 {a b c d e f : Int} (h : a = b) (h' : c = d) (h'' : e = f) : Ending.returned (.tuple #[.int .i64 a, .int .i64 c, .int .i64 e]) = .returned (.tuple #[.int .i64 b, .int .i64 d, .int .i64 f]) := by rw [h, h', h'']
def arEr (r per : Int) : Int := orL [ckR r, ckT per]
def arV (r per : Int) : Int := if arEr r per = 0 then arcN r per else 0

set_option maxRecDepth 100000 in
set_option maxHeartbeats 4000000 in
theorem Arc_any (r per : Int) (w : World) :
    Calls Try.prog 28 #[.int .i64 r, .int .i64 per] w fun e w' => e = .returned (.tuple #[.int .i64 (arV r per), .int .i64 (arEr r per)]) ∧ Below w.heap.size w w' := by
  have he : arEr r per = orL [ckR r, ckT per] := rfl
  have CR := Lib.hid (fun W => checkRadius_any r W)
  have CT := Lib.hid (fun W => checkTurn_any per W)
  obtain ⟨e1, h1⟩ : ∃ x, ckR r = x := ⟨_, rfl⟩
  obtain ⟨e2, h2⟩ : ∃ x, ckT per = x := ⟨_, rfl⟩
  rw [h1] at CR
  rw [h2] at CT
  rw [h1, h2] at he
  have H1 := Lib.hid h1
  have H2 := Lib.hid h2
  obtain ⟨er, h4⟩ : ∃ x, orL [e1, e2] = x := ⟨_, rfl⟩
  have H4 := Lib.hid h4
  rw [h4] at he
  have HER := Lib.hid he
  have HOR := Lib.hid (fun B A n c W h1 h2 h3 h4 => cmpOr_any B A n c [e1, e2] W h1 h2 h3 h4)
  rw [h4] at HOR
  clear h1 h2 h4 he
  go_enter Try.func28, Try.ntmps28
  go_wp2_with fail
  refine (CR.out _).mono ?_
  rintro e w' ⟨rfl, rfl⟩
  go_wp2_with fail
  refine (CT.out _).mono ?_
  rintro e w' ⟨rfl, rfl⟩
  go_wp2_with fail
  refine (HOR.out (w.heap.size + 1) _ _ _ _ rfl (reads_cells (blk_al rfl) (Nat.lt_succ_self _) (by rfl) (by rfl)) (by simp) (by simp)).mono ?_
  rintro e w' ⟨rfl, rfl⟩
  by_cases hz : er = 0
  · subst hz
    have hs : SpOk r per := by
      have hh := orL_zero H4.out
      obtain ⟨a1, a2⟩ := ckN_ok (H1.out.trans (hh _ (by simp)))
      obtain ⟨a3, a4⟩ := ckN_ok (H2.out.trans (hh _ (by simp)))
      exact ⟨a1, a2, a3, a4⟩
    have AA := Lib.hid (fun W => arc_any ⟨0, 0, 0, 0, 0, 0, 0⟩ r per W hs.r1 hs.r2 hs.p1 hs.p2)
    obtain ⟨q, hq⟩ : ∃ q, arcN r per = q := ⟨_, rfl⟩
    rw [hq] at AA
    have HQ := Lib.hid hq
    clear hs hq
    go_wp2_with fail
    refine (AA.out _).mono ?_
    rintro e w1 ⟨rfl, hb1⟩
    have HB := Lib.hid (((Below.refl _ w).alloc (Nat.le_refl _) (.cells #[.int .i64 e1, .int .i64 e2] 32)).trans (hb1.mono (by simp)))
    clear hb1
    go_wp2
    go_ret2
    exact ⟨ret_2 (by rw [arV, if_pos HER.out, HQ.out]) HER.out.symm, HB.out⟩
  · have hz1 : (er == 0) = false := by simpa using hz
    have hz2 : (er != 0) = true := by simpa using hz
    have HZ := Lib.hid hz
    clear hz
    go_wp2
    go_ret2
    exact ⟨ret_2 (by rw [arV, if_neg (by rw [HER.out]; exact HZ.out)]) HER.out.symm, (Below.refl _ _).alloc (Nat.le_refl _) _⟩

def fuEr (c : Ctr) (l : List Smp) (r per : Int) : Int := orL [ckC c, ckG l, ckR r, ckT per]
/-- What Fault returns. -/
def fuR (c : Ctr) (l : List Smp) (r per : Int) : Int × Int × Int :=
  if fuEr c l r per = 0 then (if (flt c l r per).2 = 0 then (0, 0, 5) else ((flt c l r per).1, (flt c l r per).2, 0)) else (0, 0, fuEr c l r per)
theorem fu_ok {c : Ctr} {l : List Smp} {r per : Int} (h : fuEr c l r per = 0) : CtOk c ∧ (∀ p ∈ l, EdOk p) ∧ SpOk r per := by
  have h' := orL_zero h
  obtain ⟨a1, a2⟩ := ckN_ok (h' (ckR r) (by simp))
  obtain ⟨a3, a4⟩ := ckN_ok (h' (ckT per) (by simp))
  exact ⟨ckC_ok (h' _ (by simp)), ckG_ok (h' _ (by simp)), ⟨a1, a2, a3, a4⟩⟩

set_option maxRecDepth 100000 in
set_option maxHeartbeats 4000000 in
theorem Fault_any (B : Nat) (A : Option Addr) (n k : Nat) (c : Ctr) (l : List Smp) (r per : Int) (w : World) (h0 : RS w B A n l) (hB : B ≤ w.heap.size) (hl : n ≤ 9223372036854775807) :
    Calls Try.prog 30 #[.agg #[.int .i64 c.half, .int .i64 c.gain, .int .i64 c.thin, .int .i64 c.wide, .int .i64 c.slope, .int .i64 c.jerk, .int .i64 c.stylus], .slice A n k, .int .i64 r, .int .i64 per] w fun e w' => e = .returned (.tuple #[.int .i64 (fuR c l r per).1, .int .i64 (fuR c l r per).2.1, .int .i64 (fuR c l r per).2.2]) ∧ Below w.heap.size w w' := by
  have H := Lib.hid (h0.more hB)
  clear h0 hB
  have CP := Lib.hid (fun W (hb : Below w.heap.size w W) => CheckPoints_any w.heap.size A n k l W (H.out.below hb (Nat.le_refl _)) hb.size hl)
  have he : fuEr c l r per = orL [ckC c, ckG l, ckR r, ckT per] := rfl
  have CK := Lib.hid (fun W => Check_any c W)
  have CR := Lib.hid (fun W => checkRadius_any r W)
  have CT := Lib.hid (fun W => checkTurn_any per W)
  obtain ⟨e1, h1⟩ : ∃ x, ckC c = x := ⟨_, rfl⟩
  obtain ⟨e2, h2⟩ : ∃ x, ckG l = x := ⟨_, rfl⟩
  obtain ⟨e3, h3⟩ : ∃ x, ckR r = x := ⟨_, rfl⟩
  obtain ⟨e4, h4⟩ : ∃ x, ckT per = x := ⟨_, rfl⟩
  rw [h1] at CK
  rw [h2] at CP
  rw [h3] at CR
  rw [h4] at CT
  rw [h1, h2, h3, h4] at he
  obtain ⟨er, h5⟩ : ∃ x, orL [e1, e2, e3, e4] = x := ⟨_, rfl⟩
  rw [h5] at he
  have HER := Lib.hid he
  have HOR := Lib.hid (fun B A n c W h1 h2 h3 h4 => cmpOr_any B A n c [e1, e2, e3, e4] W h1 h2 h3 h4)
  rw [h5] at HOR
  clear h1 h2 h3 h4 h5 he
  obtain ⟨R, hR⟩ : ∃ R, fuR c l r per = R := ⟨_, rfl⟩
  have HR := Lib.hid hR
  rw [hR]
  clear hR
  go_enter Try.func30, Try.ntmps30
  go_wp2_with fail
  refine (CK.out _).mono ?_
  rintro e w1 ⟨rfl, hb1⟩
  have k0 : Blk w1 w.heap.size 23 #[.int .i64 c.half, .int .i64 c.gain, .int .i64 c.thin, .int .i64 c.wide, .int .i64 c.slope, .int .i64 c.jerk, .int .i64 c.stylus] := (Blk.new _ _ _).below hb1 (by simp)
  have HK := Lib.hid k0
  have HB := Lib.hid (((Below.refl _ w).alloc (Nat.le_refl _) (.cells #[.int .i64 c.half, .int .i64 c.gain, .int .i64 c.thin, .int .i64 c.wide, .int .i64 c.slope, .int .i64 c.jerk, .int .i64 c.stylus] 23)).trans (hb1.mono (by simp)))
  clear hb1 k0
  go_wp2_with fail
  refine (CP.out _ HB.out).mono ?_
  rintro e w2 ⟨rfl, hb1⟩
  have HK := Lib.hid (HK.out.below hb1 HK.out.lt)
  have HB := Lib.hid (HB.out.trans (hb1.mono HB.out.size))
  clear hb1
  go_wp2_with fail
  refine (CR.out _).mono ?_
  rintro e w' ⟨rfl, rfl⟩
  go_wp2_with fail
  refine (CT.out _).mono ?_
  rintro e w' ⟨rfl, rfl⟩
  go_wp2_with fail
  refine (HOR.out _ _ _ _ _ rfl (reads_cells (blk_al rfl) (Nat.lt_succ_self _) (by rfl) (by rfl)) (by simp) (by simp)).mono ?_
  rintro e w' ⟨rfl, rfl⟩
  obtain ⟨W2, hW2⟩ : ∃ W2, w2.alloc (.cells #[.int .i64 e1, .int .i64 e2, .int .i64 e3, .int .i64 e4] 32) = W2 := ⟨_, rfl⟩
  have k0 : Blk W2 w.heap.size 23 #[.int .i64 c.half, .int .i64 c.gain, .int .i64 c.thin, .int .i64 c.wide, .int .i64 c.slope, .int .i64 c.jerk, .int .i64 c.stylus] := by rw [← hW2]; exact HK.out.alloc _
  have HB : Hid (Below w.heap.size w W2) := Lib.hid (by rw [← hW2]; exact HB.out.alloc HB.out.size _)
  rw [hW2]
  clear hW2 HK
  have p0 := (k0.cell 0).trans rfl
  have p1 := (k0.cell 1).trans rfl
  have p2 := (k0.cell 2).trans rfl
  have p3 := (k0.cell 3).trans rfl
  have p4 := (k0.cell 4).trans rfl
  have p5 := (k0.cell 5).trans rfl
  have p6 := (k0.cell 6).trans rfl
  clear k0
  by_cases hz : er = 0
  · subst hz
    have HOK := Lib.hid (fu_ok HER.out)
    have FF := Lib.hid (fault_any w.heap.size A n k c l r per W2 (H.out.below HB.out (Nat.le_refl _)) HB.out.size hl HOK.out.2.1 HOK.out.1 HOK.out.2.2)
    have hr : R = (if (flt c l r per).2 = 0 then (0, 0, 5) else (((flt c l r per).1 : Int), (flt c l r per).2, 0)) := by rw [← HR.out, fuR, if_pos HER.out]
    obtain ⟨q, hq⟩ : ∃ q, flt c l r per = q := ⟨_, rfl⟩
    rw [hq] at FF hr
    clear hq
    by_cases hq0 : q.2 = 0
    · rw [if_pos hq0] at hr
      have HRR := Lib.hid hr
      have HQ0 := Lib.hid hq0
      clear hr hq0
      go_wp2_with fail
      refine FF.out.mono ?_
      rintro e w3 ⟨rfl, hb3⟩
      have HB3 := Lib.hid (HB.out.trans (hb3.mono HB.out.size))
      clear hb3
      rw [HQ0.out]
      go_wp2
      go_ret3
      exact ⟨ret_3 (by rw [HRR.out]) (by rw [HRR.out]) (by rw [HRR.out]), HB3.out⟩
    · rw [if_neg hq0] at hr
      have HRR := Lib.hid hr
      have hq1 : (q.2 == 0) = false := by simpa using hq0
      clear hr hq0
      go_wp2_with fail
      refine FF.out.mono ?_
      rintro e w3 ⟨rfl, hb3⟩
      have HB3 := Lib.hid (HB.out.trans (hb3.mono HB.out.size))
      clear hb3
      go_wp2
      go_ret3
      exact ⟨ret_3 (by rw [HRR.out]) (by rw [HRR.out]) (by rw [HRR.out]), HB3.out⟩
  · have hz1 : (er == 0) = false := by simpa using hz
    have hz2 : (er != 0) = true := by simpa using hz
    have HZ := Lib.hid hz
    clear hz
    go_wp2
    go_ret3
    have hr : R = (0, 0, er) := by rw [← HR.out, fuR, if_neg (by rw [HER.out]; exact HZ.out), HER.out]
    exact ⟨ret_3 (by rw [hr]) (by rw [hr]) (by rw [hr]), HB.out⟩
end Go.Proofs.Ytaiigdbbpdkamaa
