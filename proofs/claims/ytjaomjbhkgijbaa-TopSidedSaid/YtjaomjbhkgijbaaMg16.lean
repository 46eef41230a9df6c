/-
  Contracts of rules and broken.
-/
import Derived.Test.YtjaomjbhkgijbaaMg15
import Derived.Laws.EntriesVeiled

namespace Go.Proofs.Ytjaomjbhkgijbaa
open Go.RowKit

def brk (c : Ctr) (l : List Smp) (r per : Int) (i : Nat) : Int :=
  if thinB c l i = true then 1 else if wideB c l i = true then 2 else if steepB c l r per i = true then 3 else if suddenB c l i = true then 4 else if bentB c l r per i = true then 5 else 0

set_option maxHeartbeats 1000000 in
theorem rules_any (w : World) :
    Calls Try.prog 181 #[] w fun e w' => e = .returned (.agg #[.func (.func 193) #[] #[], .func (.func 194) #[] #[], .func (.func 195) #[] #[], .func (.func 196) #[] #[], .func (.func 197) #[] #[]]) ∧ Below w.heap.size w w' := by
  go_enter Try.func181, Try.ntmps181
  go_wp2
  exact bodyPost_ret (v := .agg #[.func (.func 193) #[] #[], .func (.func 194) #[] #[], .func (.func 195) #[] #[], .func (.func 196) #[] #[], .func (.func 197) #[] #[]]) (by simp [results, Try.results181, go_sem]) rfl ⟨rfl, (Below.refl _ _).alloc (Nat.le_refl _) _⟩

set_option maxRecDepth 100000 in
set_option maxHeartbeats 4000000 in
theorem broken_any (B : Nat) (A : Option Addr) (n k : Nat) (c : Ctr) (l : List Smp) (r per : Int) (i : Nat) (w : World) (h0 : RS w B A n l) (hB : B ≤ w.heap.size) (hl : n ≤ 9223372036854775807) (hi : i < l.length) (he : ∀ p ∈ l, EdOk p) (hc : CtOk c) (hs : SpOk r per) :
    Calls Try.prog 149 #[.agg #[.int .i64 c.half, .int .i64 c.gain, .int .i64 c.thin, .int .i64 c.wide, .int .i64 c.slope, .int .i64 c.jerk, .int .i64 c.stylus, .int .i64 r, .int .i64 per], .agg #[.slice A n k, .int .i64 i]] w fun e w' => e = .returned (.int .i64 (brk c l r per i)) ∧ Below w.heap.size w w' := by
  have H := Lib.hid (h0.more hB)
  have HI := Lib.hid hi
  have HE := Lib.hid he
  have HC := Lib.hid hc
  have HSP := Lib.hid hs
  clear h0 hB hi he hc hs
  have T1 := Lib.hid (fun W (hb : Below w.heap.size w W) => thin_any w.heap.size A n k c l r per i W (H.out.below hb (Nat.le_refl _)) hb.size hl HI.out HE.out HC.out HSP.out)
  have T2 := Lib.hid (fun W (hb : Below w.heap.size w W) => wide_any w.heap.size A n k c l r per i W (H.out.below hb (Nat.le_refl _)) hb.size hl HI.out HE.out HC.out HSP.out)
  have T3 := Lib.hid (fun W (hb : Below w.heap.size w W) => steep_any w.heap.size A n k c l r per i W (H.out.below hb (Nat.le_refl _)) hb.size hl HI.out HE.out HC.out HSP.out)
  have T4 := Lib.hid (fun W (hb : Below w.heap.size w W) => sudden_any w.heap.size A n k c l r per i W (H.out.below hb (Nat.le_refl _)) hb.size hl HI.out HE.out HC.out HSP.out)
  have T5 := Lib.hid (fun W (hb : Below w.heap.size w W) => bent_any w.heap.size A n k c l r per i W (H.out.below hb (Nat.le_refl _)) hb.size hl HI.out HE.out HC.out HSP.out)
  have hr : brk c l r per i = if thinB c l i = true then 1 else if wideB c l i = true then 2 else if steepB c l r per i = true then 3 else if suddenB c l i = true then 4 else if bentB c l r per i = true then 5 else 0 := rfl
  obtain ⟨b1, e1⟩ : ∃ b, thinB c l i = b := ⟨_, rfl⟩
  obtain ⟨b2, e2⟩ : ∃ b, wideB c l i = b := ⟨_, rfl⟩
  obtain ⟨b3, e3⟩ : ∃ b, steepB c l r per i = b := ⟨_, rfl⟩
  obtain ⟨b4, e4⟩ : ∃ b, suddenB c l i = b := ⟨_, rfl⟩
  obtain ⟨b5, e5⟩ : ∃ b, bentB c l r per i = b := ⟨_, rfl⟩
  obtain ⟨R, e6⟩ : ∃ b, brk c l r per i = b := ⟨_, rfl⟩
  rw [e1] at T1 hr
  rw [e2] at T2 hr
  rw [e3] at T3 hr
  rw [e4] at T4 hr
  rw [e5] at T5 hr
  rw [e6] at hr ⊢
  have HR := Lib.hid hr
  clear e1 e2 e3 e4 e5 e6 hr
  have x0 : ∀ w, (Instr.index 212 (.agg #[.func (.func 193) #[] #[], .func (.func 194) #[] #[], .func (.func 195) #[] #[], .func (.func 196) #[] #[], .func (.func 197) #[] #[]]) (.int .i64 0)).run Try.prog w = .ok (.func (.func 193) #[] #[]) w := fun _ => by kernel_rfl
  have x1 : ∀ w, (Instr.index 212 (.agg #[.func (.func 193) #[] #[], .func (.func 194) #[] #[], .func (.func 195) #[] #[], .func (.func 196) #[] #[], .func (.func 197) #[] #[]]) (.int .i64 1)).run Try.prog w = .ok (.func (.func 194) #[] #[]) w := fun _ => by kernel_rfl
  have x2 : ∀ w, (Instr.index 212 (.agg #[.func (.func 193) #[] #[], .func (.func 194) #[] #[], .func (.func 195) #[] #[], .func (.func 196) #[] #[], .func (.func 197) #[] #[]]) (.int .i64 2)).run Try.prog w = .ok (.func (.func 195) #[] #[]) w := fun _ => by kernel_rfl
  have x3 : ∀ w, (Instr.index 212 (.agg #[.func (.func 193) #[] #[], .func (.func 194) #[] #[], .func (.func 195) #[] #[], .func (.func 196) #[] #[], .func (.func 197) #[] #[]]) (.int .i64 3)).run Try.prog w = .ok (.func (.func 196) #[] #[]) w := fun _ => by kernel_rfl
  have x4 : ∀ w, (Instr.index 212 (.agg #[.func (.func 193) #[] #[], .func (.func 194) #[] #[], .func (.func 195) #[] #[], .func (.func 196) #[] #[], .func (.func 197) #[] #[]]) (.int .i64 4)).run Try.prog w = .ok (.func (.func 197) #[] #[]) w := fun _ => by kernel_rfl
  go_enter Try.func149, Try.ntmps149
  go_wp2_with fail
  refine (rules_any _).mono ?_
  rintro e w1 ⟨rfl, hb1⟩
  have HB0 := Lib.hid ((((Below.refl _ w).alloc (Nat.le_refl _) (.cells #[.int .i64 c.half, .int .i64 c.gain, .int .i64 c.thin, .int .i64 c.wide, .int .i64 c.slope, .int .i64 c.jerk, .int .i64 c.stylus, .int .i64 r, .int .i64 per] 172)).alloc (by simp) (.cells #[.slice A n k, .int .i64 i] 180)).trans (hb1.mono (by simp; omega)))
  have hs1 : Blk w1 w.heap.size 172 #[.int .i64 c.half, .int .i64 c.gain, .int .i64 c.thin, .int .i64 c.wide, .int .i64 c.slope, .int .i64 c.jerk, .int .i64 c.stylus, .int .i64 r, .int .i64 per] := ((Blk.new _ _ _).alloc _).below hb1 (by simp; omega)
  have hs2 : Blk w1 (w.heap.size + 1) 180 #[.slice A n k, .int .i64 i] := (blk_al (by simp)).below hb1 (by simp)
  have HS1 := Lib.hid hs1
  have HS2 := Lib.hid hs2
  clear hb1 hs1 hs2
  go_wp2_with fail
  go_loopw [8] (fun z wr => ∃ j : Nat, z = .int .i64 j ∧ Hid (Below w.heap.size w wr) ∧ Hid (Blk wr w.heap.size 172 #[.int .i64 c.half, .int .i64 c.gain, .int .i64 c.thin, .int .i64 c.wide, .int .i64 c.slope, .int .i64 c.jerk, .int .i64 c.stylus, .int .i64 r, .int .i64 per]) ∧ Hid (Blk wr (w.heap.size + 1) 180 #[.slice A n k, .int .i64 i]) ∧ Hid ((j = 0) ∨ (j = 1 ∧ b1 = false) ∨ (j = 2 ∧ b1 = false ∧ b2 = false) ∨ (j = 3 ∧ b1 = false ∧ b2 = false ∧ b3 = false) ∨ (j = 4 ∧ b1 = false ∧ b2 = false ∧ b3 = false ∧ b4 = false) ∨ (j = 5 ∧ b1 = false ∧ b2 = false ∧ b3 = false ∧ b4 = false ∧ b5 = false))) (fun i wr => 5 - (intOf i).toNat)
  case atStart => exact ⟨0, rfl, HB0, HS1, HS2, Lib.hid (.inl rfl)⟩
  case round =>
    clear HB0 HS1 HS2
    obtain ⟨j, rfl, HB, HS1, HS2, HJ⟩ := hrel
    rcases HJ.out with rfl | ⟨rfl, rfl⟩ | ⟨rfl, rfl, rfl⟩ | ⟨rfl, rfl, rfl, rfl⟩ | ⟨rfl, rfl, rfl, rfl, rfl⟩ | ⟨rfl, rfl, rfl, rfl, rfl, rfl⟩
    · clear HJ
      have p0 := (HS1.out.cell 0).trans rfl
      have p1 := (HS1.out.cell 1).trans rfl
      have p2 := (HS1.out.cell 2).trans rfl
      have p3 := (HS1.out.cell 3).trans rfl
      have p4 := (HS1.out.cell 4).trans rfl
      have p5 := (HS1.out.cell 5).trans rfl
      have p6 := (HS1.out.cell 6).trans rfl
      have p7 := (HS1.out.cell 7).trans rfl
      have p8 := (HS1.out.cell 8).trans rfl
      have q0 := (HS2.out.cell 0).trans rfl
      have q1 := (HS2.out.cell 1).trans rfl
      cases b1
      all_goals
        go_wp2_with fail
        refine (T1.out _ HB.out).mono ?_
        rintro e w2 ⟨rfl, hb2⟩
        clear p0 p1 p2 p3 p4 p5 p6 p7 p8 q0 q1
        have HB2 := Lib.hid (HB.out.trans (hb2.mono HB.out.size))
        have HT1 := Lib.hid (HS1.out.below hb2 HS1.out.lt)
        have HT2 := Lib.hid (HS2.out.below hb2 HS2.out.lt)
        clear hb2
        go_wp2
      · go_roundw
        case rel => exact ⟨1, rfl, HB2, HT1, HT2, Lib.hid (by simp)⟩
        case measure => simp [intOf]
      · go_ret
        exact ⟨ret_i (by rw [HR.out]; simp), HB2.out⟩
    · clear HJ
      have p0 := (HS1.out.cell 0).trans rfl
      have p1 := (HS1.out.cell 1).trans rfl
      have p2 := (HS1.out.cell 2).trans rfl
      have p3 := (HS1.out.cell 3).trans rfl
      have p4 := (HS1.out.cell 4).trans rfl
      have p5 := (HS1.out.cell 5).trans rfl
      have p6 := (HS1.out.cell 6).trans rfl
      have p7 := (HS1.out.cell 7).trans rfl
      have p8 := (HS1.out.cell 8).trans rfl
      have q0 := (HS2.out.cell 0).trans rfl
      have q1 := (HS2.out.cell 1).trans rfl
      cases b2
      all_goals
        go_wp2_with fail
        refine (T2.out _ HB.out).mono ?_
        rintro e w2 ⟨rfl, hb2⟩
        clear p0 p1 p2 p3 p4 p5 p6 p7 p8 q0 q1
        have HB2 := Lib.hid (HB.out.trans (hb2.mono HB.out.size))
        have HT1 := Lib.hid (HS1.out.below hb2 HS1.out.lt)
        have HT2 := Lib.hid (HS2.out.below hb2 HS2.out.lt)
        clear hb2
        go_wp2
      · go_roundw
        case rel => exact ⟨2, rfl, HB2, HT1, HT2, Lib.hid (by simp)⟩
        case measure => simp [intOf]
      · go_ret
        exact ⟨ret_i (by rw [HR.out]; simp), HB2.out⟩
    · clear HJ
      have p0 := (HS1.out.cell 0).trans rfl
      have p1 := (HS1.out.cell 1).trans rfl
      have p2 := (HS1.out.cell 2).trans rfl
      have p3 := (HS1.out.cell 3).trans rfl
      have p4 := (HS1.out.cell 4).trans rfl
      have p5 := (HS1.out.cell 5).trans rfl
      have p6 := (HS1.out.cell 6).trans rfl
      have p7 := (HS1.out.cell 7).trans rfl
      have p8 := (HS1.out.cell 8).trans rfl
      have q0 := (HS2.out.cell 0).trans rfl
      have q1 := (HS2.out.cell 1).trans rfl
      cases b3
      all_goals
        go_wp2_with fail
        refine (T3.out _ HB.out).mono ?_
        rintro e w2 ⟨rfl, hb2⟩
        clear p0 p1 p2 p3 p4 p5 p6 p7 p8 q0 q1
        have HB2 := Lib.hid (HB.out.trans (hb2.mono HB.out.size))
        have HT1 := Lib.hid (HS1.out.below hb2 HS1.out.lt)
        have HT2 := Lib.hid (HS2.out.below hb2 HS2.out.lt)
        clear hb2
        go_wp2
      · go_roundw
        case rel => exact ⟨3, rfl, HB2, HT1, HT2, Lib.hid (by simp)⟩
        case measure => simp [intOf]
      · go_ret
        exact ⟨ret_i (by rw [HR.out]; simp), HB2.out⟩
    · clear HJ
      have p0 := (HS1.out.cell 0).trans rfl
      have p1 := (HS1.out.cell 1).trans rfl
      have p2 := (HS1.out.cell 2).trans rfl
      have p3 := (HS1.out.cell 3).trans rfl
      have p4 := (HS1.out.cell 4).trans rfl
      have p5 := (HS1.out.cell 5).trans rfl
      have p6 := (HS1.out.cell 6).trans rfl
      have p7 := (HS1.out.cell 7).trans rfl
      have p8 := (HS1.out.cell 8).trans rfl
      have q0 := (HS2.out.cell 0).trans rfl
      have q1 := (HS2.out.cell 1).trans rfl
      cases b4
      all_goals
        go_wp2_with fail
        refine (T4.out _ HB.out).mono ?_
        rintro e w2 ⟨rfl, hb2⟩
        clear p0 p1 p2 p3 p4 p5 p6 p7 p8 q0 q1
        have HB2 := Lib.hid (HB.out.trans (hb2.mono HB.out.size))
        have HT1 := Lib.hid (HS1.out.below hb2 HS1.out.lt)
        have HT2 := Lib.hid (HS2.out.below hb2 HS2.out.lt)
        clear hb2
        go_wp2
      · go_roundw
        case rel => exact ⟨4, rfl, HB2, HT1, HT2, Lib.hid (by simp)⟩
        case measure => simp [intOf]
      · go_ret
        exact ⟨ret_i (by rw [HR.out]; simp), HB2.out⟩
    · clear HJ
      have p0 := (HS1.out.cell 0).trans rfl
      have p1 := (HS1.out.cell 1).trans rfl
      have p2 := (HS1.out.cell 2).trans rfl
      have p3 := (HS1.out.cell 3).trans rfl
      have p4 := (HS1.out.cell 4).trans rfl
      have p5 := (HS1.out.cell 5).trans rfl
      have p6 := (HS1.out.cell 6).trans rfl
      have p7 := (HS1.out.cell 7).trans rfl
      have p8 := (HS1.out.cell 8).trans rfl
      have q0 := (HS2.out.cell 0).trans rfl
      have q1 := (HS2.out.cell 1).trans rfl
      cases b5
      all_goals
        go_wp2_with fail
        refine (T5.out _ HB.out).mono ?_
        rintro e w2 ⟨rfl, hb2⟩
        clear p0 p1 p2 p3 p4 p5 p6 p7 p8 q0 q1
        have HB2 := Lib.hid (HB.out.trans (hb2.mono HB.out.size))
        have HT1 := Lib.hid (HS1.out.below hb2 HS1.out.lt)
        have HT2 := Lib.hid (HS2.out.below hb2 HS2.out.lt)
        clear hb2
        go_wp2
      · go_roundw
        case rel => exact ⟨5, rfl, HB2, HT1, HT2, Lib.hid (by simp)⟩
        case measure => simp [intOf]
      · go_ret
        exact ⟨ret_i (by rw [HR.out]; simp), HB2.out⟩
    · clear HJ
      go_wp2
      go_ret
      exact ⟨ret_i (by rw [HR.out]; simp), HB.out⟩
end Go.Proofs.Ytjaomjbhkgijbaa

