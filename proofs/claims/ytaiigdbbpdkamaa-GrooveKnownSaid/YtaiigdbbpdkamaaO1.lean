/-
  groove.Wall: the point of a sample.
-/
import Derived.Test.YtaiigdbbpdkamaaK7
import Derived.Test.YtaiigdbbpdkamaaN3
namespace Go.Proofs.Ytaiigdbbpdkamaa
open Go.RowKit

def wallV (c : Ctr) (s : Smp) : Smp := if cutEr c [s] = 0 then wallP c s else (0, 0)

set_option maxRecDepth 100000 in
set_option maxHeartbeats 800000 in
theorem Wall_any (c : Ctr) (s : Smp) (w : World) :
    Calls Try.prog 17 #[.agg #[.int .i64 c.half, .int .i64 c.gain, .int .i64 c.thin, .int .i64 c.wide, .int .i64 c.slope, .int .i64 c.jerk, .int .i64 c.stylus], .agg #[.int .i64 s.1, .int .i64 s.2]] w fun e w' => e = .returned (.tuple #[.agg #[.int .i64 (wallV c s).1, .int .i64 (wallV c s).2], .int .i64 (cutEr c [s])]) ∧ Below w.heap.size w w' := by
  have CT := Lib.hid (fun (A : Option Addr) (W : World) (h0 : RS W W.heap.size A 1 [s]) => Cut_any W.heap.size A 1 1 c [s] W h0 (Nat.le_refl _) (by omega))
  obtain ⟨er, her⟩ : ∃ e, cutEr c [s] = e := ⟨_, rfl⟩
  have HER := Lib.hid her
  by_cases hz : cutEr c [s] = 0
  · have hr : cutRes c [s] = [wallP c s] := by unfold cutRes; rw [if_pos hz]; rfl
    have hv : wallV c s = wallP c s := by unfold wallV; rw [if_pos hz]
    rw [hr, hz] at CT
    rw [hv, hz]
    obtain ⟨p, hp⟩ : ∃ p, wallP c s = p := ⟨_, rfl⟩
    rw [hp] at CT
    rw [hp]
    clear hr hv hz her HER hp
    go_enter Try.func17, Try.ntmps17
    go_wp2_with fail
    refine Calls.mono (CT.out _ _ ?rs) ?_
    case rs => exact ⟨rfl, reads_cells (blk_al (by simp)) (by simp) (by rfl) (by rfl)⟩
    rintro e w1 ⟨A1, n1, k1, rfl, hrs, hb1⟩
    obtain rfl : n1 = 1 := hrs.1
    obtain ⟨a1, rfl, ha, y1, y2⟩ := hrs.at2 (k := 0) (by simp)
    have v0 : gAt [p] 0 = p := rfl
    rw [v0] at y1 y2
    have HB := Lib.hid (((((Below.refl _ w).alloc (Nat.le_refl _) (.cells #[.int .i64 c.half, .int .i64 c.gain, .int .i64 c.thin, .int .i64 c.wide, .int .i64 c.slope, .int .i64 c.jerk, .int .i64 c.stylus] 23)).alloc (by simp <;> omega) (.cells #[.int .i64 s.1, .int .i64 s.2] 25)).alloc (by simp <;> omega) (.cells #[.int .i64 0, .int .i64 0] 27)))
    have HB2 := Lib.hid (HB.out.alloc (by simp <;> omega) (.cells #[.int .i64 s.1, .int .i64 s.2] 25) |>.trans (hb1.mono (by simp <;> omega)))
    clear hrs v0 CT HB
    have q0 : a1.add (0 * 2) = a1 := by simp [Addr.add]
    rw [q0] at y1 y2
    clear q0
    have hr : Blk w1 (w.heap.size + 1 + 1) 27 #[.int .i64 0, .int .i64 0] := ((blk_al (by simp)).alloc _).below hb1 (by simp <;> omega)
    obtain ⟨r0, r1, t0, t1, tl⟩ := hr.two
    go_wp2
    refine bodyPost_ret (v := .tuple #[.agg #[.int .i64 p.1, .int .i64 p.2], .int .i64 0]) ?_ rfl ⟨rfl, ?_⟩
    · have g1 := Blk.two (a := .int .i64 p.1) (b := .int .i64 0) (hr.set_ 0 (.int .i64 p.1))
      have g2 := Blk.two (a := .int .i64 p.1) (b := .int .i64 p.2) ((hr.set_ 0 (.int .i64 p.1)).set_ 1 (.int .i64 p.2))
      simp [results, Try.results17, go_sem, g1.1, g2.2.1]
    · exact (HB2.out.setCell (by simp <;> omega) _).setCell (by simp <;> omega) _
  · have hv : wallV c s = (0, 0) := by unfold wallV; rw [if_neg hz]
    have hr : cutRes c [s] = [] := by unfold cutRes; rw [if_neg hz]
    have hc1 : (er == 0) = false := by rw [← her]; simpa using hz
    have hc2 : (er != 0) = true := by rw [← her]; simpa using hz
    rw [hr, her] at CT
    rw [hv, her]
    clear hr hv hz her HER
    go_enter Try.func17, Try.ntmps17
    go_wp2_with fail
    refine Calls.mono (CT.out _ _ ?rs) ?_
    case rs => exact ⟨rfl, reads_cells (blk_al (by simp)) (by simp) (by rfl) (by rfl)⟩
    rintro e w1 ⟨A1, n1, k1, rfl, hrs, hb1⟩
    have HB := Lib.hid (((((Below.refl _ w).alloc (Nat.le_refl _) (.cells #[.int .i64 c.half, .int .i64 c.gain, .int .i64 c.thin, .int .i64 c.wide, .int .i64 c.slope, .int .i64 c.jerk, .int .i64 c.stylus] 23)).alloc (by simp <;> omega) (.cells #[.int .i64 s.1, .int .i64 s.2] 25)).alloc (by simp <;> omega) (.cells #[.int .i64 0, .int .i64 0] 27)))
    have HB2 := Lib.hid (HB.out.alloc (by simp <;> omega) (.cells #[.int .i64 s.1, .int .i64 s.2] 25) |>.trans (hb1.mono (by simp <;> omega)))
    clear hrs CT HB
    have hr : Blk w1 (w.heap.size + 1 + 1) 27 #[.int .i64 0, .int .i64 0] := ((blk_al (by simp)).alloc _).below hb1 (by simp <;> omega)
    obtain ⟨r0, r1, t0, t1, tl⟩ := hr.two
    go_wp2
    refine bodyPost_ret (v := .tuple #[.agg #[.int .i64 0, .int .i64 0], .int .i64 er]) ?_ rfl ⟨rfl, ?_⟩
    · have g1 := Blk.two (a := .int .i64 0) (b := .int .i64 0) (hr.set_ 0 (.int .i64 0))
      have g2 := Blk.two (a := .int .i64 0) (b := .int .i64 0) ((hr.set_ 0 (.int .i64 0)).set_ 1 (.int .i64 0))
      simp [results, Try.results17, go_sem, g1.1, g2.2.1]
    · exact (HB2.out.setCell (by simp <;> omega) _).setCell (by simp <;> omega) _
end Go.Proofs.Ytaiigdbbpdkamaa
