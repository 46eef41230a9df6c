/-
  groove.channel: the least channel that moves its edge so far.
-/
import Derived.Test.YtaiigdbbpdkamaaK7
import Derived.Test.YtaiigdbbpdkamaaQ0
namespace Go.Proofs.Ytaiigdbbpdkamaa
open Go.RowKit

/-- The channel, and whether there is one, for a distance that is not below 0. -/
def chN (c : Ctr) (f : Int) : Int := if c.gain = 0 then 0 else (f * 1000 + c.gain - 1) / c.gain
def chB (c : Ctr) (f : Int) : Bool := if c.gain = 0 then decide (f = 0) else decide (chN c f ≤ 32767) && decide (swg c (chN c f) = f)

set_option maxRecDepth 100000 in
set_option maxHeartbeats 4000000 in
theorem channel_nn (c : Ctr) (f : Int) (w : World) (hc : CtOk c) (h0 : 0 ≤ f) (h1 : f ≤ 4294967296) :
    Calls Try.prog 48 #[.agg #[.int .i64 c.half, .int .i64 c.gain, .int .i64 c.thin, .int .i64 c.wide, .int .i64 c.slope, .int .i64 c.jerk, .int .i64 c.stylus], .int .i64 f] w fun e w' => e = .returned (.tuple #[.int .i64 (chN c f), .bool (chB c f)]) ∧ Below w.heap.size w w' := by
  have g1 := hc.g1
  have g2 := hc.g2
  have d0 : decide (f < 0) = false := decide_eq_false (by omega)
  by_cases hg : c.gain = 0
  · have hn : chN c f = 0 := by unfold chN; rw [if_pos hg]
    have hb : chB c f = decide (f = 0) := by unfold chB; rw [if_pos hg]
    have d1 : (c.gain == 0) = true := by simpa using hg
    rw [hn, hb]
    go_enter Try.func48, Try.ntmps48
    go_wp2
    refine bodyPost_ret (v := .tuple #[.int .i64 0, .bool (decide (f = 0))]) (by simp [results, Try.results48, go_sem]; try rfl) rfl ⟨rfl, (Below.refl _ _).alloc (Nat.le_refl _) _⟩
  · have d1 : (c.gain == 0) = false := by simpa using hg
    have e1 : IntKind.i64.wrap (f * 1000) = f * 1000 := IntWalk.i64_in _ (by omega)
    have e2 : IntKind.i64.wrap (f * 1000 + c.gain) = f * 1000 + c.gain := IntWalk.i64_in _ (by omega)
    have e3 : IntKind.i64.wrap (f * 1000 + c.gain - 1) = f * 1000 + c.gain - 1 := IntWalk.i64_in _ (by omega)
    have hn : chN c f = (f * 1000 + c.gain - 1) / c.gain := by unfold chN; rw [if_neg hg]
    have hb : chB c f = (decide (chN c f ≤ 32767) && decide (swg c (chN c f) = f)) := by unfold chB; rw [if_neg hg]
    obtain ⟨x, hx⟩ : ∃ x, chN c f = x := ⟨_, rfl⟩
    rw [hx] at hn hb
    rw [hx, hb]
    have hn' := hn.symm
    have hx0 : 0 ≤ x := by rw [hn]; exact Int.ediv_nonneg (by omega) g1
    clear hx hb hn
    have SW := Lib.hid (fun W h1 h2 => swing_any c x W h1 h2)
    by_cases hl : x ≤ 32767
    · have z1 : decide (x ≤ 32767) = true := decide_eq_true hl
      have b1 : x * c.gain ≤ 32767 * 100000 := Int.mul_le_mul hl g2 g1 (by omega)
      have b0 : 0 ≤ x * c.gain := Int.mul_nonneg hx0 g1
      go_enter Try.func48, Try.ntmps48
      go_wp2_with fail
      refine (SW.out _ (by omega) (by omega)).mono ?_
      rintro e w1 ⟨rfl, hb1⟩
      go_wp2
      refine bodyPost_ret (v := .tuple #[.int .i64 x, .bool (decide (swg c x = f))]) (by simp [results, Try.results48, go_sem]; try rfl) rfl ⟨by rw [z1]; simp, ((Below.refl _ _).alloc (Nat.le_refl _) _).trans (hb1.mono (by simp))⟩
    · have z1 : decide (x ≤ 32767) = false := decide_eq_false hl
      go_enter Try.func48, Try.ntmps48
      go_wp2
      refine bodyPost_ret (v := .tuple #[.int .i64 x, .bool false]) (by simp [results, Try.results48, go_sem]; try rfl) rfl ⟨rfl, (Below.refl _ _).alloc (Nat.le_refl _) _⟩
theorem chN_bd {c : Ctr} (hc : CtOk c) {f : Int} (h0 : 0 ≤ f) (h1 : f ≤ 4294967296) : 0 ≤ chN c f ∧ chN c f ≤ 4294967396000 := by
  have g1 := hc.g1
  have g2 := hc.g2
  unfold chN
  split
  · omega
  · refine ⟨Int.ediv_nonneg (by omega) g1, ?_⟩
    have := Int.ediv_le_self (a := f * 1000 + c.gain - 1) c.gain (by omega)
    omega

/-- The same for any distance. -/
def chV (c : Ctr) (f : Int) : Int := if f < 0 then -(chN c (-f)) else chN c f
def chF (c : Ctr) (f : Int) : Bool := if f < 0 then chB c (-f) else chB c f

set_option maxRecDepth 100000 in
set_option maxHeartbeats 4000000 in
theorem channel_any (c : Ctr) (f : Int) (w : World) (hc : CtOk c) (h0 : -4294967296 ≤ f) (h1 : f ≤ 4294967296) :
    Calls Try.prog 48 #[.agg #[.int .i64 c.half, .int .i64 c.gain, .int .i64 c.thin, .int .i64 c.wide, .int .i64 c.slope, .int .i64 c.jerk, .int .i64 c.stylus], .int .i64 f] w fun e w' => e = .returned (.tuple #[.int .i64 (chV c f), .bool (chF c f)]) ∧ Below w.heap.size w w' := by
  by_cases hf : f < 0
  · have d0 : decide (f < 0) = true := decide_eq_true hf
    have hv : chV c f = -(chN c (-f)) := by unfold chV; rw [if_pos hf]
    have hb : chF c f = chB c (-f) := by unfold chF; rw [if_pos hf]
    have e1 : IntKind.i64.wrap (-f) = -f := IntWalk.i64_in _ (by omega)
    have NN := Lib.hid (fun W => channel_nn c (-f) W hc (by omega) (by omega))
    obtain ⟨b0, b1⟩ := chN_bd hc (f := -f) (by omega) (by omega)
    obtain ⟨x, hx⟩ : ∃ x, chN c (-f) = x := ⟨_, rfl⟩
    obtain ⟨b, hbb⟩ : ∃ b, chB c (-f) = b := ⟨_, rfl⟩
    rw [hx, hbb] at NN
    rw [hv, hb, hx, hbb]
    rw [hx] at b0 b1
    have e2 : IntKind.i64.wrap (-x) = -x := IntWalk.i64_in _ (by omega)
    clear hv hb hx hbb
    go_enter Try.func48, Try.ntmps48
    go_wp2_with fail
    refine (NN.out _).mono ?_
    rintro e w1 ⟨rfl, hb1⟩
    go_wp2
    refine bodyPost_ret (v := .tuple #[.int .i64 (-x), .bool b]) (by simp [results, Try.results48, go_sem]; try rfl) rfl ⟨rfl, ((Below.refl _ _).alloc (Nat.le_refl _) _).trans (hb1.mono (by simp))⟩
  · have hv : chV c f = chN c f := by unfold chV; rw [if_neg hf]
    have hb : chF c f = chB c f := by unfold chF; rw [if_neg hf]
    rw [hv, hb]
    exact channel_nn c f w hc (by omega) h1
end Go.Proofs.Ytaiigdbbpdkamaa
