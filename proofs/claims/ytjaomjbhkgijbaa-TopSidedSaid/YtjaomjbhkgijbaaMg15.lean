/-
  Contracts of arc and of the methods that say which rule is broken.
-/
import Derived.Test.YtjaomjbhkgijbaaMg14

namespace Go.Proofs.Ytjaomjbhkgijbaa
open Go.RowKit

/-- The square of the arc of a sample. -/
def arcN (r per : Int) : Int := (710 * r) * (710 * r) / ((113 * per) * (113 * per))
theorem arc_bd (r per : Int) (h1 : 0 ≤ r) (h2 : r ≤ 4194304) (h3 : 1 ≤ per) (h4 : per ≤ 65536) :
    0 ≤ 710 * r * (710 * r) ∧ 710 * r * (710 * r) ≤ 9223372036854775807 ∧ 1 ≤ 113 * per * (113 * per) ∧ 113 * per * (113 * per) ≤ 9223372036854775807 := by
  have a : 710 * r * (710 * r) ≤ 2977955840 * 2977955840 := Int.mul_le_mul (by omega) (by omega) (by omega) (by omega)
  have b : 0 ≤ 710 * r * (710 * r) := Int.mul_nonneg (by omega) (by omega)
  have c : 113 * per * (113 * per) ≤ 7405568 * 7405568 := Int.mul_le_mul (by omega) (by omega) (by omega) (by omega)
  have d : 113 * 113 ≤ 113 * per * (113 * per) := Int.mul_le_mul (by omega) (by omega) (by omega) (by omega)
  omega

set_option maxHeartbeats 1000000 in
theorem arc_any (c : Ctr) (r per : Int) (w : World) (h1 : 0 ≤ r) (h2 : r ≤ 4194304) (h3 : 1 ≤ per) (h4 : per ≤ 65536) :
    Calls Try.prog 173 #[.agg #[.int .i64 c.half, .int .i64 c.gain, .int .i64 c.thin, .int .i64 c.wide, .int .i64 c.slope, .int .i64 c.jerk, .int .i64 c.stylus, .int .i64 r, .int .i64 per]] w fun e w' => e = .returned (.int .i64 (arcN r per)) ∧ Below w.heap.size w w' := by
  obtain ⟨b1, b2, b3, b4⟩ := arc_bd r per h1 h2 h3 h4
  go_enter Try.func173, Try.ntmps173
  go_wp2
  go_ret
  exact ⟨ret_i rfl, (Below.refl _ _).alloc (Nat.le_refl _) _⟩
structure SpOk (r per : Int) : Prop where
  r1 : 0 ≤ r
  r2 : r ≤ 4194304
  p1 : 1 ≤ per
  p2 : per ≤ 65536
theorem am_le {x b : Int} (h1 : -b ≤ x) (h2 : x ≤ b) : am x ≤ b := by unfold am; omega
theorem gAt_ok {l : List Smp} (he : ∀ p ∈ l, EdOk p) (i : Nat) : EdOk (gAt l i) := by
  unfold gAt
  cases h : l[i]? with
  | none => exact ⟨by decide, by decide, by decide, by decide⟩
  | some p => exact he p (List.mem_of_getElem? h)
theorem chg_bd {p q : Smp} (h1 : EdOk p) (h2 : EdOk q) : 0 ≤ chg p q ∧ chg p q ≤ 8388608 := by
  obtain ⟨_, _, _, _⟩ := h1
  obtain ⟨_, _, _, _⟩ := h2
  refine amL_bd 8388608 (by omega) _ (fun x hx => ?_)
  simp only [List.mem_cons, List.not_mem_nil, or_false] at hx
  rcases hx with rfl | rfl <;> exact am_le (by omega) (by omega)
theorem bnd_bd {p q s : Smp} (h1 : EdOk p) (h2 : EdOk q) (h3 : EdOk s) : 0 ≤ bnd p q s ∧ bnd p q s ≤ 16777216 := by
  obtain ⟨_, _, _, _⟩ := h1
  obtain ⟨_, _, _, _⟩ := h2
  obtain ⟨_, _, _, _⟩ := h3
  refine amL_bd 16777216 (by omega) _ (fun x hx => ?_)
  simp only [List.mem_cons, List.not_mem_nil, or_false] at hx
  rcases hx with rfl | rfl <;> exact am_le (by omega) (by omega)
theorem chgAt_bd {l : List Smp} (he : ∀ p ∈ l, EdOk p) (i : Nat) : 0 ≤ chgAt l i ∧ chgAt l i ≤ 8388608 := by
  unfold chgAt
  split
  · omega
  · exact chg_bd (gAt_ok he _) (gAt_ok he _)
theorem bndAt_bd {l : List Smp} (he : ∀ p ∈ l, EdOk p) (i : Nat) : 0 ≤ bndAt l i ∧ bndAt l i ≤ 16777216 := by
  unfold bndAt
  split
  · omega
  · exact bnd_bd (gAt_ok he _) (gAt_ok he _) (gAt_ok he _)

def thinB (c : Ctr) (l : List Smp) (i : Nat) : Bool := decide (wid (gAt l i) < c.thin)
def wideB (c : Ctr) (l : List Smp) (i : Nat) : Bool := decide (c.wide < wid (gAt l i))
def steepB (c : Ctr) (l : List Smp) (r per : Int) (i : Nat) : Bool := decide (710 * r * c.slope < 113000 * per * chgAt l i)
def suddenB (c : Ctr) (l : List Smp) (i : Nat) : Bool := decide (c.jerk < bndAt l i)
def bentB (c : Ctr) (l : List Smp) (r per : Int) (i : Nat) : Bool := decide (arcN r per < bndAt l i * c.stylus)
theorem mul_bd {a b x y : Int} (h1 : 0 ≤ a) (h2 : a ≤ x) (h3 : 0 ≤ b) (h4 : b ≤ y) : 0 ≤ a * b ∧ a * b ≤ x * y := ⟨Int.mul_nonneg h1 h3, Int.mul_le_mul h2 h4 h3 (by omega)⟩
theorem arcN_bd (r per : Int) (h : SpOk r per) : 0 ≤ arcN r per := by
  obtain ⟨a, _, b, _⟩ := arc_bd r per h.r1 h.r2 h.p1 h.p2
  exact Int.ediv_nonneg a (by omega)

set_option maxRecDepth 100000 in
set_option maxHeartbeats 2000000 in
theorem thin_any (B : Nat) (A : Option Addr) (n k : Nat) (c : Ctr) (l : List Smp) (r per : Int) (i : Nat) (w : World) (h0 : RS w B A n l) (hB : B ≤ w.heap.size) (hl : n ≤ 9223372036854775807) (hi : i < l.length) (he : ∀ p ∈ l, EdOk p) (hc : CtOk c) (hs : SpOk r per) :
    Calls Try.prog 193 #[.agg #[.int .i64 c.half, .int .i64 c.gain, .int .i64 c.thin, .int .i64 c.wide, .int .i64 c.slope, .int .i64 c.jerk, .int .i64 c.stylus, .int .i64 r, .int .i64 per], .agg #[.slice A n k, .int .i64 i]] w fun e w' => e = .returned (.bool (thinB c l i)) ∧ Below w.heap.size w w' := by
  have H := Lib.hid (h0.more hB)
  have HI := Lib.hid hi
  have HE := Lib.hid he
  have HC := Lib.hid hc
  have HSP := Lib.hid hs
  clear h0 hB hi he hc hs
  go_enter Try.func193, Try.ntmps193
  go_wp2
  obtain ⟨W, hW⟩ : ∃ W, (w.alloc (.cells #[.int .i64 c.half, .int .i64 c.gain, .int .i64 c.thin, .int .i64 c.wide, .int .i64 c.slope, .int .i64 c.jerk, .int .i64 c.stylus, .int .i64 r, .int .i64 per] 172)).alloc (.cells #[.slice A n k, .int .i64 i] 180) = W := ⟨_, rfl⟩
  have HBW : Hid (Below w.heap.size w W) := Lib.hid (by rw [← hW]; exact ((Below.refl _ _).alloc (Nat.le_refl _) _).alloc (by simp) _)
  have hb1 : Blk W w.heap.size 172 #[.int .i64 c.half, .int .i64 c.gain, .int .i64 c.thin, .int .i64 c.wide, .int .i64 c.slope, .int .i64 c.jerk, .int .i64 c.stylus, .int .i64 r, .int .i64 per] := by rw [← hW]; exact (Blk.new _ _ _).alloc _
  have hb2 : Blk W (w.heap.size + 1) 180 #[.slice A n k, .int .i64 i] := by rw [← hW]; exact blk_al (by simp)
  rw [hW]
  clear hW
  have p0 := Lat.cell ((hb1.cell 0).trans rfl)
  have p1 := Lat.cell ((hb1.cell 1).trans rfl)
  have p2 := Lat.cell ((hb1.cell 2).trans rfl)
  have p3 := Lat.cell ((hb1.cell 3).trans rfl)
  have p4 := Lat.cell ((hb1.cell 4).trans rfl)
  have p5 := Lat.cell ((hb1.cell 5).trans rfl)
  have p6 := Lat.cell ((hb1.cell 6).trans rfl)
  have p7 := Lat.cell ((hb1.cell 7).trans rfl)
  have p8 := Lat.cell ((hb1.cell 8).trans rfl)
  have q0 := Lat.cell ((hb2.cell 0).trans rfl)
  have q1 := Lat.cell ((hb2.cell 1).trans rfl)
  clear hb1 hb2
  have LP := Lib.hid (fun x : Lat W => width_any w.heap.size A n k l i x.w (H.out.below (HBW.out.trans (x.below.mono HBW.out.size)) (Nat.le_refl _)) (Nat.le_trans HBW.out.size x.below.size) hl HI.out HE.out)
  obtain ⟨v, hv⟩ : ∃ v, wid (gAt l i) = v := ⟨_, rfl⟩
  have HV := Lib.hid hv
  rw [hv] at LP
  clear hv
  try dsimp only [List.append]
  refine wp_region_lat (by kernel_rfl) (by kernel_rfl) ?_
  repeat (go_big_quiet_step ((first | (with_reducible exact Calls.lat (LP.out _)))))
  refine wpQuiet_nil ?_
  intro _ hw'
  obtain ⟨⟨w2, hb2⟩, hw''⟩ := hw'
  subst hw''
  go_wp2
  go_ret
  exact ⟨ret_b (by unfold thinB; rw [HV.out]), HBW.out.trans (hb2.mono HBW.out.size)⟩

set_option maxRecDepth 100000 in
set_option maxHeartbeats 2000000 in
theorem wide_any (B : Nat) (A : Option Addr) (n k : Nat) (c : Ctr) (l : List Smp) (r per : Int) (i : Nat) (w : World) (h0 : RS w B A n l) (hB : B ≤ w.heap.size) (hl : n ≤ 9223372036854775807) (hi : i < l.length) (he : ∀ p ∈ l, EdOk p) (hc : CtOk c) (hs : SpOk r per) :
    Calls Try.prog 194 #[.agg #[.int .i64 c.half, .int .i64 c.gain, .int .i64 c.thin, .int .i64 c.wide, .int .i64 c.slope, .int .i64 c.jerk, .int .i64 c.stylus, .int .i64 r, .int .i64 per], .agg #[.slice A n k, .int .i64 i]] w fun e w' => e = .returned (.bool (wideB c l i)) ∧ Below w.heap.size w w' := by
  have H := Lib.hid (h0.more hB)
  have HI := Lib.hid hi
  have HE := Lib.hid he
  have HC := Lib.hid hc
  have HSP := Lib.hid hs
  clear h0 hB hi he hc hs
  go_enter Try.func194, Try.ntmps194
  go_wp2
  obtain ⟨W, hW⟩ : ∃ W, (w.alloc (.cells #[.int .i64 c.half, .int .i64 c.gain, .int .i64 c.thin, .int .i64 c.wide, .int .i64 c.slope, .int .i64 c.jerk, .int .i64 c.stylus, .int .i64 r, .int .i64 per] 172)).alloc (.cells #[.slice A n k, .int .i64 i] 180) = W := ⟨_, rfl⟩
  have HBW : Hid (Below w.heap.size w W) := Lib.hid (by rw [← hW]; exact ((Below.refl _ _).alloc (Nat.le_refl _) _).alloc (by simp) _)
  have hb1 : Blk W w.heap.size 172 #[.int .i64 c.half, .int .i64 c.gain, .int .i64 c.thin, .int .i64 c.wide, .int .i64 c.slope, .int .i64 c.jerk, .int .i64 c.stylus, .int .i64 r, .int .i64 per] := by rw [← hW]; exact (Blk.new _ _ _).alloc _
  have hb2 : Blk W (w.heap.size + 1) 180 #[.slice A n k, .int .i64 i] := by rw [← hW]; exact blk_al (by simp)
  rw [hW]
  clear hW
  have p0 := Lat.cell ((hb1.cell 0).trans rfl)
  have p1 := Lat.cell ((hb1.cell 1).trans rfl)
  have p2 := Lat.cell ((hb1.cell 2).trans rfl)
  have p3 := Lat.cell ((hb1.cell 3).trans rfl)
  have p4 := Lat.cell ((hb1.cell 4).trans rfl)
  have p5 := Lat.cell ((hb1.cell 5).trans rfl)
  have p6 := Lat.cell ((hb1.cell 6).trans rfl)
  have p7 := Lat.cell ((hb1.cell 7).trans rfl)
  have p8 := Lat.cell ((hb1.cell 8).trans rfl)
  have q0 := Lat.cell ((hb2.cell 0).trans rfl)
  have q1 := Lat.cell ((hb2.cell 1).trans rfl)
  clear hb1 hb2
  have LP := Lib.hid (fun x : Lat W => width_any w.heap.size A n k l i x.w (H.out.below (HBW.out.trans (x.below.mono HBW.out.size)) (Nat.le_refl _)) (Nat.le_trans HBW.out.size x.below.size) hl HI.out HE.out)
  obtain ⟨v, hv⟩ : ∃ v, wid (gAt l i) = v := ⟨_, rfl⟩
  have HV := Lib.hid hv
  rw [hv] at LP
  clear hv
  try dsimp only [List.append]
  refine wp_region_lat (by kernel_rfl) (by kernel_rfl) ?_
  repeat (go_big_quiet_step ((first | (with_reducible exact Calls.lat (LP.out _)))))
  refine wpQuiet_nil ?_
  intro _ hw'
  obtain ⟨⟨w2, hb2⟩, hw''⟩ := hw'
  subst hw''
  go_wp2
  go_ret
  exact ⟨ret_b (by unfold wideB; rw [HV.out]), HBW.out.trans (hb2.mono HBW.out.size)⟩

set_option maxRecDepth 100000 in
set_option maxHeartbeats 2000000 in
theorem steep_any (B : Nat) (A : Option Addr) (n k : Nat) (c : Ctr) (l : List Smp) (r per : Int) (i : Nat) (w : World) (h0 : RS w B A n l) (hB : B ≤ w.heap.size) (hl : n ≤ 9223372036854775807) (hi : i < l.length) (he : ∀ p ∈ l, EdOk p) (hc : CtOk c) (hs : SpOk r per) :
    Calls Try.prog 195 #[.agg #[.int .i64 c.half, .int .i64 c.gain, .int .i64 c.thin, .int .i64 c.wide, .int .i64 c.slope, .int .i64 c.jerk, .int .i64 c.stylus, .int .i64 r, .int .i64 per], .agg #[.slice A n k, .int .i64 i]] w fun e w' => e = .returned (.bool (steepB c l r per i)) ∧ Below w.heap.size w w' := by
  have H := Lib.hid (h0.more hB)
  have HI := Lib.hid hi
  have HE := Lib.hid he
  have HC := Lib.hid hc
  have HSP := Lib.hid hs
  clear h0 hB hi he hc hs
  go_enter Try.func195, Try.ntmps195
  go_wp2
  obtain ⟨W, hW⟩ : ∃ W, (w.alloc (.cells #[.int .i64 c.half, .int .i64 c.gain, .int .i64 c.thin, .int .i64 c.wide, .int .i64 c.slope, .int .i64 c.jerk, .int .i64 c.stylus, .int .i64 r, .int .i64 per] 172)).alloc (.cells #[.slice A n k, .int .i64 i] 180) = W := ⟨_, rfl⟩
  have HBW : Hid (Below w.heap.size w W) := Lib.hid (by rw [← hW]; exact ((Below.refl _ _).alloc (Nat.le_refl _) _).alloc (by simp) _)
  have hb1 : Blk W w.heap.size 172 #[.int .i64 c.half, .int .i64 c.gain, .int .i64 c.thin, .int .i64 c.wide, .int .i64 c.slope, .int .i64 c.jerk, .int .i64 c.stylus, .int .i64 r, .int .i64 per] := by rw [← hW]; exact (Blk.new _ _ _).alloc _
  have hb2 : Blk W (w.heap.size + 1) 180 #[.slice A n k, .int .i64 i] := by rw [← hW]; exact blk_al (by simp)
  rw [hW]
  clear hW
  have p0 := Lat.cell ((hb1.cell 0).trans rfl)
  have p1 := Lat.cell ((hb1.cell 1).trans rfl)
  have p2 := Lat.cell ((hb1.cell 2).trans rfl)
  have p3 := Lat.cell ((hb1.cell 3).trans rfl)
  have p4 := Lat.cell ((hb1.cell 4).trans rfl)
  have p5 := Lat.cell ((hb1.cell 5).trans rfl)
  have p6 := Lat.cell ((hb1.cell 6).trans rfl)
  have p7 := Lat.cell ((hb1.cell 7).trans rfl)
  have p8 := Lat.cell ((hb1.cell 8).trans rfl)
  have q0 := Lat.cell ((hb2.cell 0).trans rfl)
  have q1 := Lat.cell ((hb2.cell 1).trans rfl)
  clear hb1 hb2
  have LP := Lib.hid (fun x : Lat W => change_any w.heap.size A n k l i x.w (H.out.below (HBW.out.trans (x.below.mono HBW.out.size)) (Nat.le_refl _)) (Nat.le_trans HBW.out.size x.below.size) hl HI.out HE.out)
  obtain ⟨v, hv⟩ : ∃ v, chgAt l i = v := ⟨_, rfl⟩
  have HV := Lib.hid hv
  rw [hv] at LP
  have hvb := chgAt_bd HE.out i
  rw [hv] at hvb
  obtain ⟨a1, a2⟩ := hvb
  obtain ⟨r1, r2, r3, r4⟩ := HSP.out
  have m1 := mul_bd (a := 113000 * per) (b := v) (x := 7405568000) (y := 8388608) (by omega) (by omega) a1 a2
  have m2 := mul_bd (a := 710 * r) (b := c.slope) (x := 2977955840) (y := 10000) (by omega) (by omega) HC.out.s1 HC.out.s2
  have x1 : IntKind.i64.wrap (113000 * per) = 113000 * per := IntWalk.i64_in _ (by omega)
  have x2 : IntKind.i64.wrap (113000 * per * v) = 113000 * per * v := IntWalk.i64_in _ (by omega)
  have x3 : IntKind.i64.wrap (710 * r) = 710 * r := IntWalk.i64_in _ (by omega)
  have x4 : IntKind.i64.wrap (710 * r * c.slope) = 710 * r * c.slope := IntWalk.i64_in _ (by omega)
  clear hv m1 m2
  try dsimp only [List.append]
  refine wp_region_lat (by kernel_rfl) (by kernel_rfl) ?_
  repeat (go_big_quiet_step ((first | (with_reducible exact Calls.lat (LP.out _)))))
  refine wpQuiet_nil ?_
  intro _ hw'
  obtain ⟨⟨w2, hb2⟩, hw''⟩ := hw'
  subst hw''
  go_wp2
  go_ret
  exact ⟨ret_b (by unfold steepB; rw [HV.out]), HBW.out.trans (hb2.mono HBW.out.size)⟩

set_option maxRecDepth 100000 in
set_option maxHeartbeats 2000000 in
theorem sudden_any (B : Nat) (A : Option Addr) (n k : Nat) (c : Ctr) (l : List Smp) (r per : Int) (i : Nat) (w : World) (h0 : RS w B A n l) (hB : B ≤ w.heap.size) (hl : n ≤ 9223372036854775807) (hi : i < l.length) (he : ∀ p ∈ l, EdOk p) (hc : CtOk c) (hs : SpOk r per) :
    Calls Try.prog 196 #[.agg #[.int .i64 c.half, .int .i64 c.gain, .int .i64 c.thin, .int .i64 c.wide, .int .i64 c.slope, .int .i64 c.jerk, .int .i64 c.stylus, .int .i64 r, .int .i64 per], .agg #[.slice A n k, .int .i64 i]] w fun e w' => e = .returned (.bool (suddenB c l i)) ∧ Below w.heap.size w w' := by
  have H := Lib.hid (h0.more hB)
  have HI := Lib.hid hi
  have HE := Lib.hid he
  have HC := Lib.hid hc
  have HSP := Lib.hid hs
  clear h0 hB hi he hc hs
  go_enter Try.func196, Try.ntmps196
  go_wp2
  obtain ⟨W, hW⟩ : ∃ W, (w.alloc (.cells #[.int .i64 c.half, .int .i64 c.gain, .int .i64 c.thin, .int .i64 c.wide, .int .i64 c.slope, .int .i64 c.jerk, .int .i64 c.stylus, .int .i64 r, .int .i64 per] 172)).alloc (.cells #[.slice A n k, .int .i64 i] 180) = W := ⟨_, rfl⟩
  have HBW : Hid (Below w.heap.size w W) := Lib.hid (by rw [← hW]; exact ((Below.refl _ _).alloc (Nat.le_refl _) _).alloc (by simp) _)
  have hb1 : Blk W w.heap.size 172 #[.int .i64 c.half, .int .i64 c.gain, .int .i64 c.thin, .int .i64 c.wide, .int .i64 c.slope, .int .i64 c.jerk, .int .i64 c.stylus, .int .i64 r, .int .i64 per] := by rw [← hW]; exact (Blk.new _ _ _).alloc _
  have hb2 : Blk W (w.heap.size + 1) 180 #[.slice A n k, .int .i64 i] := by rw [← hW]; exact blk_al (by simp)
  rw [hW]
  clear hW
  have p0 := Lat.cell ((hb1.cell 0).trans rfl)
  have p1 := Lat.cell ((hb1.cell 1).trans rfl)
  have p2 := Lat.cell ((hb1.cell 2).trans rfl)
  have p3 := Lat.cell ((hb1.cell 3).trans rfl)
  have p4 := Lat.cell ((hb1.cell 4).trans rfl)
  have p5 := Lat.cell ((hb1.cell 5).trans rfl)
  have p6 := Lat.cell ((hb1.cell 6).trans rfl)
  have p7 := Lat.cell ((hb1.cell 7).trans rfl)
  have p8 := Lat.cell ((hb1.cell 8).trans rfl)
  have q0 := Lat.cell ((hb2.cell 0).trans rfl)
  have q1 := Lat.cell ((hb2.cell 1).trans rfl)
  clear hb1 hb2
  have LP := Lib.hid (fun x : Lat W => bend_any w.heap.size A n k l i x.w (H.out.below (HBW.out.trans (x.below.mono HBW.out.size)) (Nat.le_refl _)) (Nat.le_trans HBW.out.size x.below.size) hl HI.out HE.out)
  obtain ⟨v, hv⟩ : ∃ v, bndAt l i = v := ⟨_, rfl⟩
  have HV := Lib.hid hv
  rw [hv] at LP
  clear hv
  try dsimp only [List.append]
  refine wp_region_lat (by kernel_rfl) (by kernel_rfl) ?_
  repeat (go_big_quiet_step ((first | (with_reducible exact Calls.lat (LP.out _)))))
  refine wpQuiet_nil ?_
  intro _ hw'
  obtain ⟨⟨w2, hb2⟩, hw''⟩ := hw'
  subst hw''
  go_wp2
  go_ret
  exact ⟨ret_b (by unfold suddenB; rw [HV.out]), HBW.out.trans (hb2.mono HBW.out.size)⟩

set_option maxRecDepth 100000 in
set_option maxHeartbeats 2000000 in
theorem bent_any (B : Nat) (A : Option Addr) (n k : Nat) (c : Ctr) (l : List Smp) (r per : Int) (i : Nat) (w : World) (h0 : RS w B A n l) (hB : B ≤ w.heap.size) (hl : n ≤ 9223372036854775807) (hi : i < l.length) (he : ∀ p ∈ l, EdOk p) (hc : CtOk c) (hs : SpOk r per) :
    Calls Try.prog 197 #[.agg #[.int .i64 c.half, .int .i64 c.gain, .int .i64 c.thin, .int .i64 c.wide, .int .i64 c.slope, .int .i64 c.jerk, .int .i64 c.stylus, .int .i64 r, .int .i64 per], .agg #[.slice A n k, .int .i64 i]] w fun e w' => e = .returned (.bool (bentB c l r per i)) ∧ Below w.heap.size w w' := by
  have H := Lib.hid (h0.more hB)
  have HI := Lib.hid hi
  have HE := Lib.hid he
  have HC := Lib.hid hc
  have HSP := Lib.hid hs
  clear h0 hB hi he hc hs
  go_enter Try.func197, Try.ntmps197
  go_wp2
  obtain ⟨W, hW⟩ : ∃ W, (w.alloc (.cells #[.int .i64 c.half, .int .i64 c.gain, .int .i64 c.thin, .int .i64 c.wide, .int .i64 c.slope, .int .i64 c.jerk, .int .i64 c.stylus, .int .i64 r, .int .i64 per] 172)).alloc (.cells #[.slice A n k, .int .i64 i] 180) = W := ⟨_, rfl⟩
  have HBW : Hid (Below w.heap.size w W) := Lib.hid (by rw [← hW]; exact ((Below.refl _ _).alloc (Nat.le_refl _) _).alloc (by simp) _)
  have hb1 : Blk W w.heap.size 172 #[.int .i64 c.half, .int .i64 c.gain, .int .i64 c.thin, .int .i64 c.wide, .int .i64 c.slope, .int .i64 c.jerk, .int .i64 c.stylus, .int .i64 r, .int .i64 per] := by rw [← hW]; exact (Blk.new _ _ _).alloc _
  have hb2 : Blk W (w.heap.size + 1) 180 #[.slice A n k, .int .i64 i] := by rw [← hW]; exact blk_al (by simp)
  rw [hW]
  clear hW
  have p0 := Lat.cell ((hb1.cell 0).trans rfl)
  have p1 := Lat.cell ((hb1.cell 1).trans rfl)
  have p2 := Lat.cell ((hb1.cell 2).trans rfl)
  have p3 := Lat.cell ((hb1.cell 3).trans rfl)
  have p4 := Lat.cell ((hb1.cell 4).trans rfl)
  have p5 := Lat.cell ((hb1.cell 5).trans rfl)
  have p6 := Lat.cell ((hb1.cell 6).trans rfl)
  have p7 := Lat.cell ((hb1.cell 7).trans rfl)
  have p8 := Lat.cell ((hb1.cell 8).trans rfl)
  have q0 := Lat.cell ((hb2.cell 0).trans rfl)
  have q1 := Lat.cell ((hb2.cell 1).trans rfl)
  clear hb1 hb2
  have LP := Lib.hid (fun x : Lat W => bend_any w.heap.size A n k l i x.w (H.out.below (HBW.out.trans (x.below.mono HBW.out.size)) (Nat.le_refl _)) (Nat.le_trans HBW.out.size x.below.size) hl HI.out HE.out)
  have LA := Lib.hid (fun x : Lat W => arc_any c r per x.w HSP.out.r1 HSP.out.r2 HSP.out.p1 HSP.out.p2)
  obtain ⟨v, hv⟩ : ∃ v, bndAt l i = v := ⟨_, rfl⟩
  have HV := Lib.hid hv
  rw [hv] at LP
  obtain ⟨u, hu⟩ : ∃ u, arcN r per = u := ⟨_, rfl⟩
  have HU := Lib.hid hu
  rw [hu] at LA
  have hvb := bndAt_bd HE.out i
  rw [hv] at hvb
  obtain ⟨a1, a2⟩ := hvb
  have m1 := mul_bd (a := v) (b := c.stylus) (x := 16777216) (y := 1024) a1 a2 HC.out.y1 HC.out.y2
  have x1 : IntKind.i64.wrap (v * c.stylus) = v * c.stylus := IntWalk.i64_in _ (by omega)
  clear hv hu m1
  try dsimp only [List.append]
  refine wp_region_lat (by kernel_rfl) (by kernel_rfl) ?_
  repeat (go_big_quiet_step ((first | (with_reducible exact Calls.lat (LP.out _)) | (with_reducible exact Calls.lat (LA.out _)))))
  refine wpQuiet_nil ?_
  intro _ hw'
  obtain ⟨⟨w2, hb2⟩, hw''⟩ := hw'
  subst hw''
  go_wp2
  go_ret
  exact ⟨ret_b (by unfold bentB; rw [HV.out, HU.out]), HBW.out.trans (hb2.mono HBW.out.size)⟩

end Go.Proofs.Ytjaomjbhkgijbaa

