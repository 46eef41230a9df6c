/-
  The document's breaks: whether an edge breaks a rule at an index.
-/
import Derived.Test.YtaiigdbbpdkamaaR1
namespace Go.Proofs.Ytaiigdbbpdkamaa
open Go.RowKit

def eAt (e : List Int) (i : Nat) : Int := e[i]?.getD 0
theorem eAt_eq {e : List Int} {i : Nat} (h : i < e.length) : eAt e i = e[i] := by simp [eAt, h]
theorem eAt_bd {e : List Int} (h : ∀ x ∈ e, -4194304 ≤ x ∧ x ≤ 4194304) (i : Nat) : -4194304 ≤ eAt e i ∧ eAt e i ≤ 4194304 := by
  unfold eAt
  cases hi : e[i]? with
  | none => exact ⟨by decide, by decide⟩
  | some p => exact h p (List.mem_of_getElem? hi)
/-- Whether an edge breaks a rule, from the third one on, at an index. -/
def brE (c : Ctr) (e : List Int) (r per : Int) (i : Nat) (rule : Int) : Bool :=
  if i = 0 then false
  else if rule = 3 then decide (710 * r * c.slope < 113000 * per * am (eAt e i - eAt e (i - 1)))
  else if i = e.length - 1 then false
  else if rule = 4 then decide (c.jerk < am (eAt e (i - 1) + eAt e (i + 1) - 2 * eAt e i))
  else decide (arcN r per < am (eAt e (i - 1) + eAt e (i + 1) - 2 * eAt e i) * c.stylus)
theorem ram_am {x : Int} (h1 : -1099511627776 ≤ x) (h2 : x ≤ 1099511627776) : ram x = am x := by
  have h : wrap64 (-x) = -x := by unfold wrap64; omega
  unfold ram am; rw [h]
theorem refAm_any {x : Int} (w : World) (h1 : -1099511627776 ≤ x) (h2 : x ≤ 1099511627776) :
    Calls Try.prog 70 #[.int .i64 x] w fun e w' => e = .returned (.int .i64 (am x)) ∧ w = w' := by
  rw [← ram_am h1 h2]; exact refAmount_any x w
theorem reads_at {w : World} {B n : Nat} {A : Option Addr} {e : List Int} (h : Reads w B 1 A n (ints e)) {i : Nat} (hi : i < n) : ∃ ad, A = some ad ∧ w.cell? (ad.add i) = some (.int .i64 (eAt e i)) := by
  obtain ⟨ad, e1, _, hc⟩ := h.2 (by omega)
  have hl : i < e.length := by have := h.1; simp [ints] at this; omega
  exact ⟨ad, e1, hc i _ (by simp [ints, eAt, hl])⟩

set_option maxRecDepth 100000 in
set_option maxHeartbeats 4000000 in
theorem breaks_any (B : Nat) (A : Option Addr) (n k : Nat) (c : Ctr) (e : List Int) (r per : Int) (i : Nat) (rule : Int) (w : World) (h0 : Reads w B 1 A n (ints e)) (hB : B ≤ w.heap.size) (hl : n ≤ 4096) (hi : i < n) (hb : ∀ x ∈ e, -4194304 ≤ x ∧ x ≤ 4194304) (hc : CtOk c) (hs : SpOk r per) (hr : rule = 3 ∨ rule = 4 ∨ rule = 5) :
    Calls Try.prog 75 #[.agg #[.int .i64 c.half, .int .i64 c.gain, .int .i64 c.thin, .int .i64 c.wide, .int .i64 c.slope, .int .i64 c.jerk, .int .i64 c.stylus], .slice A n k, .int .i64 r, .int .i64 per, .int .i64 i, .int .i64 rule] w fun x w' => x = .returned (.bool (brE c e r per i rule)) ∧ Below w.heap.size w w' := by
  have hn : e.length = n := by have := h0.1; simp [ints] at this; omega
  have H := Lib.hid (h0.more hB)
  have HE := Lib.hid hb
  clear h0 hB hb
  by_cases hz : i = 0
  · subst hz
    go_enter Try.func75, Try.ntmps75
    go_wp2
    go_ret
    exact ⟨ret_b (by unfold brE; rw [if_pos rfl]), (Below.refl _ _).alloc (Nat.le_refl _) _⟩
  have d0 : decide ((i : Int) < 1) = false := decide_eq_false (by omega)
  obtain ⟨ad, hA, -⟩ := reads_at H.out hi
  obtain rfl := hA
  have hw1 : IntKind.i64.wrap ((i : Int) - 1) = ((i - 1 : Nat) : Int) := by rw [IntWalk.i64_in _ (by omega)]; omega
  have HC := Lib.hid hc
  have HS := Lib.hid hs
  have hb1 := eAt_bd HE.out i
  have hb0 := eAt_bd HE.out (i - 1)
  have hb2 := eAt_bd HE.out (i + 1)
  have hin1 : i - 1 < n := by omega
  clear hc hs
  have CX := Lib.hid (fun W (hb : Below w.heap.size w W) => show W.cell? (ad.add i) = some (.int .i64 (eAt e i)) ∧ W.cell? (ad.add (i - 1)) = some (.int .i64 (eAt e (i - 1))) from by
    obtain ⟨a1, e1, y1⟩ := reads_at (H.out.below hb (Nat.le_refl _)) hi
    obtain rfl := Option.some.inj e1
    obtain ⟨a2, e2, y2⟩ := reads_at (H.out.below hb (Nat.le_refl _)) hin1
    obtain rfl := Option.some.inj e2
    exact ⟨y1, y2⟩)
  rcases hr with rfl | hr
  · have HR : Hid (brE c e r per i 3 = decide (710 * r * c.slope < 113000 * per * am (eAt e i - eAt e (i - 1)))) := Lib.hid (by unfold brE; rw [if_neg hz, if_pos rfl])
    obtain ⟨x1, hx1⟩ : ∃ x, eAt e i = x := ⟨_, rfl⟩
    obtain ⟨x0, hx0⟩ : ∃ x, eAt e (i - 1) = x := ⟨_, rfl⟩
    rw [hx1, hx0] at CX HR
    rw [hx1] at hb1
    rw [hx0] at hb0
    clear hx1 hx0 hb2 hz hn
    have AM := Lib.hid (fun W : World => refAm_any (x := x1 - x0) W (by omega) (by omega))
    have am1 : 0 ≤ am (x1 - x0) ∧ am (x1 - x0) ≤ 8388608 := by unfold am; omega
    obtain ⟨v, hv⟩ : ∃ v, am (x1 - x0) = v := ⟨_, rfl⟩
    rw [hv] at AM HR am1
    clear hv
    obtain ⟨a1, a2⟩ := am1
    obtain ⟨r1, r2, r3, r4⟩ := HS.out
    have m1 := mul_bd (a := 113000 * per) (b := v) (x := 7405568000) (y := 8388608) (by omega) (by omega) a1 a2
    have m2 := mul_bd (a := 710 * r) (b := c.slope) (x := 2977955840) (y := 10000) (by omega) (by omega) HC.out.s1 HC.out.s2
    have e0 : IntKind.i64.wrap (x1 - x0) = x1 - x0 := IntWalk.i64_in _ (by omega)
    have e1 : IntKind.i64.wrap (113000 * per) = 113000 * per := IntWalk.i64_in _ (by omega)
    have e2 : IntKind.i64.wrap (113000 * per * v) = 113000 * per * v := IntWalk.i64_in _ (by omega)
    have e3 : IntKind.i64.wrap (710 * r) = 710 * r := IntWalk.i64_in _ (by omega)
    have e4 : IntKind.i64.wrap (710 * r * c.slope) = 710 * r * c.slope := IntWalk.i64_in _ (by omega)
    obtain ⟨b1, b2⟩ := hb1
    obtain ⟨b3, b4⟩ := hb0
    clear m1 m2
    go_enter Try.func75, Try.ntmps75
    go_wp2
    obtain ⟨W, hW⟩ : ∃ W, w.alloc (.cells #[.int .i64 c.half, .int .i64 c.gain, .int .i64 c.thin, .int .i64 c.wide, .int .i64 c.slope, .int .i64 c.jerk, .int .i64 c.stylus] 23) = W := ⟨_, rfl⟩
    have HB : Hid (Below w.heap.size w W) := Lib.hid (by rw [← hW]; exact (Below.refl _ _).alloc (Nat.le_refl _) _)
    have hk : Blk W w.heap.size 23 #[.int .i64 c.half, .int .i64 c.gain, .int .i64 c.thin, .int .i64 c.wide, .int .i64 c.slope, .int .i64 c.jerk, .int .i64 c.stylus] := by rw [← hW]; exact Blk.new _ _ _
    rw [hW]
    clear hW
    have p4 := Lat.cell ((hk.cell 4).trans rfl)
    have q0 := Lat.cell (CX.out _ HB.out).1
    have q1 := Lat.cell (CX.out _ HB.out).2
    clear hk
    try dsimp only [List.append]
    refine wp_region_lat (by kernel_rfl) (by kernel_rfl) ?_
    repeat (go_big_quiet_step ((first | (with_reducible exact Calls.lat_ (AM.out _)))))
    refine wpQuiet_nil ?_
    intro _ hw'
    obtain ⟨⟨w2, hb2⟩, hw''⟩ := hw'
    subst hw''
    go_wp2
    go_ret
    exact ⟨ret_b HR.out.symm, HB.out.trans (hb2.mono HB.out.size)⟩
  by_cases hlast : i = n - 1
  · have dl : ((i : Int) == (n : Int) - 1) = true := by rw [beq_iff_eq]; omega
    have hw3 : IntKind.i64.wrap ((n : Int) - 1) = (n : Int) - 1 := IntWalk.i64_in _ (by omega)
    have HR : Hid (brE c e r per i rule = false) := Lib.hid (by unfold brE; rw [if_neg hz, if_neg (by omega), if_pos (by omega)])
    have d3 : (rule == 3) = false := beq_eq_false_iff_ne.2 (by omega)
    rw [HR.out]
    clear HR hlast hr hz hn
    go_enter Try.func75, Try.ntmps75
    go_wp2
    go_ret
    exact ⟨rfl, (Below.refl _ _).alloc (Nat.le_refl _) _⟩
  have dl : ((i : Int) == (n : Int) - 1) = false := beq_eq_false_iff_ne.2 (by omega)
  have hw3 : IntKind.i64.wrap ((n : Int) - 1) = (n : Int) - 1 := IntWalk.i64_in _ (by omega)
  have hw2 : IntKind.i64.wrap ((i : Int) + 1) = ((i + 1 : Nat) : Int) := by rw [IntWalk.i64_in _ (by omega)]; omega
  have hin2 : i + 1 < n := by omega
  have CY := Lib.hid (fun W (hb : Below w.heap.size w W) => show W.cell? ⟨ad.block, ad.off + (i + 1), none⟩ = some (.int .i64 (eAt e (i + 1))) from by
    obtain ⟨a1, e1, y1⟩ := reads_at (H.out.below hb (Nat.le_refl _)) hin2
    obtain rfl := Option.some.inj e1
    rwa [show ad.add (i + 1) = ⟨ad.block, ad.off + (i + 1), none⟩ from by simp [Addr.add]] at y1)
  have HR : Hid (brE c e r per i rule = if rule = 4 then decide (c.jerk < am (eAt e (i - 1) + eAt e (i + 1) - 2 * eAt e i)) else decide (arcN r per < am (eAt e (i - 1) + eAt e (i + 1) - 2 * eAt e i) * c.stylus)) := Lib.hid (by unfold brE; rw [if_neg hz, if_neg (by omega), if_neg (by omega)])
  obtain ⟨x1, hx1⟩ : ∃ x, eAt e i = x := ⟨_, rfl⟩
  obtain ⟨x0, hx0⟩ : ∃ x, eAt e (i - 1) = x := ⟨_, rfl⟩
  obtain ⟨x2, hx2⟩ : ∃ x, eAt e (i + 1) = x := ⟨_, rfl⟩
  rw [hx1, hx0] at CX
  rw [hx2] at CY
  rw [hx0, hx1, hx2] at HR
  rw [hx1] at hb1
  rw [hx0] at hb0
  rw [hx2] at hb2
  clear hx1 hx0 hx2 hz hn
  have AM := Lib.hid (fun W : World => refAm_any (x := x0 + x2 - 2 * x1) W (by omega) (by omega))
  have am1 : 0 ≤ am (x0 + x2 - 2 * x1) ∧ am (x0 + x2 - 2 * x1) ≤ 16777216 := by unfold am; omega
  obtain ⟨v, hv⟩ : ∃ v, am (x0 + x2 - 2 * x1) = v := ⟨_, rfl⟩
  rw [hv] at AM HR am1
  clear hv
  obtain ⟨a1, a2⟩ := am1
  have e0 : IntKind.i64.wrap (x0 + x2) = x0 + x2 := IntWalk.i64_in _ (by omega)
  have e1 : IntKind.i64.wrap (2 * x1) = 2 * x1 := IntWalk.i64_in _ (by omega)
  have e2 : IntKind.i64.wrap (x0 + x2 - 2 * x1) = x0 + x2 - 2 * x1 := IntWalk.i64_in _ (by omega)
  obtain ⟨b1, b2⟩ := hb1
  obtain ⟨b3, b4⟩ := hb0
  obtain ⟨b5, b6⟩ := hb2
  have d3 : (rule == 3) = false := beq_eq_false_iff_ne.2 (by omega)
  have n0 : 0 ≤ ((i - 1 : Nat) : Int) := by omega
  have n1 : ((i - 1 : Nat) : Int) < (n : Int) := by omega
  have n2 : ((i + 1 : Nat) : Int) < (n : Int) := by omega
  rcases hr with rfl | rfl
  · rw [if_pos rfl] at HR
    go_enter Try.func75, Try.ntmps75
    go_wp2
    obtain ⟨W, hW⟩ : ∃ W, w.alloc (.cells #[.int .i64 c.half, .int .i64 c.gain, .int .i64 c.thin, .int .i64 c.wide, .int .i64 c.slope, .int .i64 c.jerk, .int .i64 c.stylus] 23) = W := ⟨_, rfl⟩
    have HB : Hid (Below w.heap.size w W) := Lib.hid (by rw [← hW]; exact (Below.refl _ _).alloc (Nat.le_refl _) _)
    have hk : Blk W w.heap.size 23 #[.int .i64 c.half, .int .i64 c.gain, .int .i64 c.thin, .int .i64 c.wide, .int .i64 c.slope, .int .i64 c.jerk, .int .i64 c.stylus] := by rw [← hW]; exact Blk.new _ _ _
    rw [hW]
    clear hW
    have HK := Lib.hid hk
    have q0 := Lat.cell (CX.out _ HB.out).1
    have q1 := Lat.cell (CX.out _ HB.out).2
    have q2 := Lat.cell (CY.out _ HB.out)
    clear hk
    try dsimp only [List.append]
    refine wp_region_lat (by kernel_rfl) (by kernel_rfl) ?_
    repeat (go_big_quiet_step ((first | (with_reducible exact Calls.lat_ (AM.out _)))))
    refine wpQuiet_nil ?_
    intro _ hw'
    obtain ⟨⟨w2, hb2⟩, hw''⟩ := hw'
    subst hw''
    have hk := HK.out.below hb2 HK.out.lt
    have p5 := (hk.cell 5).trans rfl
    have HB2 := Lib.hid (HB.out.trans (hb2.mono HB.out.size))
    clear hk hb2 q0 q1 q2
    go_wp2
    go_ret
    exact ⟨ret_b HR.out.symm, HB2.out⟩
  · rw [if_neg (by omega)] at HR
    have AR := Lib.hid (fun W : World => refArcN_any r per W HS.out)
    have hy1 := HC.out.y1
    have hy2 := HC.out.y2
    have m1 := mul_bd (a := v) (b := c.stylus) (x := 16777216) (y := 1024) a1 a2 hy1 hy2
    have e3 : IntKind.i64.wrap (v * c.stylus) = v * c.stylus := IntWalk.i64_in _ (by omega)
    clear m1
    obtain ⟨ar, har⟩ : ∃ a, arcN r per = a := ⟨_, rfl⟩
    rw [har] at AR HR
    clear har
    go_enter Try.func75, Try.ntmps75
    go_wp2
    obtain ⟨W, hW⟩ : ∃ W, w.alloc (.cells #[.int .i64 c.half, .int .i64 c.gain, .int .i64 c.thin, .int .i64 c.wide, .int .i64 c.slope, .int .i64 c.jerk, .int .i64 c.stylus] 23) = W := ⟨_, rfl⟩
    have HB : Hid (Below w.heap.size w W) := Lib.hid (by rw [← hW]; exact (Below.refl _ _).alloc (Nat.le_refl _) _)
    have hk : Blk W w.heap.size 23 #[.int .i64 c.half, .int .i64 c.gain, .int .i64 c.thin, .int .i64 c.wide, .int .i64 c.slope, .int .i64 c.jerk, .int .i64 c.stylus] := by rw [← hW]; exact Blk.new _ _ _
    rw [hW]
    clear hW
    have HK := Lib.hid hk
    have q0 := Lat.cell (CX.out _ HB.out).1
    have q1 := Lat.cell (CX.out _ HB.out).2
    have q2 := Lat.cell (CY.out _ HB.out)
    clear hk
    try dsimp only [List.append]
    refine wp_region_lat (by kernel_rfl) (by kernel_rfl) ?_
    repeat (go_big_quiet_step ((first | (with_reducible exact Calls.lat_ (AM.out _)))))
    refine wpQuiet_nil ?_
    intro _ hw'
    obtain ⟨⟨w2, hb2⟩, hw''⟩ := hw'
    subst hw''
    have hk := HK.out.below hb2 HK.out.lt
    have p6 := Lat.cell ((hk.cell 6).trans rfl)
    have HB2 := Lib.hid (HB.out.trans (hb2.mono HB.out.size))
    clear hk hb2 q0 q1 q2 e0 e1 e2
    go_wp2
    try dsimp only [List.append]
    refine wp_region_lat (by kernel_rfl) (by kernel_rfl) ?_
    repeat (go_big_quiet_step ((first | (with_reducible exact Calls.lat_ (AR.out _)))))
    refine wpQuiet_nil ?_
    intro _ hw'
    obtain ⟨⟨w3, hb3⟩, hw''⟩ := hw'
    subst hw''
    go_wp2
    go_ret
    exact ⟨ret_b HR.out.symm, HB2.out.trans (hb3.mono HB2.out.size)⟩
end Go.Proofs.Ytaiigdbbpdkamaa
