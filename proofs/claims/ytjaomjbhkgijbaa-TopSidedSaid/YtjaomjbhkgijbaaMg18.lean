/-
  Contracts of faultless, and of least with both of its closures.
-/
import Derived.Test.YtjaomjbhkgijbaaMg17

namespace Go.Proofs.Ytjaomjbhkgijbaa
open Go.RowKit

def fls (c : Ctr) (l : List Smp) (r per : Int) : Bool := (flt c l r per).2 == 0

set_option maxHeartbeats 1000000 in
theorem faultless_any (B : Nat) (A : Option Addr) (n k : Nat) (c : Ctr) (l : List Smp) (r per : Int) (w : World) (h0 : RS w B A n l) (hB : B ≤ w.heap.size) (hl : n ≤ 9223372036854775807) (he : ∀ p ∈ l, EdOk p) (hc : CtOk c) (hs : SpOk r per) :
    Calls Try.prog 143 #[.agg #[.int .i64 c.half, .int .i64 c.gain, .int .i64 c.thin, .int .i64 c.wide, .int .i64 c.slope, .int .i64 c.jerk, .int .i64 c.stylus, .int .i64 r, .int .i64 per], .slice A n k] w fun e w' => e = .returned (.bool (fls c l r per)) ∧ Below w.heap.size w w' := by
  have H := Lib.hid (h0.more hB)
  have HE := Lib.hid he
  have HC := Lib.hid hc
  have HSP := Lib.hid hs
  clear h0 hB he hc hs
  have FF := Lib.hid (fun W (hb : Below w.heap.size w W) => fault_any w.heap.size A n k c l r per W (H.out.below hb (Nat.le_refl _)) hb.size hl HE.out HC.out HSP.out)
  have hf : fls c l r per = ((flt c l r per).2 == 0) := rfl
  obtain ⟨q, hq⟩ : ∃ q, flt c l r per = q := ⟨_, rfl⟩
  rw [hq] at FF hf
  have HF := Lib.hid hf
  clear hf hq
  go_enter Try.func143, Try.ntmps143
  go_wp2_with fail
  refine (FF.out _ ((Below.refl _ _).alloc (Nat.le_refl _) _)).mono ?_
  rintro e w1 ⟨rfl, hb1⟩
  have HB := Lib.hid (((Below.refl _ w).alloc (Nat.le_refl _) (.cells #[.int .i64 c.half, .int .i64 c.gain, .int .i64 c.thin, .int .i64 c.wide, .int .i64 c.slope, .int .i64 c.jerk, .int .i64 c.stylus, .int .i64 r, .int .i64 per] 172)).trans (hb1.mono (by simp)))
  clear hb1
  go_wp2
  go_ret
  exact ⟨ret_b HF.out.symm, HB.out⟩

/-- v is the least number that holds, or none does. -/
def LeastIs (p : Int → Bool) (v er : Int) : Prop :=
  (er = 0 ∧ 0 ≤ v ∧ v ≤ 4194304 ∧ p v = true ∧ ∀ q, 0 ≤ q → q < v → p q = false) ∨ (er = 14 ∧ v = 0 ∧ ∀ q, 0 ≤ q → q ≤ 4194304 → p q = false)
def LePost (Q : Int → Int → Prop) (w : World) (e : Ending) (w' : World) : Prop := ∃ v er, e = .returned (.tuple #[.int .i64 v, .int .i64 er]) ∧ Q v er ∧ Below w.heap.size w w'
def Mono_ (p : Int → Bool) : Prop := ∀ a b, 0 ≤ a → a ≤ b → b ≤ 4194304 → p a = true → p b = true
theorem LeastIs.uniq {p : Int → Bool} {v er v' er' : Int} (h : LeastIs p v er) (h' : LeastIs p v' er') : v = v' ∧ er = er' := by
  rcases h with ⟨a1, a2, a3, a4, a5⟩ | ⟨a1, a2, a3⟩ <;> rcases h' with ⟨b1, b2, b3, b4, b5⟩ | ⟨b1, b2, b3⟩
  · refine ⟨?_, by omega⟩
    rcases Int.lt_trichotomy v v' with h | h | h
    · rw [b5 v a2 h] at a4; cases a4
    · exact h
    · rw [a5 v' b2 h] at b4; cases b4
  · rw [b3 v a2 a3] at a4; cases a4
  · rw [a3 v' b2 b3] at b4; cases b4
  · omega

set_option maxHeartbeats 2000000 in
theorem least_least (p : Int → Bool) (hm : Mono_ p) (b1 b2 b3 : Nat) (w : World)
    (hp : ∀ (r : Int) (W : World), 0 ≤ r → r ≤ 4194304 → Below w.heap.size w W → Calls Try.prog 142 #[.int .i64 r, .pointer (some ⟨b1, 0, none⟩), .pointer (some ⟨b2, 0, none⟩), .pointer (some ⟨b3, 0, none⟩)] W fun e w' => e = .returned (.bool (p r)) ∧ Below W.heap.size W w') :
    Calls Try.prog 141 #[.int .i64 4194304, .func (.func 142) #[] #[.pointer (some ⟨b1, 0, none⟩), .pointer (some ⟨b2, 0, none⟩), .pointer (some ⟨b3, 0, none⟩)]] w (LePost (LeastIs p) w) := by
  have HP := Lib.hid hp
  have HM := Lib.hid hm
  clear hp hm
  cases ht : p 4194304
  · have HT := Lib.hid ht
    clear ht
    go_enter Try.func141, Try.ntmps141
    go_wp2_with fail
    refine (HP.out 4194304 _ (by omega) (by omega) (Below.refl _ _)).mono ?_
    rintro e w1 ⟨rfl, hb1⟩
    rw [HT.out]
    have HB := Lib.hid hb1
    clear hb1
    go_wp2
    go_ret2
    refine ⟨_, _, rfl, .inr ⟨rfl, rfl, fun q h1 h2 => ?_⟩, HB.out⟩
    cases hq : p q
    · rfl
    · rw [HM.out q 4194304 h1 h2 (by omega) hq] at HT; exact absurd HT.out (by simp)
  · have HT := Lib.hid ht
    clear ht
    go_enter Try.func141, Try.ntmps141
    go_wp2_with fail
    refine (HP.out 4194304 _ (by omega) (by omega) (Below.refl _ _)).mono ?_
    rintro e w1 ⟨rfl, hb1⟩
    rw [HT.out]
    have HB := Lib.hid hb1
    clear hb1
    go_wp2_with fail
    go_loopw [6, 7] (fun a b wr => ∃ lo hi : Int, a = .int .i64 lo ∧ b = .int .i64 hi ∧ 0 ≤ lo ∧ lo ≤ hi ∧ hi ≤ 4194304 ∧ Hid (p hi = true) ∧ Hid (∀ q, 0 ≤ q → q < lo → p q = false) ∧ Hid (Below w.heap.size w wr)) (fun a b _ => (intOf b - intOf a).toNat)
    case atStart => exact ⟨0, 4194304, rfl, rfl, by omega, by omega, by omega, HT, Lib.hid (fun q h1 h2 => absurd h2 (by omega)), HB⟩
    case round =>
      clear HT HB
      obtain ⟨lo, hi, rfl, rfl, h1, h2, h3, HH, HL, HB⟩ := hrel
      by_cases hlt : lo < hi
      · obtain ⟨mid, hmid⟩ : ∃ mid, lo + (hi - lo) / 2 = mid := ⟨_, rfl⟩
        have hm1 : lo ≤ mid ∧ mid < hi := by omega
        obtain ⟨hm1, hm2⟩ := hm1
        have HMID := Lib.hid hmid
        cases hx : p mid
        all_goals
          have HX := Lib.hid hx
          clear hx
          go_wp2_with fail
          refine (HP.out mid _ (by omega) (by omega) HB.out).mono ?_
          rintro e w2 ⟨rfl, hb2⟩
          rw [HX.out]
          have HB2 := Lib.hid (HB.out.trans (hb2.mono HB.out.size))
          clear hb2 hmid
          go_wp2
          go_roundw
        case rel =>
          refine ⟨mid + 1, hi, by first | rfl | go_num, by first | rfl | go_num, by omega, by omega, h3, HH, Lib.hid (fun q q1 q2 => ?_), HB2⟩
          cases hq : p q
          · rfl
          · have := HM.out q mid q1 (by omega) (by omega) hq; rw [HX.out] at this; cases this
        case measure => simp [intOf]; omega
        case rel => exact ⟨lo, mid, by first | rfl | go_num, by first | rfl | go_num, h1, by omega, by omega, HX, HL, HB2⟩
        case measure => simp [intOf]; omega
      · obtain rfl : lo = hi := by omega
        go_wp2
        go_ret2
        exact ⟨_, _, rfl, .inl ⟨rfl, h1, h3, HH.out, HL.out⟩, HB.out⟩

set_option maxHeartbeats 2000000 in
theorem least_needs (p : Int → Bool) (hm : Mono_ p) (b1 b2 b3 b4 : Nat) (w : World)
    (hp : ∀ (r : Int) (W : World), 0 ≤ r → r ≤ 4194304 → Below w.heap.size w W → Calls Try.prog 148 #[.int .i64 r, .pointer (some ⟨b1, 0, none⟩), .pointer (some ⟨b2, 0, none⟩), .pointer (some ⟨b3, 0, none⟩), .pointer (some ⟨b4, 0, none⟩)] W fun e w' => e = .returned (.bool (p r)) ∧ Below W.heap.size W w') :
    Calls Try.prog 141 #[.int .i64 4194304, .func (.func 148) #[] #[.pointer (some ⟨b1, 0, none⟩), .pointer (some ⟨b2, 0, none⟩), .pointer (some ⟨b3, 0, none⟩), .pointer (some ⟨b4, 0, none⟩)]] w (LePost (LeastIs p) w) := by
  have HP := Lib.hid hp
  have HM := Lib.hid hm
  clear hp hm
  cases ht : p 4194304
  · have HT := Lib.hid ht
    clear ht
    go_enter Try.func141, Try.ntmps141
    go_wp2_with fail
    refine (HP.out 4194304 _ (by omega) (by omega) (Below.refl _ _)).mono ?_
    rintro e w1 ⟨rfl, hb1⟩
    rw [HT.out]
    have HB := Lib.hid hb1
    clear hb1
    go_wp2
    go_ret2
    refine ⟨_, _, rfl, .inr ⟨rfl, rfl, fun q h1 h2 => ?_⟩, HB.out⟩
    cases hq : p q
    · rfl
    · rw [HM.out q 4194304 h1 h2 (by omega) hq] at HT; exact absurd HT.out (by simp)
  · have HT := Lib.hid ht
    clear ht
    go_enter Try.func141, Try.ntmps141
    go_wp2_with fail
    refine (HP.out 4194304 _ (by omega) (by omega) (Below.refl _ _)).mono ?_
    rintro e w1 ⟨rfl, hb1⟩
    rw [HT.out]
    have HB := Lib.hid hb1
    clear hb1
    go_wp2_with fail
    go_loopw [6, 7] (fun a b wr => ∃ lo hi : Int, a = .int .i64 lo ∧ b = .int .i64 hi ∧ 0 ≤ lo ∧ lo ≤ hi ∧ hi ≤ 4194304 ∧ Hid (p hi = true) ∧ Hid (∀ q, 0 ≤ q → q < lo → p q = false) ∧ Hid (Below w.heap.size w wr)) (fun a b _ => (intOf b - intOf a).toNat)
    case atStart => exact ⟨0, 4194304, rfl, rfl, by omega, by omega, by omega, HT, Lib.hid (fun q h1 h2 => absurd h2 (by omega)), HB⟩
    case round =>
      clear HT HB
      obtain ⟨lo, hi, rfl, rfl, h1, h2, h3, HH, HL, HB⟩ := hrel
      by_cases hlt : lo < hi
      · obtain ⟨mid, hmid⟩ : ∃ mid, lo + (hi - lo) / 2 = mid := ⟨_, rfl⟩
        have hm1 : lo ≤ mid ∧ mid < hi := by omega
        obtain ⟨hm1, hm2⟩ := hm1
        have HMID := Lib.hid hmid
        cases hx : p mid
        all_goals
          have HX := Lib.hid hx
          clear hx
          go_wp2_with fail
          refine (HP.out mid _ (by omega) (by omega) HB.out).mono ?_
          rintro e w2 ⟨rfl, hb2⟩
          rw [HX.out]
          have HB2 := Lib.hid (HB.out.trans (hb2.mono HB.out.size))
          clear hb2 hmid
          go_wp2
          go_roundw
        case rel =>
          refine ⟨mid + 1, hi, by first | rfl | go_num, by first | rfl | go_num, by omega, by omega, h3, HH, Lib.hid (fun q q1 q2 => ?_), HB2⟩
          cases hq : p q
          · rfl
          · have := HM.out q mid q1 (by omega) (by omega) hq; rw [HX.out] at this; cases this
        case measure => simp [intOf]; omega
        case rel => exact ⟨lo, mid, by first | rfl | go_num, by first | rfl | go_num, h1, by omega, by omega, HX, HL, HB2⟩
        case measure => simp [intOf]; omega
      · obtain rfl : lo = hi := by omega
        go_wp2
        go_ret2
        exact ⟨_, _, rfl, .inl ⟨rfl, h1, h3, HH.out, HL.out⟩, HB.out⟩

end Go.Proofs.Ytjaomjbhkgijbaa

/-
  Mathematics of grooves: when no rule is broken; farther out; milder limits; parts; turned round.
-/
namespace Go.Proofs.Ytjaomjbhkgijbaa
open Go.RowKit

/-- No rule is broken at a point, at a step, at a bend. -/
def okP (c : Ctr) (p : Smp) : Prop := c.thin ≤ wid p ∧ wid p ≤ c.wide
def okS (c : Ctr) (r per : Int) (p q : Smp) : Prop := 113000 * per * chg p q ≤ 710 * r * c.slope
def okB (c : Ctr) (r per : Int) (p q s : Smp) : Prop := bnd p q s ≤ c.jerk ∧ bnd p q s * c.stylus ≤ arcN r per

theorem arcN_nn {r per : Int} (h : SpOk r per) : 0 ≤ arcN r per := arcN_bd r per h
theorem brk_zero {c : Ctr} {l : List Smp} {r per : Int} {i : Nat} (hc : CtOk c) (hs : SpOk r per) :
    brk c l r per i = 0 ↔ okP c (gAt l i) ∧ (1 ≤ i → okS c r per (gAt l (i - 1)) (gAt l i)) ∧ (1 ≤ i → i ≠ l.length - 1 → okB c r per (gAt l (i - 1)) (gAt l i) (gAt l (i + 1))) := by
  have hsl : 0 ≤ 710 * r * c.slope := Int.mul_nonneg (by have := hs.r1; omega) hc.s1
  have ha := arcN_nn hs
  have hst : steepB c l r per i = false ↔ (1 ≤ i → okS c r per (gAt l (i - 1)) (gAt l i)) := by
    unfold steepB okS chgAt
    by_cases h : i = 0
    · subst h; simp; omega
    · rw [if_neg h]; simp; omega
  have hsu : suddenB c l i = false ∧ bentB c l r per i = false ↔ (1 ≤ i → i ≠ l.length - 1 → okB c r per (gAt l (i - 1)) (gAt l i) (gAt l (i + 1))) := by
    unfold suddenB bentB okB bndAt
    have := hc.j1
    by_cases h : i = 0 ∨ i = l.length - 1
    · rw [if_pos h]
      simp
      constructor
      · intro _ h1 h2; omega
      · intro _; omega
    · rw [if_neg h]
      simp
      constructor
      · intro h1 _ _; exact h1
      · intro h1; exact h1 (by omega) (by omega)
  rw [← hst, ← hsu]
  unfold brk
  have h1 : thinB c l i = false ∧ wideB c l i = false ↔ okP c (gAt l i) := by
    unfold thinB wideB okP; simp
  rw [← h1]
  cases thinB c l i <;> cases wideB c l i <;> cases steepB c l r per i <;> cases suddenB c l i <;> cases bentB c l r per i <;> simp

theorem fls_iff {c : Ctr} {l : List Smp} {r per : Int} : fls c l r per = true ↔ ∀ i, i < l.length → brk c l r per i = 0 := by
  unfold fls flt
  constructor
  · intro h i hi
    cases hf : (List.range l.length).find? (fun i => !(brk c l r per i == 0)) with
    | none => simpa using (List.find?_eq_none.1 hf) i (List.mem_range.2 hi)
    | some j =>
      rw [hf] at h
      have := List.find?_some hf
      simp at h this
      exact absurd h this
  · intro h
    have hn : (List.range l.length).find? (fun i => !(brk c l r per i == 0)) = none := List.find?_eq_none.2 (fun i hi => by simp [h i (List.mem_range.1 hi)])
    rw [hn]; rfl

/-- No rule is broken anywhere. -/
def okG (c : Ctr) (l : List Smp) (r per : Int) : Prop :=
  (∀ i, i < l.length → okP c (gAt l i)) ∧ (∀ i, i + 1 < l.length → okS c r per (gAt l i) (gAt l (i + 1))) ∧ (∀ i, i + 2 < l.length → okB c r per (gAt l i) (gAt l (i + 1)) (gAt l (i + 2)))
theorem fls_ok {c : Ctr} {l : List Smp} {r per : Int} (hc : CtOk c) (hs : SpOk r per) : fls c l r per = true ↔ okG c l r per := by
  rw [fls_iff]
  constructor
  · intro h
    refine ⟨fun i hi => ((brk_zero hc hs).1 (h i hi)).1, fun i hi => ?_, fun i hi => ?_⟩
    · have := ((brk_zero hc hs).1 (h (i + 1) hi)).2.1 (by omega)
      rwa [Nat.add_sub_cancel] at this
    · have := ((brk_zero hc hs).1 (h (i + 1) (by omega))).2.2 (by omega) (by omega)
      rwa [Nat.add_sub_cancel] at this
  · intro ⟨h1, h2, h3⟩ i hi
    rw [brk_zero hc hs]
    refine ⟨h1 i hi, fun h => ?_, fun h h' => ?_⟩
    · have := h2 (i - 1) (by omega)
      rwa [show i - 1 + 1 = i from by omega] at this
    · have := h3 (i - 1) (by omega)
      rwa [show i - 1 + 1 = i from by omega, show i - 1 + 2 = i + 1 from by omega] at this

theorem mul_mono {a b x y : Int} (h1 : 0 ≤ a) (h2 : a ≤ x) (h3 : 0 ≤ b) (h4 : b ≤ y) : a * b ≤ x * y := Int.mul_le_mul h2 h4 h3 (by omega)
theorem arcN_mono {r r' per per' : Int} (h1 : 0 ≤ r) (h2 : r ≤ r') (h3 : 1 ≤ per') (h4 : per' ≤ per) : arcN r per ≤ arcN r' per' := by
  unfold arcN
  have a1 : 710 * r * (710 * r) ≤ 710 * r' * (710 * r') := mul_mono (by omega) (by omega) (by omega) (by omega)
  have a0 : 0 ≤ 710 * r * (710 * r) := Int.mul_nonneg (by omega) (by omega)
  have b1 : 113 * per' * (113 * per') ≤ 113 * per * (113 * per) := mul_mono (by omega) (by omega) (by omega) (by omega)
  have b0 : 0 < 113 * per' * (113 * per') := Int.mul_pos (by omega) (by omega)
  refine Int.le_trans (Int.ediv_le_ediv (by omega) a1) ?_
  exact (Int.le_ediv_iff_mul_le b0).2 (Int.le_trans (Int.mul_le_mul_of_nonneg_left b1 (Int.ediv_nonneg (by omega) (by omega))) (Int.ediv_mul_le _ (by omega)))

/-- No limit of d is narrower than that of c. -/
def Milder (c d : Ctr) : Prop := d.thin ≤ c.thin ∧ c.wide ≤ d.wide ∧ c.slope ≤ d.slope ∧ c.jerk ≤ d.jerk ∧ d.stylus ≤ c.stylus
theorem Milder.refl (c : Ctr) : Milder c c := ⟨Int.le_refl _, Int.le_refl _, Int.le_refl _, Int.le_refl _, Int.le_refl _⟩
theorem okP_mono {c d : Ctr} {p : Smp} (hm : Milder c d) (h : okP c p) : okP d p := by
  obtain ⟨m1, m2, _⟩ := hm
  unfold okP at h ⊢; omega
theorem chg_nn (p q : Smp) : 0 ≤ chg p q := by unfold chg amL; simp; have := am_nn (q.1 - p.1); have := am_nn (q.2 - p.2); omega
theorem bnd_nn (p q s : Smp) : 0 ≤ bnd p q s := by unfold bnd amL; simp; have := am_nn (p.1 + s.1 - 2 * q.1); have := am_nn (p.2 + s.2 - 2 * q.2); omega
theorem okS_mono {c d : Ctr} {r r' per per' : Int} {p q : Smp} (hm : Milder c d) (hc : CtOk c) (h1 : 0 ≤ r) (h2 : r ≤ r') (h3 : 1 ≤ per') (h4 : per' ≤ per) (h : okS c r per p q) : okS d r' per' p q := by
  obtain ⟨_, _, m3, _⟩ := hm
  unfold okS at h ⊢
  have a : 113000 * per' * chg p q ≤ 113000 * per * chg p q := mul_mono (by omega) (by omega) (chg_nn p q) (Int.le_refl _)
  have b : 710 * r * c.slope ≤ 710 * r' * d.slope := mul_mono (by omega) (by omega) hc.s1 m3
  omega
theorem okB_mono {c d : Ctr} {r r' per per' : Int} {p q s : Smp} (hm : Milder c d) (hd : 0 ≤ d.stylus) (h1 : 0 ≤ r) (h2 : r ≤ r') (h3 : 1 ≤ per') (h4 : per' ≤ per) (h : okB c r per p q s) : okB d r' per' p q s := by
  obtain ⟨_, _, _, m4, m5⟩ := hm
  obtain ⟨h5, h6⟩ := h
  refine ⟨by omega, ?_⟩
  have a : bnd p q s * d.stylus ≤ bnd p q s * c.stylus := mul_mono (bnd_nn p q s) (Int.le_refl _) hd m5
  have b := arcN_mono (r := r) (r' := r') (per := per) (per' := per') h1 h2 h3 h4
  omega
theorem okG_mono {c d : Ctr} {l : List Smp} {r r' per per' : Int} (hm : Milder c d) (hc : CtOk c) (hd : CtOk d) (h1 : 0 ≤ r) (h2 : r ≤ r') (h3 : 1 ≤ per') (h4 : per' ≤ per) (h : okG c l r per) : okG d l r' per' :=
  ⟨fun i hi => okP_mono hm (h.1 i hi), fun i hi => okS_mono hm hc h1 h2 h3 h4 (h.2.1 i hi), fun i hi => okB_mono hm hd.y1 h1 h2 h3 h4 (h.2.2 i hi)⟩

end Go.Proofs.Ytjaomjbhkgijbaa

