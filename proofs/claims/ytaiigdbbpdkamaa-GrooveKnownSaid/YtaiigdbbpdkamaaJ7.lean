/-
  Contracts of faultless, and of least with both of its closures.
-/
import Derived.Test.YtaiigdbbpdkamaaJ6
namespace Go.Proofs.Ytaiigdbbpdkamaa
open Go.RowKit

def fls (c : Ctr) (l : List Smp) (r per : Int) : Bool := (flt c l r per).2 == 0

set_option maxHeartbeats 1000000 in
theorem faultless_any (B : Nat) (A : Option Addr) (n k : Nat) (c : Ctr) (l : List Smp) (r per : Int) (w : World) (h0 : RS w B A n l) (hB : B ≤ w.heap.size) (hl : n ≤ 9223372036854775807) (he : ∀ p ∈ l, EdOk p) (hc : CtOk c) (hs : SpOk r per) :
    Calls Try.prog 63 #[.agg #[.int .i64 c.half, .int .i64 c.gain, .int .i64 c.thin, .int .i64 c.wide, .int .i64 c.slope, .int .i64 c.jerk, .int .i64 c.stylus, .int .i64 r, .int .i64 per], .slice A n k] w fun e w' => e = .returned (.bool (fls c l r per)) ∧ Below w.heap.size w w' := by
  have H := Lib.hid (h0.more hB)
  have HE := Lib.hid he
  have HC := Lib.hid hc
  have HSP := Lib.hid hs
  clear h0 hB he hc hs
  have FF := Lib.hid (fun W (hb : Below w.heap.size w W) => fault_any w.heap.size A n k c l r per W (H.out.below hb (Nat.le_refl _)) hb.size hl HE.out HC.out HSP.out)
  have hf : fls c l r per = ((flt c l r per).2 == 0) := rfl
  obtain ⟨q, hq⟩ : ∃ q, flt c l r per = q := ⟨_, rfl⟩
  rw [hq] at FF hf
  have HF := Lib.hid hf
  clear hf hq
  go_enter Try.func63, Try.ntmps63
  go_wp2_with fail
  refine (FF.out _ ((Below.refl _ _).alloc (Nat.le_refl _) _)).mono ?_
  rintro e w1 ⟨rfl, hb1⟩
  have HB := Lib.hid (((Below.refl _ w).alloc (Nat.le_refl _) (.cells #[.int .i64 c.half, .int .i64 c.gain, .int .i64 c.thin, .int .i64 c.wide, .int .i64 c.slope, .int .i64 c.jerk, .int .i64 c.stylus, .int .i64 r, .int .i64 per] 81)).trans (hb1.mono (by simp)))
  clear hb1
  go_wp2
  go_ret
  exact ⟨ret_b HF.out.symm, HB.out⟩

/-- v is the least number that holds, or none does. -/
def LeastIs (p : Int → Bool) (v er : Int) : Prop :=
  (er = 0 ∧ 0 ≤ v ∧ v ≤ 4194304 ∧ p v = true ∧ ∀ q, 0 ≤ q → q < v → p q = false) ∨ (er = 14 ∧ v = 0 ∧ ∀ q, 0 ≤ q → q ≤ 4194304 → p q = false)
def LePost (Q : Int → Int → Prop) (w : World) (e : Ending) (w' : World) : Prop := ∃ v er, e = .returned (.tuple #[.int .i64 v, .int .i64 er]) ∧ Q v er ∧ Below w.heap.size w w'
def Mono_ (p : Int → Bool) : Prop := ∀ a b, 0 ≤ a → a ≤ b → b ≤ 4194304 → p a = true → p b = true
theorem LeastIs.uniq {p : Int → Bool} {v er v' er' : Int} (h : LeastIs p v er) (h' : LeastIs p v' er') : v = v' ∧ er = er' := by
  rcases h with ⟨a1, a2, a3, a4, a5⟩ | ⟨a1, a2, a3⟩ <;> rcases h' with ⟨b1, b2, b3, b4, b5⟩ | ⟨b1, b2, b3⟩
  · refine ⟨?_, by omega⟩
    rcases Int.lt_trichotomy v v' with h | h | h
    · rw [b5 v a2 h] at a4; cases a4
    · exact h
    · rw [a5 v' b2 h] at b4; cases b4
  · rw [b3 v a2 a3] at a4; cases a4
  · rw [a3 v' b2 b3] at b4; cases b4
  · omega

set_option maxHeartbeats 2000000 in
theorem least_least (p : Int → Bool) (hm : Mono_ p) (b1 b2 b3 : Nat) (w : World)
    (hp : ∀ (r : Int) (W : World), 0 ≤ r → r ≤ 4194304 → Below w.heap.size w W → Calls Try.prog 62 #[.int .i64 r, .pointer (some ⟨b1, 0, none⟩), .pointer (some ⟨b2, 0, none⟩), .pointer (some ⟨b3, 0, none⟩)] W fun e w' => e = .returned (.bool (p r)) ∧ Below W.heap.size W w') :
    Calls Try.prog 61 #[.int .i64 4194304, .func (.func 62) #[] #[.pointer (some ⟨b1, 0, none⟩), .pointer (some ⟨b2, 0, none⟩), .pointer (some ⟨b3, 0, none⟩)]] w (LePost (LeastIs p) w) := by
  have HP := Lib.hid hp
  have HM := Lib.hid hm
  clear hp hm
  cases ht : p 4194304
  · have HT := Lib.hid ht
    clear ht
    go_enter Try.func61, Try.ntmps61
    go_wp2_with fail
    refine (HP.out 4194304 _ (by omega) (by omega) (Below.refl _ _)).mono ?_
    rintro e w1 ⟨rfl, hb1⟩
    rw [HT.out]
    have HB := Lib.hid hb1
    clear hb1
    go_wp2
    go_ret2
    refine ⟨_, _, rfl, .inr ⟨rfl, rfl, fun q h1 h2 => ?_⟩, HB.out⟩
    cases hq : p q
    · rfl
    · rw [HM.out q 4194304 h1 h2 (by omega) hq] at HT; exact absurd HT.out (by simp)
  · have HT := Lib.hid ht
    clear ht
    go_enter Try.func61, Try.ntmps61
    go_wp2_with fail
    refine (HP.out 4194304 _ (by omega) (by omega) (Below.refl _ _)).mono ?_
    rintro e w1 ⟨rfl, hb1⟩
    rw [HT.out]
    have HB := Lib.hid hb1
    clear hb1
    go_wp2_with fail
    go_loopw [6, 7] (fun a b wr => ∃ lo hi : Int, a = .int .i64 lo ∧ b = .int .i64 hi ∧ 0 ≤ lo ∧ lo ≤ hi ∧ hi ≤ 4194304 ∧ Hid (p hi = true) ∧ Hid (∀ q, 0 ≤ q → q < lo → p q = false) ∧ Hid (Below w.heap.size w wr)) (fun a b _ => (intOf b - intOf a).toNat)
    case atStart => exact ⟨0, 4194304, rfl, rfl, by omega, by omega, by omega, HT, Lib.hid (fun q h1 h2 => absurd h2 (by omega)), HB⟩
    case round =>
      clear HT HB
      obtain ⟨lo, hi, rfl, rfl, h1, h2, h3, HH, HL, HB⟩ := hrel
      by_cases hlt : lo < hi
      · obtain ⟨mid, hmid⟩ : ∃ mid, lo + (hi - lo) / 2 = mid := ⟨_, rfl⟩
        have hm1 : lo ≤ mid ∧ mid < hi := by omega
        obtain ⟨hm1, hm2⟩ := hm1
        have HMID := Lib.hid hmid
        cases hx : p mid
        all_goals
          have HX := Lib.hid hx
          clear hx
          go_wp2_with fail
          refine (HP.out mid _ (by omega) (by omega) HB.out).mono ?_
          rintro e w2 ⟨rfl, hb2⟩
          rw [HX.out]
          have HB2 := Lib.hid (HB.out.trans (hb2.mono HB.out.size))
          clear hb2 hmid
          go_wp2
          go_roundw
        case rel =>
          refine ⟨mid + 1, hi, by first | rfl | go_num, by first | rfl | go_num, by omega, by omega, h3, HH, Lib.hid (fun q q1 q2 => ?_), HB2⟩
          cases hq : p q
          · rfl
          · have := HM.out q mid q1 (by omega) (by omega) hq; rw [HX.out] at this; cases this
        case measure => simp [intOf]; omega
        case rel => exact ⟨lo, mid, by first | rfl | go_num, by first | rfl | go_num, h1, by omega, by omega, HX, HL, HB2⟩
        case measure => simp [intOf]; omega
      · obtain rfl : lo = hi := by omega
        go_wp2
        go_ret2
        exact ⟨_, _, rfl, .inl ⟨rfl, h1, h3, HH.out, HL.out⟩, HB.out⟩

set_option maxHeartbeats 2000000 in
theorem least_needs (p : Int → Bool) (hm : Mono_ p) (b1 b2 b3 b4 : Nat) (w : World)
    (hp : ∀ (r : Int) (W : World), 0 ≤ r → r ≤ 4194304 → Below w.heap.size w W → Calls Try.prog 66 #[.int .i64 r, .pointer (some ⟨b1, 0, none⟩), .pointer (some ⟨b2, 0, none⟩), .pointer (some ⟨b3, 0, none⟩), .pointer (some ⟨b4, 0, none⟩)] W fun e w' => e = .returned (.bool (p r)) ∧ Below W.heap.size W w') :
    Calls Try.prog 61 #[.int .i64 4194304, .func (.func 66) #[] #[.pointer (some ⟨b1, 0, none⟩), .pointer (some ⟨b2, 0, none⟩), .pointer (some ⟨b3, 0, none⟩), .pointer (some ⟨b4, 0, none⟩)]] w (LePost (LeastIs p) w) := by
  have HP := Lib.hid hp
  have HM := Lib.hid hm
  clear hp hm
  cases ht : p 4194304
  · have HT := Lib.hid ht
    clear ht
    go_enter Try.func61, Try.ntmps61
    go_wp2_with fail
    refine (HP.out 4194304 _ (by omega) (by omega) (Below.refl _ _)).mono ?_
    rintro e w1 ⟨rfl, hb1⟩
    rw [HT.out]
    have HB := Lib.hid hb1
    clear hb1
    go_wp2
    go_ret2
    refine ⟨_, _, rfl, .inr ⟨rfl, rfl, fun q h1 h2 => ?_⟩, HB.out⟩
    cases hq : p q
    · rfl
    · rw [HM.out q 4194304 h1 h2 (by omega) hq] at HT; exact absurd HT.out (by simp)
  · have HT := Lib.hid ht
    clear ht
    go_enter Try.func61, Try.ntmps61
    go_wp2_with fail
    refine (HP.out 4194304 _ (by omega) (by omega) (Below.refl _ _)).mono ?_
    rintro e w1 ⟨rfl, hb1⟩
    rw [HT.out]
    have HB := Lib.hid hb1
    clear hb1
    go_wp2_with fail
    go_loopw [6, 7] (fun a b wr => ∃ lo hi : Int, a = .int .i64 lo ∧ b = .int .i64 hi ∧ 0 ≤ lo ∧ lo ≤ hi ∧ hi ≤ 4194304 ∧ Hid (p hi = true) ∧ Hid (∀ q, 0 ≤ q → q < lo → p q = false) ∧ Hid (Below w.heap.size w wr)) (fun a b _ => (intOf b - intOf a).toNat)
    case atStart => exact ⟨0, 4194304, rfl, rfl, by omega, by omega, by omega, HT, Lib.hid (fun q h1 h2 => absurd h2 (by omega)), HB⟩
    case round =>
      clear HT HB
      obtain ⟨lo, hi, rfl, rfl, h1, h2, h3, HH, HL, HB⟩ := hrel
      by_cases hlt : lo < hi
      · obtain ⟨mid, hmid⟩ : ∃ mid, lo + (hi - lo) / 2 = mid := ⟨_, rfl⟩
        have hm1 : lo ≤ mid ∧ mid < hi := by omega
        obtain ⟨hm1, hm2⟩ := hm1
        have HMID := Lib.hid hmid
        cases hx : p mid
        all_goals
          have HX := Lib.hid hx
          clear hx
          go_wp2_with fail
          refine (HP.out mid _ (by omega) (by omega) HB.out).mono ?_
          rintro e w2 ⟨rfl, hb2⟩
          rw [HX.out]
          have HB2 := Lib.hid (HB.out.trans (hb2.mono HB.out.size))
          clear hb2 hmid
          go_wp2
          go_roundw
        case rel =>
          refine ⟨mid + 1, hi, by first | rfl | go_num, by first | rfl | go_num, by omega, by omega, h3, HH, Lib.hid (fun q q1 q2 => ?_), HB2⟩
          cases hq : p q
          · rfl
          · have := HM.out q mid q1 (by omega) (by omega) hq; rw [HX.out] at this; cases this
        case measure => simp [intOf]; omega
        case rel => exact ⟨lo, mid, by first | rfl | go_num, by first | rfl | go_num, h1, by omega, by omega, HX, HL, HB2⟩
        case measure => simp [intOf]; omega
      · obtain rfl : lo = hi := by omega
        go_wp2
        go_ret2
        exact ⟨_, _, rfl, .inl ⟨rfl, h1, h3, HH.out, HL.out⟩, HB.out⟩

end Go.Proofs.Ytaiigdbbpdkamaa
