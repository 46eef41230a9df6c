/-
  loudest, and the mathematics of FilterBounded: the output of a tame curve stays within its bound.
-/
import Derived.Test.YtjaomjbhkgijbaaMg27
import Derived.Test.YtjaomjbhkgijbaaMg29
import Derived.Test.YtjaomjbhkgijbaaMg33

namespace Go.Proofs.Ytjaomjbhkgijbaa
open Go.RowKit

/-- The greatest amount of a signal. -/
def ldL (l : List Int) : Int := l.foldl (fun a x => max a (am x)) 0
theorem ldL_snoc (l : List Int) (k : Nat) (h : k < l.length) : ldL (l.take (k + 1)) = max (ldL (l.take k)) (am l[k]) := by
  unfold ldL
  rw [List.take_succ_eq_append_getElem h, List.foldl_append]; rfl
theorem foldl_max : ∀ (l : List Int) (a : Int), a ≤ l.foldl (fun a x => max a (am x)) a ∧ (∀ x ∈ l, am x ≤ l.foldl (fun a x => max a (am x)) a) ∧ ∀ b, a ≤ b → (∀ x ∈ l, am x ≤ b) → l.foldl (fun a x => max a (am x)) a ≤ b
  | [], a => ⟨Int.le_refl _, (fun x hx => by cases hx), fun b h _ => h⟩
  | y :: l, a => by
    obtain ⟨h1, h2, h3⟩ := foldl_max l (max a (am y))
    refine ⟨by rw [List.foldl_cons]; omega, fun x hx => ?_, fun b h hb => ?_⟩
    · rw [List.foldl_cons]
      rcases List.mem_cons.1 hx with rfl | hx
      · omega
      · exact h2 x hx
    · rw [List.foldl_cons]
      have := hb y (by simp)
      exact h3 b (by omega) (fun x hx => hb x (by simp [hx]))
theorem ldL_ge {l : List Int} {x : Int} (h : x ∈ l) : am x ≤ ldL l := (foldl_max l 0).2.1 x h
theorem ldL_le {l : List Int} {b : Int} (h0 : 0 ≤ b) (h : ∀ x ∈ l, am x ≤ b) : ldL l ≤ b := (foldl_max l 0).2.2 b h0 h
theorem ldL_pos (l : List Int) : 0 ≤ ldL l := (foldl_max l 0).1

set_option maxHeartbeats 1000000 in
theorem loudest_any (B : Nat) (A : Option Addr) (n c : Nat) (l : List Int) (w : World) (h0 : LI w B A n l) (hn : n ≤ 1099511627776) (hl : ∀ x ∈ l, wib x 32767 = true) :
    Calls Try.prog 56 #[.slice A n c] w fun e w' => e = .returned (.int .i64 (ldL l)) ∧ w = w' := by
  have H := Lib.hid h0
  have HN := Lib.hid h0.1
  have HL := Lib.hid hl
  clear h0 hl
  go_enter Try.func56, Try.ntmps56
  go_wp2
  go_loop [3, 4] (fun v i => ∃ k : Nat, k ≤ n ∧ i = .int .i64 k ∧ v = .int .i64 (ldL (l.take k))) (fun _ i => n - (intOf i).toNat)
  case atStart => exact ⟨0, Nat.zero_le _, rfl, rfl⟩
  case round =>
    obtain ⟨k, hk, rfl, rfl⟩ := hrel
    by_cases hlt : k < n
    · have hx : k < l.length := by have := HN.out; omega
      obtain ⟨ad, hA, _, p1⟩ := H.out.at_ hx
      obtain rfl := hA
      have HS := Lib.hid (ldL_snoc l k hx)
      have hb := wib_bd (HL.out _ (List.getElem_mem hx))
      obtain ⟨s, hs⟩ : ∃ s, ldL (l.take k) = s := ⟨_, rfl⟩
      obtain ⟨x, hxx⟩ : ∃ x, l[k] = x := ⟨_, rfl⟩
      rw [hxx] at p1 HS hb
      rw [hs] at HS ⊢
      have AM := refAbs_any x w (by omega) (by omega)
      obtain ⟨a, ha⟩ : ∃ a, am x = a := ⟨_, rfl⟩
      rw [ha] at HS AM
      have AM := Lib.hid AM
      obtain ⟨mx, hmx⟩ : ∃ m, max s a = m := ⟨_, rfl⟩
      rw [hmx] at HS
      have m1 : (if s < a then a else s) = mx := by rw [← hmx]; omega
      have m2 : (if a < s then s else a) = mx := by rw [← hmx]; omega
      clear hs hxx ha hmx
      go_wp2_with ((with_reducible refine AM.out.mono ?_); rintro e w2 ⟨rfl, rfl⟩)
      go_round
      case rel => exact ⟨k + 1, by omega, by go_num, by rw [HS.out]⟩
      case measure => simp [intOf]; omega
    · go_wp2
      go_ret
      rw [List.take_of_length_le (by have := HN.out; omega)]
      exact ⟨rfl, rfl⟩
theorem am_of {x a : Int} : am x ≤ a ↔ -a ≤ x ∧ x ≤ a := by unfold am; omega
theorem mul_am {x y A : Int} (h : am y ≤ A) : am (x * y) ≤ am x * A := by
  have hy := am_of.1 h
  have hA : 0 ≤ A := by omega
  rw [am_of]
  unfold am
  rcases Int.le_total 0 x with h1 | h1
  · rw [show max x (-x) = x by omega]
    have a := Int.mul_le_mul_of_nonneg_left hy.2 h1
    have b := Int.mul_le_mul_of_nonneg_left hy.1 h1
    simp only [Int.mul_neg] at a b ⊢
    exact ⟨b, a⟩
  · rw [show max x (-x) = -x by omega]
    have a := Int.mul_le_mul_of_nonneg_left hy.2 (show 0 ≤ -x by omega)
    have b := Int.mul_le_mul_of_nonneg_left hy.1 (show 0 ≤ -x by omega)
    simp only [Int.neg_mul, Int.mul_neg, Int.neg_neg] at a b ⊢
    omega
theorem sum_am {ws : List Int} {f : Nat → Int} {A : Int} (hf : ∀ i, am (f i) ≤ A) : ∀ k, k ≤ ws.length → am (sumTo ws f k) ≤ wgt (ws.take k) * A
  | 0, _ => by simp [sumTo, wgt, am]
  | k + 1, h => by
    rw [sum_step ws f (by omega), wgt_snoc ws k (by omega), Int.add_mul]
    have h1 := am_of.1 (sum_am (ws := ws) hf k (show k ≤ ws.length by omega))
    have h2 := am_of.1 (mul_am (x := ws[k]'(by omega)) (hf k))
    rw [am_of]; omega
/-- Moments within limits. -/
def Win (h : List (Int × Int)) (a b : Int) : Prop := ∀ m ∈ h, am m.1 ≤ a ∧ am m.2 ≤ b
theorem Win.at_ {h : List (Int × Int)} {a b : Int} (H : Win h a b) (ha : 0 ≤ a) (hb : 0 ≤ b) (i : Nat) : am (hAt h i).1 ≤ a ∧ am (hAt h i).2 ≤ b := by
  unfold hAt
  cases e : h[i]? with
  | none => simp [am]; omega
  | some m => exact H m (List.mem_of_getElem? e)
theorem bnd_pos {c : Cur} (h : TmOk c) {a : Int} (ha : 0 ≤ a) : 0 ≤ bndF c a := by
  obtain ⟨s1, s2, f1, f2, b1, b2⟩ := h
  unfold bndF
  have := Int.mul_nonneg ha (show 0 ≤ c.share + wgt c.feed by omega)
  exact Int.ediv_nonneg (by omega) (by omega)
theorem bnd_mono {c : Cur} (h : TmOk c) {a a' : Int} (ha : a ≤ a') : bndF c a ≤ bndF c a' := by
  obtain ⟨s1, s2, f1, f2, b1, b2⟩ := h
  unfold bndF
  have := Int.mul_le_mul_of_nonneg_right ha (show 0 ≤ c.share + wgt c.feed by omega)
  exact Int.ediv_le_ediv (by omega) (by omega)
/-- One step stays within the bound. -/
theorem step_bd {c : Cur} (h : TmOk c) {hs : List (Int × Int)} {a v : Int} (H : Win hs a (bndF c a)) (hv : am v ≤ a) : am (v + cor c hs) ≤ bndF c a := by
  have ha : 0 ≤ a := by have := am_of.1 hv; omega
  have hb := bnd_pos h ha
  have hN : bndF c a = (a * (c.share + wgt c.feed) + c.share - 1) / (c.share - wgt c.back) := rfl
  obtain ⟨s1, s2, f1, f2, b1, b2⟩ := h
  have e1 := am_of.1 (sum_am (ws := c.feed) (f := fun i => (hAt hs i).1) (fun i => (H.at_ ha hb i).1) c.feed.length (Nat.le_refl _))
  have e2 := am_of.1 (sum_am (ws := c.back) (f := fun i => (hAt hs i).2) (fun i => (H.at_ ha hb i).2) c.back.length (Nat.le_refl _))
  rw [List.take_length] at e1 e2
  obtain ⟨β, hβ⟩ : ∃ b, bndF c a = b := ⟨_, rfl⟩
  rw [hβ] at e2 hb hN ⊢
  unfold cor corS
  obtain ⟨sf, hsf⟩ : ∃ s, sumTo c.feed (fun i => (hAt hs i).1) c.feed.length = s := ⟨_, rfl⟩
  obtain ⟨sb, hsb⟩ : ∃ s, sumTo c.back (fun i => (hAt hs i).2) c.back.length = s := ⟨_, rfl⟩
  rw [hsf] at e1 ⊢
  rw [hsb] at e2 ⊢
  have hv' := am_of.1 hv
  obtain ⟨F, hF⟩ : ∃ s, wgt c.feed = s := ⟨_, rfl⟩
  obtain ⟨Bk, hBk⟩ : ∃ s, wgt c.back = s := ⟨_, rfl⟩
  obtain ⟨S, hS⟩ : ∃ s, c.share = s := ⟨_, rfl⟩
  rw [hF] at e1 f1 f2
  rw [hBk] at e2 b1 b2
  rw [hS] at s1 s2 b2 ⊢
  rw [hF, hBk, hS] at hN
  obtain ⟨q, hq⟩ : ∃ q, (sf + sb) / S = q := ⟨_, rfl⟩
  have d1 := Int.mul_ediv_add_emod (sf + sb) S
  have d2 := Int.emod_nonneg (sf + sb) (show S ≠ 0 by omega)
  have d3 := Int.emod_lt_of_pos (sf + sb) (show 0 < S by omega)
  obtain ⟨r, hr⟩ : ∃ r, (sf + sb) % S = r := ⟨_, rfl⟩
  rw [hq, hr] at d1
  rw [hr] at d2 d3
  rw [hq]
  have d4 : a * (S + F) + S - 1 < (β + 1) * (S - Bk) := by
    rw [hN]; exact Int.lt_ediv_add_one_mul_self _ (by omega)
  have x1 : (β + 1) * (S - Bk) = β * S - β * Bk + (S - Bk) := by rw [Int.add_mul, Int.mul_sub, Int.one_mul]
  have x2 : a * (S + F) = a * S + a * F := Int.mul_add _ _ _
  have c1 : Bk * β = β * Bk := Int.mul_comm _ _
  have c2 : F * a = a * F := Int.mul_comm _ _
  have v1 : S * v ≤ a * S := by rw [Int.mul_comm a S]; exact Int.mul_le_mul_of_nonneg_left hv'.2 (by omega)
  have v2 : -(a * S) ≤ S * v := by
    have := Int.mul_le_mul_of_nonneg_left hv'.1 (show 0 ≤ S by omega)
    rw [Int.mul_neg, Int.mul_comm S a] at this; exact this
  have o1 : S * (v + q) = S * v + S * q := Int.mul_add _ _ _
  rw [am_of]
  constructor
  · rcases Int.lt_or_le (v + q) (-β) with hlt | hge
    · have : S * (v + q) ≤ S * (-β - 1) := Int.mul_le_mul_of_nonneg_left (by omega) (by omega)
      rw [show S * (-β - 1) = -(β * S) - S by rw [Int.mul_sub, Int.mul_neg, Int.mul_one, Int.mul_comm S β]] at this
      omega
    · exact hge
  · rcases Int.lt_or_le β (v + q) with hlt | hge
    · have : S * (β + 1) ≤ S * (v + q) := Int.mul_le_mul_of_nonneg_left (by omega) (by omega)
      rw [show S * (β + 1) = β * S + S by rw [Int.mul_add, Int.mul_one, Int.mul_comm S β]] at this
      omega
    · exact hge
theorem run_bd {c : Cur} (h : TmOk c) {a : Int} : ∀ {x : List Int} {hs : List (Int × Int)}, Win hs a (bndF c a) → (∀ v ∈ x, am v ≤ a) →
    (∀ y, run1 true 32767 c hs x = some y → ∀ v ∈ y, am v ≤ bndF c a) ∧ (bndF c a ≤ 32767 → run1 true 32767 c hs x ≠ none)
  | [], hs, _, _ => ⟨(fun y e v hv => by unfold run1 at e; injection e with e; subst e; cases hv), (fun _ e => by unfold run1 at e; cases e)⟩
  | v :: x, hs, H, hx => by
    have hv := hx v (by simp)
    have hst := step_bd h H hv
    have hH : Win ((v, v + cor c hs) :: hs) a (bndF c a) := fun m hm => by
      rcases List.mem_cons.1 hm with rfl | hm
      · exact ⟨hv, hst⟩
      · exact H m hm
    obtain ⟨i1, i2⟩ := run_bd h (x := x) hH (fun u hu => hx u (by simp [hu]))
    have em : mom true c hs v = (v, v + cor c hs) := rfl
    have eo : outM true (v, v + cor c hs) = v + cor c hs := rfl
    constructor
    · intro y e
      unfold run1 at e
      rw [em, eo] at e
      split at e
      · cases hr : run1 true 32767 c ((v, v + cor c hs) :: hs) x with
        | none => rw [hr] at e; cases e
        | some z =>
          rw [hr] at e
          simp only [Option.map_some, Option.some.injEq] at e
          subst e
          intro u hu
          rcases List.mem_cons.1 hu with rfl | hu
          · exact hst
          · exact i1 z hr u hu
      · cases e
    · intro hb e
      unfold run1 at e
      rw [em, eo] at e
      have hw : wib (v + cor c hs) 32767 = true := by have := am_of.1 hst; exact wib_in (by omega) (by omega)
      rw [if_pos hw] at e
      cases hr : run1 true 32767 c ((v, v + cor c hs) :: hs) x with
      | none => exact i2 hb hr
      | some z => rw [hr] at e; cases e

end Go.Proofs.Ytjaomjbhkgijbaa

