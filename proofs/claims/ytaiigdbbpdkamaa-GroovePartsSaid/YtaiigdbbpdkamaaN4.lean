/-
  The mathematics and the walk of GrooveParts.
-/
import Derived.Test.YtaiigdbbpdkamaaK8
import Derived.Test.YtaiigdbbpdkamaaK9
import Derived.Test.YtaiigdbbpdkamaaK6
import Derived.Test.YtaiigdbbpdkamaaN2
import Derived.Test.YtaiigdbbpdkamaaQ0
namespace Go.Proofs.Ytaiigdbbpdkamaa
open Go.RowKit

theorem el_pts : Try.prog.elem 29 = 27 := by kernel_rfl
theorem size_ptN (W : World) : (sizeOf 27).run Try.prog W = .ok 2 W := by kernel_rfl
/-- Where a part begins. -/
def prtA (A : Option Addr) (c fr : Nat) : Option Addr := if c = fr then A else A.map (·.add (fr * 2))
theorem slice_pts (A : Option Addr) (n c fr to : Nat) (h1 : fr ≤ to) (h2 : to ≤ c) (W : World) :
    (Instr.slice 29 (.slice A n c) (some (.int .i64 (fr : Int))) (some (.int .i64 (to : Int))) none).run Try.prog W = .ok (.slice (prtA A c fr) (to - fr) (c - fr)) W := by
  rw [run_slice_lh (P := Try.prog) W 29 A n c (by rw [el_pts]; exact Try.underlying29) .i64 .i64 (fr : Int) (to : Int) (by omega) (by omega) (by omega), el_pts, size_ptN]
  simp [sliced, Result.andThen, prtA]
theorem rs_part {W : World} {B : Nat} {A : Option Addr} {n c : Nat} {xs : List Smp} (h : RS W B A n xs) (hc : n ≤ c) (fr to : Nat) (h1 : fr ≤ to) (h2 : to ≤ n) : RS W B (prtA A c fr) (to - fr) ((xs.drop fr).take (to - fr)) := by
  rcases Nat.lt_or_ge fr to with h3 | h3
  · unfold prtA
    rw [if_neg (by omega)]
    exact rs_mid h fr to h3 h2
  · have : to - fr = 0 := by omega
    rw [this]
    exact ⟨by simp, by simp [smpCells], fun h => absurd h (by omega)⟩

theorem gAt_part (l : List Smp) (fr m i : Nat) (hi : i < m) : gAt ((l.drop fr).take m) i = gAt l (fr + i) := by
  unfold gAt; rw [List.getElem?_take_of_lt hi, List.getElem?_drop]
theorem okG_part {c : Ctr} {l : List Smp} {r per : Int} (fr m : Nat) (hm : fr + m ≤ l.length) (h : okG c l r per) : okG c ((l.drop fr).take m) r per := by
  obtain ⟨a, b, d⟩ := h
  have hl : ((l.drop fr).take m).length = m := by rw [List.length_take, List.length_drop]; omega
  refine ⟨fun i hi => ?_, fun i hi => ?_, fun i hi => ?_⟩ <;> rw [hl] at hi
  · rw [gAt_part l fr m i hi]; exact a _ (by omega)
  · rw [gAt_part l fr m i (by omega), gAt_part l fr m (i + 1) hi]; exact b (fr + i) (by omega)
  · rw [gAt_part l fr m i (by omega), gAt_part l fr m (i + 1) (by omega), gAt_part l fr m (i + 2) hi]; exact d (fr + i) (by omega)
def winL (l : List Smp) (i : Nat) : List Smp := (l.drop i).take 3
theorem okG_win {c : Ctr} {l : List Smp} {r per : Int} (h3 : 3 ≤ l.length) (h : ∀ i, i < l.length - 2 → okG c (winL l i) r per) : okG c l r per := by
  have hl : ∀ i, i < l.length - 2 → (winL l i).length = 3 := fun i hi => by unfold winL; rw [List.length_take, List.length_drop]; omega
  refine ⟨fun i hi => ?_, fun i hi => ?_, fun i hi => ?_⟩
  · obtain ⟨a, -, -⟩ := h (min i (l.length - 3)) (by omega)
    have := a (i - min i (l.length - 3)) (by rw [hl _ (by omega)]; omega)
    unfold winL at this
    rwa [gAt_part _ _ _ _ (by omega), show min i (l.length - 3) + (i - min i (l.length - 3)) = i by omega] at this
  · obtain ⟨-, b, -⟩ := h (min i (l.length - 3)) (by omega)
    have := b (i - min i (l.length - 3)) (by rw [hl _ (by omega)]; omega)
    unfold winL at this
    rwa [gAt_part _ _ _ _ (by omega), gAt_part _ _ _ _ (by omega), show min i (l.length - 3) + (i - min i (l.length - 3)) = i by omega, show min i (l.length - 3) + (i - min i (l.length - 3) + 1) = i + 1 by omega] at this
  · obtain ⟨-, -, d⟩ := h i (by omega)
    have := d 0 (by rw [hl _ (by omega)]; omega)
    unfold winL at this
    rwa [gAt_part _ _ _ _ (by omega), gAt_part _ _ _ _ (by omega), gAt_part _ _ _ _ (by omega)] at this
theorem ckG_part {l : List Smp} (fr m : Nat) (h : ckG l = 0) : ckG ((l.drop fr).take m) = 0 := by
  unfold ckG vPs at h ⊢
  have hl : ((l.drop fr).take m).length ≤ l.length := by rw [List.length_take, List.length_drop]; omega
  split at h
  · omega
  · split at h
    · rename_i h1 h2
      rw [if_neg (by omega), if_pos (List.all_eq_true.2 (fun x hx => List.all_eq_true.1 h2 x (List.mem_of_mem_drop (List.mem_of_mem_take hx))))]
    · omega

/-- What the least numbers of the first j predicates come to. -/
def MaxInv (P : Nat → Int → Bool) (j : Nat) (mo : Int) (li : Bool) : Prop :=
  (li = false ∧ 0 ≤ mo ∧ mo ≤ 4194304 ∧ (∀ i, i < j → P i mo = true) ∧ (mo = 0 ∨ ∃ i, i < j ∧ P i (mo - 1) = false)) ∨
  (li = true ∧ ∃ i, i < j ∧ ∀ q, 0 ≤ q → q ≤ 4194304 → P i q = false)
theorem MaxInv.step {P : Nat → Int → Bool} {j : Nat} {mo : Int} {li : Bool} {x g : Int} (hm : ∀ i, i ≤ j → Mono_ (P i)) (hi : MaxInv P j mo li) (hl : LeastIs (P j) x g) :
    (g = 0 ∨ g = 14) ∧ MaxInv P (j + 1) (max mo x) (li || (g != 0)) := by
  rcases hl with ⟨rfl, h1, h2, h3, h4⟩ | ⟨rfl, h1, h2⟩
  · refine ⟨.inl rfl, ?_⟩
    rcases hi with ⟨rfl, i1, i2, i3, i4⟩ | ⟨rfl, i, i1, i2⟩
    · left
      refine ⟨rfl, by omega, by omega, fun i hi => ?_, ?_⟩
      · rcases Nat.lt_or_ge i j with h | h
        · exact hm i (by omega) mo _ i1 (by omega) (by omega) (i3 i h)
        · obtain rfl : i = j := by omega
          exact hm i (by omega) x _ h1 (by omega) (by omega) h3
      · rcases Int.lt_or_le mo x with h | h
        · rw [show max mo x = x by omega]
          exact .inr ⟨j, by omega, h4 (x - 1) (by omega) (by omega)⟩
        · rw [show max mo x = mo by omega]
          rcases i4 with rfl | ⟨i, h5, h6⟩
          · exact .inl rfl
          · exact .inr ⟨i, by omega, h6⟩
    · exact .inr ⟨rfl, i, by omega, i2⟩
  · refine ⟨.inr rfl, .inr ⟨by simp, ?_⟩⟩
    rcases hi with ⟨rfl, i1, i2, i3, i4⟩ | ⟨rfl, i, i1, i2⟩
    · exact ⟨j, by omega, h2⟩
    · exact ⟨i, by omega, i2⟩
theorem MaxInv.fin {P : Nat → Int → Bool} {T : Int → Bool} {j : Nat} {mo nq en : Int} {li : Bool} (hm : ∀ i, i < j → Mono_ (P i)) (hT : ∀ q, 0 ≤ q → q ≤ 4194304 → (T q = true ↔ ∀ i, i < j → P i q = true)) (hi : MaxInv P j mo li) (hl : LeastIs T nq en) :
    (li = true ∧ en = 14) ∨ (li = false ∧ en = 0 ∧ nq = mo) := by
  rcases hi with ⟨rfl, i1, i2, i3, i4⟩ | ⟨rfl, i, i1, i2⟩
  · right
    have := hl.uniq (show LeastIs T mo 0 from .inl ⟨rfl, i1, i2, (hT mo i1 i2).2 i3, fun q q1 q2 => by
      cases hq : T q
      · rfl
      · rcases i4 with rfl | ⟨i, h5, h6⟩
        · omega
        · have := hm i h5 q (mo - 1) q1 (by omega) (by omega) ((hT q q1 (by omega)).1 hq i h5)
          rw [h6] at this; cases this⟩)
    exact ⟨rfl, this.2, this.1⟩
  · left
    have := hl.uniq (show LeastIs T 0 14 from .inr ⟨rfl, rfl, fun q q1 q2 => by
      cases hq : T q
      · rfl
      · have := (hT q q1 q2).1 hq i i1; rw [i2 q q1 q2] at this; cases this⟩)
    exact ⟨rfl, this.2⟩
theorem part_le {c : Ctr} {l l' : List Smp} {per nq x ef : Int} (hc : CtOk c) (p1 : 1 ≤ per) (p2 : per ≤ 65536) (hok : ∀ r, okG c l r per → okG c l' r per) (h : LeastIs (fun r => fls c l r per) nq 0) (h' : LeastIs (fun r => fls c l' r per) x ef) : ef = 0 ∧ x ≤ nq := by
  rcases h with ⟨-, h1, h2, h3, h4⟩ | ⟨h1, -, -⟩
  · have h3 : fls c l nq per = true := h3
    have h5 : fls c l' nq per = true := (fls_ok hc ⟨h1, h2, p1, p2⟩).2 (hok nq ((fls_ok hc ⟨h1, h2, p1, p2⟩).1 h3))
    rcases h' with ⟨rfl, a1, a2, a3, a4⟩ | ⟨rfl, a1, a2⟩
    · refine ⟨rfl, ?_⟩
      rcases Int.lt_or_le nq x with hlt | hge
      · have := a4 nq h1 hlt; rw [show (fun r => fls c l' r per) nq = fls c l' nq per from rfl, h5] at this; cases this
      · exact hge
    · have := a2 nq h1 h2; rw [show (fun r => fls c l' r per) nq = fls c l' nq per from rfl, h5] at this; cases this
  · omega
theorem least_ex (p : Int → Bool) : ∃ v er, LeastIs p v er := by
  have key : ∀ m : Nat, (∃ v : Int, 0 ≤ v ∧ v < m ∧ p v = true ∧ ∀ q, 0 ≤ q → q < v → p q = false) ∨ ∀ q : Int, 0 ≤ q → q < m → p q = false := by
    intro m
    induction m with
    | zero => exact .inr (fun q h1 h2 => by omega)
    | succ m ih =>
      rcases ih with ⟨v, h1, h2, h3, h4⟩ | h
      · exact .inl ⟨v, h1, by omega, h3, h4⟩
      · cases hp : p (m : Int)
        · refine .inr (fun q h1 h2 => ?_)
          rcases Int.lt_or_le q m with h5 | h5
          · exact h q h1 h5
          · rw [show q = (m : Int) by omega]; exact hp
        · exact .inl ⟨m, by omega, by omega, hp, h⟩
  rcases key 4194305 with ⟨v, h1, h2, h3, h4⟩ | h
  · exact ⟨v, 0, .inl ⟨rfl, h1, by omega, h3, h4⟩⟩
  · exact ⟨0, 14, .inr ⟨rfl, rfl, fun q h1 h2 => h q h1 (by omega)⟩⟩
/-- What Least returns is one pair of numbers, whatever the world. -/
theorem Least_det (c : Ctr) (l : List Smp) (per : Int) : ∃ v er, lsQ c l per v er ∧ ∀ (B : Nat) (A : Option Addr) (n k : Nat) (w : World), RS w B A n l → B ≤ w.heap.size → n ≤ 9223372036854775807 →
    Calls Try.prog 32 #[.agg #[.int .i64 c.half, .int .i64 c.gain, .int .i64 c.thin, .int .i64 c.wide, .int .i64 c.slope, .int .i64 c.jerk, .int .i64 c.stylus], .slice A n k, .int .i64 per] w fun e w' => e = .returned (.tuple #[.int .i64 v, .int .i64 er]) ∧ Below w.heap.size w w' := by
  have hex : ∃ v er, lsQ c l per v er ∧ ∀ v' er', lsQ c l per v' er' → v' = v ∧ er' = er := by
    unfold lsQ
    by_cases h : lsEr c l per = 0
    · simp only [if_pos h]
      obtain ⟨v, er, hv⟩ := least_ex (fun r => fls c l r per)
      exact ⟨v, er, hv, fun v' er' h' => h'.uniq hv⟩
    · simp only [if_neg h]
      exact ⟨0, _, ⟨rfl, rfl⟩, fun v' er' h' => h'⟩
  obtain ⟨v, er, h1, h2⟩ := hex
  refine ⟨v, er, h1, fun B A n k w h0 hB hl => (Least_any B A n k c l per w h0 hB hl).mono ?_⟩
  rintro e w' ⟨v', er', rfl, hq, hb⟩
  obtain ⟨rfl, rfl⟩ := h2 _ _ hq
  exact ⟨rfl, hb⟩

theorem tmod_nat (f : Int) (n : Nat) (h : 0 ≤ f) : ∃ a : Nat, f.tmod ((n : Int) + 1) = (a : Int) ∧ a ≤ n := by
  refine ⟨(f.tmod ((n : Int) + 1)).toNat, ?_, ?_⟩
  · have := Int.tmod_nonneg ((n : Int) + 1) h; omega
  · have h1 := Int.tmod_lt_of_pos f (show 0 < (n : Int) + 1 by omega); have := Int.tmod_nonneg ((n : Int) + 1) h; omega

set_option maxRecDepth 100000 in
set_option maxHeartbeats 8000000 in
theorem parts_walk (B : Nat) (A : Option Addr) (n k : Nat) (c : Ctr) (l : List Smp) (per f t : Int) (w : World) (h0 : RS w B A n l) (hB : B ≤ w.heap.size) (hl : n ≤ 9223372036854775807) (hnk : n ≤ k) (f1 : 0 ≤ f) (f2 : f ≤ 255) (t1 : 0 ≤ t) (t2 : t ≤ 255) :
    Calls Try.prog 11 #[.agg #[.int .i64 c.half, .int .i64 c.gain, .int .i64 c.thin, .int .i64 c.wide, .int .i64 c.slope, .int .i64 c.jerk, .int .i64 c.stylus], .slice A n k, .int .i64 per, .int .u8 f, .int .u8 t] w fun e w' => e = .returned (.bool true) ∧ Below w.heap.size w w' := by
  have HN := Lib.hid h0.1
  have H := Lib.hid (h0.more hB)
  clear h0 hB
  have CP := Lib.hid (fun W (hb : Below w.heap.size w W) => refCheckPoints_any w.heap.size A n k l W (H.out.below hb (Nat.le_refl _)) hb.size hl)
  have CK := Lib.hid (fun W => refCheck_any c W)
  have WK := Lib.hid (fun W => Works_any W)
  by_cases c1 : 60 < n
  · go_enter Try.func11, Try.ntmps11
    go_wp2_with fail
    refine (WK.out _).mono ?_
    rintro e w1 ⟨rfl, hb1⟩
    go_wp2
    go_ret
    exact ⟨rfl, ((Below.refl _ w).alloc (Nat.le_refl _) _).trans (hb1.mono (by simp))⟩
  by_cases c4 : per < 1
  · go_enter Try.func11, Try.ntmps11
    go_wp2_with fail
    refine (WK.out _).mono ?_
    rintro e w1 ⟨rfl, hb1⟩
    go_wp2
    go_ret
    exact ⟨rfl, ((Below.refl _ w).alloc (Nat.le_refl _) _).trans (hb1.mono (by simp))⟩
  by_cases c5 : 65536 < per
  · go_enter Try.func11, Try.ntmps11
    go_wp2_with fail
    refine (WK.out _).mono ?_
    rintro e w1 ⟨rfl, hb1⟩
    go_wp2
    go_ret
    exact ⟨rfl, ((Below.refl _ w).alloc (Nat.le_refl _) _).trans (hb1.mono (by simp))⟩
  have d1 : decide ((60 : Int) < (n : Int)) = false := decide_eq_false (by omega)
  by_cases c6 : ckC c = 0
  rotate_left
  · have hne : (ckC c == 0) = false := by simpa using c6
    have hne' : (ckC c != 0) = true := by simpa using c6
    obtain ⟨q, hq⟩ : ∃ q, ckC c = q := ⟨_, rfl⟩
    rw [hq] at CK hne hne'
    clear hq c6
    go_enter Try.func11, Try.ntmps11
    go_wp2_with fail
    refine (CK.out _).mono ?_
    rintro e w1 ⟨rfl, hb1⟩
    have HB := Lib.hid (((Below.refl _ w).alloc (Nat.le_refl _) (.cells #[.int .i64 c.half, .int .i64 c.gain, .int .i64 c.thin, .int .i64 c.wide, .int .i64 c.slope, .int .i64 c.jerk, .int .i64 c.stylus] 23)).trans (hb1.mono (by simp)))
    clear hb1
    go_wp2_with fail
    refine (WK.out _).mono ?_
    rintro e w2 ⟨rfl, hb2⟩
    go_wp2
    go_ret
    exact ⟨rfl, HB.out.trans (hb2.mono HB.out.size)⟩
  by_cases c7 : ckG l = 0
  rotate_left
  · have hne : (ckG l == 0) = false := by simpa using c7
    have hne' : (ckG l != 0) = true := by simpa using c7
    obtain ⟨q, hq⟩ : ∃ q, ckG l = q := ⟨_, rfl⟩
    rw [hq] at CP hne hne'
    rw [c6] at CK
    clear hq c7 c6
    go_enter Try.func11, Try.ntmps11
    go_wp2_with fail
    refine (CK.out _).mono ?_
    rintro e w1 ⟨rfl, hb1⟩
    have HB := Lib.hid (((Below.refl _ w).alloc (Nat.le_refl _) (.cells #[.int .i64 c.half, .int .i64 c.gain, .int .i64 c.thin, .int .i64 c.wide, .int .i64 c.slope, .int .i64 c.jerk, .int .i64 c.stylus] 23)).trans (hb1.mono (by simp)))
    clear hb1
    go_wp2_with fail
    refine (CP.out _ HB.out).mono ?_
    rintro e w2 ⟨rfl, hb2⟩
    have HB := Lib.hid (HB.out.trans (hb2.mono HB.out.size))
    clear hb2
    go_wp2_with fail
    refine (WK.out _).mono ?_
    rintro e w3 ⟨rfl, hb3⟩
    go_wp2
    go_ret
    exact ⟨rfl, HB.out.trans (hb3.mono HB.out.size)⟩
  have HC := Lib.hid (ckC_ok c6)
  have C7 := Lib.hid c7
  have E1 := Lib.hid (lsEr_zero (l := l) (per := per) HC.out c7 (by omega) (by omega))
  have HP := Lib.hid (show 1 ≤ per ∧ per ≤ 65536 by omega)
  rw [c6] at CK
  rw [c7] at CP
  clear c6 c7
  have LA := Lib.hid (fun W hb => Least_any w.heap.size A n k c l per W (H.out.below hb (Nat.le_refl _)) (Below.size hb) hl)
  obtain ⟨a, ha, han⟩ := tmod_nat f n f1
  obtain ⟨b, hb, hbn⟩ := tmod_nat t n t1
  obtain ⟨lo, hlo⟩ : ∃ lo, min a b = lo := ⟨_, rfl⟩
  obtain ⟨hi, hhi⟩ : ∃ hi, max a b = hi := ⟨_, rfl⟩
  have hlh : lo ≤ hi ∧ hi ≤ n := by omega
  have e1 : (if (b : Int) < (a : Int) then (b : Int) else (a : Int)) = (lo : Int) := by split <;> omega
  have e2 : (if (a : Int) < (b : Int) then (b : Int) else (a : Int)) = (hi : Int) := by split <;> omega
  have e3 : (if b < a then (b : Int) else (a : Int)) = (lo : Int) := by split <;> omega
  have e4 : (if a < b then (b : Int) else (a : Int)) = (hi : Int) := by split <;> omega
  have HLH := Lib.hid hlh
  obtain ⟨x, ef, hqx, hdx⟩ := Least_det c ((l.drop lo).take (hi - lo)) per
  have HQX := Lib.hid hqx
  have LP := Lib.hid (fun W (hb : Below w.heap.size w W) => hdx w.heap.size (prtA A k lo) (hi - lo) (k - lo) W (rs_part (H.out.below hb (Nat.le_refl _)) hnk lo hi HLH.out.1 HLH.out.2) hb.size (by omega))
  clear hqx hdx
  have LW := Lib.hid (fun (i : Nat) (hi : i + 3 ≤ n) => show ∃ v er, lsQ c (winL l i) per v er ∧ ∀ (W : World), Below w.heap.size w W → Calls Try.prog 32 #[.agg #[.int .i64 c.half, .int .i64 c.gain, .int .i64 c.thin, .int .i64 c.wide, .int .i64 c.slope, .int .i64 c.jerk, .int .i64 c.stylus], .slice (prtA A k i) 3 (k - i), .int .i64 per] W fun e w' => e = .returned (.tuple #[.int .i64 v, .int .i64 er]) ∧ Below W.heap.size W w' from by
    obtain ⟨v, er, h1, h2⟩ := Least_det c (winL l i) per
    refine ⟨v, er, h1, fun W hb => h2 w.heap.size (prtA A k i) 3 (k - i) W ?_ hb.size (by omega)⟩
    have := rs_part (H.out.below hb (Nat.le_refl _)) hnk i (i + 3) (by omega) hi
    rw [show i + 3 - i = 3 by omega] at this
    exact this)
  have sl1 := fun W => slice_pts A n k lo hi HLH.out.1 (by omega) W
  have x1 : IntKind.i64.wrap f = f := IntWalk.i64_in _ (by omega)
  have x2 : IntKind.i64.wrap t = t := IntWalk.i64_in _ (by omega)
  have x3 : IntKind.i64.wrap ((n : Int) + 1) = (n : Int) + 1 := IntWalk.i64_in _ (by omega)
  have x4 : ((n : Int) + 1 == 0) = false := beq_eq_false_iff_ne.2 (by omega)
  have x5 : ¬ ((n : Int) + 1 = 0) := by omega
  clear hlo hhi hlh
  go_enter Try.func11, Try.ntmps11
  go_wp2_with fail
  refine (CK.out _).mono ?_
  rintro e w1 ⟨rfl, hb1⟩
  have k0' : Blk w1 w.heap.size 23 #[.int .i64 c.half, .int .i64 c.gain, .int .i64 c.thin, .int .i64 c.wide, .int .i64 c.slope, .int .i64 c.jerk, .int .i64 c.stylus] := (Blk.new _ _ _).below hb1 (by simp)
  have HK := Lib.hid k0'
  have HB := Lib.hid (((Below.refl _ w).alloc (Nat.le_refl _) (.cells #[.int .i64 c.half, .int .i64 c.gain, .int .i64 c.thin, .int .i64 c.wide, .int .i64 c.slope, .int .i64 c.jerk, .int .i64 c.stylus] 23)).trans (hb1.mono (by simp)))
  clear hb1 k0'
  go_wp2_with fail
  refine (CP.out _ HB.out).mono ?_
  rintro e w2 ⟨rfl, hb2⟩
  have HK := Lib.hid (HK.out.below hb2 HK.out.lt)
  have HB := Lib.hid (HB.out.trans (hb2.mono HB.out.size))
  clear hb2
  go_wp2_with fail
  go_quiet (fail)
  obtain ⟨W, hW⟩ : ∃ W, w2.drewN nq = W := ⟨_, rfl⟩
  have HK : Hid (Blk W w.heap.size 23 #[.int .i64 c.half, .int .i64 c.gain, .int .i64 c.thin, .int .i64 c.wide, .int .i64 c.slope, .int .i64 c.jerk, .int .i64 c.stylus]) := Lib.hid (by rw [← hW]; exact HK.out.drewN _)
  have HB : Hid (Below w.heap.size w W) := Lib.hid (by rw [← hW]; exact below_drewN_ HB.out _)
  rw [hW]
  clear hW ha hb x1 x2 x3 x4 x5
  have hk := HK.out
  have p0 := (hk.cell 0).trans rfl
  have p1 := (hk.cell 1).trans rfl
  have p2 := (hk.cell 2).trans rfl
  have p3 := (hk.cell 3).trans rfl
  have p4 := (hk.cell 4).trans rfl
  have p5 := (hk.cell 5).trans rfl
  have p6 := (hk.cell 6).trans rfl
  clear hk
  go_wp2_with fail
  refine (LA.out _ HB.out).mono ?_
  rintro e w3 ⟨nq2, en, rfl, hqa, hb3⟩
  have HK := Lib.hid (HK.out.below hb3 HK.out.lt)
  have HB := Lib.hid (HB.out.trans (hb3.mono HB.out.size))
  have HQA : Hid (LeastIs (fun r => fls c l r per) nq2 en) := Lib.hid (by unfold lsQ at hqa; rwa [if_pos E1.out] at hqa)
  clear hb3 hqa p0 p1 p2 p3 p4 p5 p6
  have hk := HK.out
  have p0 := Lat.cell ((hk.cell 0).trans rfl)
  have p1 := Lat.cell ((hk.cell 1).trans rfl)
  have p2 := Lat.cell ((hk.cell 2).trans rfl)
  have p3 := Lat.cell ((hk.cell 3).trans rfl)
  have p4 := Lat.cell ((hk.cell 4).trans rfl)
  have p5 := Lat.cell ((hk.cell 5).trans rfl)
  have p6 := Lat.cell ((hk.cell 6).trans rfl)
  clear hk
  have LPX := Lib.hid (fun y : Lat w3 => LP.out y.w (HB.out.trans (y.below.mono HB.out.size)))
  go_wp2_with fail
  try dsimp only [List.append]
  refine wp_region_lat (by kernel_rfl) (by kernel_rfl) ?_
  repeat (go_big_quiet_step ((first | (with_reducible exact Calls.lat (LPX.out _)))))
  refine wpQuiet_nil ?_
  intro w4 hw'
  have hb4 := lat_out hw'
  clear hw'
  have HK := Lib.hid (HK.out.below hb4 HK.out.lt)
  have HB := Lib.hid (HB.out.trans (hb4.mono HB.out.size))
  clear hb4 p0 p1 p2 p3 p4 p5 p6 e1 e2 e3 e4 sl1 LPX
  have hqx : LeastIs (fun r => fls c ((l.drop lo).take (hi - lo)) r per) x ef := by
    have h := HQX.out
    unfold lsQ at h
    rwa [if_pos (lsEr_zero HC.out (ckG_part lo (hi - lo) C7.out) HP.out.1 HP.out.2)] at h
  have HQX2 := Lib.hid hqx
  have hen : (en = 0 ∧ ef = 0 ∧ x ≤ nq2) ∨ en = 14 := by
    rcases HQA.out with ⟨h, -⟩ | ⟨h, -⟩
    · left
      subst h
      obtain ⟨h1, h2⟩ := part_le HC.out HP.out.1 HP.out.2 (fun r => okG_part lo (hi - lo) (by have := HLH.out; have := HN.out; omega)) HQA.out HQX2.out
      exact ⟨rfl, h1, h2⟩
    · exact .inr h
  clear hqx
  have HEN := Lib.hid hen
  clear hen
  by_cases c9 : n < 3
  · rcases HEN.out with ⟨rfl, rfl, hx⟩ | rfl
    all_goals
      go_wp2_with fail
      refine (WK.out _).mono ?_
      rintro e w7 ⟨rfl, hb7⟩
      go_wp2
      go_ret
      exact ⟨rfl, HB.out.trans (hb7.mono HB.out.size)⟩
  have HM : Hid (∀ i, Mono_ (fun r => fls c (winL l i) r per)) := Lib.hid (fun i => fls_mono HC.out HP.out.1 HP.out.2)
  have HT : Hid (∀ q, 0 ≤ q → q ≤ 4194304 → (fls c l q per = true ↔ ∀ i, i < n - 2 → fls c (winL l i) q per = true)) := Lib.hid (fun q q1 q2 => by
    have hs : SpOk q per := ⟨q1, q2, HP.out.1, HP.out.2⟩
    rw [fls_ok HC.out hs]
    constructor
    · intro h i hi
      exact (fls_ok HC.out hs).2 (okG_part i 3 (by have := HN.out; omega) h)
    · intro h
      exact okG_win (by have := HN.out; omega) (fun i hi => (fls_ok HC.out hs).1 (h i (by have := HN.out; omega))))
  have c9' : decide ((n : Int) < 3) = false := decide_eq_false (by omega)
  rcases HEN.out with ⟨rfl, rfl, hx⟩ | rfl
  all_goals
    go_wp2_with fail
    go_loopw [17, 18, 19] (fun a b z wr => ∃ (j : Nat) (mo : Int) (li : Bool), j ≤ n - 2 ∧ z = .int .i64 j ∧ a = .int .i64 mo ∧ b = .bool li ∧ Hid (MaxInv (fun i r => fls c (winL l i) r per) j mo li) ∧ Hid (Blk wr w.heap.size 23 #[.int .i64 c.half, .int .i64 c.gain, .int .i64 c.thin, .int .i64 c.wide, .int .i64 c.slope, .int .i64 c.jerk, .int .i64 c.stylus]) ∧ Hid (Below w.heap.size w wr)) (fun a b z wr => n - (intOf z).toNat)
    case atStart => exact ⟨0, 0, false, Nat.zero_le _, rfl, rfl, rfl, Lib.hid (.inl ⟨rfl, by omega, by omega, fun i hi => absurd hi (by omega), .inl rfl⟩), HK, HB⟩
    case round =>
      clear HK HB
      obtain ⟨j, mo, li, hj, rfl, rfl, rfl, HI, HK, HB⟩ := hrel
      by_cases hlt : j + 3 ≤ n
      · obtain ⟨y, g, hqy, hdy⟩ := LW.out j hlt
        have hq2 : LeastIs (fun r => fls c (winL l j) r per) y g := by
          unfold lsQ at hqy
          rwa [if_pos (show lsEr c (winL l j) per = 0 from lsEr_zero HC.out (ckG_part j 3 C7.out) HP.out.1 HP.out.2)] at hqy
        obtain ⟨hg, hinv⟩ := MaxInv.step (fun i _ => HM.out i) HI.out hq2
        obtain ⟨m2, hm2⟩ : ∃ m2, max mo y = m2 := ⟨_, rfl⟩
        have e5 : (if mo < y then y else mo) = m2 := by rw [← hm2]; split <;> omega
        rw [hm2] at hinv
        have HINV := Lib.hid hinv
        have LPX := Lib.hid (fun y : Lat wr => hdy y.w (HB.out.trans (y.below.mono HB.out.size)))
        have sl2 : ∀ W, (Instr.slice 29 (.slice A n k) (some (.int .i64 (j : Int))) (some (.int .i64 ((j : Int) + 3))) none).run Try.prog W = .ok (.slice (prtA A k j) 3 (k - j)) W := fun W => by
          have h := slice_pts A n k j (j + 3) (by omega) (by omega) W
          rw [show j + 3 - j = 3 by omega, show ((j + 3 : Nat) : Int) = (j : Int) + 3 by omega] at h
          exact h
        have x6 : IntKind.i64.wrap ((j : Int) + 3) = (j : Int) + 3 := IntWalk.i64_in _ (by omega)
        have hk := HK.out
        have p0 := Lat.cell ((hk.cell 0).trans rfl)
        have p1 := Lat.cell ((hk.cell 1).trans rfl)
        have p2 := Lat.cell ((hk.cell 2).trans rfl)
        have p3 := Lat.cell ((hk.cell 3).trans rfl)
        have p4 := Lat.cell ((hk.cell 4).trans rfl)
        have p5 := Lat.cell ((hk.cell 5).trans rfl)
        have p6 := Lat.cell ((hk.cell 6).trans rfl)
        clear hk hqy hdy hq2 hinv hm2
        go_wp2_with fail
        try dsimp only [List.append]
        refine wp_region_lat (by kernel_rfl) (by kernel_rfl) ?_
        repeat (go_big_quiet_step ((first | (with_reducible exact Calls.lat (LPX.out _)))))
        refine wpQuiet_nil ?_
        intro w5 hw'
        have hb5 := lat_out hw'
        clear hw'
        have HK := Lib.hid (HK.out.below hb5 HK.out.lt)
        have HB := Lib.hid (HB.out.trans (hb5.mono HB.out.size))
        clear hb5 p0 p1 p2 p3 p4 p5 p6 sl2 x6 LPX
        rcases hg with rfl | rfl <;> cases li
        all_goals
          go_wp2_with fail
          go_roundw
          case rel => exact ⟨j + 1, m2, _, by omega, by go_num, rfl, rfl, HINV, HK, HB⟩
          case measure => simp [intOf]; omega
      · obtain rfl : j = n - 2 := by omega
        have hfin := MaxInv.fin (T := fun r => fls c l r per) (fun i _ => HM.out i) HT.out HI.out HQA.out
        have hlt2 : n < n - 2 + 3 := by omega
        have hlt3 : decide (((n - 2 : Nat) : Int) + 3 ≤ (n : Int)) = false := decide_eq_false (by omega)
        rcases hfin with ⟨rfl, he⟩ | ⟨rfl, he, rfl⟩
        all_goals
          first
          | exact absurd he (by decide)
          | (clear he; go_wp2_with fail; refine (WK.out _).mono ?_; rintro e w7 ⟨rfl, hb7⟩; go_wp2; go_ret; exact ⟨rfl, HB.out.trans (hb7.mono HB.out.size)⟩)
end Go.Proofs.Ytaiigdbbpdkamaa
