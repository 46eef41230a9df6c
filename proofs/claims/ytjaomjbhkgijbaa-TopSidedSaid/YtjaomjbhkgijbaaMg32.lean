/-
  Bounds and headrooms: weight, tame, Bound, Headroom; the document's Abs, Amounts, Bound, Headroom.
-/
import Derived.Test.YtjaomjbhkgijbaaMg28
import Derived.Test.YtjaomjbhkgijbaaMg31
import Derived.Deep.QuietTactic
import Derived.BigQuiet

namespace Go.Proofs.Ytjaomjbhkgijbaa
open Go.RowKit

/-- The sum of amounts. -/
def wgt : List Int → Int
  | [] => 0
  | x :: l => am x + wgt l
theorem wgt_app (a b : List Int) : wgt (a ++ b) = wgt a + wgt b := by
  induction a with
  | nil => simp [wgt]
  | cons x l ih => simp only [List.cons_append, wgt, ih]; omega
theorem wgt_snoc (l : List Int) (k : Nat) (h : k < l.length) : wgt (l.take (k + 1)) = wgt (l.take k) + am l[k] := by
  rw [List.take_succ_eq_append_getElem h, wgt_app]; simp [wgt]
theorem wgt_bd : ∀ {l : List Int}, (∀ x ∈ l, -4096 ≤ x ∧ x ≤ 4096) → 0 ≤ wgt l ∧ wgt l ≤ 4096 * (l.length : Int)
  | [], _ => by simp [wgt]
  | x :: l, h => by
    have h1 := am_bd (h x (by simp))
    have h2 := wgt_bd (l := l) (fun y hy => h y (by simp [hy]))
    simp only [wgt, List.length_cons]
    omega
theorem take_all {l : List Int} (h : ∀ x ∈ l, -4096 ≤ x ∧ x ≤ 4096) (k : Nat) : ∀ x ∈ l.take k, -4096 ≤ x ∧ x ≤ 4096 := fun x hx => h x (List.mem_of_mem_take hx)

set_option maxHeartbeats 1000000 in
theorem weight_any (B : Nat) (A : Option Addr) (n c : Nat) (l : List Int) (w : World) (h0 : LI w B A n l) (hn8 : n ≤ 8) (hl : ∀ x ∈ l, -4096 ≤ x ∧ x ≤ 4096) :
    Calls Try.prog 105 #[.slice A n c] w fun e w' => e = .returned (.int .i64 (wgt l)) ∧ w' = w := by
  have H := Lib.hid h0
  have HN := Lib.hid h0.1
  have HL := Lib.hid hl
  clear h0 hl
  go_enter Try.func105, Try.ntmps105
  go_wp2
  go_loop [3, 8] (fun v i => ∃ k : Nat, k ≤ n ∧ i = .int .i64 k ∧ v = .int .i64 (wgt (l.take k))) (fun _ i => n - (intOf i).toNat)
  case atStart => exact ⟨0, Nat.zero_le _, rfl, rfl⟩
  case round =>
    obtain ⟨k, hk, rfl, rfl⟩ := hrel
    by_cases hlt : k < n
    · have hx : k < l.length := by have := HN.out; omega
      obtain ⟨ad, hA, _, p1⟩ := H.out.at_ hx
      obtain rfl := hA
      have hb := wgt_bd (take_all HL.out k)
      have hkl : (l.take k).length ≤ k := List.length_take_le _ _
      have hx1 := HL.out _ (List.getElem_mem hx)
      have hx2 := am_bd hx1
      have HS := Lib.hid (wgt_snoc l k hx)
      obtain ⟨s, hs⟩ : ∃ s, wgt (l.take k) = s := ⟨_, rfl⟩
      obtain ⟨x, hxx⟩ : ∃ x, l[k] = x := ⟨_, rfl⟩
      rw [hxx] at p1 hx1 hx2 HS
      rw [hs] at hb HS ⊢
      have AM := famount_any x w (by omega) (by omega)
      obtain ⟨a, ha⟩ : ∃ a, am x = a := ⟨_, rfl⟩
      rw [ha] at hx2 HS AM
      have AM := Lib.hid AM
      have e1 : IntKind.i64.wrap (s + a) = s + a := IntWalk.i64_in _ (by omega)
      clear hs hxx ha
      go_wp2_with ((with_reducible refine AM.out.mono ?_); rintro e w2 ⟨rfl, rfl⟩)
      go_round
      case rel => exact ⟨k + 1, by omega, by go_num, by rw [HS.out]⟩
      case measure => simp [intOf]; omega
    · go_wp2
      go_ret
      rw [List.take_of_length_le (by have := HN.out; omega)]
      exact ⟨rfl, rfl⟩

set_option maxHeartbeats 400000 in
theorem refAbs_any (x : Int) (w : World) (h1 : -9223372036854775807 ≤ x) (h2 : x ≤ 9223372036854775807) :
    Calls Try.prog 122 #[.int .i64 x] w fun e w' => e = .returned (.int .i64 (am x)) ∧ w = w' := by
  have e0 : IntKind.i64.wrap (-x) = -x := IntWalk.i64_in _ (by omega)
  go_enter Try.func122, Try.ntmps122
  go_wp2
  all_goals
    go_ret
    exact ⟨ret_i (by unfold am; omega), rfl⟩

set_option maxHeartbeats 1000000 in
theorem refAmounts_any (B : Nat) (A : Option Addr) (n c : Nat) (l : List Int) (w : World) (h0 : LI w B A n l) (hn8 : n ≤ 8) (hl : ∀ x ∈ l, -4096 ≤ x ∧ x ≤ 4096) :
    Calls Try.prog 106 #[.slice A n c] w fun e w' => e = .returned (.int .i64 (wgt l)) ∧ w' = w := by
  have H := Lib.hid h0
  have HN := Lib.hid h0.1
  have HL := Lib.hid hl
  clear h0 hl
  go_enter Try.func106, Try.ntmps106
  go_wp2
  go_loop [3, 4] (fun v i => ∃ k : Nat, k ≤ n ∧ i = .int .i64 k ∧ v = .int .i64 (wgt (l.take k))) (fun _ i => n - (intOf i).toNat)
  case atStart => exact ⟨0, Nat.zero_le _, rfl, rfl⟩
  case round =>
    obtain ⟨k, hk, rfl, rfl⟩ := hrel
    by_cases hlt : k < n
    · have hx : k < l.length := by have := HN.out; omega
      obtain ⟨ad, hA, _, p1⟩ := H.out.at_ hx
      obtain rfl := hA
      have hb := wgt_bd (take_all HL.out k)
      have hkl : (l.take k).length ≤ k := List.length_take_le _ _
      have hx1 := HL.out _ (List.getElem_mem hx)
      have hx2 := am_bd hx1
      have HS := Lib.hid (wgt_snoc l k hx)
      obtain ⟨s, hs⟩ : ∃ s, wgt (l.take k) = s := ⟨_, rfl⟩
      obtain ⟨x, hxx⟩ : ∃ x, l[k] = x := ⟨_, rfl⟩
      rw [hxx] at p1 hx1 hx2 HS
      rw [hs] at hb HS ⊢
      have AM := refAbs_any x w (by omega) (by omega)
      obtain ⟨a, ha⟩ : ∃ a, am x = a := ⟨_, rfl⟩
      rw [ha] at hx2 HS AM
      have AM := Lib.hid AM
      have e1 : IntKind.i64.wrap (s + a) = s + a := IntWalk.i64_in _ (by omega)
      clear hs hxx ha
      go_wp2_with ((with_reducible refine AM.out.mono ?_); rintro e w2 ⟨rfl, rfl⟩)
      go_round
      case rel => exact ⟨k + 1, by omega, by go_num, by rw [HS.out]⟩
      case measure => simp [intOf]; omega
    · go_wp2
      go_ret
      rw [List.take_of_length_le (by have := HN.out; omega)]
      exact ⟨rfl, rfl⟩

/-- Whether a curve is tame; its bound; its headroom. -/
def tm (c : Cur) : Bool := decide (wgt c.back < c.share)
def bndF (c : Cur) (m : Int) : Int := (m * (c.share + wgt c.feed) + c.share - 1) / (c.share - wgt c.back)
def hdrF (c : Cur) : Int := (32768 * (c.share - wgt c.back) - c.share) / (c.share + wgt c.feed)
structure TmOk (c : Cur) : Prop where
  s1 : 1 ≤ c.share
  s2 : c.share ≤ 4096
  f1 : 0 ≤ wgt c.feed
  f2 : wgt c.feed ≤ 32768
  b1 : 0 ≤ wgt c.back
  b2 : wgt c.back < c.share
theorem tm_ok {c : Cur} (h : CurOk c) (ht : tm c = true) : TmOk c := by
  obtain ⟨h1, h2, h3, h4, h5, h6⟩ := h
  have a := wgt_bd h3
  have b := wgt_bd h4
  unfold tm at ht
  rw [decide_eq_true_eq] at ht
  exact ⟨h5, h6, a.1, by omega, b.1, ht⟩
/-- The bound is at most the greatest sample just up to the headroom. -/
theorem bnd_hdr {c : Cur} (h : TmOk c) (a : Int) : bndF c a ≤ 32767 ↔ a ≤ hdrF c := by
  obtain ⟨s1, s2, f1, f2, b1, b2⟩ := h
  unfold bndF hdrF
  rw [Int.le_ediv_iff_mul_le (by omega), show (32767 : Int) = 32768 - 1 from rfl, Int.le_sub_one_iff, Int.ediv_lt_iff_lt_mul (by omega)]
  omega
theorem hdr_bd {c : Cur} (h : TmOk c) : 0 ≤ hdrF c ∧ hdrF c ≤ 32767 := by
  obtain ⟨s1, s2, f1, f2, b1, b2⟩ := h
  unfold hdrF
  refine ⟨Int.ediv_nonneg (by omega) (by omega), Int.ediv_le_of_le_mul (by omega) ?_⟩
  have h1 : 32768 * (c.share - wgt c.back) ≤ 32768 * c.share := by omega
  have h2 : 32767 * (c.share + wgt c.feed) = 32767 * c.share + 32767 * wgt c.feed := Int.mul_add _ _ _
  omega
def bndEr (c : Cur) (m : Int) : Int := if orL [ckV c, rngE m 0 32767] = 0 then (if tm c = true then 0 else 5) else orL [ckV c, rngE m 0 32767]
def bndV (c : Cur) (m : Int) : Int := if bndEr c m = 0 then bndF c m else 0
def hdrEr (c : Cur) : Int := if ckV c = 0 then (if tm c = true then 0 else 5) else ckV c
def hdrV (c : Cur) : Int := if hdrEr c = 0 then hdrF c else 0
/-- A curve's box, its lists, and that it is valid. -/
theorem weights_in {W : World} {B : Nat} {t : CV} (hc : CI W B t) (hok : CurOk t.c) : (t.nf ≤ 8 ∧ t.nb ≤ 8) ∧
    (∀ W' k, Below W.heap.size W W' → B ≤ W.heap.size → Calls Try.prog 105 #[.slice t.Af t.nf k] W' fun e w' => e = .returned (.int .i64 (wgt t.c.feed)) ∧ w' = W') ∧
    (∀ W' k, Below W.heap.size W W' → B ≤ W.heap.size → Calls Try.prog 105 #[.slice t.Ab t.nb k] W' fun e w' => e = .returned (.int .i64 (wgt t.c.back)) ∧ w' = W') := by
  obtain ⟨h1, h2, h3, h4, h5, h6⟩ := hok
  have a := hc.f.1
  have b := hc.b.1
  exact ⟨⟨by omega, by omega⟩, fun W' k hb hB => weight_any _ _ _ _ _ _ (hc.f.below hb hB) (by omega) h3, fun W' k hb hB => weight_any _ _ _ _ _ _ (hc.b.below hb hB) (by omega) h4⟩
theorem amounts_in {W : World} {B : Nat} {t : CV} (hc : CI W B t) (hok : CurOk t.c) :
    (∀ W' k, Below W.heap.size W W' → B ≤ W.heap.size → Calls Try.prog 106 #[.slice t.Af t.nf k] W' fun e w' => e = .returned (.int .i64 (wgt t.c.feed)) ∧ w' = W') ∧
    (∀ W' k, Below W.heap.size W W' → B ≤ W.heap.size → Calls Try.prog 106 #[.slice t.Ab t.nb k] W' fun e w' => e = .returned (.int .i64 (wgt t.c.back)) ∧ w' = W') := by
  obtain ⟨h1, h2, h3, h4, h5, h6⟩ := hok
  have a := hc.f.1
  have b := hc.b.1
  exact ⟨fun W' k hb hB => refAmounts_any _ _ _ _ _ _ (hc.f.below hb hB) (by omega) h3, fun W' k hb hB => refAmounts_any _ _ _ _ _ _ (hc.b.below hb hB) (by omega) h4⟩

set_option maxRecDepth 100000 in
set_option maxHeartbeats 1000000 in
theorem tame_any (B : Nat) (t : CV) (w : World) (hc : CI w B t) (hB : B ≤ w.heap.size) (hok : CurOk t.c) :
    Calls Try.prog 104 #[.agg #[.slice t.Af t.nf t.kf, .slice t.Ab t.nb t.kb, .int .i64 t.c.share]] w fun e w' => e = .returned (.bool (tm t.c)) ∧ Below w.heap.size w w' := by
  obtain ⟨-, -, hw⟩ := weights_in hc hok
  have HW := Lib.hid (fun W' k hb => hw W' k hb hB)
  have HT : Hid (tm t.c = decide (wgt t.c.back < t.c.share)) := Lib.hid rfl
  clear hw hc hB
  obtain ⟨b, hb0⟩ : ∃ b, wgt t.c.back = b := ⟨_, rfl⟩
  rw [hb0] at HW HT
  clear hb0
  go_enter Try.func104, Try.ntmps104
  go_upto_region 1 with fail
  obtain ⟨w1, hW⟩ : ∃ W, w.alloc (.cells #[.slice t.Af t.nf t.kf, .slice t.Ab t.nb t.kb, .int .i64 t.c.share] 43) = W := ⟨_, rfl⟩
  have hb : Below w.heap.size w w1 := by rw [← hW]; exact (Below.refl _ _).alloc (Nat.le_refl _) _
  have hsz1 := hb.size
  have HK : Hid (Blk w1 w.heap.size 43 #[.slice t.Af t.nf t.kf, .slice t.Ab t.nb t.kb, .int .i64 t.c.share]) := Lib.hid (by rw [← hW]; exact Blk.new _ _ _)
  have HB := Lib.hid hb
  try rw [hW]
  clear hW hb
  obtain ⟨c0, c1, c2⟩ := HK.out.three_
  have TW := Lib.hid (fun q => HW.out (w1.drewN q) t.kb (below_drewN_ HB.out _))
  go_wp2_with fail
  go_quiet ((go_at_call 105; with_reducible exact Calls.quiet_of_same (TW.out _)))
  go_wp2
  go_ret
  exact ⟨ret_b HT.out.symm, below_drewN_ HB.out _⟩

set_option maxRecDepth 100000 in
set_option maxHeartbeats 4000000 in
theorem Bound_any (B : Nat) (t : CV) (m : Int) (w : World) (hc : CI w B t) (hB : B ≤ w.heap.size) (hs : t.nf ≤ 9223372036854775807 ∧ t.nb ≤ 9223372036854775807) :
    Calls Try.prog 38 #[.agg #[.slice t.Af t.nf t.kf, .slice t.Ab t.nb t.kb, .int .i64 t.c.share], .int .i64 m] w fun e w' => e = .returned (.tuple #[.int .i64 (bndV t.c m), .int .i64 (bndEr t.c m)]) ∧ Below w.heap.size w w' := by
  have HC := Lib.hid (hc.more hB)
  clear hc hB
  obtain ⟨V, hV⟩ : ∃ x, bndV t.c m = x := ⟨_, rfl⟩
  obtain ⟨E, hE⟩ : ∃ x, bndEr t.c m = x := ⟨_, rfl⟩
  rw [hV, hE]
  have hV2 := hV
  have hE2 := hE
  unfold bndV at hV2
  rw [hE] at hV2
  unfold bndEr at hE2
  obtain ⟨e1, he1⟩ : ∃ e, ckV t.c = e := ⟨_, rfl⟩
  obtain ⟨e2, he2⟩ : ∃ e, rngE m 0 32767 = e := ⟨_, rfl⟩
  rw [he1, he2] at hE2
  have HV := Lib.hid he1
  have HG := Lib.hid he2
  clear hV hE
  by_cases h1 : e1 = 0
  · subst h1
    by_cases h2 : e2 = 0
    · subst h2
      have hor : orL [0, 0] = 0 := rfl
      have HOR := Lib.hid (fun B A n c W h1 h2 h3 h4 => cmpOr_any B A n c [0, 0] W h1 h2 h3 h4)
      rw [hor] at HOR
      rw [hor, if_pos rfl] at hE2
      have HOK := Lib.hid (ckV_ok HV.out)
      have hm := he2
      have hm2 : 0 ≤ m ∧ m ≤ 32767 := by unfold rngE at hm; split at hm <;> omega
      obtain ⟨m1, m2⟩ := hm2
      obtain ⟨-, hwf, hwb⟩ := weights_in HC.out HOK.out
      have HWF := Lib.hid (fun W' k hb => hwf W' k hb (Nat.le_refl _))
      have HWB := Lib.hid (fun W' k hb => hwb W' k hb (Nat.le_refl _))
      clear hwf hwb hm
      cases ht : tm t.c
      · have HT := Lib.hid ht
        rw [ht] at hE2
        rw [if_neg (by simp)] at hE2
        subst hE2
        rw [if_neg (by omega)] at hV2
        subst hV2
        clear ht he1 he2 hor
        go_enter Try.func38, Try.ntmps38
        go_upto_region 1 with fail
        obtain ⟨w1, hW⟩ : ∃ W, w.alloc (.cells #[.slice t.Af t.nf t.kf, .slice t.Ab t.nb t.kb, .int .i64 t.c.share] 43) = W := ⟨_, rfl⟩
        have hb : Below w.heap.size w w1 := by rw [← hW]; exact (Below.refl _ _).alloc (Nat.le_refl _) _
        have hsz1 := hb.size
        replace HC := Lib.hid (HC.out.below hb (by omega))
        have HK : Hid (Blk w1 w.heap.size 43 #[.slice t.Af t.nf t.kf, .slice t.Ab t.nb t.kb, .int .i64 t.c.share]) := Lib.hid (by rw [← hW]; exact Blk.new _ _ _)
        have HB := Lib.hid hb
        try rw [hW]
        clear hW hb
        obtain ⟨c0, c1, c2⟩ := HK.out.three_
        go_wp2_with fail
        have CALL := CheckCurve_any w1.heap.size t.Af t.Ab t.nf t.kf t.nb t.kb t.c w1 (HC.out.more (by omega)).f (HC.out.more (by omega)).b (Nat.le_refl _) hs.1 hs.2
        rw [HV.out] at CALL
        refine CALL.mono ?_
        rintro e w2 ⟨rfl, hb⟩
        clear CALL
        have hsz2 := hb.size
        replace HC := Lib.hid (HC.out.below hb (by omega))
        replace HK := Lib.hid (HK.out.below hb HK.out.lt)
        replace HB := Lib.hid (HB.out.trans (hb.mono (by omega)))

        clear hb
        obtain ⟨c0, c1, c2⟩ := HK.out.three_
        go_wp2_with fail
        have CALL := fcheckRange_any m 0 32767 w2
        rw [HG.out] at CALL
        refine CALL.mono ?_
        rintro e w_ ⟨rfl, rfl⟩
        clear CALL
        go_wp2_with fail
        obtain ⟨w3, hW⟩ : ∃ W, w2.alloc (.cells #[.int .i64 0, .int .i64 0] 27) = W := ⟨_, rfl⟩
        have hb : Below w2.heap.size w2 w3 := by rw [← hW]; exact (Below.refl _ _).alloc (Nat.le_refl _) _
        have hsz3 := hb.size
        replace HC := Lib.hid (HC.out.below hb (by omega))
        replace HK := Lib.hid (HK.out.below hb HK.out.lt)
        replace HB := Lib.hid (HB.out.trans (hb.mono (by omega)))
        have HO : Hid (Blk w3 w2.heap.size 27 #[.int .i64 0, .int .i64 0]) := Lib.hid (by rw [← hW]; exact Blk.new _ _ _)
        try rw [hW]
        clear hW hb
        obtain ⟨c0, c1, c2⟩ := HK.out.three_
        have CALL := HOR.out w3.heap.size (some ⟨w2.heap.size, 0, none⟩) 2 2 w3 rfl (reads_cells HO.out HO.out.lt (by rfl) (by rfl)) (Nat.le_refl _) (by omega)
        refine CALL.mono ?_
        rintro e w_ ⟨rfl, rfl⟩
        clear CALL HO
        go_wp2_with fail
        have CALL := tame_any w3.heap.size t w3 (HC.out.more (by omega)) (Nat.le_refl _) HOK.out
        rw [HT.out] at CALL
        refine CALL.mono ?_
        rintro e w4 ⟨rfl, hb⟩
        clear CALL
        have hsz4 := hb.size
        replace HC := Lib.hid (HC.out.below hb (by omega))
        replace HK := Lib.hid (HK.out.below hb HK.out.lt)
        replace HB := Lib.hid (HB.out.trans (hb.mono (by omega)))

        clear hb
        obtain ⟨c0, c1, c2⟩ := HK.out.three_
        go_wp2
        go_ret2
        exact ⟨rfl, HB.out⟩
      · have HT := Lib.hid ht
        rw [ht] at hE2
        rw [if_pos rfl] at hE2
        subst hE2
        rw [if_pos rfl] at hV2
        obtain ⟨s1, s2, f1, f2, b1, b2⟩ := tm_ok HOK.out ht
        obtain ⟨Sf, hS⟩ : ∃ x, wgt t.c.feed = x := ⟨_, rfl⟩
        obtain ⟨Sb, hSb⟩ : ∃ x, wgt t.c.back = x := ⟨_, rfl⟩
        unfold bndF at hV2
        rw [hS] at HWF f1 f2 hV2
        rw [hSb] at HWB b1 b2 hV2
        have hp : 0 ≤ m * (t.c.share + Sf) ∧ m * (t.c.share + Sf) ≤ 32767 * (t.c.share + Sf) := ⟨Int.mul_nonneg m1 (by omega), Int.mul_le_mul_of_nonneg_right m2 (by omega)⟩
        obtain ⟨p, hpp⟩ : ∃ p, m * (t.c.share + Sf) = p := ⟨_, rfl⟩
        rw [hpp] at hp hV2
        obtain ⟨p1, p2⟩ := hp
        have HFIN : Hid (V = (p + t.c.share - 1) / (t.c.share - Sb)) := Lib.hid hV2.symm
        have x1 : IntKind.i64.wrap (t.c.share + Sf) = t.c.share + Sf := IntWalk.i64_in _ (by omega)
        have x2 : IntKind.i64.wrap (m * (t.c.share + Sf)) = p := by rw [hpp]; exact IntWalk.i64_in _ (by omega)
        have x3 : IntKind.i64.wrap (p + t.c.share) = p + t.c.share := IntWalk.i64_in _ (by omega)
        have x4 : IntKind.i64.wrap (p + t.c.share - 1) = p + t.c.share - 1 := IntWalk.i64_in _ (by omega)
        have x5 : IntKind.i64.wrap (t.c.share - Sb) = t.c.share - Sb := IntWalk.i64_in _ (by omega)
        have n1 : 0 ≤ p + t.c.share - 1 := by omega
        have n2 : 0 < t.c.share - Sb := by omega
        have n3 : ¬ t.c.share - Sb = 0 := by omega
        have q0 : (p + t.c.share - 1).tdiv (t.c.share - Sb) = (p + t.c.share - 1) / (t.c.share - Sb) := Int.tdiv_eq_ediv_of_nonneg n1
        have q1 : 0 ≤ (p + t.c.share - 1) / (t.c.share - Sb) := Int.ediv_nonneg n1 (by omega)
        have q2 : (p + t.c.share - 1) / (t.c.share - Sb) ≤ p + t.c.share - 1 := Int.ediv_le_self _ n1
        have q3 : IntKind.i64.wrap ((p + t.c.share - 1) / (t.c.share - Sb)) = (p + t.c.share - 1) / (t.c.share - Sb) := IntWalk.i64_in _ (by omega)
        clear ht he1 he2 hor hS hSb hV2
        go_enter Try.func38, Try.ntmps38
        go_upto_region 1 with fail
        obtain ⟨w1, hW⟩ : ∃ W, w.alloc (.cells #[.slice t.Af t.nf t.kf, .slice t.Ab t.nb t.kb, .int .i64 t.c.share] 43) = W := ⟨_, rfl⟩
        have hb : Below w.heap.size w w1 := by rw [← hW]; exact (Below.refl _ _).alloc (Nat.le_refl _) _
        have hsz1 := hb.size
        replace HC := Lib.hid (HC.out.below hb (by omega))
        have HK : Hid (Blk w1 w.heap.size 43 #[.slice t.Af t.nf t.kf, .slice t.Ab t.nb t.kb, .int .i64 t.c.share]) := Lib.hid (by rw [← hW]; exact Blk.new _ _ _)
        have HB := Lib.hid hb
        try rw [hW]
        clear hW hb
        obtain ⟨c0, c1, c2⟩ := HK.out.three_
        go_wp2_with fail
        have CALL := CheckCurve_any w1.heap.size t.Af t.Ab t.nf t.kf t.nb t.kb t.c w1 (HC.out.more (by omega)).f (HC.out.more (by omega)).b (Nat.le_refl _) hs.1 hs.2
        rw [HV.out] at CALL
        refine CALL.mono ?_
        rintro e w2 ⟨rfl, hb⟩
        clear CALL
        have hsz2 := hb.size
        replace HC := Lib.hid (HC.out.below hb (by omega))
        replace HK := Lib.hid (HK.out.below hb HK.out.lt)
        replace HB := Lib.hid (HB.out.trans (hb.mono (by omega)))

        clear hb
        obtain ⟨c0, c1, c2⟩ := HK.out.three_
        go_wp2_with fail
        have CALL := fcheckRange_any m 0 32767 w2
        rw [HG.out] at CALL
        refine CALL.mono ?_
        rintro e w_ ⟨rfl, rfl⟩
        clear CALL
        go_wp2_with fail
        obtain ⟨w3, hW⟩ : ∃ W, w2.alloc (.cells #[.int .i64 0, .int .i64 0] 27) = W := ⟨_, rfl⟩
        have hb : Below w2.heap.size w2 w3 := by rw [← hW]; exact (Below.refl _ _).alloc (Nat.le_refl _) _
        have hsz3 := hb.size
        replace HC := Lib.hid (HC.out.below hb (by omega))
        replace HK := Lib.hid (HK.out.below hb HK.out.lt)
        replace HB := Lib.hid (HB.out.trans (hb.mono (by omega)))
        have HO : Hid (Blk w3 w2.heap.size 27 #[.int .i64 0, .int .i64 0]) := Lib.hid (by rw [← hW]; exact Blk.new _ _ _)
        try rw [hW]
        clear hW hb
        obtain ⟨c0, c1, c2⟩ := HK.out.three_
        have CALL := HOR.out w3.heap.size (some ⟨w2.heap.size, 0, none⟩) 2 2 w3 rfl (reads_cells HO.out HO.out.lt (by rfl) (by rfl)) (Nat.le_refl _) (by omega)
        refine CALL.mono ?_
        rintro e w_ ⟨rfl, rfl⟩
        clear CALL HO
        go_wp2_with fail
        have CALL := tame_any w3.heap.size t w3 (HC.out.more (by omega)) (Nat.le_refl _) HOK.out
        rw [HT.out] at CALL
        refine CALL.mono ?_
        rintro e w4 ⟨rfl, hb⟩
        clear CALL
        have hsz4 := hb.size
        replace HC := Lib.hid (HC.out.below hb (by omega))
        replace HK := Lib.hid (HK.out.below hb HK.out.lt)
        replace HB := Lib.hid (HB.out.trans (hb.mono (by omega)))

        clear hb
        obtain ⟨c0, c1, c2⟩ := HK.out.three_
        obtain ⟨c0, c1, c2⟩ := HK.out.three_
        have TF := Lib.hid (fun q => HWF.out (w4.drewN q) t.kf (below_drewN_ HB.out _))
        have TB := Lib.hid (fun q => HWB.out (w4.drewN q) t.kb (below_drewN_ HB.out _))
        go_wp2_with fail
        go_quiet (first | (go_at_call 105; with_reducible exact Calls.quiet_of_same (TF.out _)) | (go_at_call 105; with_reducible exact Calls.quiet_of_same (TB.out _)))
        go_wp2
        go_ret2
        exact ⟨by rw [HFIN.out]; rfl, below_drewN_ HB.out _⟩
    · have hor : orL [0, e2] = e2 := by unfold orL; rw [if_pos rfl]; unfold orL; rw [if_neg h2]
      have HOR := Lib.hid (fun B A n c W h1 h2 h3 h4 => cmpOr_any B A n c [0, e2] W h1 h2 h3 h4)
      rw [hor] at HOR
      rw [hor, if_neg h2] at hE2
      subst hE2
      rw [if_neg h2] at hV2
      subst hV2
      have q1 : (e2 != 0) = true := by rw [bne_iff_ne]; exact h2
      have q2 : (e2 == 0) = false := beq_eq_false_iff_ne.2 h2
      clear he1 he2 hor
      go_enter Try.func38, Try.ntmps38
      go_upto_region 1 with fail
      obtain ⟨w1, hW⟩ : ∃ W, w.alloc (.cells #[.slice t.Af t.nf t.kf, .slice t.Ab t.nb t.kb, .int .i64 t.c.share] 43) = W := ⟨_, rfl⟩
      have hb : Below w.heap.size w w1 := by rw [← hW]; exact (Below.refl _ _).alloc (Nat.le_refl _) _
      have hsz1 := hb.size
      replace HC := Lib.hid (HC.out.below hb (by omega))
      have HK : Hid (Blk w1 w.heap.size 43 #[.slice t.Af t.nf t.kf, .slice t.Ab t.nb t.kb, .int .i64 t.c.share]) := Lib.hid (by rw [← hW]; exact Blk.new _ _ _)
      have HB := Lib.hid hb
      try rw [hW]
      clear hW hb
      obtain ⟨c0, c1, c2⟩ := HK.out.three_
      go_wp2_with fail
      have CALL := CheckCurve_any w1.heap.size t.Af t.Ab t.nf t.kf t.nb t.kb t.c w1 (HC.out.more (by omega)).f (HC.out.more (by omega)).b (Nat.le_refl _) hs.1 hs.2
      rw [HV.out] at CALL
      refine CALL.mono ?_
      rintro e w2 ⟨rfl, hb⟩
      clear CALL
      have hsz2 := hb.size
      replace HC := Lib.hid (HC.out.below hb (by omega))
      replace HK := Lib.hid (HK.out.below hb HK.out.lt)
      replace HB := Lib.hid (HB.out.trans (hb.mono (by omega)))

      clear hb
      obtain ⟨c0, c1, c2⟩ := HK.out.three_
      go_wp2_with fail
      have CALL := fcheckRange_any m 0 32767 w2
      rw [HG.out] at CALL
      refine CALL.mono ?_
      rintro e w_ ⟨rfl, rfl⟩
      clear CALL
      go_wp2_with fail
      obtain ⟨w3, hW⟩ : ∃ W, w2.alloc (.cells #[.int .i64 0, .int .i64 e2] 27) = W := ⟨_, rfl⟩
      have hb : Below w2.heap.size w2 w3 := by rw [← hW]; exact (Below.refl _ _).alloc (Nat.le_refl _) _
      have hsz3 := hb.size
      replace HC := Lib.hid (HC.out.below hb (by omega))
      replace HK := Lib.hid (HK.out.below hb HK.out.lt)
      replace HB := Lib.hid (HB.out.trans (hb.mono (by omega)))
      have HO : Hid (Blk w3 w2.heap.size 27 #[.int .i64 0, .int .i64 e2]) := Lib.hid (by rw [← hW]; exact Blk.new _ _ _)
      try rw [hW]
      clear hW hb
      obtain ⟨c0, c1, c2⟩ := HK.out.three_
      have CALL := HOR.out w3.heap.size (some ⟨w2.heap.size, 0, none⟩) 2 2 w3 rfl (reads_cells HO.out HO.out.lt (by rfl) (by rfl)) (Nat.le_refl _) (by omega)
      refine CALL.mono ?_
      rintro e w_ ⟨rfl, rfl⟩
      clear CALL HO
      go_wp2
      go_ret2
      exact ⟨rfl, HB.out⟩
  · have hor : orL [e1, e2] = e1 := by unfold orL; rw [if_neg h1]
    have HOR := Lib.hid (fun B A n c W h1 h2 h3 h4 => cmpOr_any B A n c [e1, e2] W h1 h2 h3 h4)
    rw [hor] at HOR
    rw [hor, if_neg h1] at hE2
    subst hE2
    rw [if_neg h1] at hV2
    subst hV2
    have q1 : (e1 != 0) = true := by rw [bne_iff_ne]; exact h1
    have q2 : (e1 == 0) = false := beq_eq_false_iff_ne.2 h1
    clear he1 he2 hor
    go_enter Try.func38, Try.ntmps38
    go_upto_region 1 with fail
    obtain ⟨w1, hW⟩ : ∃ W, w.alloc (.cells #[.slice t.Af t.nf t.kf, .slice t.Ab t.nb t.kb, .int .i64 t.c.share] 43) = W := ⟨_, rfl⟩
    have hb : Below w.heap.size w w1 := by rw [← hW]; exact (Below.refl _ _).alloc (Nat.le_refl _) _
    have hsz1 := hb.size
    replace HC := Lib.hid (HC.out.below hb (by omega))
    have HK : Hid (Blk w1 w.heap.size 43 #[.slice t.Af t.nf t.kf, .slice t.Ab t.nb t.kb, .int .i64 t.c.share]) := Lib.hid (by rw [← hW]; exact Blk.new _ _ _)
    have HB := Lib.hid hb
    try rw [hW]
    clear hW hb
    obtain ⟨c0, c1, c2⟩ := HK.out.three_
    go_wp2_with fail
    have CALL := CheckCurve_any w1.heap.size t.Af t.Ab t.nf t.kf t.nb t.kb t.c w1 (HC.out.more (by omega)).f (HC.out.more (by omega)).b (Nat.le_refl _) hs.1 hs.2
    rw [HV.out] at CALL
    refine CALL.mono ?_
    rintro e w2 ⟨rfl, hb⟩
    clear CALL
    have hsz2 := hb.size
    replace HC := Lib.hid (HC.out.below hb (by omega))
    replace HK := Lib.hid (HK.out.below hb HK.out.lt)
    replace HB := Lib.hid (HB.out.trans (hb.mono (by omega)))

    clear hb
    obtain ⟨c0, c1, c2⟩ := HK.out.three_
    go_wp2_with fail
    have CALL := fcheckRange_any m 0 32767 w2
    rw [HG.out] at CALL
    refine CALL.mono ?_
    rintro e w_ ⟨rfl, rfl⟩
    clear CALL
    go_wp2_with fail
    obtain ⟨w3, hW⟩ : ∃ W, w2.alloc (.cells #[.int .i64 e1, .int .i64 e2] 27) = W := ⟨_, rfl⟩
    have hb : Below w2.heap.size w2 w3 := by rw [← hW]; exact (Below.refl _ _).alloc (Nat.le_refl _) _
    have hsz3 := hb.size
    replace HC := Lib.hid (HC.out.below hb (by omega))
    replace HK := Lib.hid (HK.out.below hb HK.out.lt)
    replace HB := Lib.hid (HB.out.trans (hb.mono (by omega)))
    have HO : Hid (Blk w3 w2.heap.size 27 #[.int .i64 e1, .int .i64 e2]) := Lib.hid (by rw [← hW]; exact Blk.new _ _ _)
    try rw [hW]
    clear hW hb
    obtain ⟨c0, c1, c2⟩ := HK.out.three_
    have CALL := HOR.out w3.heap.size (some ⟨w2.heap.size, 0, none⟩) 2 2 w3 rfl (reads_cells HO.out HO.out.lt (by rfl) (by rfl)) (Nat.le_refl _) (by omega)
    refine CALL.mono ?_
    rintro e w_ ⟨rfl, rfl⟩
    clear CALL HO
    go_wp2
    go_ret2
    exact ⟨rfl, HB.out⟩

set_option maxRecDepth 100000 in
set_option maxHeartbeats 4000000 in
theorem refBound_any (B : Nat) (t : CV) (m : Int) (w : World) (hc : CI w B t) (hB : B ≤ w.heap.size) (hs : t.nf ≤ 9223372036854775807 ∧ t.nb ≤ 9223372036854775807) :
    Calls Try.prog 39 #[.agg #[.slice t.Af t.nf t.kf, .slice t.Ab t.nb t.kb, .int .i64 t.c.share], .int .i64 m] w fun e w' => e = .returned (.tuple #[.int .i64 (bndV t.c m), .int .i64 (bndEr t.c m)]) ∧ Below w.heap.size w w' := by
  have HC := Lib.hid (hc.more hB)
  clear hc hB
  obtain ⟨V, hV⟩ : ∃ x, bndV t.c m = x := ⟨_, rfl⟩
  obtain ⟨E, hE⟩ : ∃ x, bndEr t.c m = x := ⟨_, rfl⟩
  rw [hV, hE]
  have hV2 := hV
  have hE2 := hE
  unfold bndV at hV2
  rw [hE] at hV2
  unfold bndEr at hE2
  obtain ⟨e1, he1⟩ : ∃ e, ckV t.c = e := ⟨_, rfl⟩
  obtain ⟨e2, he2⟩ : ∃ e, rngE m 0 32767 = e := ⟨_, rfl⟩
  rw [he1, he2] at hE2
  have HV := Lib.hid he1
  have HG := Lib.hid he2
  clear hV hE
  by_cases h1 : e1 = 0
  · subst h1
    by_cases h2 : e2 = 0
    · subst h2
      have hor : orL [0, 0] = 0 := rfl
      rw [hor, if_pos rfl] at hE2
      have HOK := Lib.hid (ckV_ok HV.out)
      have hm := he2
      have hm2 : 0 ≤ m ∧ m ≤ 32767 := by unfold rngE at hm; split at hm <;> omega
      obtain ⟨m1, m2⟩ := hm2
      obtain ⟨hwf, hwb⟩ := amounts_in HC.out HOK.out
      have HWF := Lib.hid (fun W' k hb => hwf W' k hb (Nat.le_refl _))
      have HWB := Lib.hid (fun W' k hb => hwb W' k hb (Nat.le_refl _))
      clear hwf hwb hm
      cases ht : tm t.c
      · have HT := Lib.hid ht
        rw [ht] at hE2
        rw [if_neg (by simp)] at hE2
        subst hE2
        rw [if_neg (by omega)] at hV2
        subst hV2
        have hts := ht
        unfold tm at hts
        rw [decide_eq_false_iff_not] at hts
        obtain ⟨Sb, hSb⟩ : ∃ x, wgt t.c.back = x := ⟨_, rfl⟩
        rw [hSb] at HWB hts
        have hts : t.c.share ≤ Sb := by omega
        clear hSb
        clear ht he1 he2 hor
        go_enter Try.func39, Try.ntmps39
        go_upto_region 1 with fail
        obtain ⟨w1, hW⟩ : ∃ W, w.alloc (.cells #[.slice t.Af t.nf t.kf, .slice t.Ab t.nb t.kb, .int .i64 t.c.share] 43) = W := ⟨_, rfl⟩
        have hb : Below w.heap.size w w1 := by rw [← hW]; exact (Below.refl _ _).alloc (Nat.le_refl _) _
        have hsz1 := hb.size
        replace HC := Lib.hid (HC.out.below hb (by omega))
        have HK : Hid (Blk w1 w.heap.size 43 #[.slice t.Af t.nf t.kf, .slice t.Ab t.nb t.kb, .int .i64 t.c.share]) := Lib.hid (by rw [← hW]; exact Blk.new _ _ _)
        have HB := Lib.hid hb
        try rw [hW]
        clear hW hb
        obtain ⟨c0, c1, c2⟩ := HK.out.three_
        go_wp2_with fail
        have CALL := refCheckCurve_any w1.heap.size t w1 (HC.out.more (by omega)) (Nat.le_refl _) hs
        rw [HV.out] at CALL
        refine CALL.mono ?_
        rintro e w2 ⟨rfl, hb⟩
        clear CALL
        have hsz2 := hb.size
        replace HC := Lib.hid (HC.out.below hb (by omega))
        replace HK := Lib.hid (HK.out.below hb HK.out.lt)
        replace HB := Lib.hid (HB.out.trans (hb.mono (by omega)))

        clear hb
        obtain ⟨c0, c1, c2⟩ := HK.out.three_
        have TB := Lib.hid (fun q => HWB.out (w2.drewN q) t.kb (below_drewN_ HB.out _))
        go_wp2_with fail
        go_quiet ((go_at_call 106; with_reducible exact Calls.quiet_of_same (TB.out _)))
        clear TB
        obtain ⟨w3, hW⟩ : ∃ W, w2.drewN nq = W := ⟨_, rfl⟩
        have hb : Below w2.heap.size w2 w3 := by rw [← hW]; exact below_drewN_ (Below.refl _ _) _
        have hsz3 := hb.size
        replace HC := Lib.hid (HC.out.below hb (by omega))
        replace HK := Lib.hid (HK.out.below hb HK.out.lt)
        replace HB := Lib.hid (HB.out.trans (hb.mono (by omega)))
        rw [hW]
        clear hW hb
        obtain ⟨c0, c1, c2⟩ := HK.out.three_
        go_wp2
        go_ret2
        exact ⟨rfl, HB.out⟩
      · have HT := Lib.hid ht
        rw [ht] at hE2
        rw [if_pos rfl] at hE2
        subst hE2
        rw [if_pos rfl] at hV2
        obtain ⟨s1, s2, f1, f2, b1, b2⟩ := tm_ok HOK.out ht
        obtain ⟨Sf, hS⟩ : ∃ x, wgt t.c.feed = x := ⟨_, rfl⟩
        obtain ⟨Sb, hSb⟩ : ∃ x, wgt t.c.back = x := ⟨_, rfl⟩
        unfold bndF at hV2
        rw [hS] at HWF f1 f2 hV2
        rw [hSb] at HWB b1 b2 hV2
        have hp : 0 ≤ m * (t.c.share + Sf) ∧ m * (t.c.share + Sf) ≤ 32767 * (t.c.share + Sf) := ⟨Int.mul_nonneg m1 (by omega), Int.mul_le_mul_of_nonneg_right m2 (by omega)⟩
        obtain ⟨p, hpp⟩ : ∃ p, m * (t.c.share + Sf) = p := ⟨_, rfl⟩
        rw [hpp] at hp hV2
        obtain ⟨p1, p2⟩ := hp
        have HFIN : Hid (V = (p + t.c.share - 1) / (t.c.share - Sb)) := Lib.hid hV2.symm
        have x1 : IntKind.i64.wrap (t.c.share + Sf) = t.c.share + Sf := IntWalk.i64_in _ (by omega)
        have x2 : IntKind.i64.wrap (m * (t.c.share + Sf)) = p := by rw [hpp]; exact IntWalk.i64_in _ (by omega)
        have x3 : IntKind.i64.wrap (p + t.c.share) = p + t.c.share := IntWalk.i64_in _ (by omega)
        have x4 : IntKind.i64.wrap (p + t.c.share - 1) = p + t.c.share - 1 := IntWalk.i64_in _ (by omega)
        have x5 : IntKind.i64.wrap (t.c.share - Sb) = t.c.share - Sb := IntWalk.i64_in _ (by omega)
        have n1 : 0 ≤ p + t.c.share - 1 := by omega
        have n2 : 0 < t.c.share - Sb := by omega
        have n3 : ¬ t.c.share - Sb = 0 := by omega
        have q0 : (p + t.c.share - 1).tdiv (t.c.share - Sb) = (p + t.c.share - 1) / (t.c.share - Sb) := Int.tdiv_eq_ediv_of_nonneg n1
        have q1 : 0 ≤ (p + t.c.share - 1) / (t.c.share - Sb) := Int.ediv_nonneg n1 (by omega)
        have q2 : (p + t.c.share - 1) / (t.c.share - Sb) ≤ p + t.c.share - 1 := Int.ediv_le_self _ n1
        have q3 : IntKind.i64.wrap ((p + t.c.share - 1) / (t.c.share - Sb)) = (p + t.c.share - 1) / (t.c.share - Sb) := IntWalk.i64_in _ (by omega)
        clear ht he1 he2 hor hS hSb hV2
        go_enter Try.func39, Try.ntmps39
        go_upto_region 1 with fail
        obtain ⟨w1, hW⟩ : ∃ W, w.alloc (.cells #[.slice t.Af t.nf t.kf, .slice t.Ab t.nb t.kb, .int .i64 t.c.share] 43) = W := ⟨_, rfl⟩
        have hb : Below w.heap.size w w1 := by rw [← hW]; exact (Below.refl _ _).alloc (Nat.le_refl _) _
        have hsz1 := hb.size
        replace HC := Lib.hid (HC.out.below hb (by omega))
        have HK : Hid (Blk w1 w.heap.size 43 #[.slice t.Af t.nf t.kf, .slice t.Ab t.nb t.kb, .int .i64 t.c.share]) := Lib.hid (by rw [← hW]; exact Blk.new _ _ _)
        have HB := Lib.hid hb
        try rw [hW]
        clear hW hb
        obtain ⟨c0, c1, c2⟩ := HK.out.three_
        go_wp2_with fail
        have CALL := refCheckCurve_any w1.heap.size t w1 (HC.out.more (by omega)) (Nat.le_refl _) hs
        rw [HV.out] at CALL
        refine CALL.mono ?_
        rintro e w2 ⟨rfl, hb⟩
        clear CALL
        have hsz2 := hb.size
        replace HC := Lib.hid (HC.out.below hb (by omega))
        replace HK := Lib.hid (HK.out.below hb HK.out.lt)
        replace HB := Lib.hid (HB.out.trans (hb.mono (by omega)))

        clear hb
        obtain ⟨c0, c1, c2⟩ := HK.out.three_
        have TB := Lib.hid (fun q => HWB.out (w2.drewN q) t.kb (below_drewN_ HB.out _))
        go_wp2_with fail
        go_quiet ((go_at_call 106; with_reducible exact Calls.quiet_of_same (TB.out _)))
        clear TB
        obtain ⟨w3, hW⟩ : ∃ W, w2.drewN nq = W := ⟨_, rfl⟩
        have hb : Below w2.heap.size w2 w3 := by rw [← hW]; exact below_drewN_ (Below.refl _ _) _
        have hsz3 := hb.size
        replace HC := Lib.hid (HC.out.below hb (by omega))
        replace HK := Lib.hid (HK.out.below hb HK.out.lt)
        replace HB := Lib.hid (HB.out.trans (hb.mono (by omega)))
        rw [hW]
        clear hW hb
        obtain ⟨c0, c1, c2⟩ := HK.out.three_
        obtain ⟨c0, c1, c2⟩ := HK.out.three_
        have TF := Lib.hid (fun q => HWF.out (w3.drewN q) t.kf (below_drewN_ HB.out _))
        have TB := Lib.hid (fun q => HWB.out (w3.drewN q) t.kb (below_drewN_ HB.out _))
        go_wp2_with fail
        go_quiet (first | (go_at_call 106; with_reducible exact Calls.quiet_of_same (TF.out _)) | (go_at_call 106; with_reducible exact Calls.quiet_of_same (TB.out _)))
        go_wp2
        go_ret2
        exact ⟨by rw [HFIN.out]; rfl, below_drewN_ HB.out _⟩
    · have hor : orL [0, e2] = e2 := by unfold orL; rw [if_pos rfl]; unfold orL; rw [if_neg h2]
      rw [hor, if_neg h2] at hE2
      subst hE2
      rw [if_neg h2] at hV2
      subst hV2
      have q1 : (e2 != 0) = true := by rw [bne_iff_ne]; exact h2
      have q2 : (e2 == 0) = false := beq_eq_false_iff_ne.2 h2
      have hr : m < 0 ∨ 32767 < m := by unfold rngE at he2; split at he2 <;> omega
      have hr3 : e2 = 3 := by unfold rngE at he2; rw [if_pos hr] at he2; exact he2.symm
      subst hr3
      clear he1 he2 hor
      rcases hr with hr | hr
      · go_enter Try.func39, Try.ntmps39
        go_upto_region 1 with fail
        obtain ⟨w1, hW⟩ : ∃ W, w.alloc (.cells #[.slice t.Af t.nf t.kf, .slice t.Ab t.nb t.kb, .int .i64 t.c.share] 43) = W := ⟨_, rfl⟩
        have hb : Below w.heap.size w w1 := by rw [← hW]; exact (Below.refl _ _).alloc (Nat.le_refl _) _
        have hsz1 := hb.size
        replace HC := Lib.hid (HC.out.below hb (by omega))
        have HK : Hid (Blk w1 w.heap.size 43 #[.slice t.Af t.nf t.kf, .slice t.Ab t.nb t.kb, .int .i64 t.c.share]) := Lib.hid (by rw [← hW]; exact Blk.new _ _ _)
        have HB := Lib.hid hb
        try rw [hW]
        clear hW hb
        obtain ⟨c0, c1, c2⟩ := HK.out.three_
        go_wp2_with fail
        have CALL := refCheckCurve_any w1.heap.size t w1 (HC.out.more (by omega)) (Nat.le_refl _) hs
        rw [HV.out] at CALL
        refine CALL.mono ?_
        rintro e w2 ⟨rfl, hb⟩
        clear CALL
        have hsz2 := hb.size
        replace HC := Lib.hid (HC.out.below hb (by omega))
        replace HK := Lib.hid (HK.out.below hb HK.out.lt)
        replace HB := Lib.hid (HB.out.trans (hb.mono (by omega)))

        clear hb
        obtain ⟨c0, c1, c2⟩ := HK.out.three_
        go_wp2
        go_ret2
        exact ⟨rfl, HB.out⟩
      · have hr1 : ¬ m < 0 := by omega
        go_enter Try.func39, Try.ntmps39
        go_upto_region 1 with fail
        obtain ⟨w1, hW⟩ : ∃ W, w.alloc (.cells #[.slice t.Af t.nf t.kf, .slice t.Ab t.nb t.kb, .int .i64 t.c.share] 43) = W := ⟨_, rfl⟩
        have hb : Below w.heap.size w w1 := by rw [← hW]; exact (Below.refl _ _).alloc (Nat.le_refl _) _
        have hsz1 := hb.size
        replace HC := Lib.hid (HC.out.below hb (by omega))
        have HK : Hid (Blk w1 w.heap.size 43 #[.slice t.Af t.nf t.kf, .slice t.Ab t.nb t.kb, .int .i64 t.c.share]) := Lib.hid (by rw [← hW]; exact Blk.new _ _ _)
        have HB := Lib.hid hb
        try rw [hW]
        clear hW hb
        obtain ⟨c0, c1, c2⟩ := HK.out.three_
        go_wp2_with fail
        have CALL := refCheckCurve_any w1.heap.size t w1 (HC.out.more (by omega)) (Nat.le_refl _) hs
        rw [HV.out] at CALL
        refine CALL.mono ?_
        rintro e w2 ⟨rfl, hb⟩
        clear CALL
        have hsz2 := hb.size
        replace HC := Lib.hid (HC.out.below hb (by omega))
        replace HK := Lib.hid (HK.out.below hb HK.out.lt)
        replace HB := Lib.hid (HB.out.trans (hb.mono (by omega)))

        clear hb
        obtain ⟨c0, c1, c2⟩ := HK.out.three_
        go_wp2
        go_ret2
        exact ⟨rfl, HB.out⟩
  · have hor : orL [e1, e2] = e1 := by unfold orL; rw [if_neg h1]
    rw [hor, if_neg h1] at hE2
    subst hE2
    rw [if_neg h1] at hV2
    subst hV2
    have q1 : (e1 != 0) = true := by rw [bne_iff_ne]; exact h1
    have q2 : (e1 == 0) = false := beq_eq_false_iff_ne.2 h1
    clear he1 he2 hor
    go_enter Try.func39, Try.ntmps39
    go_upto_region 1 with fail
    obtain ⟨w1, hW⟩ : ∃ W, w.alloc (.cells #[.slice t.Af t.nf t.kf, .slice t.Ab t.nb t.kb, .int .i64 t.c.share] 43) = W := ⟨_, rfl⟩
    have hb : Below w.heap.size w w1 := by rw [← hW]; exact (Below.refl _ _).alloc (Nat.le_refl _) _
    have hsz1 := hb.size
    replace HC := Lib.hid (HC.out.below hb (by omega))
    have HK : Hid (Blk w1 w.heap.size 43 #[.slice t.Af t.nf t.kf, .slice t.Ab t.nb t.kb, .int .i64 t.c.share]) := Lib.hid (by rw [← hW]; exact Blk.new _ _ _)
    have HB := Lib.hid hb
    try rw [hW]
    clear hW hb
    obtain ⟨c0, c1, c2⟩ := HK.out.three_
    go_wp2_with fail
    have CALL := refCheckCurve_any w1.heap.size t w1 (HC.out.more (by omega)) (Nat.le_refl _) hs
    rw [HV.out] at CALL
    refine CALL.mono ?_
    rintro e w2 ⟨rfl, hb⟩
    clear CALL
    have hsz2 := hb.size
    replace HC := Lib.hid (HC.out.below hb (by omega))
    replace HK := Lib.hid (HK.out.below hb HK.out.lt)
    replace HB := Lib.hid (HB.out.trans (hb.mono (by omega)))

    clear hb
    obtain ⟨c0, c1, c2⟩ := HK.out.three_
    go_wp2
    go_ret2
    exact ⟨rfl, HB.out⟩
end Go.Proofs.Ytjaomjbhkgijbaa

