/-
  chains and long of the statements of layer 2; the document's Down and Correction.
-/
import Derived.Test.YtilihdkfflfniaaUI
namespace Go.Proofs.Ytilihdkfflfniaa
open Go.RowKit

def big (c : Cur) : Bool := decide (20 < c.feed.length) || decide (20 < c.back.length)
/-- Whether a list of curves is too long for a statement. -/
def chnB (l : List Cur) : Bool := decide (12 < l.length) || l.any big
theorem any_take_ (l : List Cur) (k : Nat) (h : k < l.length) : (l.take (k + 1)).any big = ((l.take k).any big || big l[k]) := by
  rw [List.take_succ_eq_append_getElem h, List.any_append]; simp
theorem any_true_ (l : List Cur) (k : Nat) (h : k < l.length) (hb : big l[k] = true) : l.any big = true := List.any_eq_true.2 ⟨_, List.getElem_mem h, hb⟩
set_option maxHeartbeats 1000000 in
theorem chains_any (B : Nat) (A : Option Addr) (n c : Nat) (l : List CV) (w : World) (h0 : RC w B A n l) (hB : B ≤ w.heap.size) (hl : n ≤ 9223372036854775807) (hs : CSm l) :
    Calls Try.prog 12 #[.slice A n c] w fun e w' => e = .returned (.bool (chnB (l.map CV.c))) ∧ w = w' := by
  have H := Lib.hid (h0.more hB)
  have HN := Lib.hid h0.1
  have HS := Lib.hid hs
  clear h0 hB hs
  by_cases hl12 : 12 < n
  · go_enter Try.func12, Try.ntmps12
    go_wp2
    go_ret
    exact ⟨ret_b (by unfold chnB; rw [decide_eq_true (by have := HN.out; simp; omega)]; rfl), rfl⟩
  · have HCK : Hid (chnB (l.map CV.c) = (l.map CV.c).any big) := Lib.hid (by unfold chnB; rw [decide_eq_false (by have := HN.out; simp; omega)]; rfl)
    go_enter Try.func12, Try.ntmps12
    go_wp2
    go_loop [3] (fun i => ∃ k : Nat, k ≤ n ∧ i = .int .i64 k ∧ Hid (((l.map CV.c).take k).any big = false)) (fun i => n - (intOf i).toNat)
    case atStart => exact ⟨0, Nat.zero_le _, rfl, Lib.hid rfl⟩
    case round =>
      obtain ⟨k, hk, rfl, HV⟩ := hrel
      by_cases hlt : k < n
      · have hkl : k < l.length := by have := HN.out; omega
        obtain ⟨ad, hA, _, p0, p1, _, hci⟩ := H.out.at_ hkl
        obtain rfl := hA
        obtain ⟨s1, s2⟩ := HS.out _ (List.getElem_mem hkl)
        have hkm : k < (l.map CV.c).length := by simpa using hkl
        have HT := Lib.hid (any_take_ (l.map CV.c) k hkm)
        have HF := Lib.hid (any_true_ (l.map CV.c) k hkm)
        have hbg : big (l.map CV.c)[k] = (decide (20 < l[k].nf) || decide (20 < l[k].nb)) := by
          rw [List.getElem_map]; unfold big; rw [← hci.f.1, ← hci.b.1]
        rw [hbg] at HT HF
        obtain ⟨t, ht⟩ : ∃ t, l[k] = t := ⟨_, rfl⟩
        rw [ht] at p0 p1 s1 s2 HT HF
        clear ht hbg hci
        by_cases h1 : 20 < t.nf
        · go_wp2
          go_ret
          exact ⟨ret_b (by rw [HCK.out, HF.out (by rw [decide_eq_true h1]; rfl)]), rfl⟩
        · by_cases h2 : 20 < t.nb
          · go_wp2
            go_ret
            exact ⟨ret_b (by rw [HCK.out, HF.out (by rw [decide_eq_true h2, Bool.or_true])]), rfl⟩
          · go_wp2
            go_round
            case rel => exact ⟨k + 1, by omega, by go_num, Lib.hid (by rw [HT.out, HV.out, decide_eq_false h1, decide_eq_false h2]; rfl)⟩
            case measure => simp [intOf]; omega
      · go_wp2
        go_ret
        have h := HV.out
        rw [List.take_of_length_le (by have := HN.out; simp; omega)] at h
        exact ⟨ret_b (by rw [HCK.out, h]), rfl⟩
/-- Whether a list has too many elements for a statement. -/
def lngB (n most : Nat) : Bool := (decide (most < n) && decide (n ≤ 4096)) || decide (4116 < n)
set_option maxHeartbeats 400000 in
theorem long_any (n most : Nat) (w : World) : Calls Try.prog 13 #[.int .i64 n, .int .i64 most] w fun e w' => e = .returned (.bool (lngB n most)) ∧ w = w' := by
  unfold lngB
  by_cases h1 : most < n <;> by_cases h2 : n ≤ 4096 <;> by_cases h3 : 4116 < n <;> first | omega | skip
  all_goals
    go_enter Try.func13, Try.ntmps13
    go_wp2
    go_ret
    exact ⟨ret_b (by first | (simp [h1, h2, h3]; done) | (simp [h1, h2, h3]; omega)), rfl⟩

set_option maxHeartbeats 400000 in
theorem refDown_any (a b : Int) (w : World) (hb : 0 < b) (hb2 : b ≤ 1099511627776) (h0 : -1152921504606846976 ≤ a) (h1 : a ≤ 1152921504606846976) :
    Calls Try.prog 85 #[.int .i64 a, .int .i64 b] w fun e w' => e = .returned (.int .i64 (a / b)) ∧ w = w' := by
  have hq := quo_down (a := a) hb
  have hbd : -1152921504606846976 ≤ a.tdiv b ∧ a.tdiv b ≤ 1152921504606846976 := by
    rcases Int.le_total 0 a with h | h
    · rw [Int.tdiv_eq_ediv_of_nonneg h]
      have := Int.ediv_nonneg h (show 0 ≤ b by omega)
      have := Int.ediv_le_self b h
      omega
    · have e : a.tdiv b = -((-a).tdiv b) := by rw [Int.neg_tdiv, Int.neg_neg]
      rw [e, Int.tdiv_eq_ediv_of_nonneg (show 0 ≤ -a by omega)]
      have := Int.ediv_nonneg (show 0 ≤ -a by omega) (show 0 ≤ b by omega)
      have := Int.ediv_le_self b (show 0 ≤ -a by omega)
      omega
  have hbt : -b < a.tmod b ∧ a.tmod b < b := ⟨by
      rcases Int.le_total 0 a with h | h
      · have := Int.tmod_nonneg b h; omega
      · have := Int.tmod_lt_of_pos (-a) hb
        rw [Int.neg_tmod] at this; omega, Int.tmod_lt_of_pos a hb⟩
  obtain ⟨q, hqq⟩ : ∃ q, a.tdiv b = q := ⟨_, rfl⟩
  obtain ⟨r, hr⟩ : ∃ q, a.tmod b = q := ⟨_, rfl⟩
  rw [hqq, hr] at hq
  rw [hqq] at hbd
  rw [hr] at hbt
  have e0 : IntKind.i64.wrap q = q := IntWalk.i64_in _ (by omega)
  have e1 : IntKind.i64.wrap (q - 1) = q - 1 := IntWalk.i64_in _ (by omega)
  have e2 : IntKind.i64.wrap r = r := IntWalk.i64_in _ (by omega)
  have nb : ¬ b = 0 := by omega
  have HQ := Lib.hid hq
  clear hq hbd hbt
  by_cases hr0 : r < 0
  · go_enter Try.func85, Try.ntmps85
    go_wp2
    go_ret
    have hfin : q - 1 = a / b := by have h := HQ.out; rw [if_pos (by omega)] at h; exact h
    exact ⟨ret_i hfin, rfl⟩
  · go_enter Try.func85, Try.ntmps85
    go_wp2
    go_ret
    have hfin : q = a / b := by have h := HQ.out; rw [if_neg (by omega)] at h; exact h
    exact ⟨ret_i hfin, rfl⟩
/-- The moments of two lists, the last one first. -/
def mts (xs ys : List Int) : List (Int × Int) := (xs.zip ys).reverse
theorem mts_at {xs ys : List Int} (h : xs.length = ys.length) {k : Nat} (hk : k < xs.length) : hAt (mts xs ys) k = (xs[xs.length - 1 - k]'(by omega), ys[xs.length - 1 - k]'(by omega)) := by
  unfold hAt mts
  have hz : (xs.zip ys).length = xs.length := by simp [h]
  rw [List.getElem?_reverse (by omega), List.getElem?_eq_getElem (by omega)]
  simp [hz]
theorem mts_out {xs ys : List Int} {k : Nat} (hk : xs.length ≤ k) : hAt (mts xs ys) k = (0, 0) := by
  unfold hAt mts
  rw [List.getElem?_eq_none (by simp; omega)]; rfl
theorem mts_snoc (xs ys : List Int) (h : xs.length = ys.length) (x y : Int) : mts (xs ++ [x]) (ys ++ [y]) = (x, y) :: mts xs ys := by
  unfold mts
  rw [List.zip_append h]
  simp
end Go.Proofs.Ytilihdkfflfniaa
