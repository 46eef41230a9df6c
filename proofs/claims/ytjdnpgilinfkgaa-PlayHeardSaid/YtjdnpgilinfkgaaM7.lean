/-
  The library's Reverse and IsSorted over numbers; the flanks of a tip.
-/
import Derived.Test.YtjdnpgilinfkgaaM4
import Derived.Test.YtjdnpgilinfkgaaLt
import Derived.Laws.CopyRow
import Derived.BigRegion
import Derived.RegionTactic
namespace Go.Proofs.Ytjdnpgilinfkgaa
open Go.RowKit

set_option maxHeartbeats 400000 in
theorem isNaN_any (x : Int) (w : World) : Calls Try.prog 112 #[.int .i64 x] w fun e w' => e = .returned (.bool false) ∧ w = w' := by
  have q : (x != x) = false := by simp
  go_enter Try.func112, Try.ntmps112
  go_wp2
  go_ret
  exact ⟨rfl, rfl⟩
set_option maxHeartbeats 400000 in
theorem less_any (x y : Int) (w : World) : Calls Try.prog 91 #[.int .i64 x, .int .i64 y] w fun e w' => e = .returned (.bool (decide (x < y))) ∧ w = w' := by
  go_enter Try.func91, Try.ntmps91
  go_wp2_with ((with_reducible refine (isNaN_any _ _).mono ?_); rintro e w' ⟨rfl, rfl⟩)
  go_ret
  exact ⟨rfl, rfl⟩

/-- No number is less than the one before it. -/
def srt (xs : List Int) : Bool := (List.range (xs.length - 1)).all fun k => !decide (atI xs (k + 1) < atI xs k)
theorem srt_t {xs : List Int} : srt xs = true ↔ ∀ k, k + 1 < xs.length → atI xs k ≤ atI xs (k + 1) := by
  unfold srt
  rw [List.all_eq_true]
  constructor
  · intro h k hk
    have := h k (List.mem_range.2 (by omega))
    simp only [Bool.not_eq_true', decide_eq_false_iff_not] at this
    omega
  · intro h k hk
    have := h k (by have := List.mem_range.1 hk; omega)
    simp only [Bool.not_eq_true', decide_eq_false_iff_not]
    omega
theorem srt_f {xs : List Int} {k : Nat} (hk : k + 1 < xs.length) (h : atI xs (k + 1) < atI xs k) : srt xs = false := by
  cases e : srt xs
  · rfl
  · have := srt_t.1 e k hk; omega

set_option maxRecDepth 100000 in
set_option maxHeartbeats 2000000 in
theorem isSorted_any (B : Nat) (A : Option Addr) (n c : Nat) (xs : List Int) (w : World) (h0 : LI w B A n xs) (hB : B ≤ w.heap.size) (hl : n ≤ 1099511627776) :
    Calls Try.prog 53 #[.slice A n c] w fun e w' => e = .returned (.bool (srt xs)) ∧ Below w.heap.size w w' := by
  have HN := Lib.hid h0.1
  have H := Lib.hid (h0.more hB)
  clear h0 hB
  have e1 : IntKind.i64.wrap ((n : Int) - 1) = (n : Int) - 1 := IntWalk.i64_in _ (by omega)
  go_enter Try.func53, Try.ntmps53
  go_wp2
  go_loopw [3] (fun i wr => ∃ k : Int, k ≤ (n : Int) - 1 ∧ -1 ≤ k ∧ i = .int .i64 k ∧ Hid (∀ q : Nat, k ≤ q → q + 1 < xs.length → atI xs q ≤ atI xs (q + 1)) ∧ Hid (Below w.heap.size w wr)) (fun i wr => (intOf i + 1).toNat)
  case atStart => exact ⟨(n : Int) - 1, by omega, by omega, rfl, Lib.hid (fun q h1 h2 => by have := HN.out; omega), Lib.hid (Below.refl _ _)⟩
  case round =>
    clear e1
    obtain ⟨k, hk, hk2, rfl, HV, HB⟩ := hrel
    by_cases hlt : 0 < k
    · obtain ⟨j, rfl⟩ : ∃ j : Nat, k = (j : Int) + 1 := ⟨(k - 1).toNat, by omega⟩
      have hx1 : j + 1 < xs.length := by have := HN.out; omega
      obtain ⟨ad, hA, _, y1⟩ := (H.out.below HB.out (Nat.le_refl _)).at_ (k := j + 1) hx1
      obtain ⟨ad', hA', _, y2⟩ := (H.out.below HB.out (Nat.le_refl _)).at_ (k := j) (by omega)
      obtain rfl := hA
      cases hA'
      rw [← atI_eq hx1] at y1
      rw [← atI_eq (show j < xs.length by omega)] at y2
      have HVF : Hid (atI xs (j + 1) < atI xs j → srt xs = false) := Lib.hid (srt_f hx1)
      have HVT : Hid (atI xs j ≤ atI xs (j + 1) → ∀ q : Nat, (j : Int) ≤ q → q + 1 < xs.length → atI xs q ≤ atI xs (q + 1)) := Lib.hid (fun h q h1 h2 => by
        rcases Nat.eq_or_lt_of_le (show j ≤ q by omega) with rfl | h3
        · exact h
        · exact HV.out q (by omega) h2)
      obtain ⟨u, hu⟩ : ∃ u, atI xs (j + 1) = u := ⟨_, rfl⟩
      obtain ⟨v, hv⟩ : ∃ v, atI xs j = v := ⟨_, rfl⟩
      rw [hu] at y1 HVF HVT
      rw [hv] at y2 HVF HVT
      clear hu hv
      have e1 : IntKind.i64.wrap ((j : Int) + 1 - 1) = (j : Int) := by rw [show (j : Int) + 1 - 1 = j by omega]; exact IntWalk.i64_in _ (by omega)
      have q1 : (j : Int) + 1 < (n : Int) := by have := HN.out; omega
      have q2 : (j : Int) < (n : Int) := by omega
      have q3 : (0 : Int) ≤ (j : Int) + 1 := by omega
      have q4 : ((j : Int) + 1).toNat = j + 1 := by omega
      have y1 : wr.cell? ⟨ad.block, ad.off + (j + 1), none⟩ = some (.int .i64 u) := by simpa [Addr.add] using y1
      have l1 := Lat.cell y1
      have l2 := Lat.cell y2
      have LS := Lib.hid (fun W => less_any u v W)
      cases hd : decide (u < v)
      all_goals
        rw [hd] at LS
        have HD := Lib.hid hd
        clear hd y1 y2
        go_wp2_with fail
        refine wp_region_lat (by kernel_rfl) (by kernel_rfl) ?_
        repeat (go_big_quiet_step ((first | (with_reducible exact Calls.lat_ (LS.out _)))))
        refine wpQuiet_nil ?_
        intro _ hw'
        obtain ⟨⟨w2, hb2⟩, hw''⟩ := hw'
        subst hw''
        have HB2 := Lib.hid (HB.out.trans (hb2.mono HB.out.size))
        clear hb2 l1 l2
        go_wp2
      · go_roundw
        case rel => exact ⟨j, by omega, by omega, by go_num, Lib.hid (HVT.out (by have := HD.out; simp at this; omega)), HB2⟩
        case measure => simp [intOf]; omega
      · go_ret
        exact ⟨ret_b (HVF.out (by have := HD.out; simpa using this)).symm, HB2.out⟩
    · go_wp2
      go_ret
      refine ⟨ret_b (srt_t.2 (fun q hq => HV.out q (by omega) hq)).symm, HB.out⟩
/-- Numbers whose first k and last k are exchanged. -/
def rvL (xs : List Int) (k : Nat) : List Int := (List.range xs.length).map fun i => if i < k ∨ xs.length - k ≤ i then atI xs (xs.length - 1 - i) else atI xs i
theorem rvL_len (xs : List Int) (k : Nat) : (rvL xs k).length = xs.length := by simp [rvL]
theorem rvL_zero (xs : List Int) : rvL xs 0 = xs := by
  refine List.ext_getElem (by simp [rvL]) fun i h1 h2 => ?_
  simp only [rvL, List.getElem_map, List.getElem_range]
  rw [if_neg (by omega), atI_eq h2]
theorem rvL_at {xs : List Int} {k i : Nat} (h : i < xs.length) : atI (rvL xs k) i = if i < k ∨ xs.length - k ≤ i then atI xs (xs.length - 1 - i) else atI xs i := by
  rw [atI_eq (by rw [rvL_len]; exact h)]
  simp only [rvL, List.getElem_map, List.getElem_range]
theorem rvL_end {xs : List Int} {k : Nat} (h : xs.length - 1 ≤ 2 * k) : rvL xs k = xs.reverse := by
  refine List.ext_getElem (by simp [rvL]) fun i h1 h2 => ?_
  have h3 : i < xs.length := by simpa using h2
  simp only [rvL, List.getElem_map, List.getElem_range, List.getElem_reverse]
  rw [← atI_eq (s := xs) (k := xs.length - 1 - i) (by omega)]
  split
  · rfl
  · congr 1; omega
theorem rvL_step {xs : List Int} {k : Nat} (h : 2 * k < xs.length - 1) : ((rvL xs k).set k (atI (rvL xs k) (xs.length - 1 - k))).set (xs.length - 1 - k) (atI (rvL xs k) k) = rvL xs (k + 1) := by
  refine List.ext_getElem (by simp [rvL]) fun i h1 h2 => ?_
  have h3 : i < xs.length := by rw [rvL_len] at h2; exact h2
  simp only [List.getElem_set, rvL_at (show k < xs.length by omega), rvL_at (show xs.length - 1 - k < xs.length by omega)]
  simp only [rvL, List.getElem_map, List.getElem_range]
  by_cases e1 : xs.length - 1 - k = i
  · subst e1
    rw [if_pos rfl, if_neg (by omega), if_pos (by omega)]
    congr 1; omega
  · rw [if_neg e1]
    by_cases e2 : k = i
    · subst e2
      rw [if_pos rfl, if_neg (by omega), if_pos (by omega)]
    · rw [if_neg e2]
      by_cases e3 : i < k ∨ xs.length - k ≤ i
      · rw [if_pos e3, if_pos (by omega)]
      · rw [if_neg e3, if_neg (by omega)]
theorem grown_drew {w w' : World} {row : Option Nat} (h : w.grownBy w' row) : w.grownBy w'.drew row := ⟨h.os, h.tape, h.output, h.size, h.block⟩
theorem grown_setCell {w w' : World} {g : Nat} (h : w.grownBy w' (some g)) (k : Nat) (u : Value) : w.grownBy (w'.setCell ⟨g, k, none⟩ u) (some g) :=
  ⟨h.os, h.tape, h.output, Nat.le_trans h.size (by simp [World.setCell]), fun i hi hne => (Below.heap_setCell w' ⟨g, k, none⟩ u i (fun e => hne (by rw [e]))).trans (h.block i hi hne)⟩
theorem nums_at (xs : List Int) (rest : List Value) {i : Nat} (h : i < xs.length) : (nums xs ++ rest).toArray[i]? = some (.int .i64 (atI xs i)) := by
  rw [atI_eq h]
  simp [h, List.getElem?_append_left]
theorem nums_set (xs : List Int) (rest : List Value) {i : Nat} (v : Int) (h : i < xs.length) : (nums xs ++ rest).toArray.setIfInBounds i (.int .i64 v) = (nums (xs.set i v) ++ rest).toArray := by
  simp [nums, List.map_set, h]

set_option maxRecDepth 100000 in
set_option maxHeartbeats 2000000 in
theorem reverse_any (g n c : Nat) (xs : List Int) (rest : List Value) (w : World) (hk : Blk w g 2 (nums xs ++ rest).toArray) (hn : n = xs.length) (hl : n ≤ 1099511627776) :
    Calls Try.prog 92 #[.slice (some ⟨g, 0, none⟩) n c] w fun e w' => (∃ v, e = .returned v) ∧ Blk w' g 2 (nums xs.reverse ++ rest).toArray ∧ w.grownBy w' (some g) := by
  have HN := Lib.hid hn
  have HK : Hid (Blk w g 2 (nums (rvL xs 0) ++ rest).toArray) := Lib.hid (by rw [rvL_zero]; exact hk)
  clear hk hn
  have e1 : IntKind.i64.wrap ((n : Int) - 1) = (n : Int) - 1 := IntWalk.i64_in _ (by omega)
  go_enter Try.func92, Try.ntmps92
  go_wp2
  go_loopw [2, 3] (fun a b wr => ∃ k : Nat, k ≤ n ∧ a = .int .i64 k ∧ b = .int .i64 ((n : Int) - 1 - k) ∧ Hid (Blk wr g 2 (nums (rvL xs k) ++ rest).toArray) ∧ Hid (w.grownBy wr (some g))) (fun a b _ => (intOf b + 1).toNat)
  case atStart => exact ⟨0, Nat.zero_le _, rfl, by simp, HK, Lib.hid (World.grownBy.refl _ _)⟩
  case round =>
    clear e1 HK
    obtain ⟨k, hk, rfl, rfl, HK, HG⟩ := hrel
    by_cases hlt : (k : Int) < (n : Int) - 1 - k
    · have hj : n - 1 - k < n := by omega
      obtain ⟨j, hj2⟩ : ∃ j, n - 1 - k = j := ⟨_, rfl⟩
      have hjj : (n : Int) - 1 - k = j := by omega
      rw [hjj] at hlt ⊢
      have hkx : k < xs.length := by have := HN.out; omega
      have hjx : j < xs.length := by have := HN.out; omega
      have ST := Lib.hid (rvL_step (xs := xs) (k := k) (by have := HN.out; omega))
      rw [show xs.length - 1 - k = j by have := HN.out; omega] at ST
      have RL := Lib.hid (rvL_len xs k)
      obtain ⟨ys, hys⟩ : ∃ ys, rvL xs k = ys := ⟨_, rfl⟩
      rw [hys] at HK ST RL
      have hky : k < ys.length := by have := RL.out; omega
      have hjy : j < ys.length := by have := RL.out; omega
      have c1 := (HK.out.cell k).trans (nums_at ys rest hky)
      have c2 := (HK.out.cell j).trans (nums_at ys rest hjy)
      have f1 := HK.out.frozen k
      have f2 := HK.out.frozen j
      have n1 : k ≠ j := by omega
      obtain ⟨u, hu⟩ : ∃ u, atI ys k = u := ⟨_, rfl⟩
      obtain ⟨v, hv⟩ : ∃ v, atI ys j = v := ⟨_, rfl⟩
      rw [hu] at c1 ST
      rw [hv] at c2 ST
      have q1 : (k : Int) < (n : Int) := by omega
      have q2 : (j : Int) < (n : Int) := by omega
      have e2 : IntKind.i64.wrap ((j : Int) - 1) = (j : Int) - 1 := IntWalk.i64_in _ (by omega)
      have e3 : IntKind.i64.wrap ((k : Int) + 1) = (k : Int) + 1 := IntWalk.i64_in _ (by omega)
      clear hys hu hv
      go_wp2_with fail
      go_region
      have HK2 : Hid (Blk (((wr.setCell ⟨g, k, none⟩ (.int .i64 v)).setCell ⟨g, j, none⟩ (.int .i64 u)).drew) g 2 (nums (rvL xs (k + 1)) ++ rest).toArray) := Lib.hid (by
        have h := (((HK.out.set_ k (.int .i64 v)).set_ j (.int .i64 u)).cast (by rw [nums_set ys rest v hky, nums_set _ rest u (by rw [List.length_set]; exact hjy), ST.out])).drew
        exact h)
      have HG2 : Hid (w.grownBy (((wr.setCell ⟨g, k, none⟩ (.int .i64 v)).setCell ⟨g, j, none⟩ (.int .i64 u)).drew) (some g)) := Lib.hid (grown_drew (grown_setCell (grown_setCell HG.out k _) j _))
      clear c1 c2 f1 f2 HK HG
      go_wp2
      go_roundw
      case rel => exact ⟨k + 1, by omega, by first | rfl | go_num, by congr 1; omega, HK2, HG2⟩
      case measure => simp [intOf] <;> omega
    · go_wp2
      go_end0
      refine ⟨⟨_, rfl⟩, ?_, HG.out⟩
      have h := HK.out
      rw [rvL_end (by have := HN.out; omega)] at h
      simpa [nums] using h
end Go.Proofs.Ytjdnpgilinfkgaa
