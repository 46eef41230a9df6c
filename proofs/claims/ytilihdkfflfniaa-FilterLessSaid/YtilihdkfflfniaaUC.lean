/-
  What a sample needs: amount, need, needs of package filter.
-/
import Derived.Test.YtilihdkfflfniaaUB
import Derived.Test.YtilihdkfflfniaaU8
import Derived.Deep.QuietTactic
import Derived.BigQuiet
namespace Go.Proofs.Ytilihdkfflfniaa
open Go.RowKit

set_option maxHeartbeats 400000 in
theorem famount_any (x : Int) (w : World) (h1 : -9223372036854775807 ≤ x) (h2 : x ≤ 9223372036854775807) :
    Calls Try.prog 88 #[.int .i64 x] w fun e w' => e = .returned (.int .i64 (am x)) ∧ w = w' := by
  have e0 : IntKind.i64.wrap (-x) = -x := IntWalk.i64_in _ (by omega)
  go_enter Try.func88, Try.ntmps88
  go_wp2
  all_goals
    go_ret
    exact ⟨ret_i (by unfold am; omega), rfl⟩
theorem famount_b {x a : Int} {W : World} (h : am x = a) (h1 : -9223372036854775807 ≤ x) (h2 : x ≤ 9223372036854775807) :
    Calls Try.prog 88 #[.int .i64 x] W fun e w' => e = .returned (.int .i64 a) ∧ w' = W :=
  (famount_any x W h1 h2).mono fun e w' ⟨he, hw⟩ => ⟨by rw [he, h], hw.symm⟩
/-- How loud a sample is. -/
def loud (s : Smp) : Int := max (am s.1) (am s.2)
/-- What a sample needs. -/
def need1 (s : Smp) (ce : Int) : Int := if loud s ≤ ce then 256 else (256 * (ce + 1) - 1) / loud s
theorem am_bd {x : Int} {m : Int} (h : -m ≤ x ∧ x ≤ m) : 0 ≤ am x ∧ am x ≤ m := by unfold am; omega
theorem loud_bd {s : Smp} (h : vs s.1 s.2 = true) : 0 ≤ loud s ∧ loud s ≤ 32767 := by
  have h1 : (-32767 ≤ s.1 ∧ s.1 ≤ 32767) ∧ -32767 ≤ s.2 ∧ s.2 ≤ 32767 := by simpa [vs, win] using h
  have a := am_bd h1.1
  have b := am_bd h1.2
  unfold loud; omega
theorem need1_bd {s : Smp} {ce : Int} (h : vs s.1 s.2 = true) (hc : 1 ≤ ce) : 0 ≤ need1 s ce ∧ need1 s ce ≤ 256 := by
  have hl := loud_bd h
  unfold need1
  split
  · omega
  · rename_i h2
    refine ⟨Int.ediv_nonneg (by omega) hl.1, ?_⟩
    exact Int.ediv_le_of_le_mul (by omega) (by omega)

set_option maxRecDepth 100000 in
set_option maxHeartbeats 1000000 in
theorem need_any (s : Smp) (ce : Int) (w : World) (hs : vs s.1 s.2 = true) (h1 : 1 ≤ ce) (h2 : ce ≤ 32767) :
    Calls Try.prog 71 #[.agg #[.int .i64 s.1, .int .i64 s.2], .int .i64 ce] w fun e w' => e = .returned (.int .i64 (need1 s ce)) ∧ Below w.heap.size w w' := by
  have hl := loud_bd hs
  have hv : (-32767 ≤ s.1 ∧ s.1 ≤ 32767) ∧ -32767 ≤ s.2 ∧ s.2 ≤ 32767 := by simpa [vs, win] using hs
  obtain ⟨⟨v1, v2⟩, v3, v4⟩ := hv
  have HD : Hid (need1 s ce = if loud s ≤ ce then 256 else (256 * (ce + 1) - 1) / loud s) := Lib.hid rfl
  have HL : Hid (loud s = max (am s.1) (am s.2)) := Lib.hid rfl
  obtain ⟨lo, hlo⟩ : ∃ l, loud s = l := ⟨_, rfl⟩
  rw [hlo] at HD HL hl
  have a1 := am_bd ⟨v1, v2⟩
  have a2 := am_bd ⟨v3, v4⟩
  obtain ⟨x, hx⟩ : ∃ l, am s.1 = l := ⟨_, rfl⟩
  obtain ⟨y, hy⟩ : ∃ l, am s.2 = l := ⟨_, rfl⟩
  have HX := Lib.hid hx
  have HY := Lib.hid hy
  rw [hx] at a1 HL
  rw [hy] at a2 HL
  clear hlo hx hy hs
  have AX := Lib.hid (fun (W : World) => famount_b (W := W) HX.out (by omega) (by omega))
  have AY := Lib.hid (fun (W : World) => famount_b (W := W) HY.out (by omega) (by omega))
  have hm : (if y < x then x else y) = lo := by rw [HL.out]; omega
  have hm2 : (if x < y then y else x) = lo := by rw [HL.out]; omega
  go_enter Try.func71, Try.ntmps71
  go_wp2_with fail
  go_quiet (first | (go_at_call 88; with_reducible exact Calls.quiet_of_same (AX.out _)) | (go_at_call 88; with_reducible exact Calls.quiet_of_same (AY.out _)))
  by_cases hlc : lo ≤ ce
  · have hfin := HD.out
    rw [if_pos hlc] at hfin
    have HF := Lib.hid hfin
    clear hfin
    go_wp2
    go_ret
    exact ⟨ret_i HF.out.symm, below_drewN_ ((Below.refl _ _).alloc (Nat.le_refl _) _) _⟩
  · have hfin := HD.out
    rw [if_neg hlc] at hfin
    have HF := Lib.hid hfin
    clear hfin
    have hl3 : 0 < lo := by omega
    have hl4 : ¬ lo = 0 := by omega
    go_wp2
    go_ret
    exact ⟨ret_i HF.out.symm, below_drewN_ ((Below.refl _ _).alloc (Nat.le_refl _) _) _⟩

/-- What a call leaves that returns a list of numbers alone. -/
def RowPost (w : World) (R : List Int) (e : Ending) (w' : World) : Prop := ∃ v, e = .returned v ∧ w'.ownsRow w.heap.size 2 1 v R.length (nums R) ∧ Below w.heap.size w w'
theorem vss_at {xs : List Smp} (h : vss xs = true) {k : Nat} (hk : k < xs.length) : vs xs[k].1 xs[k].2 = true := by
  unfold vss at h
  rw [List.all_eq_true] at h
  exact h _ (List.getElem_mem hk)
theorem nums_snoc (l : List Int) (x : Int) : nums (l ++ [x]) = nums l ++ [.int .i64 x] := by simp [nums]

set_option maxRecDepth 100000 in
set_option maxHeartbeats 1000000 in
theorem needs_any (B : Nat) (A : Option Addr) (n c : Nat) (xs : List Smp) (ce : Int) (w : World) (h0 : RS w B A n xs) (hB : B ≤ w.heap.size) (hn4 : n ≤ 4096) (hv : vss xs = true) (h1 : 1 ≤ ce) (h2 : ce ≤ 32767) :
    Calls Try.prog 66 #[.slice A n c, .int .i64 ce] w (RowPost w (xs.map (need1 · ce))) := by
  have HN := Lib.hid h0.1
  have H := Lib.hid (h0.more hB)
  have HV := Lib.hid hv
  clear h0 hB hv
  obtain ⟨i0, hi0, hz0, hz1, hz2⟩ := info_parts info_i64
  have hmk := fun W => run_make_rowN (P := Try.prog) 22 2 i0 _ Try.underlying22 hi0 hz0 .i64 .i64 0 n (Nat.zero_le _) (by rw [hz2]; omega) (by omega) W
  have HI0 := Lib.hid hi0
  have HZ0 := Lib.hid hz0
  have HZ1 := Lib.hid hz1
  have HZ2 := Lib.hid hz2
  rw [hz1] at hmk
  simp only [Int.natCast_zero] at hmk
  clear hi0 hz0 hz1 hz2
  go_enter Try.func66, Try.ntmps66
  go_wp2_with fail
  have hown : (w.alloc (.cells (madeCells #[.int .i64 0] n) 2)).ownsRow w.heap.size 2 1 (.slice (some ⟨w.heap.size, 0, none⟩) 0 n) 0 [] :=
    World.ownsRow_made (base := w.heap.size) (e := 2) (size := 1) w (madeCells (Value.int IntKind.i64 0).cells n) n (Nat.le_refl _) (by unfold maxLen; omega) (by rw [size_madeCells, Nat.mul_one])
  obtain ⟨W, hW⟩ : ∃ W, w.alloc (.cells (madeCells #[.int .i64 0] n) 2) = W := ⟨_, rfl⟩
  have hbw : Below w.heap.size w W := by rw [← hW]; exact (Below.refl _ _).alloc (Nat.le_refl _) _
  rw [hW] at hown ⊢
  have HO := Lib.hid hown
  have HB := Lib.hid hbw
  clear hown hmk hW hbw
  go_wp2_with fail
  go_loopw [5, 13] (fun v z wr => ∃ (j : Nat) (sv : Value), j ≤ n ∧ z = .int .i64 j ∧ sv = v ∧ Hid (wr.ownsRow w.heap.size 2 1 sv j (nums ((xs.take j).map (need1 · ce)))) ∧ Hid (Below w.heap.size w wr)) (fun _ z wr => n - (intOf z).toNat)
  case atStart => exact ⟨0, _, Nat.zero_le _, rfl, rfl, HO, HB⟩
  case round =>
    clear HO HB
    obtain ⟨j, sv, hj, rfl, rfl, HO, HB⟩ := hrel
    by_cases hlt : j < n
    · have hjx : j < xs.length := by have := HN.out; omega
      obtain ⟨ad, hA, hbl, y1, y2⟩ := (H.out.below HB.out (Nat.le_refl _)).at_ (k := j) hjx
      obtain rfl := hA
      have hvj := vss_at HV.out hjx
      have HSN : Hid (nums ((xs.take (j + 1)).map (need1 · ce)) = nums ((xs.take j).map (need1 · ce)) ++ [.int .i64 (need1 xs[j] ce)]) := Lib.hid (by rw [List.take_succ_eq_append_getElem hjx, List.map_append, List.map_singleton, nums_snoc])
      obtain ⟨x, hx⟩ : ∃ x, xs[j] = x := ⟨_, rfl⟩
      rw [hx] at y1 y2 hvj HSN
      clear hx
      have HVJ := Lib.hid hvj
      clear hvj
      go_wp2_with fail
      obtain ⟨W, hW⟩ : ∃ W, wr.alloc (.cells #[.int .i64 x.1, .int .i64 x.2] 57) = W := ⟨_, rfl⟩
      have hbw : Below wr.heap.size wr W := by rw [← hW]; exact (Below.refl _ _).alloc (Nat.le_refl _) _
      have HO : Hid (W.ownsRow w.heap.size 2 1 sv j (nums ((xs.take j).map (need1 · ce)))) := Lib.hid (own_below HO.out hbw)
      have HB : Hid (Below w.heap.size w W) := Lib.hid (HB.out.trans (hbw.mono HB.out.size))
      rw [hW]
      clear hW hbw y1 y2
      refine (need_any x ce _ HVJ.out h1 h2).mono ?_
      rintro e w2 ⟨rfl, hb2⟩
      have HO : Hid (w2.ownsRow w.heap.size 2 1 sv j (nums ((xs.take j).map (need1 · ce)))) := Lib.hid (own_below HO.out hb2)
      have HB : Hid (Below w.heap.size w w2) := Lib.hid (HB.out.trans (hb2.mono HB.out.size))
      have hsz := HB.out.size
      clear hb2
      go_wp2_with (at_builtin; refine wpList_append_own _ rfl (.tmp 17) (.tmp 21) _ rfl w.heap.size 2 i0 _ 1 8 Try.underlying22 HI0.out HZ0.out HZ1.out HZ2.out rfl (by omega) _ j _ rfl (HO.out.alloc _) ⟨w2.heap.size, 0, none⟩ 1 1 [.int .i64 (need1 x ce)] rfl rfl (nine_new _ _ _) ?c1 ?c2 ?c3 ?c4 ?_)
      case c1 => intro x hx; simp at hx; subst hx; rfl
      case c2 => simp only [maxLen]; omega
      case c3 => omega
      case c4 => first | omega | (simp; omega)
      intro v' w4 hown' hgrow _
      have HBN : Hid (Below w.heap.size w w4) := Lib.hid ((HB.out.alloc hsz _).grown hgrow (by simp; omega) fun j hj => (HO.out.lt j hj).1)
      have HON : Hid (w4.ownsRow w.heap.size 2 1 v' (j + 1) (nums ((xs.take (j + 1)).map (need1 · ce)))) := Lib.hid (by rw [HSN.out]; simpa [nums, List.map_take] using hown')
      clear hown' hgrow HO HB
      go_wp2
      go_roundw
      case rel => exact ⟨j + 1, v', by omega, by go_num, rfl, HON, HBN⟩
      case measure => simp [intOf]; omega
    · obtain rfl : j = n := by omega
      go_wp2
      go_ret
      refine ⟨_, rfl, ?_, HB.out⟩
      have h := HO.out
      rw [List.take_of_length_le (by have := HN.out; omega)] at h
      rw [List.length_map, ← HN.out]
      exact h
end Go.Proofs.Ytilihdkfflfniaa
