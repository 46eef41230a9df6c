/-
  What a sample needs: amount, need, needs of package filter.
-/
import Derived.Test.YtjaomjbhkgijbaaMg25
import Derived.Test.YtjaomjbhkgijbaaMg24
import Derived.Deep.QuietTactic
import Derived.BigQuiet
import Derived.Test.YtjaomjbhkgijbaaMg1
import Derived.Test.YtjaomjbhkgijbaaMg7
import Derived.Test.YtjaomjbhkgijbaaMg11
import Derived.RangeFuncNested
import Derived.RangeFuncLeaves
import Derived.RangeFuncBound
import Derived.RangeFuncCalls
import Derived.Shelf.Abstract
import Derived.Shelf.RegionOpen
import Derived.OwnWalkIn
import Derived.TacticsInMore
import Derived.LoopNIn
import Derived.LoopIn
import Derived.StillTailTactics
import Derived.OrdersIn
import Derived.RegionTactic

namespace Go.Proofs.Ytjaomjbhkgijbaa
open Go.RowKit

set_option maxHeartbeats 400000 in
theorem famount_any (x : Int) (w : World) (h1 : -9223372036854775807 ≤ x) (h2 : x ≤ 9223372036854775807) :
    Calls Try.prog 162 #[.int .i64 x] w fun e w' => e = .returned (.int .i64 (am x)) ∧ w = w' := by
  have e0 : IntKind.i64.wrap (-x) = -x := IntWalk.i64_in _ (by omega)
  go_enter Try.func162, Try.ntmps162
  go_wp2
  all_goals
    go_ret
    exact ⟨ret_i (by unfold am; omega), rfl⟩
theorem famount_b {x a : Int} {W : World} (h : am x = a) (h1 : -9223372036854775807 ≤ x) (h2 : x ≤ 9223372036854775807) :
    Calls Try.prog 162 #[.int .i64 x] W fun e w' => e = .returned (.int .i64 a) ∧ w' = W :=
  (famount_any x W h1 h2).mono fun e w' ⟨he, hw⟩ => ⟨by rw [he, h], hw.symm⟩
/-- How loud a sample is. -/
def loud (s : Smp) : Int := max (am s.1) (am s.2)
/-- What a sample needs. -/
def need1 (s : Smp) (ce : Int) : Int := if loud s ≤ ce then 256 else (256 * (ce + 1) - 1) / loud s
theorem am_bd {x : Int} {m : Int} (h : -m ≤ x ∧ x ≤ m) : 0 ≤ am x ∧ am x ≤ m := by unfold am; omega
theorem loud_bd {s : Smp} (h : vs s.1 s.2 = true) : 0 ≤ loud s ∧ loud s ≤ 32767 := by
  have h1 : (-32767 ≤ s.1 ∧ s.1 ≤ 32767) ∧ -32767 ≤ s.2 ∧ s.2 ≤ 32767 := by simpa [vs, win] using h
  have a := am_bd h1.1
  have b := am_bd h1.2
  unfold loud; omega
theorem need1_bd {s : Smp} {ce : Int} (h : vs s.1 s.2 = true) (hc : 1 ≤ ce) : 0 ≤ need1 s ce ∧ need1 s ce ≤ 256 := by
  have hl := loud_bd h
  unfold need1
  split
  · omega
  · rename_i h2
    refine ⟨Int.ediv_nonneg (by omega) hl.1, ?_⟩
    exact Int.ediv_le_of_le_mul (by omega) (by omega)

set_option maxRecDepth 100000 in
set_option maxHeartbeats 1000000 in
theorem need_any (s : Smp) (ce : Int) (w : World) (hs : vs s.1 s.2 = true) (h1 : 1 ≤ ce) (h2 : ce ≤ 32767) :
    Calls Try.prog 186 #[.agg #[.int .i64 s.1, .int .i64 s.2], .int .i64 ce] w fun e w' => e = .returned (.int .i64 (need1 s ce)) ∧ Below w.heap.size w w' := by
  have hl := loud_bd hs
  have hv : (-32767 ≤ s.1 ∧ s.1 ≤ 32767) ∧ -32767 ≤ s.2 ∧ s.2 ≤ 32767 := by simpa [vs, win] using hs
  obtain ⟨⟨v1, v2⟩, v3, v4⟩ := hv
  have HD : Hid (need1 s ce = if loud s ≤ ce then 256 else (256 * (ce + 1) - 1) / loud s) := Lib.hid rfl
  have HL : Hid (loud s = max (am s.1) (am s.2)) := Lib.hid rfl
  obtain ⟨lo, hlo⟩ : ∃ l, loud s = l := ⟨_, rfl⟩
  rw [hlo] at HD HL hl
  have a1 := am_bd ⟨v1, v2⟩
  have a2 := am_bd ⟨v3, v4⟩
  obtain ⟨x, hx⟩ : ∃ l, am s.1 = l := ⟨_, rfl⟩
  obtain ⟨y, hy⟩ : ∃ l, am s.2 = l := ⟨_, rfl⟩
  have HX := Lib.hid hx
  have HY := Lib.hid hy
  rw [hx] at a1 HL
  rw [hy] at a2 HL
  clear hlo hx hy hs
  have AX := Lib.hid (fun (W : World) => famount_b (W := W) HX.out (by omega) (by omega))
  have AY := Lib.hid (fun (W : World) => famount_b (W := W) HY.out (by omega) (by omega))
  have hm : (if y < x then x else y) = lo := by rw [HL.out]; omega
  have hm2 : (if x < y then y else x) = lo := by rw [HL.out]; omega
  go_enter Try.func186, Try.ntmps186
  go_wp2_with fail
  go_quiet (first | (go_at_call 162; with_reducible exact Calls.quiet_of_same (AX.out _)) | (go_at_call 162; with_reducible exact Calls.quiet_of_same (AY.out _)))
  by_cases hlc : lo ≤ ce
  · have hfin := HD.out
    rw [if_pos hlc] at hfin
    have HF := Lib.hid hfin
    clear hfin
    go_wp2
    go_ret
    exact ⟨ret_i HF.out.symm, below_drewN_ ((Below.refl _ _).alloc (Nat.le_refl _) _) _⟩
  · have hfin := HD.out
    rw [if_neg hlc] at hfin
    have HF := Lib.hid hfin
    clear hfin
    have hl3 : 0 < lo := by omega
    have hl4 : ¬ lo = 0 := by omega
    go_wp2
    go_ret
    exact ⟨ret_i HF.out.symm, below_drewN_ ((Below.refl _ _).alloc (Nat.le_refl _) _) _⟩

/-- What a call leaves that returns a list of numbers alone. -/
def RowPost (w : World) (R : List Int) (e : Ending) (w' : World) : Prop := ∃ v, e = .returned v ∧ w'.ownsRow w.heap.size 2 1 v R.length (nums R) ∧ Below w.heap.size w w'
theorem vss_at {xs : List Smp} (h : vss xs = true) {k : Nat} (hk : k < xs.length) : vs xs[k].1 xs[k].2 = true := by
  unfold vss at h
  rw [List.all_eq_true] at h
  exact h _ (List.getElem_mem hk)
theorem nums_snoc (l : List Int) (x : Int) : nums (l ++ [x]) = nums l ++ [.int .i64 x] := by simp [nums]

set_option maxRecDepth 100000 in
set_option maxHeartbeats 1000000 in
theorem needs_any (B : Nat) (A : Option Addr) (n c : Nat) (xs : List Smp) (ce : Int) (w : World) (h0 : RS w B A n xs) (hB : B ≤ w.heap.size) (hn4 : n ≤ 4096) (hv : vss xs = true) (h1 : 1 ≤ ce) (h2 : ce ≤ 32767) :
    Calls Try.prog 158 #[.slice A n c, .int .i64 ce] w (RowPost w (xs.map (need1 · ce))) := by
  have HN := Lib.hid h0.1
  have H := Lib.hid (h0.more hB)
  have HV := Lib.hid hv
  clear h0 hB hv
  obtain ⟨i0, hi0, hz0, hz1, hz2⟩ := info_parts info_i64
  have hmk := fun W => run_make_rowN (P := Try.prog) 41 2 i0 _ Try.underlying41 hi0 hz0 .i64 .i64 0 n (Nat.zero_le _) (by rw [hz2]; omega) (by omega) W
  have HI0 := Lib.hid hi0
  have HZ0 := Lib.hid hz0
  have HZ1 := Lib.hid hz1
  have HZ2 := Lib.hid hz2
  rw [hz1] at hmk
  simp only [Int.natCast_zero] at hmk
  clear hi0 hz0 hz1 hz2
  go_enter Try.func158, Try.ntmps158
  go_wp2_with fail
  have hown : (w.alloc (.cells (madeCells #[.int .i64 0] n) 2)).ownsRow w.heap.size 2 1 (.slice (some ⟨w.heap.size, 0, none⟩) 0 n) 0 [] :=
    World.ownsRow_made (base := w.heap.size) (e := 2) (size := 1) w (madeCells (Value.int IntKind.i64 0).cells n) n (Nat.le_refl _) (by unfold maxLen; omega) (by rw [size_madeCells, Nat.mul_one])
  obtain ⟨W, hW⟩ : ∃ W, w.alloc (.cells (madeCells #[.int .i64 0] n) 2) = W := ⟨_, rfl⟩
  have hbw : Below w.heap.size w W := by rw [← hW]; exact (Below.refl _ _).alloc (Nat.le_refl _) _
  rw [hW] at hown ⊢
  have HO := Lib.hid hown
  have HB := Lib.hid hbw
  clear hown hmk hW hbw
  go_wp2_with fail
  go_loopw [5, 13] (fun v z wr => ∃ (j : Nat) (sv : Value), j ≤ n ∧ z = .int .i64 j ∧ sv = v ∧ Hid (wr.ownsRow w.heap.size 2 1 sv j (nums ((xs.take j).map (need1 · ce)))) ∧ Hid (Below w.heap.size w wr)) (fun _ z wr => n - (intOf z).toNat)
  case atStart => exact ⟨0, _, Nat.zero_le _, rfl, rfl, HO, HB⟩
  case round =>
    clear HO HB
    obtain ⟨j, sv, hj, rfl, rfl, HO, HB⟩ := hrel
    by_cases hlt : j < n
    · have hjx : j < xs.length := by have := HN.out; omega
      obtain ⟨ad, hA, hbl, y1, y2⟩ := (H.out.below HB.out (Nat.le_refl _)).at_ (k := j) hjx
      obtain rfl := hA
      have hvj := vss_at HV.out hjx
      have HSN : Hid (nums ((xs.take (j + 1)).map (need1 · ce)) = nums ((xs.take j).map (need1 · ce)) ++ [.int .i64 (need1 xs[j] ce)]) := Lib.hid (by rw [List.take_succ_eq_append_getElem hjx, List.map_append, List.map_singleton, nums_snoc])
      obtain ⟨x, hx⟩ : ∃ x, xs[j] = x := ⟨_, rfl⟩
      rw [hx] at y1 y2 hvj HSN
      clear hx
      have HVJ := Lib.hid hvj
      clear hvj
      go_wp2_with fail
      obtain ⟨W, hW⟩ : ∃ W, wr.alloc (.cells #[.int .i64 x.1, .int .i64 x.2] 75) = W := ⟨_, rfl⟩
      have hbw : Below wr.heap.size wr W := by rw [← hW]; exact (Below.refl _ _).alloc (Nat.le_refl _) _
      have HO : Hid (W.ownsRow w.heap.size 2 1 sv j (nums ((xs.take j).map (need1 · ce)))) := Lib.hid (own_below HO.out hbw)
      have HB : Hid (Below w.heap.size w W) := Lib.hid (HB.out.trans (hbw.mono HB.out.size))
      rw [hW]
      clear hW hbw y1 y2
      refine (need_any x ce _ HVJ.out h1 h2).mono ?_
      rintro e w2 ⟨rfl, hb2⟩
      have HO : Hid (w2.ownsRow w.heap.size 2 1 sv j (nums ((xs.take j).map (need1 · ce)))) := Lib.hid (own_below HO.out hb2)
      have HB : Hid (Below w.heap.size w w2) := Lib.hid (HB.out.trans (hb2.mono HB.out.size))
      have hsz := HB.out.size
      clear hb2
      go_wp2_with (at_builtin; refine wpList_append_own _ rfl (.tmp 17) (.tmp 21) _ rfl w.heap.size 2 i0 _ 1 8 Try.underlying41 HI0.out HZ0.out HZ1.out HZ2.out rfl (by omega) _ j _ rfl (HO.out.alloc _) ⟨w2.heap.size, 0, none⟩ 1 1 [.int .i64 (need1 x ce)] rfl rfl (nine_new _ _ _) ?c1 ?c2 ?c3 ?c4 ?_)
      case c1 => intro x hx; simp at hx; subst hx; rfl
      case c2 => simp only [maxLen]; omega
      case c3 => omega
      case c4 => first | omega | (simp; omega)
      intro v' w4 hown' hgrow _
      have HBN : Hid (Below w.heap.size w w4) := Lib.hid ((HB.out.alloc hsz _).grown hgrow (by simp; omega) fun j hj => (HO.out.lt j hj).1)
      have HON : Hid (w4.ownsRow w.heap.size 2 1 v' (j + 1) (nums ((xs.take (j + 1)).map (need1 · ce)))) := Lib.hid (by rw [HSN.out]; simpa [nums, List.map_take] using hown')
      clear hown' hgrow HO HB
      go_wp2
      go_roundw
      case rel => exact ⟨j + 1, v', by omega, by go_num, rfl, HON, HBN⟩
      case measure => simp [intOf]; omega
    · obtain rfl : j = n := by omega
      go_wp2
      go_ret
      refine ⟨_, rfl, ?_, HB.out⟩
      have h := HO.out
      rw [List.take_of_length_le (by have := HN.out; omega)] at h
      rw [List.length_map, ← HN.out]
      exact h
end Go.Proofs.Ytjaomjbhkgijbaa

/-
  The iterator of neighbours, forth and back.
-/
namespace Go.Proofs.Ytjaomjbhkgijbaa
open Go.RowKit Go.Shelf
attribute [local go_sem] Oper.semAt_some

/-- All pairs of neighbours of n indexes: each with the next one, then from the last one each with the one before it. -/
def prs (n : Nat) : List (Nat × Nat) := ((List.range (n - 1)).map fun i => (i, i + 1)) ++ ((List.range (n - 1)).map fun i => (n - 1 - i, n - 2 - i))
theorem prs_len (n : Nat) : (prs n).length = (n - 1) + (n - 1) := by simp [prs]
theorem prs_one {n j : Nat} (h : j < n - 1) : (prs n)[j]'(by rw [prs_len]; omega) = (j, j + 1) := by
  simp only [prs]
  rw [List.getElem_append_left (by simpa using h)]; simp
theorem prs_two {n j : Nat} (h : j < n - 1) : (prs n)[n - 1 + j]'(by rw [prs_len]; omega) = (n - 1 - j, n - 2 - j) := by
  simp only [prs]
  rw [List.getElem_append_right (by simp)]; simp
theorem prs_mem {n : Nat} {p : Nat × Nat} (h : p ∈ prs n) : p.1 < n ∧ p.2 < n := by
  simp only [prs, List.mem_append, List.mem_map, List.mem_range] at h
  rcases h with ⟨i, hi, rfl⟩ | ⟨i, hi, rfl⟩
  · exact ⟨by show i < n; omega, by show i + 1 < n; omega⟩
  · exact ⟨by show n - 1 - i < n; omega, by show n - 2 - i < n; omega⟩
abbrev encU (x : Nat × Nat) : Array Value := #[.int .i64 x.1, .int .i64 x.2]

set_option maxHeartbeats 400000 in
theorem forthAndBack_any (n : Nat) (w : World) :
    Calls Try.prog 159 #[.int .i64 n] w fun e w' => e = .returned (.func (.func 187) #[] #[.pointer (some ⟨w.heap.size, 0, none⟩)]) ∧ w.alloc (.cells #[.int .i64 n] 3) = w' := by
  go_enter Try.func159, Try.ntmps159
  go_wp2
  go_ret
  exact ⟨rfl, rfl⟩

set_option maxRecDepth 100000 in
set_option maxHeartbeats 2000000 in
theorem forth1_all (m bl n : Nat) (gg : Nat → Prop) (W0 : World) (hm : 1 ≤ m) (hb : Blk W0 bl 3 #[.int .i64 n]) (hg : ¬ gg bl) (hl : n ≤ 1099511627776) :
    SeqAll Fence.wide m Try.prog 187 #[.pointer (some ⟨bl, 0, none⟩)] encU gg (prs n) W0 := fun l J W hW hJ hY h0 => by
  have hc : W.cell? ⟨bl, 0, none⟩ = some (.int .i64 n) := (hW.cell (p := ⟨bl, 0, none⟩) hb.lt).trans hb.one.1
  refine callsIn_of_wp Try.func187 rfl trivial ?_ rfl
  simp only [Try.ntmps187, List.size_toArray, List.length_cons, List.length_nil, Nat.reduceAdd, Nat.reduceSub, Array.replicate_succ, Array.replicate_zero, List.push_toArray, List.append_toArray, List.nil_append, List.cons_append]
  have e1 : IntKind.i64.wrap ((n : Int) - 1) = (n : Int) - 1 := IntWalk.i64_in _ (by omega)
  gi_wp2
  gi_loopw [7] (fun z wr => ∃ j : Nat, j ≤ n - 1 ∧ z = .int .i64 j ∧ Hid (J ((prs n).take j) wr) ∧ Hid (Bel gg W wr)) (fun z _ => n - (intOf z).toNat)
  case atStart => exact ⟨0, Nat.zero_le _, rfl, Lib.hid h0, Lib.hid (Bel.refl _ _)⟩
  case round =>
    obtain ⟨j, hj, rfl, HJ, HX⟩ := hrel
    by_cases hlt : j < n - 1
    · have hlt' : (j : Int) < (n : Int) - 1 := by omega
      have hpre : (prs n).take j ++ [(j, j + 1)] = (prs n).take (j + 1) := by
        rw [List.take_succ_eq_append_getElem (by rw [prs_len]; omega), prs_one hlt]
      obtain ⟨fn, tmps, assign, body, hy, hR⟩ := hY _ (j, j + 1) wr HJ.out (by rw [hpre]; exact List.take_prefix _ _)
      rw [hpre] at hR
      dsimp only [encU] at hy
      have e2 : IntKind.i64.wrap ((j : Int) + 1) = (j : Int) + 1 := IntWalk.i64_in _ (by omega)
      have e3 : ((j + 1 : Nat) : Int) = (j : Int) + 1 := by omega
      rw [e3] at hy
      clear hpre e3
      gi_wp2
      refine hR.mono ?_
      rintro e W3 ⟨rfl, hJ3, hk3, hk4⟩
      gi_wp2
      go_roundw
      case rel => exact ⟨j + 1, by omega, by simp, Lib.hid hJ3, Lib.hid (HX.out.trans hk3)⟩
      case measure => simp [intOf]; omega
    · have hlt' : ¬ (j : Int) < (n : Int) - 1 := by omega
      have HJE : Hid (j = n - 1) := Lib.hid (by omega)
      have hc2 : wr.cell? ⟨bl, 0, none⟩ = some (.int .i64 n) := HX.out.cell hc hg
      clear hc
      have HC2 := Lib.hid hc2
      gi_wp2
      have HC0 : Hid (W.cell? ⟨bl, 0, none⟩ = some (.int .i64 n)) := Lib.hid ((hW.cell (p := ⟨bl, 0, none⟩) hb.lt).trans hb.one.1)
      clear hc2
      gi_loopw [4] (fun z wr => ∃ q : Nat, q ≤ n - 1 ∧ z = .int .i64 ((n : Int) - 1 - q) ∧ Hid (J ((prs n).take (n - 1 + q)) wr) ∧ Hid (Bel gg W wr)) (fun z _ => (intOf z + 1).toNat)
      case atStart => exact ⟨0, Nat.zero_le _, by simp, Lib.hid (by rw [Nat.add_zero, ← HJE.out]; exact HJ.out), HX⟩
      case round =>
        clear HJ HX
        obtain ⟨q, hq, rfl, HJ, HX⟩ := hrel
        have e5 : IntKind.i64.wrap ((n : Int) - 1 - q - 1) = (n : Int) - 1 - q - 1 := IntWalk.i64_in _ (by omega)
        by_cases hlq : q < n - 1
        · have hlq' : 0 < (n : Int) - 1 - q := by omega
          have hpre : (prs n).take (n - 1 + q) ++ [(n - 1 - q, n - 2 - q)] = (prs n).take (n - 1 + (q + 1)) := by
            rw [← Nat.add_assoc, List.take_succ_eq_append_getElem (by rw [prs_len]; omega), prs_two hlq]
          obtain ⟨fn, tmps, assign, body, hy, hR⟩ := hY _ (n - 1 - q, n - 2 - q) wr HJ.out (by rw [hpre]; exact List.take_prefix _ _)
          rw [hpre] at hR
          dsimp only [encU] at hy
          have e3 : ((n - 1 - q : Nat) : Int) = (n : Int) - 1 - q := by omega
          have e4 : ((n - 2 - q : Nat) : Int) = (n : Int) - 1 - q - 1 := by omega
          rw [e3, e4] at hy
          clear hpre e3 e4
          gi_wp2
          refine hR.mono ?_
          rintro e W3 ⟨rfl, hJ3, hk3, hk4⟩
          gi_wp2
          go_roundw
          case rel => exact ⟨q + 1, by omega, by congr 1; omega, Lib.hid hJ3, Lib.hid (HX.out.trans hk3)⟩
          case measure => simp [intOf]; omega
        · have hlq' : ¬ 0 < (n : Int) - 1 - q := by omega
          have HJF : Hid (J (prs n) wr) := Lib.hid (by
            have h := HJ.out
            rw [List.take_of_length_le (by rw [prs_len]; omega)] at h
            exact h)
          gi_wp2
          go_end0
          exact ⟨⟨_, rfl⟩, HJF.out⟩
end Go.Proofs.Ytjaomjbhkgijbaa

/-
  A region that draws its order, in a round of a range over a function: what holds of it outside a round holds in one, if it defers nothing.
-/
namespace Go
open Go.RowKit

theorem rowsIn_wide_ {n : Nat} {P : Program} {row : String} {args : Array Value} {w : World} {R : Value → World → Prop} (h : Rows P row args w R) : RowsIn Fence.wide n P row args w R :=
  fun c cs _ => let ⟨v, w', r, s⟩ := h c cs; ⟨v, w', r, stepsIn_wide.2 s⟩

theorem Oper.wpIn_round {P : Program} {o : Oper} {a : Act} {w : World} {K : Act → World → Prop} {Q : Exit → Act → World → Prop} {L n : Nat} (hd : ∀ c, o.op ≠ .defer c) (h : o.wp P a w K Q) : o.wpIn (Fence.wide.inRound L) n P a w K Q := by
  unfold Oper.wp at h
  unfold Oper.wpIn
  refine ⟨fun _ _ => trivial, ?_⟩
  rw [Oper.semAt_eq _ _ _ hd]
  generalize (execOp a.eval o).run P w = r at h ⊢
  cases r with
  | ok x w' =>
    cases x <;> simp only [Oper.upon, Oper.uponIn] at h ⊢
    case value => exact h
    case skip => exact h
    case defer => exact h
    case enter f args => exact ⟨(fun e => by cases e), (callsIn_wide.2 h : CallsIn Fence.wide (n - 1) P f args w' _)⟩
    case row row args => exact ⟨(fun e => by cases e), (rowsIn_wide_ h : RowsIn Fence.wide (n - 1) P row args w' _)⟩
  | halt x w' => cases x <;> simp only [Oper.upon, Oper.uponIn] at h ⊢; exact h

theorem wpAnyIn_round {P : Program} {md : Region.Mode} {ops : Array Oper} {Q : Exit → Act → World → Prop} {L n : Nat} (hd : ∀ o ∈ ops.toList, ∀ c, o.op ≠ .defer c) (hQ : ¬ LetsOut Q) :
    ∀ (fuel : Nat) (listed : Array Bool) (a : Act) (w : World), wpAny P md ops Q fuel listed a w → wpAnyIn (Fence.wide.inRound L) n P md ops Q fuel listed a w
  | 0, _, _, _, h => h
  | fuel + 1, listed, a, w, h => by
    refine ⟨h.1, fun i hi => ?_⟩
    have h2 := h.2 i hi
    unfold wpOp at h2
    unfold wpOpIn
    split
    · rename_i e; simp only [e] at h2; exact wpAnyIn_round hd hQ fuel _ _ _ h2
    · rename_i o e
      simp only [e] at h2
      split
      · rename_i hw
        simp only [hw, if_true] at h2
        rcases h2 with h2 | ⟨_, h2⟩
        · exact Oper.wpIn_mono (fun a' w' h' => wpAnyIn_round hd hQ fuel _ a' w' h') (Oper.wpIn_round (hd o (by
            have := Array.mem_of_getElem? e
            simpa using this)) h2)
        · exact absurd h2 hQ
      · rename_i hw
        simp only [hw] at h2
        exact ⟨fun _ _ => trivial, wpAnyIn_round hd hQ fuel _ _ _ h2⟩

/-- A region in a round: the walk of any order, as outside. -/
theorem wpIn_region_round {P : Program} {id L n : Nat} {l : List Oper} {Q : Exit → Act → World → Prop} {a : Act} {w : World} (hm : P.follows .mixedOrders = true) (hd : ∀ o ∈ l, ∀ c, o.op ≠ .defer c) (hQ : ¬ LetsOut Q)
    (h : wpAny P .any l.toArray Q l.toArray.size (Array.replicate l.toArray.size false) a w.drew) : (Code.region id l.toArray true).wpIn (Fence.wide.inRound L) n P Q a w :=
  wpIn_region_any hm (wpAnyIn_round (by simpa using hd) hQ _ _ _ _ h)

theorem wpAny_still_tail {P : Program} {Q : Exit → Act → World → Prop} {a : Act} {w : World} {l : List Oper} (n : Nat) (hB : Region.lexTailB .any l.toArray n = true)
    (h : wpStill P l.toArray w (fun a' => wpList P l.toArray Q (l.drop n) a' w) (l.take n) a) : wpAny P .any l.toArray Q l.toArray.size (Array.replicate l.toArray.size false) a w := by
  simp only [Region.lexTailB, Bool.and_eq_true, decide_eq_true_eq] at hB
  obtain ⟨⟨⟨⟨hsel, hn⟩, hs⟩, hc⟩, hlex⟩ := hB
  have hn' : n < l.length := by simpa using hn
  have htl : (l.take n).length = n := by simp; omega
  have hdl : (l.drop n).length = l.toArray.size - n := by simp
  have inv0 : HeadInv .any l.toArray n (Array.replicate l.toArray.size false) :=
    ⟨by simp, fun j oj _ hl => (by rw [getD_replicate_false] at hl; cases hl), fun t _ ht => getD_in (by simpa using ht) (getD_replicate_false _ _)⟩
  have H := wpAnyL_lex (md := .any) (g := l.toArray.size - n) hsel hs hc hn (l.take n) 0 _ a (fun j hj => by
    have hj' : j < n := by rw [htl] at hj; exact hj
    simp [hj']) (by simpa using htl) inv0 (by rw [htl]; exact hlex) h
  have := wpAny_of_head (Q' := Q) (g := l.toArray.size - n) (fun listed a' hL => by
    have := wpAny_of_seq (md := .any) (Q' := Q) (l.drop n) n listed a' w (fun j => by simp [List.getElem?_drop]) (by rw [hdl]; exact hL.1) hL.2
    rwa [hdl] at this) _ _ _ H
  rw [htl, show n + (l.toArray.size - n) = l.toArray.size by omega] at this
  exact this

/-- Reads and quiet calls, then a forced tail: in a round. -/
theorem wpIn_region_still_tail_round {P : Program} {id L m : Nat} {l : List Oper} {Q : Exit → Act → World → Prop} {a : Act} {w : World} (n : Nat) (hm : P.follows .mixedOrders = true) (hd : ∀ o ∈ l, ∀ c, o.op ≠ .defer c) (hQ : ¬ LetsOut Q) (hB : Region.lexTailB .any l.toArray n = true)
    (h : wpStill P l.toArray w.drew (fun a' => wpList P l.toArray Q (l.drop n) a' w.drew) (l.take n) a) : (Code.region id l.toArray true).wpIn (Fence.wide.inRound L) m P Q a w :=
  wpIn_region_round hm hd hQ (wpAny_still_tail n hB h)
end Go

