/-
  The iterator of neighbours, forth and back.
-/
import Derived.Test.YtilihdkfflfniaaWords
import Derived.Test.YtilihdkfflfniaaL1
import Derived.Test.YtilihdkfflfniaaOr
import Derived.Test.YtilihdkfflfniaaLi
import Derived.RangeFuncNested
import Derived.RangeFuncLeaves
import Derived.RangeFuncBound
import Derived.RangeFuncCalls
import Derived.Shelf.Abstract
import Derived.Shelf.RegionOpen
import Derived.OwnWalkIn
import Derived.TacticsInMore
import Derived.LoopNIn
import Derived.LoopIn
namespace Go.Proofs.Ytilihdkfflfniaa
open Go.RowKit Go.Shelf
attribute [local go_sem] Oper.semAt_some

/-- All pairs of neighbours of n indexes: each with the next one, then from the last one each with the one before it. -/
def prs (n : Nat) : List (Nat × Nat) := ((List.range (n - 1)).map fun i => (i, i + 1)) ++ ((List.range (n - 1)).map fun i => (n - 1 - i, n - 2 - i))
theorem prs_len (n : Nat) : (prs n).length = (n - 1) + (n - 1) := by simp [prs]
theorem prs_one {n j : Nat} (h : j < n - 1) : (prs n)[j]'(by rw [prs_len]; omega) = (j, j + 1) := by
  simp only [prs]
  rw [List.getElem_append_left (by simpa using h)]; simp
theorem prs_two {n j : Nat} (h : j < n - 1) : (prs n)[n - 1 + j]'(by rw [prs_len]; omega) = (n - 1 - j, n - 2 - j) := by
  simp only [prs]
  rw [List.getElem_append_right (by simp)]; simp
theorem prs_mem {n : Nat} {p : Nat × Nat} (h : p ∈ prs n) : p.1 < n ∧ p.2 < n := by
  simp only [prs, List.mem_append, List.mem_map, List.mem_range] at h
  rcases h with ⟨i, hi, rfl⟩ | ⟨i, hi, rfl⟩
  · exact ⟨by show i < n; omega, by show i + 1 < n; omega⟩
  · exact ⟨by show n - 1 - i < n; omega, by show n - 2 - i < n; omega⟩
abbrev encU (x : Nat × Nat) : Array Value := #[.int .i64 x.1, .int .i64 x.2]

set_option maxHeartbeats 400000 in
theorem forthAndBack_any (n : Nat) (w : World) :
    Calls Try.prog 67 #[.int .i64 n] w fun e w' => e = .returned (.func (.func 87) #[] #[.pointer (some ⟨w.heap.size, 0, none⟩)]) ∧ w.alloc (.cells #[.int .i64 n] 3) = w' := by
  go_enter Try.func67, Try.ntmps67
  go_wp2
  go_ret
  exact ⟨rfl, rfl⟩

set_option maxRecDepth 100000 in
set_option maxHeartbeats 2000000 in
theorem forth1_all (m bl n : Nat) (gg : Nat → Prop) (W0 : World) (hm : 1 ≤ m) (hb : Blk W0 bl 3 #[.int .i64 n]) (hg : ¬ gg bl) (hl : n ≤ 1099511627776) :
    SeqAll Fence.wide m Try.prog 87 #[.pointer (some ⟨bl, 0, none⟩)] encU gg (prs n) W0 := fun l J W hW hJ hY h0 => by
  have hc : W.cell? ⟨bl, 0, none⟩ = some (.int .i64 n) := (hW.cell (p := ⟨bl, 0, none⟩) hb.lt).trans hb.one.1
  refine callsIn_of_wp Try.func87 rfl trivial ?_ rfl
  simp only [Try.ntmps87, List.size_toArray, List.length_cons, List.length_nil, Nat.reduceAdd, Nat.reduceSub, Array.replicate_succ, Array.replicate_zero, List.push_toArray, List.append_toArray, List.nil_append, List.cons_append]
  have e1 : IntKind.i64.wrap ((n : Int) - 1) = (n : Int) - 1 := IntWalk.i64_in _ (by omega)
  gi_wp2
  gi_loopw [7] (fun z wr => ∃ j : Nat, j ≤ n - 1 ∧ z = .int .i64 j ∧ Hid (J ((prs n).take j) wr) ∧ Hid (Bel gg W wr)) (fun z _ => n - (intOf z).toNat)
  case atStart => exact ⟨0, Nat.zero_le _, rfl, Lib.hid h0, Lib.hid (Bel.refl _ _)⟩
  case round =>
    obtain ⟨j, hj, rfl, HJ, HX⟩ := hrel
    by_cases hlt : j < n - 1
    · have hlt' : (j : Int) < (n : Int) - 1 := by omega
      have hpre : (prs n).take j ++ [(j, j + 1)] = (prs n).take (j + 1) := by
        rw [List.take_succ_eq_append_getElem (by rw [prs_len]; omega), prs_one hlt]
      obtain ⟨fn, tmps, assign, body, hy, hR⟩ := hY _ (j, j + 1) wr HJ.out (by rw [hpre]; exact List.take_prefix _ _)
      rw [hpre] at hR
      dsimp only [encU] at hy
      have e2 : IntKind.i64.wrap ((j : Int) + 1) = (j : Int) + 1 := IntWalk.i64_in _ (by omega)
      have e3 : ((j + 1 : Nat) : Int) = (j : Int) + 1 := by omega
      rw [e3] at hy
      clear hpre e3
      gi_wp2
      refine hR.mono ?_
      rintro e W3 ⟨rfl, hJ3, hk3, hk4⟩
      gi_wp2
      go_roundw
      case rel => exact ⟨j + 1, by omega, by simp, Lib.hid hJ3, Lib.hid (HX.out.trans hk3)⟩
      case measure => simp [intOf]; omega
    · have hlt' : ¬ (j : Int) < (n : Int) - 1 := by omega
      have HJE : Hid (j = n - 1) := Lib.hid (by omega)
      have hc2 : wr.cell? ⟨bl, 0, none⟩ = some (.int .i64 n) := HX.out.cell hc hg
      clear hc
      have HC2 := Lib.hid hc2
      gi_wp2
      have HC0 : Hid (W.cell? ⟨bl, 0, none⟩ = some (.int .i64 n)) := Lib.hid ((hW.cell (p := ⟨bl, 0, none⟩) hb.lt).trans hb.one.1)
      clear hc2
      gi_loopw [4] (fun z wr => ∃ q : Nat, q ≤ n - 1 ∧ z = .int .i64 ((n : Int) - 1 - q) ∧ Hid (J ((prs n).take (n - 1 + q)) wr) ∧ Hid (Bel gg W wr)) (fun z _ => (intOf z + 1).toNat)
      case atStart => exact ⟨0, Nat.zero_le _, by simp, Lib.hid (by rw [Nat.add_zero, ← HJE.out]; exact HJ.out), HX⟩
      case round =>
        clear HJ HX
        obtain ⟨q, hq, rfl, HJ, HX⟩ := hrel
        have e5 : IntKind.i64.wrap ((n : Int) - 1 - q - 1) = (n : Int) - 1 - q - 1 := IntWalk.i64_in _ (by omega)
        by_cases hlq : q < n - 1
        · have hlq' : 0 < (n : Int) - 1 - q := by omega
          have hpre : (prs n).take (n - 1 + q) ++ [(n - 1 - q, n - 2 - q)] = (prs n).take (n - 1 + (q + 1)) := by
            rw [← Nat.add_assoc, List.take_succ_eq_append_getElem (by rw [prs_len]; omega), prs_two hlq]
          obtain ⟨fn, tmps, assign, body, hy, hR⟩ := hY _ (n - 1 - q, n - 2 - q) wr HJ.out (by rw [hpre]; exact List.take_prefix _ _)
          rw [hpre] at hR
          dsimp only [encU] at hy
          have e3 : ((n - 1 - q : Nat) : Int) = (n : Int) - 1 - q := by omega
          have e4 : ((n - 2 - q : Nat) : Int) = (n : Int) - 1 - q - 1 := by omega
          rw [e3, e4] at hy
          clear hpre e3 e4
          gi_wp2
          refine hR.mono ?_
          rintro e W3 ⟨rfl, hJ3, hk3, hk4⟩
          gi_wp2
          go_roundw
          case rel => exact ⟨q + 1, by omega, by congr 1; omega, Lib.hid hJ3, Lib.hid (HX.out.trans hk3)⟩
          case measure => simp [intOf]; omega
        · have hlq' : ¬ 0 < (n : Int) - 1 - q := by omega
          have HJF : Hid (J (prs n) wr) := Lib.hid (by
            have h := HJ.out
            rw [List.take_of_length_le (by rw [prs_len]; omega)] at h
            exact h)
          gi_wp2
          go_end0
          exact ⟨⟨_, rfl⟩, HJF.out⟩
end Go.Proofs.Ytilihdkfflfniaa
