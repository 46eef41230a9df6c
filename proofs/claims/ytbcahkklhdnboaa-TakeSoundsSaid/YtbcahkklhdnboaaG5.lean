/-
  Contract of the law's great.
-/
import Derived.Test.YtbcahkklhdnboaaB1
import Derived.Deep.QuietTactic
import Derived.BigQuiet
namespace Go.Proofs.Ytbcahkklhdnboaa
open Go.RowKit

/-- It returns some truth value, and only makes memory. -/
def SomeB (w : World) (e : Ending) (w' : World) : Prop := ∃ b : Bool, e = .returned (.bool b) ∧ Below w.heap.size w w'

set_option maxRecDepth 100000 in
set_option maxHeartbeats 4000000 in
theorem great_any (B : Nat) (A A' : Option Addr) (n c n' c' : Nat) (l : List TV) (w : World) (h0 : RT w B A n l) (hB : B ≤ w.heap.size) (hl : n ≤ 9223372036854775807) (hl' : n' ≤ 9223372036854775807) (hs : TSm l) :
    Calls Try.prog 12 #[.slice A n c, .slice A' n' c'] w (SomeB w) := by
  have H := Lib.hid (h0.more hB)
  have HN : Hid (n = l.length) := Lib.hid h0.1
  have HS := Lib.hid hs
  clear hB hs h0
  by_cases g1 : 20 < n
  · have g1' : (20 : Int) < (n : Int) := by omega
    go_enter Try.func12, Try.ntmps12
    go_wp2
    go_ret
    exact ⟨_, rfl, Below.refl _ _⟩
  have g1' : decide ((20 : Int) < (n : Int)) = false := by simp; omega
  by_cases g2 : 8 < n' ∧ n' ≤ 32
  · have g2' : (8 : Int) < (n' : Int) := by omega
    have g3' : (n' : Int) ≤ 32 := by omega
    go_enter Try.func12, Try.ntmps12
    go_wp2
    go_ret
    exact ⟨_, rfl, Below.refl _ _⟩
  by_cases g4 : 40 < n'
  · have g2' : (8 : Int) < (n' : Int) := by omega
    have g3' : decide ((n' : Int) ≤ 32) = false := by simp; omega
    have g4' : (40 : Int) < (n' : Int) := by omega
    go_enter Try.func12, Try.ntmps12
    go_wp2
    go_ret
    exact ⟨_, rfl, Below.refl _ _⟩
  have g4' : decide ((40 : Int) < (n' : Int)) = false := by simp; omega
  by_cases g5 : 8 < n'
  all_goals
    first
    | (have g2' : (8 : Int) < (n' : Int) := by omega
       have g3' : decide ((n' : Int) ≤ 32) = false := by simp; omega)
    | have g2' : decide ((8 : Int) < (n' : Int)) = false := by simp; omega
    go_enter Try.func12, Try.ntmps12
    go_wp2
    go_loopw [5] (fun i wr => ∃ k : Nat, k ≤ n ∧ i = .int .i64 k ∧ Below w.heap.size w wr) (fun i wr => n - (intOf i).toNat)
    case atStart => exact ⟨0, Nat.zero_le _, rfl, Below.refl _ _⟩
    case round =>
      obtain ⟨k, hk, rfl, hb⟩ := hrel
      by_cases hlt : k < n
      · have hkl : k < l.length := by have := HN.out; omega
        obtain ⟨ad, hA, hbl, h1, h2, h3⟩ := (H.out.below hb (Nat.le_refl _)).at_ hkl
        obtain rfl := hA
        clear h3
        obtain ⟨z1, z2⟩ := HS.out _ (List.getElem_mem hkl)
        obtain ⟨t, ht⟩ : ∃ t, l[k]'hkl = t := ⟨_, rfl⟩
        rw [ht] at h1 h2 z1 z2
        clear ht
        by_cases d1 : 100 < t.nm.size
        · have d1' : (100 : Int) < (t.nm.size : Int) := by omega
          go_wp2
          go_ret
          exact ⟨_, rfl, hb⟩
        have d1' : decide ((100 : Int) < (t.nm.size : Int)) = false := by simp; omega
        by_cases d2 : 300 < t.n ∧ t.n ≤ 4096
        · have d2' : (300 : Int) < (t.n : Int) := by omega
          have d3' : (t.n : Int) ≤ 4096 := by omega
          go_wp2
          go_ret
          exact ⟨_, rfl, hb⟩
        by_cases d4 : 4100 < t.n
        · have d2' : (300 : Int) < (t.n : Int) := by omega
          have d3' : decide ((t.n : Int) ≤ 4096) = false := by simp; omega
          have d4' : (4100 : Int) < (t.n : Int) := by omega
          go_wp2
          go_ret
          exact ⟨_, rfl, hb⟩
        have d4' : decide ((4100 : Int) < (t.n : Int)) = false := by simp; omega
        by_cases d5 : 300 < t.n
        all_goals
          first
          | (have d2' : (300 : Int) < (t.n : Int) := by omega
             have d3' : decide ((t.n : Int) ≤ 4096) = false := by simp; omega)
          | have d2' : decide ((300 : Int) < (t.n : Int)) = false := by simp; omega
          go_wp2
          go_roundw
          case rel => exact ⟨k + 1, by omega, by go_num, hb⟩
          case measure => simp [intOf]; omega
      · go_wp2
        go_ret
        exact ⟨_, rfl, hb⟩
end Go.Proofs.Ytbcahkklhdnboaa
