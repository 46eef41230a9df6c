/-
  Stampers in turn: the checks of both sides, copies of lists, the mounts as a list.
-/
import Derived.Test.YtomncopeekegoaaIE
import Derived.Test.YtomncopeekegoaaLt
import Derived.Test.YtomncopeekegoaaI7
import Derived.Lib.SliceRun
namespace Go.Proofs.Ytomncopeekegoaa
open Go.RowKit

def ckSt (a b : List Int) : Int := if 64 < a.length ∨ 64 < b.length then 6 else orL [ckLv a, ckLv b]
set_option maxRecDepth 100000 in
set_option maxHeartbeats 4000000 in
theorem checkSets_any (B : Nat) (A A' : Option Addr) (n c n' c' : Nat) (a b : List Int) (w : World) (h0 : LI w B A n a) (h1 : LI w B A' n' b) (hB : B ≤ w.heap.size) (hn : n ≤ 9223372036854775807) (hn' : n' ≤ 9223372036854775807) :
    Calls Try.prog 62 #[.slice A n c, .slice A' n' c'] w fun e w' => e = .returned (.int .i64 (ckSt a b)) ∧ Below w.heap.size w w' := by
  have H := Lib.hid (h0.more hB)
  have H' := Lib.hid (h1.more hB)
  have e0 : n = a.length := h0.1
  have e1 : n' = b.length := h1.1
  have HR : Hid (ckSt a b = if 64 < n ∨ 64 < n' then 6 else orL [ckLv a, ckLv b]) := Lib.hid (by unfold ckSt; rw [← e0, ← e1])
  clear h0 h1 hB e0 e1
  by_cases c1 : 64 < n
  · have g1 : (64 : Int) < (n : Int) := by omega
    go_enter Try.func62, Try.ntmps62
    go_wp2
    go_ret
    exact ⟨ret_i (by rw [HR.out, if_pos (.inl c1)]), Below.refl _ _⟩
  by_cases c2 : 64 < n'
  · have g1 : ¬ (64 : Int) < (n : Int) := by omega
    have g2 : (64 : Int) < (n' : Int) := by omega
    go_enter Try.func62, Try.ntmps62
    go_wp2
    go_ret
    exact ⟨ret_i (by rw [HR.out, if_pos (.inr c2)]), Below.refl _ _⟩
  have g1 : ¬ (64 : Int) < (n : Int) := by omega
  have g2 : ¬ (64 : Int) < (n' : Int) := by omega
  go_enter Try.func62, Try.ntmps62
  go_wp2_with fail
  refine (checkLives_any _ A n c a w H.out hn).mono ?_
  rintro e w' ⟨rfl, rfl⟩
  go_wp2_with fail
  refine (checkLives_any _ A' n' c' b w H'.out hn').mono ?_
  rintro e w' ⟨rfl, rfl⟩
  go_wp2_with fail
  refine (cmpOr_any (w.heap.size + 1) _ 2 2 [ckLv a, ckLv b] _ rfl (reads_cells (Blk.new _ _ _) (by omega) rfl rfl) (by simp) (by omega)).mono ?_
  rintro e w' ⟨rfl, rfl⟩
  go_wp2
  go_ret
  exact ⟨ret_i (by rw [HR.out, if_neg (by omega)]), below_a _ _⟩

set_option maxRecDepth 100000 in
set_option maxHeartbeats 4000000 in
/-- A copy of a list. -/
theorem Clone_any (B : Nat) (A : Option Addr) (n c : Nat) (l : List Int) (w : World) (h0 : LI w B A n l) (hB : B ≤ w.heap.size) (hn : n ≤ 1000000) :
    Calls Try.prog 66 #[.slice A n c] w fun e w' => ∃ v, e = .returned v ∧ w'.ownsRow w.heap.size 2 1 v n (nums l) ∧ Below w.heap.size w w' := by
  cases A with
  | none =>
    have hn0 : n = 0 := by
      rcases Nat.eq_zero_or_pos n with h | h
      · exact h
      · obtain ⟨ad, e, _⟩ := h0.2.2 h; cases e
    subst hn0
    have hl : l = [] := List.eq_nil_of_length_eq_zero h0.1.symm
    subst hl
    have q := fun W : World => Lib.run_eql_slice_nil (P := Try.prog) W 37 2 none 0 c 0 0 Try.underlying37
    simp only [Option.isNone_none] at q
    go_enter Try.func66, Try.ntmps66
    go_wp2
    go_ret
    exact ⟨_, rfl, World.ownsRow_nil _ _ _ _, Below.refl _ _⟩
  | some ad =>
    have H := Lib.hid (h0.more hB)
    obtain ⟨i0, hi0, hz0, hz1, hz2⟩ := info_parts info_i64
    have HI0 := Lib.hid hi0
    have HZ0 := Lib.hid hz0
    have HZ1 := Lib.hid hz1
    have HZ2 := Lib.hid hz2
    clear hi0 hz0 hz1 hz2 h0 hB
    have q := fun W : World => Lib.run_eql_slice_nil (P := Try.prog) W 37 2 (some ad) n c 0 0 Try.underlying37
    simp only [Option.isNone_some] at q
    go_enter Try.func66, Try.ntmps66
    go_wp2_with (at_builtin; refine wpList_append_any _ rfl (.tmp 5) (.tmp 6) _ rfl w.heap.size 2 i0 _ 1 8 Try.underlying37 HI0.out HZ0.out HZ1.out HZ2.out rfl (by omega) _ 0 [] rfl (own_lit w _ w.heap.size 0 1 #[] (Nat.le_refl _) rfl (by simp [maxLen])) w.heap.size (some ad) n c (nums l) rfl (H.out.below (below_a _ _) (Nat.le_refl _)).2 (by intro x hx; simp only [nums, List.mem_map] at hx; obtain ⟨y, -, rfl⟩ := hx; rfl) (by simp only [maxLen]; omega) (by omega) (by simp) ?_)
    intro v' w4 hown hgrow hblk
    have HO := Lib.hid hown
    have HB := Lib.hid ((below_a w (.cells #[] 2)).grown hgrow (by simp) (fun g hg => by simp [Value.ownBlock] at hg; omega))
    clear hown hgrow hblk
    go_wp2
    go_ret
    exact ⟨_, rfl, by have := HO.out; simpa using this, HB.out⟩
end Go.Proofs.Ytomncopeekegoaa
