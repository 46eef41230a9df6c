/-
  Contracts of the document's Long, IsName and take.
-/
import Derived.Test.YtbcahkklhdnboaaB3
namespace Go.Proofs.Ytbcahkklhdnboaa
open Go.RowKit

set_option maxHeartbeats 400000 in
theorem refLong_any (p : Prt) (w : World) (h1 : -1000000 ≤ p.fr) (h2 : p.fr ≤ 1000000) (h3 : -1000000 ≤ p.to) (h4 : p.to ≤ 1000000) :
    Calls Try.prog 51 #[.agg #[.int .i64 p.tk, .int .i64 p.fr, .int .i64 p.to, .int .i64 p.gp, .int .i64 p.fi, .int .i64 p.fo, .int .i64 p.lv]] w
      fun e w' => e = .returned (.int .i64 (p.to - p.fr)) ∧ Below w.heap.size w w' := by
  go_enter Try.func51, Try.ntmps51
  go_wp2
  go_ret
  exact ⟨ret_i rfl, (Below.refl _ _).alloc (Nat.le_refl _) _⟩

set_option maxRecDepth 100000 in
set_option maxHeartbeats 2000000 in
theorem refIsName_any (s : ByteArray) (w : World) (hs : s.size ≤ 9223372036854775807) :
    Calls Try.prog 70 #[.string s] w fun e w' => e = .returned (.bool (vName s)) ∧ w = w' := by
  by_cases h1 : 0 < s.size
  · by_cases h2 : s.size ≤ 20
    · have h0 : ¬ (s.size : Int) < 1 := by omega
      have h3 : ¬ (20 : Int) < (s.size : Int) := by omega
      go_enter Try.func70, Try.ntmps70
      go_wp2
      go_loop [3] (fun i => ∃ k : Nat, k ≤ s.size ∧ i = .int .i64 k ∧ Hid ((s.data.toList.take k).all okc = true)) (fun i => s.size - (intOf i).toNat)
      case atStart => exact ⟨0, Nat.zero_le _, rfl, Lib.hid rfl⟩
      case round =>
        obtain ⟨k, hk, rfl, hv⟩ := hrel
        by_cases hlt : k < s.size
        · by_cases c1 : 97 ≤ (s[k].toNat : Int) <;> by_cases c2 : (s[k].toNat : Int) ≤ 122 <;> by_cases c3 : 48 ≤ (s[k].toNat : Int) <;> by_cases c4 : (s[k].toNat : Int) ≤ 57 <;> first | omega | skip
          all_goals
            go_wp2
            first
            | (go_round
               case rel => exact ⟨k + 1, by omega, by go_num, Lib.hid (by rw [all_take s k hlt, hv.out]; simp [okc]; omega)⟩
               case measure => simp [intOf]; omega)
            | (go_ret
               exact ⟨ret_b (by simp only [vName]; rw [all_false s k hlt (by simp [okc]; omega)]; simp), rfl⟩)
        · go_wp2
          go_ret
          have hv' := hv.out
          rw [List.take_of_length_le (by simp; omega)] at hv'
          exact ⟨ret_b (by simp only [vName]; rw [hv']; simp; omega), rfl⟩
    · have h0 : ¬ (s.size : Int) < 1 := by omega
      have h3 : (20 : Int) < (s.size : Int) := by omega
      go_enter Try.func70, Try.ntmps70
      go_wp2
      go_ret
      exact ⟨ret_b (by simp [vName, h2]), rfl⟩
  · have h0 : (s.size : Int) < 1 := by omega
    go_enter Try.func70, Try.ntmps70
    go_wp2
    go_ret
    exact ⟨ret_b (by simp [vName, h1]), rfl⟩

/-- The error of a take. -/
def rTake (t : TV) : Int := if 4096 < t.n then 6 else if vTake t = true then 0 else 2

set_option maxRecDepth 100000 in
set_option maxHeartbeats 2000000 in
theorem refTake_any (t : TV) (B : Nat) (w : World) (h0 : RS w B t.A t.n t.xs) (hB : B ≤ w.heap.size) (hn : t.n ≤ 9223372036854775807) (hs : t.nm.size ≤ 9223372036854775807) (hi : I64s t.xs) :
    Calls Try.prog 42 #[.agg #[.string t.nm, .slice t.A t.n t.c]] w fun e w' => e = .returned (.int .i64 (rTake t)) ∧ Below w.heap.size w w' := by
  have H := Lib.hid (h0.more hB)
  have HI := Lib.hid hi
  have HX : Hid (t.n = t.xs.length) := Lib.hid h0.1
  clear h0 hB hi
  by_cases v3 : 4096 < t.n
  · have HR : Hid (rTake t = 6) := Lib.hid (by unfold rTake; rw [if_pos v3])
    go_enter Try.func42, Try.ntmps42
    go_wp2
    go_ret
    exact ⟨ret_i HR.out.symm, (Below.refl _ _).alloc (Nat.le_refl _) _⟩
  · cases v1 : vName t.nm
    · have HR : Hid (rTake t = 2) := Lib.hid (by unfold rTake vTake; rw [if_neg v3, v1]; rfl)
      have V1 := Lib.hid v1
      clear v1
      go_enter Try.func42, Try.ntmps42
      go_wp2_with ((with_reducible refine (refIsName_any _ _ hs).mono ?_); rintro e w1 ⟨rfl, rfl⟩; rw [V1.out])
      go_ret
      exact ⟨ret_i HR.out.symm, (Below.refl _ _).alloc (Nat.le_refl _) _⟩
    · by_cases v2 : 0 < t.n
      · have HR : Hid (rTake t = ckS t.xs) := Lib.hid (by
          have hx := HX.out
          rw [rTake, if_neg v3, ckS, if_neg (show ¬ 4096 < t.xs.length from by omega), vTake, v1, show decide (0 < t.n) = true from by simpa using v2, show decide (t.n ≤ 4096) = true from by simp; omega]
          simp)
        have V1 := Lib.hid v1
        have z0 : ((t.n : Int) == 0) = false := beq_eq_false_iff_ne.2 (by omega)
        clear v1
        go_enter Try.func42, Try.ntmps42
        go_wp2_with fail
        refine (refIsName_any _ _ hs).mono ?_
        rintro e w1 ⟨rfl, rfl⟩
        rw [V1.out]
        go_wp2_with fail
        refine (refCheckSamples_any _ _ _ _ t.xs _ (H.out.below ((Below.refl _ _).alloc (Nat.le_refl _) _) (Nat.le_refl _)) (by simp) hn HI.out).mono ?_
        rintro e w2 ⟨rfl, hb2⟩
        go_wp2
        go_ret
        exact ⟨ret_i HR.out.symm, ((Below.refl _ _).alloc (Nat.le_refl _) _).trans (hb2.mono (by simp))⟩
      · have HR : Hid (rTake t = 2) := Lib.hid (by unfold rTake vTake; rw [if_neg v3, show decide (0 < t.n) = false from by simpa using v2]; simp)
        have V1 := Lib.hid v1
        have z0 : ((t.n : Int) == 0) = true := beq_iff_eq.2 (by omega)
        clear v1
        go_enter Try.func42, Try.ntmps42
        go_wp2_with ((with_reducible refine (refIsName_any _ _ hs).mono ?_); rintro e w1 ⟨rfl, rfl⟩; rw [V1.out])
        go_ret
        exact ⟨ret_i HR.out.symm, (Below.refl _ _).alloc (Nat.le_refl _) _⟩
end Go.Proofs.Ytbcahkklhdnboaa
