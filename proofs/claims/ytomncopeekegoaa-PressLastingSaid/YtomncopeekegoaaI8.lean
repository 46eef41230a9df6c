/-
  Spots; the contracts of checkSpots and of the document's spot; mathematics of centres.
-/
import Derived.Test.YtomncopeekegoaaI2
import Derived.LoopN
namespace Go.Proofs.Ytomncopeekegoaa
open Go.RowKit

/-- Whether a spot is possible. -/
def spW (s : Smp) : Bool := win s.1 (-262144) 262144 && win s.2 (-262144) 262144
def ckSp (l : List Smp) : Int := if l.all spW = true then 0 else 3
theorem all_take_succ {l : List Smp} {k : Nat} (h : k < l.length) : (l.take (k + 1)).all spW = ((l.take k).all spW && spW l[k]) := by
  rw [List.take_succ_eq_append_getElem h, List.all_append]; simp
set_option maxHeartbeats 400000 in
theorem spot_any (x y : Int) (w : World) :
    Calls Try.prog 69 #[.agg #[.int .i64 x, .int .i64 y]] w fun e w' => e = .returned (.bool (spW (x, y))) ∧ Below w.heap.size w w' := by
  cases h1 : win x (-262144) 262144 <;> cases h2 : win y (-262144) 262144
  all_goals
    have H1 := Lib.hid h1
    have H2 := Lib.hid h2
    clear h1 h2
    go_enter Try.func69, Try.ntmps69
    go_wp2_with ((with_reducible refine (within_any _ _ _ _).mono ?_); rintro e w' ⟨rfl, rfl⟩; (try rw [H1.out]); (try rw [H2.out]))
    go_ret
    exact ⟨by simp [spW, H1.out, H2.out], below_a _ _⟩

set_option maxRecDepth 100000 in
set_option maxHeartbeats 4000000 in
theorem checkSpots_any (B : Nat) (A : Option Addr) (n c : Nat) (l : List Smp) (w : World) (h0 : RS w B A n l) (hB : B ≤ w.heap.size) (hn : n ≤ 1099511627776) :
    Calls Try.prog 67 #[.slice A n c] w fun e w' => e = .returned (.int .i64 (ckSp l)) ∧ Below w.heap.size w w' := by
  have H := Lib.hid (h0.more hB)
  have HN := Lib.hid h0.1
  obtain ⟨r, hr⟩ : ∃ r, ckSp l = r := ⟨_, rfl⟩
  rw [hr]
  have HR := Lib.hid hr
  clear h0 hr
  go_enter Try.func67, Try.ntmps67
  go_wp2
  go_loopw [7] (fun z wr => ∃ k : Nat, k ≤ n ∧ z = .int .i64 k ∧ Hid ((l.take k).all spW = true) ∧ Hid (Below w.heap.size w wr)) (fun z _ => n - (intOf z).toNat)
  case atStart => exact ⟨0, Nat.zero_le _, rfl, Lib.hid rfl, Lib.hid (Below.refl _ _)⟩
  case round =>
    obtain ⟨k, hk, rfl, HV, HB⟩ := hrel
    by_cases hlt : k < n
    · have hkl : k < l.length := by have := HN.out; omega
      obtain ⟨ad, hA, hbl, c1, c2⟩ := (H.out.below HB.out (Nat.le_refl _)).at_ hkl
      have HT := Lib.hid (all_take_succ hkl)
      have HALL : Hid (spW l[k] = false → r = 3) := Lib.hid (fun h => by
        rw [← HR.out]; unfold ckSp; rw [if_neg]; intro h2
        have := List.all_eq_true.1 h2 _ (List.getElem_mem hkl); rw [h] at this; cases this)
      obtain ⟨⟨x, y⟩, hs⟩ : ∃ s, l[k] = s := ⟨_, rfl⟩
      rw [hs] at c1 c2 HT HALL
      dsimp only at c1 c2
      obtain rfl := hA
      have g1 : (k : Int) < (n : Int) := by omega
      have e2 : IntKind.i64.wrap ((k : Int) + 1) = (k : Int) + 1 := IntWalk.i64_in _ (by omega)
      clear hs hbl
      cases h1 : win x (-262144) 262144
      · have H1 := Lib.hid h1
        have HE := Lib.hid (HALL.out (by simp [spW, h1]))
        clear h1
        go_wp2_with ((with_reducible refine (between64_any _ _ _ _).mono ?_); rintro e w' ⟨rfl, rfl⟩; rw [H1.out])
        go_ret
        exact ⟨ret_i HE.out.symm, HB.out.alloc HB.out.size _⟩
      · cases h2 : win y (-262144) 262144
        · have H1 := Lib.hid h1
          have H2 := Lib.hid h2
          have HE := Lib.hid (HALL.out (by simp [spW, h1, h2]))
          clear h1 h2
          go_wp2_with ((with_reducible refine (between64_any _ _ _ _).mono ?_); rintro e w' ⟨rfl, rfl⟩; first | rw [H1.out] | rw [H2.out])
          go_ret
          exact ⟨ret_i HE.out.symm, HB.out.alloc HB.out.size _⟩
        · have H1 := Lib.hid h1
          have H2 := Lib.hid h2
          have HVN : Hid ((l.take (k + 1)).all spW = true) := Lib.hid (by rw [HT.out, HV.out]; simp [spW, h1, h2])
          clear h1 h2
          go_wp2_with ((with_reducible refine (between64_any _ _ _ _).mono ?_); rintro e w' ⟨rfl, rfl⟩; first | rw [H1.out] | rw [H2.out])
          go_roundw
          case rel => exact ⟨k + 1, by omega, by go_num, HVN, Lib.hid (HB.out.alloc HB.out.size _)⟩
          case measure => simp [intOf]; omega
    · have HE : Hid (r = 0) := Lib.hid (by
        have h := HV.out
        rw [List.take_of_length_le (by have := HN.out; omega)] at h
        rw [← HR.out]; unfold ckSp; rw [if_pos h])
      go_wp2
      go_ret
      exact ⟨ret_i HE.out.symm, HB.out⟩

/-- The sums of a centre, before their sign is turned. -/
def sqS (s : Smp) : Int := s.1 * s.1 + s.2 * s.2
def cX (a b c : Smp) : Int := sqS a * (b.2 - c.2) + sqS b * (c.2 - a.2) + sqS c * (a.2 - b.2)
def cY (a b c : Smp) : Int := sqS a * (c.1 - b.1) + sqS b * (a.1 - c.1) + sqS c * (b.1 - a.1)
def cD (a b c : Smp) : Int := 2 * ((b.1 - a.1) * (c.2 - a.2) - (b.2 - a.2) * (c.1 - a.1))
theorem mul_bd {a b A B : Int} (ha : -A ≤ a ∧ a ≤ A) (hb : -B ≤ b ∧ b ≤ B) : -(A * B) ≤ a * b ∧ a * b ≤ A * B := by
  have h1 : a.natAbs ≤ A.toNat := by omega
  have h2 : b.natAbs ≤ B.toNat := by omega
  have h3 := Nat.mul_le_mul h1 h2
  rw [← Int.natAbs_mul] at h3
  have h4 : ((A.toNat * B.toNat : Nat) : Int) = A * B := by rw [Int.natCast_mul, Int.toNat_of_nonneg (by omega), Int.toNat_of_nonneg (by omega)]
  omega
end Go.Proofs.Ytomncopeekegoaa
