/-
  Which curve made a signal: contracts of slices.Equal and of Match on both sides.
-/
import Derived.Test.YthdflofdjhjjhaaUS
import Derived.Test.YthdflofdjhjjhaaUQ
import Derived.Test.YthdflofdjhjjhaaUA
import Derived.Test.YthdflofdjhjjhaaUF
namespace Go.Proofs.Ythdflofdjhjjhaa
open Go.RowKit

set_option maxRecDepth 100000 in
set_option maxHeartbeats 8000000 in
theorem equal_any (B B' : Nat) (A A' : Option Addr) (n c m d : Nat) (X Y : List Int) (w : World) (h0 : LI w B A n X) (h1 : LI w B' A' m Y) (hB : B ≤ w.heap.size) (hB' : B' ≤ w.heap.size) (hl : n ≤ 9223372036854775807) :
    Calls Try.prog 37 #[.slice A n c, .slice A' m d] w fun e w' => e = .returned (.bool (sameI X Y)) ∧ Below w.heap.size w w' := by
  have HX := Lib.hid (h0.more hB)
  have HY := Lib.hid (h1.more hB')
  have HN := Lib.hid h0.1
  have HM := Lib.hid h1.1
  clear h0 h1 hB hB'
  go_enter Try.func37, Try.ntmps37
  by_cases hmn : n = m
  · subst hmn
    go_wp2_with fail
    go_loopw [13] (fun z wr => ∃ i : Nat, i ≤ n ∧ z = .int .i64 i ∧ Hid (Below w.heap.size w wr) ∧ Hid (X.take i = Y.take i)) (fun z _ => n - (intOf z).toNat)
    case atStart => exact ⟨0, Nat.zero_le _, rfl, Lib.hid (Below.refl _ _), Lib.hid rfl⟩
    case round =>
      obtain ⟨i, hi, rfl, HB2, HA⟩ := hrel
      by_cases hlt : i < n
      · have hix : i < X.length := by rw [← HN.out]; exact hlt
        have hiy : i < Y.length := by rw [← HM.out]; exact hlt
        obtain ⟨ad, hA, -, g1⟩ := (HX.out.below HB2.out (Nat.le_refl _)).at_ (k := i) hix
        obtain ⟨ad', hA', -, g2⟩ := (HY.out.below HB2.out (Nat.le_refl _)).at_ (k := i) hiy
        subst hA hA'
        obtain ⟨x, hx⟩ : ∃ x, X[i] = x := ⟨_, rfl⟩
        obtain ⟨y, hy⟩ : ∃ y, Y[i] = y := ⟨_, rfl⟩
        by_cases hxy : x = y
        · have HA2 : Hid (X.take (i + 1) = Y.take (i + 1)) := Lib.hid (by rw [List.take_succ_eq_append_getElem hix, List.take_succ_eq_append_getElem hiy, HA.out, hx, hy, hxy])
          rw [hx] at g1
          rw [hy] at g2
          clear hx hy hix hiy
          subst hxy
          go_wp2_with fail
          go_quiet (fail)
          go_wp2
          go_roundw
          case rel => exact ⟨i + 1, by omega, by go_num, Lib.hid (below_drewN_ HB2.out _), HA2⟩
          case measure => simp [intOf]; omega
        · have hne : (x != y) = true := by simpa using hxy
          have HE : Hid (sameI X Y = false) := Lib.hid (sameI_at hix hiy (by rw [hx, hy]; exact hxy))
          rw [hx] at g1
          rw [hy] at g2
          clear hx hy hix hiy
          go_wp2_with fail
          go_quiet (fail)
          go_wp2
          go_ret
          rw [HE.out]
          exact ⟨rfl, below_drewN_ HB2.out _⟩
      · obtain rfl : n = i := by omega
        have HE : Hid (sameI X Y = true) := Lib.hid (by
          have h := HA.out
          rw [List.take_of_length_le (by rw [← HN.out]; exact Nat.le_refl _), List.take_of_length_le (by rw [← HM.out]; exact Nat.le_refl _)] at h
          rw [h]
          exact sameI_self Y)
        go_wp2
        go_ret
        rw [HE.out]
        exact ⟨rfl, HB2.out⟩
  · have hmn' : ((n : Int) != (m : Int)) = true := by simp; omega
    have HE : Hid (sameI X Y = false) := Lib.hid (sameI_ne (by rw [← HN.out, ← HM.out]; exact hmn))
    go_wp2
    go_ret
    rw [HE.out]
    exact ⟨rfl, Below.refl _ _⟩

def mtP (x y : List Int) (c : Cur) : Bool := decide (oneErr true c x = 0) && sameI (oneRes true c x) y
def mtI (x y : List Int) : List Cur → Nat → Option Nat
  | [], _ => none
  | c :: cs, k => if mtP x y c = true then some k else mtI x y cs (k + 1)
def mtQ (l : List Cur) (x y : List Int) : Int := orL [ckCs l, ckX x, ckX y]
def matchE (l : List Cur) (x y : List Int) : Int := if mtQ l x y = 0 then (if x.length ≠ y.length then 17 else match mtI x y l 0 with | none => 5 | some _ => 0) else mtQ l x y
def matchV (l : List Cur) (x y : List Int) : Nat := if mtQ l x y = 0 then (if x.length ≠ y.length then 0 else match mtI x y l 0 with | none => 0 | some i => i) else 0
theorem mtI_next {x y : List Int} {l : List CV} {k : Nat} (hk : k < l.length) : mtI x y ((l.map CV.c).drop k) k = if mtP x y l[k].c = true then some k else mtI x y ((l.map CV.c).drop (k + 1)) (k + 1) := by
  rw [List.drop_eq_getElem_cons (by simpa using hk), mtI]
  simp
theorem mtI_end {x y : List Int} {l : List CV} {k : Nat} (hk : l.length ≤ k) : mtI x y ((l.map CV.c).drop k) k = none := by
  rw [List.drop_of_length_le (by simpa using hk)]
  rfl
end Go.Proofs.Ythdflofdjhjjhaa
