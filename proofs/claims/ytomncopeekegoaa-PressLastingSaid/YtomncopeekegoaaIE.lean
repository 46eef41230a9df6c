/-
  Stampers in turn: checks, sums, copies of lists; mounts as numbers.
-/
import Derived.Test.YtomncopeekegoaaI1
import Derived.Test.YtomncopeekegoaaLi
import Derived.Test.YtomncopeekegoaaW2
import Derived.Test.YtomncopeekegoaaOr
import Derived.LoopN
namespace Go.Proofs.Ytomncopeekegoaa
open Go.RowKit

abbrev Tri := Int × Int × Int
def triCells (l : List Tri) : List Value := l.flatMap fun s => [.int .i64 s.1, .int .i64 s.2.1, .int .i64 s.2.2]
theorem triCells_length (l : List Tri) : (triCells l).length = l.length * 3 := by
  induction l with
  | nil => rfl
  | cons x xs ih => simp [triCells] at ih ⊢; omega
theorem triCells_at (l : List Tri) : ∀ (k : Nat) (h : k < l.length), (triCells l)[k * 3]? = some (.int .i64 l[k].1) ∧ (triCells l)[k * 3 + 1]? = some (.int .i64 l[k].2.1) ∧ (triCells l)[k * 3 + 2]? = some (.int .i64 l[k].2.2) := by
  induction l with
  | nil => intro k h; simp at h
  | cons x xs ih =>
    intro k h
    cases k with
    | zero => exact ⟨rfl, rfl, rfl⟩
    | succ k =>
      have := ih k (by simpa using h)
      rw [show (k + 1) * 3 = k * 3 + 3 from by omega]
      simpa [triCells, List.getElem?_cons] using this
theorem triCells_snoc (l : List Tri) (s : Tri) : triCells (l ++ [s]) = triCells l ++ [.int .i64 s.1, .int .i64 s.2.1, .int .i64 s.2.2] := by simp [triCells]
theorem tri_one (l : List Tri) : ∀ u ∈ triCells l, u.oneCell' = true := by
  intro u hu
  unfold triCells at hu
  rw [List.mem_flatMap] at hu
  obtain ⟨s, -, hs⟩ := hu
  simp only [List.mem_cons, List.not_mem_nil, or_false] at hs
  rcases hs with rfl | rfl | rfl <;> rfl
/-- '.slice A n c' reads as the triples l. -/
def RT3 (w : World) (B : Nat) (A : Option Addr) (n : Nat) (l : List Tri) : Prop := n = l.length ∧ Reads w B 3 A n (triCells l)
section
variable {w w' : World} {B B' n : Nat} {A : Option Addr} {l : List Tri}
theorem RT3.below (h : RT3 w B A n l) (hb : Below B' w w') (hB : B ≤ B') : RT3 w' B A n l := ⟨h.1, h.2.below hb hB⟩
theorem RT3.more (h : RT3 w B A n l) (hB : B ≤ B') : RT3 w B' A n l := ⟨h.1, h.2.more hB⟩
theorem RT3.none_ : RT3 w B A 0 [] := ⟨rfl, by simp [triCells], fun h => absurd h (by omega)⟩
theorem RT3.at_ (h : RT3 w B A n l) {k : Nat} (hk : k < l.length) : ∃ ad, A = some ad ∧ ad.block < B ∧ w.cell? (ad.add (k * 3)) = some (.int .i64 l[k].1) ∧ w.cell? ⟨(ad.add (k * 3)).block, (ad.add (k * 3)).off + 1, none⟩ = some (.int .i64 l[k].2.1) ∧ w.cell? ⟨(ad.add (k * 3)).block, (ad.add (k * 3)).off + 2, none⟩ = some (.int .i64 l[k].2.2) := by
  obtain ⟨rfl, hr⟩ := h
  obtain ⟨ad, e, hb, hc⟩ := hr.2 (by omega)
  obtain ⟨h1, h2, h3⟩ := triCells_at l k hk
  exact ⟨ad, e, hb, hc _ _ h1, by have := hc _ _ h2; rw [← add_of_add] at this; exact this, by have := hc _ _ h3; rw [← add_of_add] at this; exact this⟩
end
/-- A row of the call's own, as triples. -/
theorem rt3_own {w : World} {base n : Nat} {t : TypeId} {v : Value} {l : List Tri} (h : w.ownsRow base t 3 v n (triCells l)) : ∃ A c, v = .slice A n c ∧ RT3 w w.heap.size A n l ∧ n ≤ c := by
  obtain ⟨A, c, rfl, hr⟩ := own_reads h
  refine ⟨A, c, rfl, ⟨by have := h.1; rw [triCells_length] at this; omega, hr⟩, ?_⟩
  rcases h.2 with ⟨e, hn⟩ | ⟨g, cap, cur, e, _, _, h2, _⟩
  · simp only [Value.slice.injEq] at e; omega
  · simp only [Value.slice.injEq] at e; omega

/-- Whether all numbers of discs are possible. -/
def lvW (l : List Int) : Bool := l.all fun x => win x 0 65536
def ckLv (l : List Int) : Int := if lvW l = true then 0 else 2
theorem lvW_take {l : List Int} {k : Nat} (h : k < l.length) : lvW (l.take (k + 1)) = (lvW (l.take k) && win l[k] 0 65536) := by
  unfold lvW
  rw [List.take_succ_eq_append_getElem h, List.all_append]; simp
theorem lvW_bd {l : List Int} (h : lvW l = true) : ∀ x ∈ l, 0 ≤ x ∧ x ≤ 65536 := fun x hx => win_iff.1 (List.all_eq_true.1 h x hx)
theorem lvW_false {l : List Int} {k : Nat} (h : k < l.length) (hw : win l[k] 0 65536 = false) : lvW l = false := by
  unfold lvW
  rw [List.all_eq_false]
  exact ⟨l[k], List.getElem_mem h, by simp [hw]⟩

set_option maxRecDepth 100000 in
set_option maxHeartbeats 4000000 in
theorem checkLives_any (B : Nat) (A : Option Addr) (n c : Nat) (l : List Int) (w : World) (h0 : LI w B A n l) (hn : n ≤ 9223372036854775807) :
    Calls Try.prog 85 #[.slice A n c] w fun e w' => e = .returned (.int .i64 (ckLv l)) ∧ w = w' := by
  have H := Lib.hid h0
  have HN := Lib.hid h0.1
  obtain ⟨r, hr⟩ : ∃ r, ckLv l = r := ⟨_, rfl⟩
  rw [hr]
  have HR := Lib.hid hr
  clear h0 hr
  go_enter Try.func85, Try.ntmps85
  go_wp2
  go_loop [7] (fun z => ∃ k : Nat, k ≤ n ∧ z = .int .i64 k ∧ Hid (lvW (l.take k) = true)) (fun z => n - (intOf z).toNat)
  case atStart => exact ⟨0, Nat.zero_le _, rfl, Lib.hid rfl⟩
  case round =>
    obtain ⟨k, hk, rfl, HV⟩ := hrel
    by_cases hlt : k < n
    · have hkl : k < l.length := by have := HN.out; omega
      obtain ⟨ad, hA, hbl, c1⟩ := H.out.at_ hkl
      have HT := Lib.hid (lvW_take hkl)
      have HF := Lib.hid (lvW_false hkl)
      obtain ⟨x, hx⟩ : ∃ x, l[k] = x := ⟨_, rfl⟩
      rw [hx] at c1 HT HF
      obtain rfl := hA
      have g1 : (k : Int) < (n : Int) := by omega
      have e2 : IntKind.i64.wrap ((k : Int) + 1) = (k : Int) + 1 := IntWalk.i64_in _ (by omega)
      clear hx hbl
      cases h1 : win x 0 65536
      · have H1 := Lib.hid h1
        have HE : Hid (r = 2) := Lib.hid (by rw [← HR.out]; unfold ckLv; rw [HF.out h1]; rfl)
        clear h1
        go_wp2_with ((with_reducible refine (between64_any _ _ _ _).mono ?_); rintro e w' ⟨rfl, rfl⟩; rw [H1.out])
        go_ret
        exact ⟨ret_i HE.out.symm, rfl⟩
      · have H1 := Lib.hid h1
        have HVN : Hid (lvW (l.take (k + 1)) = true) := Lib.hid (by rw [HT.out, HV.out, h1]; rfl)
        clear h1
        go_wp2_with ((with_reducible refine (between64_any _ _ _ _).mono ?_); rintro e w' ⟨rfl, rfl⟩; rw [H1.out])
        go_round
        case rel => exact ⟨k + 1, by omega, by go_num, HVN⟩
        case measure => simp [intOf]; omega
    · have HE : Hid (r = 0) := Lib.hid (by
        have h := HV.out
        rw [List.take_of_length_le (by have := HN.out; omega)] at h
        rw [← HR.out]; unfold ckLv; rw [if_pos h])
      go_wp2
      go_ret
      exact ⟨ret_i HE.out.symm, rfl⟩

/-- The sum of a list. -/
def sumI (l : List Int) : Int := l.sum
theorem sum_take {l : List Int} {k : Nat} (h : k < l.length) : (l.take (k + 1)).sum = (l.take k).sum + l[k] := by
  rw [List.take_succ_eq_append_getElem h, List.sum_append]; simp
theorem sum_bd {l : List Int} {M : Int} (h : ∀ x ∈ l, 0 ≤ x ∧ x ≤ M) : 0 ≤ l.sum ∧ l.sum ≤ l.length * M := by
  induction l with
  | nil => simp
  | cons x xs ih =>
    have h1 := h x (by simp)
    have h2 := ih (fun y hy => h y (by simp [hy]))
    simp only [List.sum_cons, List.length_cons, Int.natCast_add, Int.natCast_one, Int.add_mul, Int.one_mul]
    omega
set_option maxRecDepth 100000 in
set_option maxHeartbeats 4000000 in
theorem sum_any (B : Nat) (A : Option Addr) (n c : Nat) (l : List Int) (w : World) (h0 : LI w B A n l) (hn : n ≤ 1000000) (hl : ∀ x ∈ l, 0 ≤ x ∧ x ≤ 65536) :
    Calls Try.prog 64 #[.slice A n c] w fun e w' => e = .returned (.int .i64 l.sum) ∧ w = w' := by
  have H := Lib.hid h0
  have HN := Lib.hid h0.1
  have HALL := Lib.hid hl
  clear h0 hl
  go_enter Try.func64, Try.ntmps64
  go_wp2
  go_loop [3, 8] (fun s z => ∃ k : Nat, k ≤ n ∧ z = .int .i64 k ∧ s = .int .i64 (l.take k).sum) (fun _ z => n - (intOf z).toNat)
  case atStart => exact ⟨0, Nat.zero_le _, rfl, rfl⟩
  case round =>
    obtain ⟨k, hk, rfl, rfl⟩ := hrel
    by_cases hlt : k < n
    · have hkl : k < l.length := by have := HN.out; omega
      obtain ⟨ad, hA, hbl, c1⟩ := H.out.at_ hkl
      have ht := sum_take hkl
      have hb := sum_bd (l := l.take (k + 1)) (M := 65536) (fun x hx => HALL.out x (List.mem_of_mem_take hx))
      have hln : (l.take (k + 1)).length ≤ 1000000 := by rw [List.length_take]; omega
      obtain ⟨x, hx⟩ : ∃ x, l[k] = x := ⟨_, rfl⟩
      obtain ⟨s, hs⟩ : ∃ s, (l.take k).sum = s := ⟨_, rfl⟩
      obtain ⟨s', hs'⟩ : ∃ s', (l.take (k + 1)).sum = s' := ⟨_, rfl⟩
      rw [hx] at c1 ht
      rw [hs, hs'] at ht
      rw [hs'] at hb
      have HS' := Lib.hid hs'
      rw [hs]
      obtain rfl := hA
      have g1 : (k : Int) < (n : Int) := by omega
      have e2 : IntKind.i64.wrap ((k : Int) + 1) = (k : Int) + 1 := IntWalk.i64_in _ (by omega)
      have e3 : IntKind.i64.wrap (s + x) = s' := by rw [ht]; exact IntWalk.i64_in _ (by omega)
      clear hx hbl hs hs' ht hb hln
      go_wp2
      go_round
      case rel => exact ⟨k + 1, by omega, by go_num, by rw [HS'.out]⟩
      case measure => simp [intOf]; omega
    · have HE : Hid ((l.take k).sum = l.sum) := Lib.hid (by rw [List.take_of_length_le (by have := HN.out; omega)])
      obtain ⟨s, hs⟩ : ∃ s, (l.take k).sum = s := ⟨_, rfl⟩
      rw [hs] at HE ⊢
      clear hs
      go_wp2
      go_ret
      exact ⟨ret_i HE.out, rfl⟩
end Go.Proofs.Ytomncopeekegoaa
