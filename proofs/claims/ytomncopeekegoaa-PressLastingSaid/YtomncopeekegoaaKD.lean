/-
  Slices of bytes.
-/
import Derived.Test.YtomncopeekegoaaPR
namespace Go.Proofs.Ytomncopeekegoaa
open Go.ChangeShapes Go.WideShapes Go.ChangeAt Go.RowKit Go.Deep

def atI (s : List Int) (k : Nat) : Int := s[k]?.getD 0
theorem atI_eq {s : List Int} {k : Nat} (h : k < s.length) : atI s k = s[k] := by unfold atI; rw [List.getElem?_eq_getElem h]; rfl
/-- '.slice A n c' reads as the bytes bs. -/
def LU (w : World) (B : Nat) (A : Option Addr) (n : Nat) (bs : List Int) : Prop := (n = bs.length ∧ ∀ x ∈ bs, 0 ≤ x ∧ x ≤ 255) ∧ Reads w B 1 A n (bs.map (.int .u8 ·))
section
variable {w w' : World} {B B' n : Nat} {A : Option Addr} {bs : List Int}
theorem LU.below (h : LU w B A n bs) (hb : Below B' w w') (hB : B ≤ B') : LU w' B A n bs := ⟨h.1, h.2.below hb hB⟩
theorem LU.more (h : LU w B A n bs) (hB : B ≤ B') : LU w B' A n bs := ⟨h.1, h.2.more hB⟩
theorem LU.at_ (h : LU w B A n bs) {k : Nat} (hk : k < bs.length) : ∃ ad, A = some ad ∧ ad.block < B ∧ w.cell? (ad.add k) = some (.int .u8 (atI bs k)) := by
  obtain ⟨⟨rfl, _⟩, hr⟩ := h
  obtain ⟨ad, e, hb, hc⟩ := hr.2 (by omega)
  exact ⟨ad, e, hb, hc k _ (by rw [atI_eq hk]; simp [hk])⟩
theorem LU.bd (h : LU w B A n bs) (k : Nat) : 0 ≤ atI bs k ∧ atI bs k ≤ 255 := by
  rcases Nat.lt_or_ge k bs.length with hk | hk
  · rw [atI_eq hk]; exact h.1.2 _ (List.getElem_mem hk)
  · unfold atI; rw [List.getElem?_eq_none hk]; simp
end
section
variable {H : Type} {enc : TypeId × Value → H}
set_option maxRecDepth 100000 in
/-- A slice of bytes whose cell is read. -/
theorem open_u8s_raw {W : World} {cs : List Value} {x : DataW H × List MemPlace} {fuel : Nat} (hf : DataW.trod enc Try.prog W 0 (fun _ => true) true fuel 75 cs = some x) :
    ∃ A n c xs, cs = [.slice A n c] ∧ LU W W.heap.size A n xs ∧ n ≤ 9223372036854775807 ∧ n ≤ c := by
  rcases open_slice Try.underlying75 hf with ⟨hc, _⟩ | ⟨a, n, c, m, k, D, Pl, hc, _, hl, hm, hmm, hx, hall⟩
  · exact ⟨_, _, _, [], hc, ⟨⟨rfl, fun _ h => by cases h⟩, Reads.none_⟩, by omega, by omega⟩
  · subst hc
    simp only [if_true] at hmm
    subst hmm
    rw [cells_u8] at hall
    have each : ∀ i, i < n → ∃ q : Int, W.cell? (a.add i) = some (.int .u8 q) ∧ 0 ≤ q ∧ q ≤ 255 := fun i hi => by
      obtain ⟨cs', hc, ht⟩ := hall i (by omega)
      obtain ⟨q, e0, _, h3⟩ := DataW.trod_int Try.underlying5 ht
      subst e0
      obtain ⟨_, _, hat⟩ := World.cells?_some hc
      have := hat 0 (by simp)
      simp only [Nat.mul_one] at this
      rw [show (a.add i).add 0 = a.add i by simp [Addr.add]] at this
      exact ⟨q, this, bounds_u8 h3⟩
    obtain ⟨l, hln, hP⟩ := list_of n each
    refine ⟨some a, n, _, l, rfl, ⟨⟨hln.symm, fun y hy => ?_⟩, ⟨by simp [hln], fun hn => ?_⟩⟩, by unfold maxLen at hm; omega, hl⟩
    · obtain ⟨i, hi, rfl⟩ := List.getElem_of_mem hy
      exact (hP i hi).2
    · refine ⟨a, rfl, ?_, fun j u hu => ?_⟩
      · have := World.block_lt_of_cell? W (a.add 0) (hP 0 (by omega)).1
        rwa [block_of_add] at this
      · have hjl : j < l.length := by have := (List.getElem?_eq_some_iff.1 hu).1; simpa using this
        rw [List.getElem?_map, List.getElem?_eq_getElem hjl, Option.map_some] at hu
        injection hu with hu
        rw [← hu]; exact (hP j hjl).1
set_option maxRecDepth 100000 in
/-- A slice of bytes, opened. -/
theorem open_u8s {W : World} {v : Value} {d : DataW H} {p : List MemPlace} {b0 : Nat} (h : DataW.Trod enc Try.prog W 0 (fun _ => true) true 75 v d p) (hv : Value.okWide Try.prog W .any b0 75 v) :
    ∃ A n c xs, v = .slice A n c ∧ LU W W.heap.size A n xs ∧ n ≤ 9223372036854775807 ∧ n ≤ c := by
  obtain ⟨fuel, hf⟩ := h
  obtain ⟨A, n, c, rfl⟩ := okWide_slice Try.underlying75 hv
  obtain ⟨A', n', c', xs, e, h1⟩ := open_u8s_raw hf
  simp [Value.cells] at e
  obtain ⟨rfl, rfl, rfl⟩ := e
  exact ⟨_, _, _, xs, rfl, h1⟩
end
end Go.Proofs.Ytomncopeekegoaa
