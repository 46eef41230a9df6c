/-
  For the row of PlayHeard: small numbers, opened.
-/
import Derived.Test.YtjdnpgilinfkgaaPT
namespace Go.Proofs.Ytjdnpgilinfkgaa
open Go.ChangeShapes Go.WideShapes Go.ChangeAt Go.RowKit Go.Deep

/-- '.slice A n c' reads as the numbers bs, each from -128 to 127. -/
def LB (w : World) (B : Nat) (A : Option Addr) (n : Nat) (bs : List Int) : Prop := (n = bs.length ∧ ∀ x ∈ bs, -128 ≤ x ∧ x ≤ 127) ∧ Reads w B 1 A n (bs.map (.int .i8 ·))
section
variable {w w' : World} {B B' n : Nat} {A : Option Addr} {bs : List Int}
theorem LB.below (h : LB w B A n bs) (hb : Below B' w w') (hB : B ≤ B') : LB w' B A n bs := ⟨h.1, h.2.below hb hB⟩
theorem LB.more (h : LB w B A n bs) (hB : B ≤ B') : LB w B' A n bs := ⟨h.1, h.2.more hB⟩
theorem LB.at_ (h : LB w B A n bs) {k : Nat} (hk : k < bs.length) : ∃ ad, A = some ad ∧ ad.block < B ∧ w.cell? (ad.add k) = some (.int .i8 (atI bs k)) ∧ -128 ≤ atI bs k ∧ atI bs k ≤ 127 := by
  obtain ⟨⟨rfl, hq⟩, hr⟩ := h
  obtain ⟨ad, e, hb, hc⟩ := hr.2 (by omega)
  exact ⟨ad, e, hb, hc k _ (by rw [atI_eq hk]; simp [hk]), by rw [atI_eq hk]; exact hq _ (List.getElem_mem hk)⟩
end

section
variable {H : Type} {enc : TypeId × Value → H}
theorem cells_i8 : Try.prog.cellsOf 67 = 1 := by kernel_rfl
set_option maxRecDepth 100000 in
/-- A slice of numbers from -128 to 127 whose cell is read. -/
theorem open_i8s_raw {W : World} {cs : List Value} {x : DataW H × List MemPlace} {fuel : Nat} (hf : DataW.trod enc Try.prog W 0 (fun _ => true) true fuel 62 cs = some x) :
    ∃ A n c xs, cs = [.slice A n c] ∧ LB W W.heap.size A n xs ∧ n ≤ 9223372036854775807 ∧ n ≤ c := by
  rcases open_slice Try.underlying62 hf with ⟨hc, _⟩ | ⟨a, n, c, m, k, D, Pl, hc, _, hl, hm, hmm, hx, hall⟩
  · exact ⟨_, _, _, [], hc, ⟨⟨rfl, fun _ h => by cases h⟩, Reads.none_⟩, by omega, by omega⟩
  · subst hc
    simp only [if_true] at hmm
    subst hmm
    rw [cells_i8] at hall
    have each : ∀ i, i < n → ∃ q : Int, W.cell? (a.add i) = some (.int .i8 q) ∧ -128 ≤ q ∧ q ≤ 127 := fun i hi => by
      obtain ⟨cs', hc, ht⟩ := hall i (by omega)
      obtain ⟨q, e0, _, h3⟩ := DataW.trod_int Try.underlying67 ht
      subst e0
      obtain ⟨_, _, hat⟩ := World.cells?_some hc
      have := hat 0 (by simp)
      simp only [Nat.mul_one] at this
      rw [show (a.add i).add 0 = a.add i by simp [Addr.add]] at this
      exact ⟨q, this, bounds_i8 h3⟩
    obtain ⟨l, hln, hP⟩ := list_of n each
    refine ⟨some a, n, _, l, rfl, ⟨⟨hln.symm, fun y hy => ?_⟩, ⟨by simp [hln], fun hn => ?_⟩⟩, by unfold maxLen at hm; omega, hl⟩
    · obtain ⟨i, hi, rfl⟩ := List.getElem_of_mem hy
      exact (hP i hi).2
    · refine ⟨a, rfl, ?_, fun j u hu => ?_⟩
      · have := World.block_lt_of_cell? W (a.add 0) (hP 0 (by omega)).1
        rwa [block_of_add] at this
      · have hjl : j < l.length := by have := (List.getElem?_eq_some_iff.1 hu).1; simpa using this
        rw [List.getElem?_map, List.getElem?_eq_getElem hjl, Option.map_some] at hu
        injection hu with hu
        rw [← hu]; exact (hP j hjl).1
set_option maxRecDepth 100000 in
/-- A slice of numbers from -128 to 127, opened. -/
theorem open_i8s {W : World} {v : Value} {d : DataW H} {p : List MemPlace} {b0 : Nat} (h : DataW.Trod enc Try.prog W 0 (fun _ => true) true 62 v d p) (hv : Value.okWide Try.prog W .any b0 62 v) :
    ∃ A n c xs, v = .slice A n c ∧ LB W W.heap.size A n xs ∧ n ≤ 9223372036854775807 ∧ n ≤ c := by
  obtain ⟨fuel, hf⟩ := h
  obtain ⟨A, n, c, rfl⟩ := okWide_slice Try.underlying62 hv
  obtain ⟨A', n', c', xs, e, h1⟩ := open_i8s_raw hf
  simp [Value.cells] at e
  obtain ⟨rfl, rfl, rfl⟩ := e
  exact ⟨_, _, _, xs, rfl, h1⟩
set_option maxRecDepth 100000 in
/-- An array of 2 numbers, opened. -/
theorem open_u8_2 {W : World} {v : Value} {d : DataW H} {p : List MemPlace} {b0 : Nat} (h : DataW.Trod enc Try.prog W 0 (fun _ => true) true 61 v d p) (hv : Value.okWide Try.prog W .any b0 61 v) : ∃ b0 b1 : Int, v = .agg #[.int .u8 b0, .int .u8 b1] ∧ 0 ≤ b0 ∧ b0 ≤ 255 ∧ 0 ≤ b1 ∧ b1 ≤ 255 := by
  obtain ⟨cs, rfl, hsz⟩ := okWide_arr Try.underlying61 hv
  obtain ⟨l⟩ := cs
  rw [show Try.prog.cellsOf 61 = 2 from by kernel_rfl] at hsz
  match l, hsz with
  | [a0, a1], _ =>
    obtain ⟨fuel, hf⟩ := h
    obtain ⟨xs, n, -, -, -, hxl, hall⟩ := DataW.trod_array Try.underlying61 hf
    rw [show Try.prog.cellsOf 5 = 1 from by kernel_rfl] at hall
    match xs, hxl with
    | [x0, x1], _ =>
      have g0 : DataW.trod enc Try.prog W 0 (fun _ => true) true n 5 (([a0, a1].drop (0 * 1)).take 1) = [x0, x1][0]? := hall 0 (by omega)
      have g1 : DataW.trod enc Try.prog W 0 (fun _ => true) true n 5 (([a0, a1].drop (1 * 1)).take 1) = [x0, x1][1]? := hall 1 (by omega)
      simp at g0 g1
      obtain ⟨n0, e0, f0⟩ := DataW.trod_int Try.underlying5 g0
      obtain ⟨n1, e1, f1⟩ := DataW.trod_int Try.underlying5 g1
      simp only [List.cons.injEq, and_true] at e0 e1
      have h0 := bounds_u8 f0.2
      have h1 := bounds_u8 f1.2
      exact ⟨n0, n1, by rw [e0, e1], h0.1, h0.2, h1.1, h1.2⟩
end
end Go.Proofs.Ytjdnpgilinfkgaa
