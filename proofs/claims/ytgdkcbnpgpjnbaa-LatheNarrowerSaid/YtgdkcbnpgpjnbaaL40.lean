/-
  Narrower grooves: mathematics; rows of pairs that are changed; pairs of bytes in memory.
-/
import Derived.Test.YtgdkcbnpgpjnbaaL19
import Derived.Test.YtgdkcbnpgpjnbaaL26
import Derived.Test.YtgdkcbnpgpjnbaaLO
import Derived.Test.YtgdkcbnpgpjnbaaW2
namespace Go.Proofs.Ytgdkcbnpgpjnbaa
open Go.RowKit

theorem grownN {w w' : World} {B : Nat} {row : Option Nat} (h : w.grownBy w' row) (hB : B ≤ w.heap.size) (hr : ∀ k, row = some k → B ≤ k) : Below B w w' :=
  ⟨h.os, h.tape, h.output, h.size, fun k hk => h.block k (Nat.lt_of_lt_of_le hk hB) (fun e => by have := hr k e.symm; omega)⟩
theorem cells_oneN (l : List Smp) : ∀ u ∈ smpCells l, u.oneCell' = true := by
  induction l with
  | nil => intro u hu; simp [smpCells] at hu
  | cons s l ih =>
    intro u hu
    have hu : u ∈ [Value.int .i64 s.1, Value.int .i64 s.2] ++ smpCells l := hu
    rw [List.mem_append] at hu
    rcases hu with hu | hu
    · simp at hu
      rcases hu with rfl | rfl <;> rfl
    · exact ih u hu
def u8Cells (l : List Smp) : List Value := l.flatMap fun p => [.int .u8 p.1, .int .u8 p.2]
theorem u8Cells_len (l : List Smp) : (u8Cells l).length = l.length * 2 := by
  induction l with
  | nil => rfl
  | cons p l ih =>
    show ([Value.int .u8 p.1, Value.int .u8 p.2] ++ u8Cells l).length = _
    rw [List.length_append, ih, List.length_cons]
    simp; omega
theorem u8Cells_at : ∀ (l : List Smp) (i : Nat) (h : i < l.length), (u8Cells l)[i * 2]? = some (.int .u8 l[i].1) ∧ (u8Cells l)[i * 2 + 1]? = some (.int .u8 l[i].2)
  | [], i, h => by simp at h
  | p :: l, 0, _ => ⟨rfl, rfl⟩
  | p :: l, i + 1, h => by
    have ih := u8Cells_at l i (by simpa using h)
    show ([Value.int .u8 p.1, Value.int .u8 p.2] ++ u8Cells l)[(i + 1) * 2]? = _ ∧ ([Value.int .u8 p.1, Value.int .u8 p.2] ++ u8Cells l)[(i + 1) * 2 + 1]? = _
    rw [show (i + 1) * 2 = i * 2 + 1 + 1 by omega]
    exact ih
/-- Pairs of bytes, as they lie in memory. -/
def R8 (w : World) (B : Nat) (A : Option Addr) (n : Nat) (l : List Smp) : Prop := n = l.length ∧ (0 < n → ∃ ad, A = some ad ∧ ad.block < B ∧ ∀ i (h : i < l.length), w.cell? (ad.add (i * 2)) = some (.int .u8 l[i].1) ∧ w.cell? ⟨(ad.add (i * 2)).block, (ad.add (i * 2)).off + 1, none⟩ = some (.int .u8 l[i].2))
theorem R8.below {w w' : World} {B B' : Nat} {A : Option Addr} {n : Nat} {l : List Smp} (h : R8 w B A n l) (hb : Below B' w w') (hB : B ≤ B') : R8 w' B A n l :=
  ⟨h.1, fun hn => by
    obtain ⟨ad, e, hl, hc⟩ := h.2 hn
    refine ⟨ad, e, hl, fun i hi => ?_⟩
    obtain ⟨h1, h2⟩ := hc i hi
    have e1 : (ad.add (i * 2)).block = ad.block := block_of_add _ _
    exact ⟨(hb.cell (by rw [e1]; omega)).trans h1, (hb.cell (by show (ad.add (i * 2)).block < B'; rw [e1]; omega)).trans h2⟩⟩
def nar1 (p v : Smp) : Smp := (if p.1 + v.1 < 4194304 then p.1 + v.1 else 4194304, if -4194304 < p.2 - v.2 then p.2 - v.2 else -4194304)
/-- The first k points, narrowed. -/
def nar (P V : List Smp) : Nat → List Smp
  | 0 => P
  | k + 1 => (nar P V k).set k (nar1 (P.getD k (0, 0)) (V.getD k (0, 0)))
theorem nar_len (P V : List Smp) : ∀ k, (nar P V k).length = P.length
  | 0 => rfl
  | k + 1 => by rw [nar, List.length_set, nar_len P V k]
theorem nar_at (P V : List Smp) : ∀ k i, i < P.length → (nar P V k).getD i (0, 0) = if i < k then nar1 (P.getD i (0, 0)) (V.getD i (0, 0)) else P.getD i (0, 0)
  | 0, i, hi => by rw [if_neg (by omega)]; rfl
  | k + 1, i, hi => by
    have ih := nar_at P V k i hi
    have hl := nar_len P V k
    rw [nar, List.getD_eq_getElem?_getD, List.getElem?_set]
    by_cases e : k = i
    · subst e
      rw [if_pos rfl, if_pos (by omega), if_pos (by omega)]
      rfl
    · rw [if_neg e, ← List.getD_eq_getElem?_getD, ih]
      by_cases c : i < k
      · rw [if_pos c, if_pos (by omega)]
      · rw [if_neg c, if_neg (by omega)]
theorem nar_bd {P V : List Smp} (hP : PsOk P) (hV : ∀ v ∈ V, 0 ≤ v.1 ∧ v.1 ≤ 255 ∧ 0 ≤ v.2 ∧ v.2 ≤ 255) (k i : Nat) (hk : k ≤ V.length) (hi : i < P.length) : pin P i ≤ pin (nar P V k) i ∧ pout (nar P V k) i ≤ pout P i ∧ pin (nar P V k) i ≤ 4194304 ∧ -4194304 ≤ pout (nar P V k) i := by
  have h1 := hP.at_ i
  have h2 := nar_at P V k i hi
  unfold pin pout at *
  rw [h2]
  split
  · rename_i hc
    have h3 := hV (V.getD i (0, 0)) (by rw [List.getD_eq_getElem?_getD, List.getElem?_eq_getElem (show i < V.length by omega)]; exact List.getElem_mem _)
    dsimp only [nar1]
    refine ⟨?_, ?_, ?_, ?_⟩
    · split <;> omega
    · split <;> omega
    · split <;> omega
    · split <;> omega
  · omega
theorem ps_of {P : List Smp} (h : ∀ i, i < P.length → PtOk (P.getD i (0, 0))) : PsOk P := by
  intro p hp
  obtain ⟨i, hi, rfl⟩ := List.getElem_of_mem hp
  have := h i hi
  rwa [List.getD_eq_getElem?_getD, List.getElem?_eq_getElem hi] at this
theorem vld_nar {b : Bk} {P V : List Smp} {k : Nat} (h : vldG b P = true) (hV : ∀ v ∈ V, 0 ≤ v.1 ∧ v.1 ≤ 255 ∧ 0 ≤ v.2 ∧ v.2 ≤ 255) (hk : k ≤ V.length) : vldG b (nar P V k) = true := by
  obtain ⟨h1, h2, h3⟩ := vldG_ok h
  have hP := (vld_er h).2.2.1
  have hM : PsOk (nar P V k) := ps_of (fun i hi => by
    rw [nar_len] at hi
    have h4 := nar_bd hP hV k i hk hi
    have h5 := hP.at_ i
    unfold PtOk
    unfold pin pout at *
    omega)
  unfold vldG
  simp only [Bool.and_eq_true, decide_eq_true_eq]
  refine ⟨⟨by rw [nar_len]; exact h1, h2⟩, ?_⟩
  unfold ckG
  rw [if_neg (by rw [nar_len]; omega), if_pos]
  unfold vPs
  rw [List.all_eq_true]
  intro p hp
  have := hM p hp
  unfold PtOk at this
  unfold vE win
  simp only [Bool.and_eq_true, decide_eq_true_eq]
  omega
theorem sol_nar {b : Bk} {P V : List Smp} {k : Nat} {X : List Int} (h : vldG b P = true) (hV : ∀ v ∈ V, 0 ≤ v.1 ∧ v.1 ≤ 255 ∧ 0 ≤ v.2 ∧ v.2 ≤ 255) (hk : k ≤ V.length) (hs : sol b P P.length = some X) : ∃ Y, outE b (nar P V k) = 0 ∧ outR b (nar P V k) = Y ∧ Y.length = P.length ∧ ∀ i, i < P.length → fx X i ≤ fx Y i := by
  have hb := (vld_er h).2.1
  have hP := (vld_er h).2.2.1
  have ht := (sol_some hb hs).1
  have hK : Keeps b (nar P V k) P.length (fx X) := by
    intro i hi
    obtain ⟨h1, h2, h3⟩ := ht.keeps i hi
    have h4 := nar_bd hP hV k i hk hi
    refine ⟨by omega, h2, fun hp => ?_⟩
    have h5 := h3 hp
    have h6 := nar_bd hP hV k (i - b.per.toNat) hk (by omega)
    unfold wLand at h5 ⊢
    omega
  have hC : Cores b (nar P V k) P.length (fx X) := fun i hi => by
    have := ht.cores i hi
    have := nar_bd hP hV k i hk hi
    omega
  obtain ⟨Y, hY⟩ := (sol_iff hb P.length).2 ⟨fx X, hK, hC⟩
  have hy := (sol_some hb hY).1
  have hv := vld_nar (k := k) h hV hk
  obtain ⟨e1, e2⟩ := outE_some hv (show sol b (nar P V k) (nar P V k).length = some Y by rw [nar_len]; exact hY)
  exact ⟨Y, e1, e2, hy.len, fun i hi => hy.upper _ hK i hi⟩
theorem smpCells_set1 : ∀ (xs : List Smp) (k : Nat) (u : Int), k < xs.length → (smpCells xs).set (k * 2) (.int .i64 u) = smpCells (xs.set k (u, (xs.getD k (0, 0)).2))
  | [], k, u, h => by simp at h
  | x :: xs, 0, u, _ => rfl
  | x :: xs, k + 1, u, h => by
    have ih := smpCells_set1 xs k u (by simpa using h)
    show ((Value.int IntKind.i64 x.1) :: (.int .i64 x.2) :: smpCells xs).set ((k + 1) * 2) _ = (.int .i64 x.1) :: (.int .i64 x.2) :: smpCells (xs.set k (u, (xs.getD k (0, 0)).2))
    rw [show (k + 1) * 2 = k * 2 + 1 + 1 by omega, ← ih]
    rfl
theorem smpCells_set2 : ∀ (xs : List Smp) (k : Nat) (u : Int), k < xs.length → (smpCells xs).set (k * 2 + 1) (.int .i64 u) = smpCells (xs.set k ((xs.getD k (0, 0)).1, u))
  | [], k, u, h => by simp at h
  | x :: xs, 0, u, _ => rfl
  | x :: xs, k + 1, u, h => by
    have ih := smpCells_set2 xs k u (by simpa using h)
    show ((Value.int IntKind.i64 x.1) :: (.int .i64 x.2) :: smpCells xs).set ((k + 1) * 2 + 1) _ = (.int .i64 x.1) :: (.int .i64 x.2) :: smpCells (xs.set k ((xs.getD k (0, 0)).1, u))
    rw [show (k + 1) * 2 + 1 = k * 2 + 1 + 1 + 1 by omega, ← ih]
    rfl
/-- A row of points of the call's own at an index: what lies there, and what stores leave. -/
theorem own_p2 {w : World} {base n c : Nat} {A : Option Addr} {x : List Smp} (h : w.ownsRow base 55 2 (.slice A n c) n (smpCells x)) (hn : n = x.length) {k : Nat} (hk : k < x.length) :
    ∃ g, A = some ⟨g, 0, none⟩ ∧ base ≤ g ∧ g < w.heap.size ∧ w.cell? ⟨g, k * 2, none⟩ = some (.int .i64 (x.getD k (0, 0)).1) ∧ w.cell? ⟨g, k * 2 + 1, none⟩ = some (.int .i64 (x.getD k (0, 0)).2) ∧ w.frozen? ⟨g, k * 2, none⟩ = false ∧ w.frozen? ⟨g, k * 2 + 1, none⟩ = false ∧
      (∀ u : Int, (w.setCell ⟨g, k * 2, none⟩ (.int .i64 u)).ownsRow base 55 2 (.slice (some ⟨g, 0, none⟩) n c) n (smpCells (x.set k (u, (x.getD k (0, 0)).2)))) ∧
      (∀ u : Int, (w.setCell ⟨g, k * 2 + 1, none⟩ (.int .i64 u)).ownsRow base 55 2 (.slice (some ⟨g, 0, none⟩) n c) n (smpCells (x.set k ((x.getD k (0, 0)).1, u)))) := by
  rcases h.2 with ⟨-, hn⟩ | ⟨g, cap, cur, hv, hb, hg, hnc, hcm, hcs, htk⟩
  · omega
  simp only [Value.slice.injEq, true_and] at hv
  obtain ⟨rfl, rfl⟩ := hv
  have hlt : g < w.heap.size := (Array.getElem?_eq_some_iff.1 hg).1
  have hcur : ∀ (j : Nat) (u : Value), (smpCells x)[j]? = some u → cur[j]? = some u := by
    intro j u hu
    have hj : j < n * 2 := by have := (List.getElem?_eq_some_iff.1 hu).1; rw [smpCells_length] at this; omega
    rw [← htk, List.getElem?_take_of_lt hj] at hu
    rwa [← Array.getElem?_toList]
  have hat := smpCells_at x k hk
  have hgd : x.getD k (0, 0) = x[k] := by rw [List.getD_eq_getElem?_getD, List.getElem?_eq_getElem hk]; rfl
  have hl := h.1
  refine ⟨g, rfl, hb, hlt, (Blk.cell (w := w) (g := g) (t := 55) (cs := cur) hg _).trans (by rw [hgd]; exact hcur _ _ hat.1), (Blk.cell (w := w) (g := g) (t := 55) (cs := cur) hg _).trans (by rw [hgd]; exact hcur _ _ hat.2), Blk.frozen (w := w) (g := g) (t := 55) (cs := cur) hg _, Blk.frozen (w := w) (g := g) (t := 55) (cs := cur) hg _, fun u => ⟨?_, .inr ⟨g, c, cur.setIfInBounds (k * 2) (.int .i64 u), rfl, hb, Blk.set_ (w := w) (g := g) (t := 55) (cs := cur) hg _ _, hnc, hcm, by simp [hcs], ?_⟩⟩, fun u => ⟨?_, .inr ⟨g, c, cur.setIfInBounds (k * 2 + 1) (.int .i64 u), rfl, hb, Blk.set_ (w := w) (g := g) (t := 55) (cs := cur) hg _ _, hnc, hcm, by simp [hcs], ?_⟩⟩⟩
  · rw [smpCells_length, List.length_set, ← smpCells_length]; exact hl
  · rw [Array.toList_setIfInBounds, List.take_set, htk, smpCells_set1 x k u hk]
  · rw [smpCells_length, List.length_set, ← smpCells_length]; exact hl
  · rw [Array.toList_setIfInBounds, List.take_set, htk, smpCells_set2 x k u hk]
end Go.Proofs.Ytgdkcbnpgpjnbaa
