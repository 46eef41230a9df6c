/-
  Lists of numbers in memory; rows of the call's own; slices of numbers.
-/
import Derived.Test.YtilihdkfflfniaaSm
import Derived.Test.YtilihdkfflfniaaOr
import Derived.Test.YtilihdkfflfniaaW3
import Derived.RangeFuncOwn
import Derived.RangeFuncCalls
namespace Go.Proofs.Ytilihdkfflfniaa
open Go.RowKit

/-- '.slice A n c' reads as the numbers ws. -/
def LI (w : World) (B : Nat) (A : Option Addr) (n : Nat) (ws : List Int) : Prop := n = ws.length ∧ Reads w B 1 A n (ws.map (.int .i64 ·))
section
variable {w w' : World} {B B' n : Nat} {A : Option Addr} {ws : List Int}
theorem LI.below (h : LI w B A n ws) (hb : Below B' w w') (hB : B ≤ B') : LI w' B A n ws := ⟨h.1, h.2.below hb hB⟩
theorem LI.more (h : LI w B A n ws) (hB : B ≤ B') : LI w B' A n ws := ⟨h.1, h.2.more hB⟩
theorem LI.at_ (h : LI w B A n ws) {k : Nat} (hk : k < ws.length) : ∃ ad, A = some ad ∧ ad.block < B ∧ w.cell? (ad.add k) = some (.int .i64 ws[k]) := by
  obtain ⟨rfl, hr⟩ := h
  obtain ⟨ad, e, hb, hc⟩ := hr.2 (by omega)
  exact ⟨ad, e, hb, hc k _ (by simp [hk])⟩
theorem LI.none_ : LI w B A 0 [] := ⟨rfl, by simp, fun h => absurd h (by omega)⟩
end

abbrev nums (l : List Int) : List Value := l.map (.int .i64 ·)
theorem own_base_ {W : World} {base base' : Nat} {e : TypeId} {size n : Nat} {v : Value} {xs : List Value} (h : W.ownsRow base e size v n xs) (hb : base' ≤ base) : W.ownsRow base' e size v n xs := by
  refine ⟨h.1, h.2.imp id ?_⟩
  rintro ⟨g, cap, cur, hv, hbg, rest⟩
  exact ⟨g, cap, cur, hv, by omega, rest⟩
theorem own_at {w : World} {base : Nat} {e : TypeId} {n c j : Nat} {A : Option Addr} {xs : List Value} (h : w.ownsRow base e 1 (.slice A n c) n xs) (hj : j < n) :
    ∃ g, A = some ⟨g, 0, none⟩ ∧ g < w.heap.size ∧ w.cell? ⟨g, j, none⟩ = xs[j]? := by
  have hl := h.1
  have e : ∀ g : Nat, (⟨g, 0, none⟩ : Addr).add j = ⟨g, j, none⟩ := fun g => by
    unfold Addr.add; split
    · rename_i h; subst h; rfl
    · simp
  rcases h.2 with ⟨h', hn⟩ | ⟨g, cap, cur, hv, _⟩
  · omega
  · injection hv with hA _ _
    subst hA
    exact ⟨g, rfl, (h.lt g rfl).2, by rw [← e, h.cells (g := g) rfl j _ (List.getElem?_eq_getElem (by omega))]; exact (List.getElem?_eq_getElem (by omega)).symm⟩

/-- Growth by a block of cells keeps all that is no cells. -/
theorem keeps_grown {X Y : World} {row : Option Nat} (hg : X.grownBy Y row) (hr : ∀ r, row = some r → ∃ o : Obj, X.heap[r]? = some o ∧ o.isCells = true) : KeepsOthers X Y :=
  ⟨hg.size, fun k o hk ho => (hg.block k (Array.getElem?_eq_some_iff.1 hk).1 (fun e => by
    obtain ⟨o', h1, h2⟩ := hr k e.symm
    rw [hk] at h1; cases h1; rw [ho] at h2; cases h2)).trans hk⟩
theorem own_cellsR {W : World} {base n size : Nat} {e : TypeId} {v : Value} {xs : List Value} (h : W.ownsRow base e size v n xs) : ∀ r, v.ownBlock = some r → ∃ o : Obj, W.heap[r]? = some o ∧ o.isCells = true := by
  intro r hr
  rcases h.2 with ⟨rfl, _⟩ | ⟨g, cap, cur, rfl, _, hg, _⟩
  · simp [Value.ownBlock] at hr
  · simp [Value.ownBlock] at hr
    subst hr
    exact ⟨_, hg, rfl⟩
theorem keeps_below {X Y : World} (h : Below X.heap.size X Y) : KeepsOthers X Y := ⟨h.size, fun k _ hk _ => (h.block k (Array.getElem?_eq_some_iff.1 hk).1).trans hk⟩

/-- A row of the call's own, as a list. -/
theorem li_own {w : World} {base n : Nat} {v : Value} {xs : List Int} (h : w.ownsRow base 2 1 v n (nums xs)) : ∃ A c, v = .slice A n c ∧ LI w w.heap.size A n xs := by
  obtain ⟨A, c, hv, hr⟩ := own_reads h
  exact ⟨A, c, hv, by have := h.1; simpa using this.symm, hr⟩
theorem li_new (w : World) (xs : List Int) : LI (w.alloc (.cells (nums xs).toArray 2)) (w.heap.size + 1) (some ⟨w.heap.size, 0, none⟩) xs.length xs :=
  ⟨rfl, by simp, fun _ => ⟨_, rfl, Nat.lt_succ_self _, nine_new w (nums xs) _⟩⟩
theorem li_blk {w : World} {g B n : Nat} {cs : Array Value} {xs : List Int} (h : Blk w g 2 cs) (hB : g < B) (hc : cs.toList = nums xs) (hn : n = xs.length) : LI w B (some ⟨g, 0, none⟩) n xs :=
  ⟨hn, reads_cells h hB hc (by simp [hn])⟩
theorem rs_blk {w : World} {g B n : Nat} {t : TypeId} {cs : Array Value} {xs : List Smp} (h : Blk w g t cs) (hB : g < B) (hc : cs.toList = smpCells xs) (hn : n = xs.length) : RS w B (some ⟨g, 0, none⟩) n xs :=
  ⟨hn, reads_cells h hB hc (by rw [smpCells_length, hn])⟩
theorem el_i64s : Try.prog.elem 22 = 2 := by kernel_rfl
theorem size_i64 (W : World) : (sizeOf 2).run Try.prog W = .ok 1 W := by kernel_rfl
theorem nums_to (A : Option Addr) (m n c : Nat) (h : m ≤ c) (W : World) : (Instr.slice 22 (.slice A n c) none (some (.int .i64 (m : Int))) none).run Try.prog W = .ok (.slice A m c) W := by
  rw [run_slice_h (P := Try.prog) W 22 A n c (by rw [el_i64s]; exact Try.underlying22) .i64 (m : Int) (by omega) (by omega), el_i64s, size_i64]
  by_cases h0 : c = 0
  · subst h0
    simp [sliced, Result.andThen]
  · have e : A.map (fun x => x.add 0) = A := by cases A <;> simp [Addr.add]
    simp [sliced, Result.andThen, h0, e]
/-- Where the rest of a list begins. -/
def restA (A : Option Addr) (c m : Nat) : Option Addr := if c = m then A else A.map (·.add m)
theorem nums_from (A : Option Addr) (kl : IntKind) (m n c : Nat) (h : m ≤ n) (W : World) : (Instr.slice 22 (.slice A n c) (some (.int kl (m : Int))) none none).run Try.prog W = .ok (.slice (restA A c m) (n - m) (c - m)) W := by
  rw [run_slice_l (P := Try.prog) W 22 A n c (by rw [el_i64s]; exact Try.underlying22) kl (m : Int) (by omega) (by omega), el_i64s, size_i64]
  simp [sliced, Result.andThen, restA]
theorem LI.take {w : World} {B : Nat} {A : Option Addr} {n : Nat} {l : List Int} (h : LI w B A n l) (m : Nat) (hm : m ≤ n) : LI w B A m (l.take m) := by
  obtain ⟨rfl, h⟩ := h
  refine ⟨by rw [List.length_take]; omega, by simp; omega, fun hn => ?_⟩
  obtain ⟨ad, e, hb, hc⟩ := h.2 (by omega)
  refine ⟨ad, e, hb, fun j u hu => hc j u ?_⟩
  have hj : j < m := by have := (List.getElem?_eq_some_iff.1 hu).1; simp at this; omega
  rw [List.getElem?_map] at hu ⊢
  rwa [List.getElem?_take_of_lt hj] at hu
theorem LI.drop {w : World} {B : Nat} {A : Option Addr} {n c : Nat} {l : List Int} (h : LI w B A n l) (m : Nat) (hm : m ≤ n) (hc : n ≤ c) : LI w B (restA A c m) (n - m) (l.drop m) := by
  obtain ⟨rfl, h⟩ := h
  refine ⟨by rw [List.length_drop], by simp, fun hn => ?_⟩
  obtain ⟨ad, rfl, hb, hcell⟩ := h.2 (by omega)
  unfold restA
  rw [if_neg (by omega)]
  refine ⟨ad.add m, rfl, by rw [block_of_add]; exact hb, fun j u hu => ?_⟩
  rw [add_of_add]
  refine hcell _ u ?_
  rw [List.getElem?_map] at hu ⊢
  rwa [List.getElem?_drop] at hu
theorem own_readsU {w : World} {base n : Nat} {v : Value} {xs : List Int} (h : w.ownsRow base 2 1 v n (nums xs)) : ∃ A c, v = .slice A n c ∧ LI w w.heap.size A n xs ∧ n ≤ c := by
  obtain ⟨A, c, rfl, h1⟩ := li_own h
  refine ⟨A, c, rfl, h1, ?_⟩
  rcases h.2 with ⟨e, hn⟩ | ⟨g, cap, cur, e, _, _, h2, _⟩
  · simp only [Value.slice.injEq] at e; omega
  · simp only [Value.slice.injEq] at e; omega

theorem blk_keptR {X Y : World} {g : Nat} {t : TypeId} {cs : Array Value} {row : Option Nat} (h : Blk X g t cs) (hg : X.grownBy Y row) (hr : ∀ r, row = some r → ∃ o : Obj, X.heap[r]? = some o ∧ o.isCells = false) : Blk Y g t cs := by
  refine (hg.block g h.lt (fun e => ?_)).trans h
  obtain ⟨o, ho, hc⟩ := hr g e.symm
  rw [show X.heap[g]? = _ from h] at ho
  cases ho; cases hc
theorem own_keptR {X Y : World} {base n size : Nat} {e : TypeId} {v : Value} {xs : List Value} {row : Option Nat} (h : X.ownsRow base e size v n xs) (hg : X.grownBy Y row) (hr : ∀ r, row = some r → ∃ o : Obj, X.heap[r]? = some o ∧ o.isCells = false) : Y.ownsRow base e size v n xs := by
  refine ⟨h.1, h.2.imp id ?_⟩
  rintro ⟨g, cap, cur, hv, hb, hg', rest⟩
  exact ⟨g, cap, cur, hv, hb, blk_keptR (t := e) (cs := cur) hg' hg hr, rest⟩
end Go.Proofs.Ytilihdkfflfniaa
