/-
  Where a programme is split: plain mathematics.
-/
import Derived.Test.YtbcahkklhdnboaaG2
import Derived.Test.YtbcahkklhdnboaaB7
namespace Go.Proofs.Ytbcahkklhdnboaa
open Go.RowKit

/-- A time is in the middle of a part; a part is over at a time. -/
def spB (t : Int) (q : Pl) : Bool := decide (q.st < t) && decide (t < q.end_)
def spL (t : Int) (q : Pl) : Bool := decide (q.end_ ≤ t)
/-- How many elements at the head meet p. -/
def cutN (p : Pl → Bool) : List Pl → Nat
  | [] => 0
  | q :: R => if p q then cutN p R + 1 else 0
theorem cutN_le (p : Pl → Bool) : ∀ R : List Pl, cutN p R ≤ R.length
  | [] => Nat.le_refl _
  | q :: R => by
    have := cutN_le p R
    simp only [cutN, List.length_cons]
    split <;> omega
theorem cutN_iff (p : Pl → Bool) : ∀ R : List Pl, (∀ i j (h : j < R.length) (hi : i < j), p R[j] = true → p (R[i]'(by omega)) = true) → ∀ j (h : j < R.length), p R[j] = decide (j < cutN p R)
  | [], _, j, h => absurd h (by simp)
  | q :: R, hc, j, h => by
    by_cases hq : p q = true
    · have hcn : cutN p (q :: R) = cutN p R + 1 := by simp [cutN, hq]
      rw [hcn]
      cases j with
      | zero => simp [hq]
      | succ j =>
        have ih := cutN_iff p R (fun i j hj hij h' => by have := hc (i + 1) (j + 1) (by simpa using hj) (by omega) (by simpa using h'); simpa using this) j (by simpa using h)
        simp only [List.getElem_cons_succ, ih]
        simp
    · have hcn : cutN p (q :: R) = 0 := by simp [cutN, hq]
      rw [hcn]
      cases j with
      | zero => simpa using hq
      | succ j =>
        simp only [Nat.not_lt_zero, decide_false]
        cases hp : p ((q :: R)[j + 1]) with
        | false => rfl
        | true => exact absurd (by have := hc 0 (j + 1) h (by omega) hp; simpa using this) hq

theorem ends_step (ps : List Prt) (R : List Pl) (hR : placeL ps 0 0 = R) (hp : (List.range R.length).all (pc R) = true) (k : Nat) (h : k + 1 < R.length) : R[k].end_ ≤ R[k + 1].end_ := by
  have hps : k + 1 < ps.length := by rw [← hR, placeL_length] at h; exact h
  obtain ⟨e1, e2⟩ := placeL_s ps R hR k hps h
  have := range_pc R _ (k + 1) hp h
  unfold pc at this
  rw [List.getElem?_eq_getElem h] at this
  simp only [Bool.and_eq_true, Bool.not_eq_true', pcA, Bool.or_eq_false_iff, decide_eq_false_iff_not] at this
  have h2 := this.1.1.2
  rw [← e1] at e2
  simp only [Pl.end_, Pl.len] at *
  omega
theorem ends_mono (ps : List Prt) (R : List Pl) (hR : placeL ps 0 0 = R) (hp : (List.range R.length).all (pc R) = true) : ∀ (d i : Nat) (h : i + d < R.length), (R[i]'(by omega)).end_ ≤ R[i + d].end_
  | 0, i, h => by simp
  | d + 1, i, h => by
    have h1 := ends_mono ps R hR hp d i (by omega)
    have h2 := ends_step ps R hR hp (i + d) (by omega)
    have e : R[i + d + 1]'(by omega) = R[i + (d + 1)] := rfl
    rw [e] at h2
    omega
theorem spM_iff (ps : List Prt) (R : List Pl) (hR : placeL ps 0 0 = R) (hp : (List.range R.length).all (pc R) = true) (t : Int) (j : Nat) (h : j < R.length) : spL t R[j] = decide (j < cutN (spL t) R) :=
  cutN_iff (spL t) R (fun i j hj hij h' => by
    have := ends_mono ps R hR hp (j - i) i (by omega)
    have e : R[i + (j - i)]'(by omega) = R[j] := by congr 1; omega
    rw [e] at this
    unfold spL at *
    simp at h' ⊢
    omega) j h
theorem poss_pc (R : List Pl) (h : poss R = true) : (List.range R.length).all (pc R) = true := by
  unfold poss at h
  simp only [Bool.and_eq_true] at h
  exact h.1

/-- A programme with another gap at its head. -/
def adj (g : Int) : List Prt → List Prt
  | [] => []
  | p :: r => { p with gp := g } :: r
theorem adj_length (g : Int) (l : List Prt) : (adj g l).length = l.length := by cases l <;> rfl
theorem adj_snoc (g : Int) (l : List Prt) (p : Prt) (h : 0 < l.length) : adj g (l ++ [p]) = adj g l ++ [p] := by
  cases l with
  | nil => simp at h
  | cons x xs => rfl
/-- The gap of what comes behind a time. -/
def spG (R : List Pl) (t : Int) : Int := match R[cutN (spL t) R]? with | some q => q.st - t | none => 0
theorem spG_at (R : List Pl) (t : Int) (h : cutN (spL t) R < R.length) : spG R t = (R[cutN (spL t) R]'h).st - t := by
  unfold spG; rw [List.getElem?_eq_getElem h]

def spEr (l : List TV) (ps : List Prt) (t : Int) : Int :=
  if ckP l ps = 0 then (if t < 0 then 3 else if lenP (placeL ps 0 0) < t then 3 else if (placeL ps 0 0).any (spB t) = true then 10 else 0) else ckP l ps
def spF (l : List TV) (ps : List Prt) (t : Int) : List Prt := if spEr l ps t = 0 then ps.take (cutN (spL t) (placeL ps 0 0)) else []
def spS (l : List TV) (ps : List Prt) (t : Int) : List Prt := if spEr l ps t = 0 then adj (spG (placeL ps 0 0) t) (ps.drop (cutN (spL t) (placeL ps 0 0))) else []
theorem sp_err (l : List TV) (ps : List Prt) (t : Int) (h : spEr l ps t ≠ 0) : spF l ps t = [] ∧ spS l ps t = [] := by
  unfold spF spS; rw [if_neg h, if_neg h]; exact ⟨rfl, rfl⟩

/-- What Split hands back. -/
def SpPost (w : World) (er : Int) (F S : List Prt) (e : Ending) (w' : World) : Prop :=
  ∃ A c A' c', e = .returned (.tuple #[.slice A F.length c, .slice A' S.length c', .int .i64 er]) ∧ RP w' w'.heap.size A F.length F ∧ RP w' w'.heap.size A' S.length S ∧ Below w.heap.size w w'
theorem sp_nil {w w' : World} {er : Int} {F S : List Prt} (hF : F = []) (hS : S = []) (hb : Below w.heap.size w w') : SpPost w er F S (.returned (.tuple #[.slice none 0 0, .slice none 0 0, .int .i64 er])) w' := by
  subst hF; subst hS
  exact ⟨none, 0, none, 0, rfl, ⟨rfl, Reads.none_⟩, ⟨rfl, Reads.none_⟩, hb⟩
theorem any_take (R : List Pl) (p : Pl → Bool) (k : Nat) (h : k < R.length) : (R.take (k + 1)).any p = ((R.take k).any p || p R[k]) := by
  rw [List.take_succ_eq_append_getElem h, List.any_append]; simp
theorem any_of_get (R : List Pl) (p : Pl → Bool) (k : Nat) (h : k < R.length) (hp : p R[k] = true) : R.any p = true := by
  rw [List.any_eq_true]; exact ⟨_, List.getElem_mem h, hp⟩
end Go.Proofs.Ytbcahkklhdnboaa
