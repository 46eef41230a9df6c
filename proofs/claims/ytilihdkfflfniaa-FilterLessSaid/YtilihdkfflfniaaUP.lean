/-
  The mathematics of what is left of a pass through steps, and of a signal: by indexes, as the loops of 'through' count.
-/
import Derived.Test.YtilihdkfflfniaaUN
namespace Go.Proofs.Ytilihdkfflfniaa

/-- What a pass gives, when the first j steps are done. -/
def psR (d : Bool) (most : Int) (cs : List Cur) (hs : List (List (Int × Int))) (j : Nat) (v : Int) : List (List (Int × Int)) × Option Int :=
  (hs.take j ++ (pass d most (cs.drop j) (hs.drop j) v).1, (pass d most (cs.drop j) (hs.drop j) v).2)
section
variable {d : Bool} {most : Int} {cs : List Cur} {hs : List (List (Int × Int))} {j : Nat} {v : Int}
theorem psR_zero : psR d most cs hs 0 v = pass d most cs hs v := by simp [psR]
theorem psR_go (hl : hs.length = cs.length) (hj : j < cs.length) (hw : wib (outM d (mom d cs[j] (hs[j]'(by omega)) v)) most = true) :
    psR d most cs (hs.set j (mom d cs[j] (hs[j]'(by omega)) v :: (hs[j]'(by omega)))) (j + 1) (outM d (mom d cs[j] (hs[j]'(by omega)) v)) = psR d most cs hs j v := by
  have hj' : j < hs.length := by omega
  unfold psR
  rw [List.drop_eq_getElem_cons hj, List.drop_eq_getElem_cons hj', List.drop_set_of_lt (by omega)]
  simp only [pass]
  rw [if_pos hw, List.take_set, List.take_succ_eq_append_getElem hj', List.set_append_right _ _ (by simp; omega)]
  simp [show j - min j hs.length = 0 by omega]
theorem psR_over (hl : hs.length = cs.length) (hj : j < cs.length) (hw : wib (outM d (mom d cs[j] (hs[j]'(by omega)) v)) most = false) : (psR d most cs hs j v).2 = none := by
  have hj' : j < hs.length := by omega
  unfold psR
  rw [List.drop_eq_getElem_cons hj, List.drop_eq_getElem_cons hj']
  simp only [pass]
  rw [if_neg (by simp [hw])]
theorem psR_end (hl : hs.length = cs.length) (hj : j = cs.length) : psR d most cs hs j v = (hs, some v) := by
  unfold psR
  rw [List.drop_of_length_le (by omega), List.drop_of_length_le (show hs.length ≤ j by omega), List.take_of_length_le (by omega)]
  simp [pass]
end
/-- What a signal becomes, when its first k numbers are done. -/
def thR (d : Bool) (most : Int) (cs : List Cur) (hs : List (List (Int × Int))) (xs : List Int) (k : Nat) (ys : List Int) : Option (List Int) :=
  (thr d most cs hs (xs.drop k)).map (ys ++ ·)
section
variable {d : Bool} {most : Int} {cs : List Cur} {hs : List (List (Int × Int))} {xs ys : List Int} {k : Nat}
theorem thR_zero : thR d most cs hs xs 0 [] = thr d most cs hs xs := by simp [thR]
theorem thR_go (hk : k < xs.length) {hs' : List (List (Int × Int))} {o : Int} (hp : pass d most cs hs xs[k] = (hs', some o)) : thR d most cs hs' xs (k + 1) (ys ++ [o]) = thR d most cs hs xs k ys := by
  unfold thR
  rw [List.drop_eq_getElem_cons hk]
  simp only [thr]
  rw [hp]
  cases h : thr d most cs hs' (xs.drop (k + 1)) <;> simp [h]
theorem thR_over (hk : k < xs.length) (hp : (pass d most cs hs xs[k]).2 = none) : thR d most cs hs xs k ys = none := by
  unfold thR
  rw [List.drop_eq_getElem_cons hk]
  simp only [thr]
  generalize pass d most cs hs xs[k] = q at hp ⊢
  obtain ⟨a, b⟩ := q
  dsimp only at hp
  subst hp
  rfl
theorem thR_end (hk : k = xs.length) : thR d most cs hs xs k ys = some ys := by
  unfold thR
  rw [List.drop_of_length_le (by omega)]
  simp [thr]
end
theorem pass_len {d : Bool} {most : Int} : ∀ {cs : List Cur} {hs : List (List (Int × Int))} {v : Int}, (pass d most cs hs v).1.length = hs.length
  | [], hs, v => by cases hs <;> rfl
  | _ :: _, [], v => rfl
  | c :: cs, h :: hs, v => by
    simp only [pass]
    split
    · simp [pass_len]
    · simp
end Go.Proofs.Ytilihdkfflfniaa
