/-
  Sounds at all times: plain mathematics.
-/
import Derived.Test.YtbcahkklhdnboaaT1
import Derived.Test.YtbcahkklhdnboaaCM
namespace Go.Proofs.Ytbcahkklhdnboaa
open Go.RowKit

/-- How many samples of a part have sounded before a time. -/
def mq (t : Int) (q : Pl) : Int := max 0 (min (t - q.st) (q.p.to - q.p.fr))
def inL (L : List (Pl × Int)) (q : Pl) : Bool := L.any fun x => decide (x.1.ix = q.ix)
def mv (L : List (Pl × Int)) (t : Int) (q : Pl) : Int := mq t q + (if inL L q = true then 1 else 0)
def mCells (R : List Pl) (L : List (Pl × Int)) (t : Int) : List Value := R.map fun q => .int .i64 (mv L t q)
theorem mCells_at (R : List Pl) (L : List (Pl × Int)) (t : Int) (k : Nat) (h : k < R.length) : (mCells R L t)[k]? = some (.int .i64 (mv L t R[k])) := by simp [mCells, h]

theorem mq_succ (t : Int) (q : Pl) (h : q.p.fr < q.p.to) : mq (t + 1) q = mq t q + (if sndB t q = true then 1 else 0) := by
  unfold mq sndB
  simp only [Pl.end_]
  by_cases h1 : q.st ≤ t <;> by_cases h2 : t < q.st + (q.p.to - q.p.fr) <;> simp [h1, h2] <;> omega
theorem mq_snd (t : Int) (q : Pl) (h : sndB t q = true) : mq t q = t - q.st := by
  have h' : q.st ≤ t ∧ t < q.end_ := by simpa [sndB] using h
  obtain ⟨h1, h2⟩ := h'
  simp only [Pl.end_] at h2
  unfold mq
  omega

/-- Each element that sounds is a part of the programme. -/
theorem sndL_mem (R : List Pl) (t : Int) (x : Pl × Int) (hx : x ∈ sndL R t) : ∃ (j : Nat) (hj : j < R.length), x = (R[j], t - R[j].st) ∧ sndB t R[j] = true := by
  simp only [sndL, List.mem_map, List.mem_filter] at hx
  obtain ⟨q, ⟨hq1, hq2⟩, rfl⟩ := hx
  obtain ⟨j, hj, rfl⟩ := List.getElem_of_mem hq1
  exact ⟨j, hj, rfl, hq2⟩
theorem inL_all (R : List Pl) (t : Int) (hix : ∀ (k : Nat) (h : k < R.length), R[k].ix = (k : Int)) (k : Nat) (h : k < R.length) : inL (sndL R t) R[k] = sndB t R[k] := by
  cases hs : sndB t R[k]
  · unfold inL
    rw [List.any_eq_false]
    intro x hx
    obtain ⟨j, hj, rfl, hsj⟩ := sndL_mem R t x hx
    simp only [decide_eq_true_eq, hix j hj, hix k h]
    intro e
    have : j = k := by omega
    subst this
    rw [hs] at hsj; cases hsj
  · unfold inL
    rw [List.any_eq_true]
    refine ⟨(R[k], t - R[k].st), ?_, by simp⟩
    simp only [sndL, List.mem_map, List.mem_filter]
    exact ⟨R[k], ⟨List.getElem_mem h, hs⟩, rfl⟩
theorem mv_done (R : List Pl) (t : Int) (hix : ∀ (k : Nat) (h : k < R.length), R[k].ix = (k : Int)) (hp : ∀ q ∈ R, PlOk q) : mCells R (sndL R t) t = mCells R [] (t + 1) := by
  unfold mCells
  refine List.map_congr_left fun q hq => ?_
  obtain ⟨k, h, rfl⟩ := List.getElem_of_mem hq
  have hpk := (hp _ (List.getElem_mem h)).1.2.1
  unfold mv
  rw [inL_all R t hix k h, mq_succ t _ hpk]
  simp [inL]

/-- The order of what sounds. -/
theorem ix_pair : ∀ (R : List Pl) (b : Nat), (∀ (k : Nat) (h : k < R.length), R[k].ix = ((b + k : Nat) : Int)) → R.Pairwise (fun a c => a.ix < c.ix) := by
  intro R
  induction R with
  | nil => intro b _; exact List.Pairwise.nil
  | cons q R ih =>
    intro b h
    refine List.Pairwise.cons (fun a ha => ?_) (ih (b + 1) fun k hk => by have := h (k + 1) (by simpa using hk); simp only [List.getElem_cons_succ] at this; rw [this]; congr 1; omega)
    obtain ⟨k, hk, rfl⟩ := List.getElem_of_mem ha
    have h0 := h 0 (by simp)
    have h1 := h (k + 1) (by simpa using hk)
    simp only [List.getElem_cons_zero, List.getElem_cons_succ] at h0 h1
    rw [h0, h1]; omega
theorem sndL_pair (R : List Pl) (t : Int) (hix : ∀ (k : Nat) (h : k < R.length), R[k].ix = (k : Int)) : (sndL R t).Pairwise (fun a c => a.1.ix < c.1.ix) := by
  unfold sndL
  rw [List.pairwise_map]
  exact (ix_pair R 0 (fun k h => by rw [hix k h]; simp)).filter _
theorem sndL_lt (R : List Pl) (t : Int) (hix : ∀ (k : Nat) (h : k < R.length), R[k].ix = (k : Int)) (i j : Nat) (hj : j < (sndL R t).length) (hij : i < j) : (sndL R t)[i].1.ix < (sndL R t)[j].1.ix :=
  List.pairwise_iff_getElem.1 (sndL_pair R t hix) i j (by omega) hj hij
theorem inL_take (R : List Pl) (t : Int) (hix : ∀ (k : Nat) (h : k < R.length), R[k].ix = (k : Int)) (i : Nat) (hi : i < (sndL R t).length) : inL ((sndL R t).take i) (sndL R t)[i].1 = false := by
  unfold inL
  rw [List.any_eq_false]
  intro x hx
  obtain ⟨j, hj, rfl⟩ := List.getElem_of_mem hx
  rw [List.length_take] at hj
  have := sndL_lt R t hix j i hi (by omega)
  simp only [List.getElem_take, decide_eq_true_eq]
  omega
/-- One part more has sounded. -/
theorem mCells_step (R : List Pl) (t : Int) (hix : ∀ (k : Nat) (h : k < R.length), R[k].ix = (k : Int)) (i : Nat) (hi : i < (sndL R t).length) (j : Nat) (hj : j < R.length) (hx : (sndL R t)[i].1 = R[j]) :
    (mCells R ((sndL R t).take i) t).set j (.int .i64 (mv ((sndL R t).take i) t R[j] + 1)) = mCells R ((sndL R t).take (i + 1)) t := by
  have hn := inL_take R t hix i hi
  rw [hx] at hn
  refine List.ext_getElem? fun k => ?_
  rw [List.getElem?_set]
  by_cases hkR : k < R.length
  · rw [mCells_at _ _ _ k hkR, mCells_at _ _ _ k hkR]
    have hl : j < (mCells R ((sndL R t).take i) t).length := by simpa [mCells] using hj
    have hin : inL ((sndL R t).take (i + 1)) R[k] = (inL ((sndL R t).take i) R[k] || decide (j = k)) := by
      unfold inL
      rw [List.take_succ_eq_append_getElem hi, List.any_append]
      simp only [List.any_cons, List.any_nil, Bool.or_false, hx, hix j hj, hix k hkR]
      congr 1
      simp
      omega
    by_cases hjk : j = k
    · subst hjk
      rw [if_pos rfl, if_pos hl]
      unfold mv
      rw [hin, hn]; simp
    · rw [if_neg hjk]
      unfold mv
      rw [hin]; simp [hjk]
  · have h1 : (mCells R ((sndL R t).take i) t)[k]? = none := List.getElem?_eq_none (by simp [mCells]; omega)
    have h2 : (mCells R ((sndL R t).take (i + 1)) t)[k]? = none := List.getElem?_eq_none (by simp [mCells]; omega)
    rw [h1, h2, if_neg (by omega)]

/-- At most two parts sound at a time. -/
theorem two_sound (ps : List Prt) (R : List Pl) (hR : placeL ps 0 0 = R) (hp : (List.range R.length).all (pc R) = true) (t : Int) : ∀ k, k ≤ R.length → ((R.take k).filter (sndB t)).length ≤ 2 := by
  have one : ∀ k (h : k < R.length), sndB t R[k] = true → ((R.take k).filter (sndB t)).length ≤ 1 := by
    intro k h hs
    match k, h, hs with
    | 0, _, _ => simp
    | 1, h, _ =>
      have := List.length_filter_le (sndB t) (R.take 1)
      rw [List.length_take] at this; omega
    | j + 2, h, hs =>
      have hpc := range_pc R _ (j + 2) hp h
      unfold pc at hpc
      rw [List.getElem?_eq_getElem h] at hpc
      simp only [Bool.and_eq_true, Bool.not_eq_true'] at hpc
      have h3 := hpc.2
      rw [pcC_2 R j (by omega)] at h3
      have h4 := of_decide_eq_false h3
      unfold sndB at hs
      simp only [Bool.and_eq_true, decide_eq_true_eq] at hs
      have hnone : (R.take (j + 1)).filter (sndB t) = [] := by
        rw [List.filter_eq_nil_iff]
        intro q hq
        obtain ⟨i, hi, rfl⟩ := List.getElem_of_mem hq
        rw [List.length_take] at hi
        have := ends_mono ps R hR hp (j - i) i (by omega)
        have e : R[i + (j - i)]'(by omega) = R[j]'(by omega) := by congr 1; omega
        rw [e] at this
        simp only [List.getElem_take]
        unfold sndB
        simp only [Bool.and_eq_true, decide_eq_true_eq]
        omega
      rw [List.take_succ_eq_append_getElem (show j + 1 < R.length by omega), List.filter_append, hnone]
      simp only [List.nil_append]
      exact List.length_filter_le _ _
  intro k
  induction k with
  | zero => intro _; simp
  | succ k ih =>
    intro hk
    rw [List.take_succ_eq_append_getElem (show k < R.length by omega), List.filter_append, List.length_append]
    cases hs : sndB t (R[k]'(by omega))
    · simp [hs]; exact ih (by omega)
    · have := one k (by omega) hs
      simp [hs]; omega
theorem sndL_two (ps : List Prt) (R : List Pl) (hR : placeL ps 0 0 = R) (hp : (List.range R.length).all (pc R) = true) (t : Int) : (sndL R t).length ≤ 2 := by
  have := two_sound ps R hR hp t R.length (Nat.le_refl _)
  rw [List.take_length] at this
  unfold sndL
  rw [List.length_map]; exact this

/-- At the beginning nothing has sounded; at the end all has. -/
theorem mCells_0 (R : List Pl) (hp : (List.range R.length).all (pc R) = true) (hq : ∀ q ∈ R, PlOk q) : mCells R [] 0 = R.map fun _ => .int .i64 0 := by
  unfold mCells
  refine List.map_congr_left fun q hq' => ?_
  obtain ⟨k, h, rfl⟩ := List.getElem_of_mem hq'
  have h0 := pc_st R k h (range_pc R _ k hp h)
  have h1 := (hq _ (List.getElem_mem h)).1.2.1
  unfold mv mq inL
  simp
  omega
theorem mv_end (ps : List Prt) (R : List Pl) (hR : placeL ps 0 0 = R) (hp : (List.range R.length).all (pc R) = true) (hq : ∀ q ∈ R, PlOk q) (k : Nat) (h : k < R.length) : mv [] (lenP R) R[k] = R[k].p.to - R[k].p.fr := by
  have h1 := (hq _ (List.getElem_mem h)).1.2.1
  have h2 := ends_mono ps R hR hp (R.length - 1 - k) k (by omega)
  have e : R[k + (R.length - 1 - k)]'(by omega) = R[R.length - 1]'(by omega) := by congr 1; omega
  rw [e] at h2
  have h3 : lenP R = (R[R.length - 1]'(by omega)).end_ := by unfold lenP; rw [List.getElem?_eq_getElem (by omega)]
  rw [← h3] at h2
  simp only [Pl.end_] at h2
  unfold mv mq inL
  simp
  omega

/-- Sounds, and the sums of two, are far from the ends of their kind. -/
theorem tdiv_bd (a b : Int) (m : Nat) (h1 : -(m : Int) ≤ a) (h2 : a ≤ m) : -(m : Int) ≤ a.tdiv b ∧ a.tdiv b ≤ m := by
  have h := Int.natAbs_tdiv_le_natAbs a b
  omega
def BdS (m : Int) (s : Smp) : Prop := (-m ≤ s.1 ∧ s.1 ≤ m) ∧ (-m ≤ s.2 ∧ s.2 ≤ m)
theorem sndOf_bd (l : List TV) (q : Pl) (k : Int) (h : SdOk l q) (hk0 : 0 ≤ k) (hk1 : k < q.len) : BdS 131330268068000 (sndOf l (q, k)) := by
  obtain ⟨ho, hf, m, hm, htk, hto, hn4, hnx, hxs⟩ := h
  obtain ⟨u1, u2⟩ := gUp_bd q.p q.len k hf hk0 hk1
  unfold sndOf
  simp only [htk, Int.toNat_natCast, List.getElem?_eq_getElem hm]
  have hfr := ho.1
  simp only [Pl.len] at hk1
  rw [List.getElem?_eq_getElem (show (q.p.fr + k).toNat < l[m].xs.length by omega)]
  have hs := hxs _ (List.getElem_mem (show (q.p.fr + k).toNat < l[m].xs.length by omega))
  obtain ⟨s, hse⟩ : ∃ s, l[m].xs[(q.p.fr + k).toNat]'(by omega) = s := ⟨_, rfl⟩
  rw [hse] at hs ⊢
  have key : ∀ x : Int, -32767 ≤ x → x ≤ 32767 → -131330268068000 ≤ x * gUp q.p q.len k ∧ x * gUp q.p q.len k ≤ 131330268068000 := by
    intro x h1 h2
    have a1 : x * gUp q.p q.len k ≤ 32767 * gUp q.p q.len k := Int.mul_le_mul_of_nonneg_right h2 u1
    have a2 : -32767 * gUp q.p q.len k ≤ x * gUp q.p q.len k := Int.mul_le_mul_of_nonneg_right h1 u1
    omega
  have k1 := key s.1 hs.1.1 hs.1.2
  have k2 := key s.2 hs.2.1 hs.2.2
  exact ⟨tdiv_bd _ _ 131330268068000 k1.1 k1.2, tdiv_bd _ _ 131330268068000 k2.1 k2.2⟩
theorem sumS_bd (xs : List Smp) (h2 : xs.length ≤ 2) (h : ∀ s ∈ xs, BdS 131330268068000 s) : BdS 262660536136000 (sumS xs) := by
  match xs, h2, h with
  | [], _, _ => unfold sumS BdS; simp
  | [a], _, h =>
    obtain ⟨⟨_, _⟩, _, _⟩ := h a (by simp)
    unfold sumS BdS addS wrap64
    simp only [List.foldl_cons, List.foldl_nil]
    omega
  | [a, b], _, h =>
    obtain ⟨⟨_, _⟩, _, _⟩ := h a (by simp)
    obtain ⟨⟨_, _⟩, _, _⟩ := h b (by simp)
    unfold sumS BdS addS wrap64
    simp only [List.foldl_cons, List.foldl_nil]
    omega
end Go.Proofs.Ytbcahkklhdnboaa
