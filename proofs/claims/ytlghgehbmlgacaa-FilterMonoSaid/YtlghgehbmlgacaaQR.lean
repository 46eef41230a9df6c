/-
  Mathematics for FilterMono: what is split is joined again, what is narrowed is widened again, mono stays as it is.
-/
import Derived.Test.YtlghgehbmlgacaaQN
namespace Go.Proofs.Ytlghgehbmlgacaa
open Go.RowKit

theorem jn1_sp (s : Smp) : jn1 (s.2 + (s.1 - s.2) / 2) (s.1 - s.2) = s := by
  obtain ⟨l, r⟩ := s
  unfold jn1
  simp only [Prod.mk.injEq]
  omega
theorem jn_sp : ∀ p : List Smp, jn (spM p) (spD p) = p
  | [] => rfl
  | s :: p => by
    have ih := jn_sp p
    unfold jn spM spD at ih ⊢
    simp only [List.map_cons, List.zipWith_cons_cons]
    rw [ih, jn1_sp]
theorem sp_jn : ∀ (ms ds : List Int), ms.length = ds.length → spM (jn ms ds) = ms ∧ spD (jn ms ds) = ds
  | [], [], _ => ⟨rfl, rfl⟩
  | [], _ :: _, h => by cases h
  | _ :: _, [], h => by cases h
  | m :: ms, d :: ds, h => by
    obtain ⟨i1, i2⟩ := sp_jn ms ds (by simpa using h)
    simp only [jn, spM, spD] at i1 i2 ⊢
    simp only [List.zipWith_cons_cons, List.map_cons, List.cons.injEq]
    refine ⟨⟨?_, i1⟩, ?_, i2⟩
    · unfold jn1; dsimp only; rw [show m - d / 2 + d - (m - d / 2) = d by omega]; omega
    · unfold jn1; dsimp only; omega
theorem sp_len (p : List Smp) : (spM p).length = p.length ∧ (spD p).length = p.length := by unfold spM spD; simp
theorem sdEr_mk {c : Cur} {p : List Smp} (h1 : ckV c = 0) (h2 : ckQ p = 0) : sdEr c p = 0 := by
  unfold sdEr orL; rw [if_pos h1]; unfold orL; rw [if_pos h2]; rfl
theorem ckQ_mk {p : List Smp} (h1 : p.length ≤ 4096) (h2 : vss p = true) : ckQ p = 0 := by unfold ckQ; rw [if_neg (by omega), h2]; rfl
theorem jnRes_sp {p : List Smp} (h : vss p = true) : jnRes (spM p) (spD p) = p ∧ jnErr (spM p) (spD p) = 0 := by
  unfold jnRes jnErr; rw [jn_sp, h]; exact ⟨rfl, rfl⟩
/-- What a programme is narrowed, or widened, to is turned back. -/
theorem sd_back {d : Bool} {c : Cur} {p : List Smp} (hc : ckV c = 0) (hp : ckQ p = 0) (h : sdE d c p = 0) :
    ckQ (sdR d c p) = 0 ∧ spM (sdR d c p) = spM p ∧ sdR (!d) c (sdR d c p) = p ∧ sdE (!d) c (sdR d c p) = 0 ∧ (sdR d c p).length = p.length := by
  obtain ⟨p1, p2⟩ := ckQ_ok hp
  have h0 := sdEr_mk hc hp
  cases hr : run1 d 65534 c [] (spD p) with
  | none => rw [(sdR_none h0 hr).2] at h; cases h
  | some y =>
    obtain ⟨g1, g2⟩ := sdR_some h0 hr
    rw [g2] at h
    rw [g1]
    obtain ⟨b1, b2, b3⟩ := run1_back (spD_wib p2) hr
    have hv : vss (jn (spM p) y) = true := by
      unfold jnErr at h
      cases hv : vss (jn (spM p) y) with
      | true => rfl
      | false => rw [hv] at h; cases h
    have hj : jnRes (spM p) y = jn (spM p) y := by unfold jnRes; rw [hv]; rfl
    have hl : (spM p).length = y.length := by rw [b2, (sp_len p).1, (sp_len p).2]
    obtain ⟨s1, s2⟩ := sp_jn (spM p) y hl
    have hlen : (jn (spM p) y).length = p.length := by rw [jn_len hl, b2, (sp_len p).2]
    have hq : ckQ (jn (spM p) y) = 0 := ckQ_mk (by omega) hv
    rw [hj]
    have hr2 : run1 (!d) 65534 c [] (spD (jn (spM p) y)) = some (spD p) := by rw [s2]; exact b1
    obtain ⟨g3, g4⟩ := sdR_some (sdEr_mk hc hq) hr2
    obtain ⟨g5, g6⟩ := jnRes_sp p2
    exact ⟨hq, s1, by rw [g3, s1, g5], by rw [g4, s1, g6], hlen⟩
theorem sd_err {d : Bool} {c : Cur} {p : List Smp} (hc : ckV c = 0) (hp : ckQ p = 0) : sdE d c p = 0 ∨ sdE d c p = 4 := by
  have h0 := sdEr_mk hc hp
  cases hr : run1 d 65534 c [] (spD p) with
  | none => exact .inr (sdR_none h0 hr).2
  | some y =>
    rw [(sdR_some h0 hr).2]
    unfold jnErr
    cases vss (jn (spM p) y)
    · exact .inr rfl
    · exact .inl rfl
/-- A programme whose channels are the same. -/
def monoL (p : List Smp) : List Smp := p.map fun s => (s.1, s.1)
theorem mono_ck {p : List Smp} (hp : ckQ p = 0) : ckQ (monoL p) = 0 := by
  obtain ⟨p1, p2⟩ := ckQ_ok hp
  refine ckQ_mk (by unfold monoL; rw [List.length_map]; exact p1) ?_
  unfold vss monoL
  rw [List.all_eq_true]
  intro s hs
  obtain ⟨q, hq, rfl⟩ := List.mem_map.1 hs
  unfold vss at p2
  have := vs_bd ((List.all_eq_true.1 p2) q hq)
  exact vs_in (by dsimp only; omega) (by dsimp only; omega) (by dsimp only; omega) (by dsimp only; omega)
theorem mono_sp (p : List Smp) : spD (monoL p) = List.replicate p.length 0 := by
  unfold spD monoL
  rw [List.map_map]
  induction p with
  | nil => rfl
  | cons s p ih => rw [List.map_cons, ih, List.length_cons, List.replicate_succ]; simp
theorem run1_none {d : Bool} {c : Cur} (z : Nat) : run1 d 65534 c [] (List.replicate z 0) = some (List.replicate z 0) := by
  have h := run1_lead (m := 65534) (c := c) (by omega) [] z 0
  simp only [List.replicate_zero, List.append_nil, run1, Option.map_some] at h
  cases d with
  | true => exact h
  | false =>
    refine (run1_back (d := true) (most := 65534) (fun v hv => ?_) h).1
    rw [List.eq_of_mem_replicate hv]; decide
theorem sd_mono {d : Bool} {c : Cur} {p : List Smp} (hc : ckV c = 0) (hp : ckQ p = 0) : sdR d c (monoL p) = monoL p ∧ sdE d c (monoL p) = 0 := by
  have hm := mono_ck hp
  have hr : run1 d 65534 c [] (spD (monoL p)) = some (spD (monoL p)) := by rw [mono_sp]; exact run1_none _
  obtain ⟨g1, g2⟩ := sdR_some (sdEr_mk hc hm) hr
  obtain ⟨g3, g4⟩ := jnRes_sp (ckQ_ok hm).2
  exact ⟨by rw [g1, g3], by rw [g2, g4]⟩
theorem jo_sp {p : List Smp} (hp : ckQ p = 0) : joR (spM p) (spD p) = p ∧ joE (spM p) (spD p) = 0 := by
  obtain ⟨p1, p2⟩ := ckQ_ok hp
  have hs : ckSd (spM p) (spD p) = 0 := by
    obtain ⟨l1, l2⟩ := sp_len p
    have w1 : wibs (spM p) 32767 = true := by unfold wibs; rw [List.all_eq_true]; exact spM_wib p2
    have w2 : wibs (spD p) 65534 = true := by unfold wibs; rw [List.all_eq_true]; exact spD_wib p2
    unfold ckSd
    rw [if_neg (by omega), if_neg (by omega), if_neg (by rw [w1, w2]; simp)]
  obtain ⟨g1, g2⟩ := jnRes_sp p2
  unfold joR joE
  rw [if_pos hs, if_pos hs]
  exact ⟨g1, g2⟩
theorem spl_ok {p : List Smp} (hp : ckQ p = 0) : splM p = spM p ∧ splD p = spD p := by unfold splM splD; rw [if_pos hp, if_pos hp]; exact ⟨rfl, rfl⟩
end Go.Proofs.Ytlghgehbmlgacaa
