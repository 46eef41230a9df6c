/-
  Mathematics for FilterMono: what is split is joined again, what is narrowed is widened again, mono stays as it is.
-/
import Derived.Test.YtjaomjbhkgijbaaMg43
import Derived.Test.YtjaomjbhkgijbaaMg37

namespace Go.Proofs.Ytjaomjbhkgijbaa
open Go.RowKit

theorem jn1_sp (s : Smp) : jn1 (s.2 + (s.1 - s.2) / 2) (s.1 - s.2) = s := by
  obtain ⟨l, r⟩ := s
  unfold jn1
  simp only [Prod.mk.injEq]
  omega
theorem jn_sp : ∀ p : List Smp, jn (spM p) (spD p) = p
  | [] => rfl
  | s :: p => by
    have ih := jn_sp p
    unfold jn spM spD at ih ⊢
    simp only [List.map_cons, List.zipWith_cons_cons]
    rw [ih, jn1_sp]
theorem sp_jn : ∀ (ms ds : List Int), ms.length = ds.length → spM (jn ms ds) = ms ∧ spD (jn ms ds) = ds
  | [], [], _ => ⟨rfl, rfl⟩
  | [], _ :: _, h => by cases h
  | _ :: _, [], h => by cases h
  | m :: ms, d :: ds, h => by
    obtain ⟨i1, i2⟩ := sp_jn ms ds (by simpa using h)
    simp only [jn, spM, spD] at i1 i2 ⊢
    simp only [List.zipWith_cons_cons, List.map_cons, List.cons.injEq]
    refine ⟨⟨?_, i1⟩, ?_, i2⟩
    · unfold jn1; dsimp only; rw [show m - d / 2 + d - (m - d / 2) = d by omega]; omega
    · unfold jn1; dsimp only; omega
theorem sp_len (p : List Smp) : (spM p).length = p.length ∧ (spD p).length = p.length := by unfold spM spD; simp
theorem sdEr_mk {c : Cur} {p : List Smp} (h1 : ckV c = 0) (h2 : ckQ p = 0) : sdEr c p = 0 := by
  unfold sdEr orL; rw [if_pos h1]; unfold orL; rw [if_pos h2]; rfl
theorem ckQ_mk {p : List Smp} (h1 : p.length ≤ 4096) (h2 : vss p = true) : ckQ p = 0 := by unfold ckQ; rw [if_neg (by omega), h2]; rfl
theorem jnRes_sp {p : List Smp} (h : vss p = true) : jnRes (spM p) (spD p) = p ∧ jnErr (spM p) (spD p) = 0 := by
  unfold jnRes jnErr; rw [jn_sp, h]; exact ⟨rfl, rfl⟩
/-- What a programme is narrowed, or widened, to is turned back. -/
theorem sd_back {d : Bool} {c : Cur} {p : List Smp} (hc : ckV c = 0) (hp : ckQ p = 0) (h : sdE d c p = 0) :
    ckQ (sdR d c p) = 0 ∧ spM (sdR d c p) = spM p ∧ sdR (!d) c (sdR d c p) = p ∧ sdE (!d) c (sdR d c p) = 0 ∧ (sdR d c p).length = p.length := by
  obtain ⟨p1, p2⟩ := ckQ_ok hp
  have h0 := sdEr_mk hc hp
  cases hr : run1 d 65534 c [] (spD p) with
  | none => rw [(sdR_none h0 hr).2] at h; cases h
  | some y =>
    obtain ⟨g1, g2⟩ := sdR_some h0 hr
    rw [g2] at h
    rw [g1]
    obtain ⟨b1, b2, b3⟩ := run1_back (spD_wib p2) hr
    have hv : vss (jn (spM p) y) = true := by
      unfold jnErr at h
      cases hv : vss (jn (spM p) y) with
      | true => rfl
      | false => rw [hv] at h; cases h
    have hj : jnRes (spM p) y = jn (spM p) y := by unfold jnRes; rw [hv]; rfl
    have hl : (spM p).length = y.length := by rw [b2, (sp_len p).1, (sp_len p).2]
    obtain ⟨s1, s2⟩ := sp_jn (spM p) y hl
    have hlen : (jn (spM p) y).length = p.length := by rw [jn_len hl, b2, (sp_len p).2]
    have hq : ckQ (jn (spM p) y) = 0 := ckQ_mk (by omega) hv
    rw [hj]
    have hr2 : run1 (!d) 65534 c [] (spD (jn (spM p) y)) = some (spD p) := by rw [s2]; exact b1
    obtain ⟨g3, g4⟩ := sdR_some (sdEr_mk hc hq) hr2
    obtain ⟨g5, g6⟩ := jnRes_sp p2
    exact ⟨hq, s1, by rw [g3, s1, g5], by rw [g4, s1, g6], hlen⟩
theorem sd_err {d : Bool} {c : Cur} {p : List Smp} (hc : ckV c = 0) (hp : ckQ p = 0) : sdE d c p = 0 ∨ sdE d c p = 4 := by
  have h0 := sdEr_mk hc hp
  cases hr : run1 d 65534 c [] (spD p) with
  | none => exact .inr (sdR_none h0 hr).2
  | some y =>
    rw [(sdR_some h0 hr).2]
    unfold jnErr
    cases vss (jn (spM p) y)
    · exact .inr rfl
    · exact .inl rfl
/-- A programme whose channels are the same. -/
def monoL (p : List Smp) : List Smp := p.map fun s => (s.1, s.1)
theorem mono_ck {p : List Smp} (hp : ckQ p = 0) : ckQ (monoL p) = 0 := by
  obtain ⟨p1, p2⟩ := ckQ_ok hp
  refine ckQ_mk (by unfold monoL; rw [List.length_map]; exact p1) ?_
  unfold vss monoL
  rw [List.all_eq_true]
  intro s hs
  obtain ⟨q, hq, rfl⟩ := List.mem_map.1 hs
  unfold vss at p2
  have := vs_bdQ ((List.all_eq_true.1 p2) q hq)
  exact vs_in (by dsimp only; omega) (by dsimp only; omega) (by dsimp only; omega) (by dsimp only; omega)
theorem mono_sp (p : List Smp) : spD (monoL p) = List.replicate p.length 0 := by
  unfold spD monoL
  rw [List.map_map]
  induction p with
  | nil => rfl
  | cons s p ih => rw [List.map_cons, ih, List.length_cons, List.replicate_succ]; simp
theorem run1_none {d : Bool} {c : Cur} (z : Nat) : run1 d 65534 c [] (List.replicate z 0) = some (List.replicate z 0) := by
  have h := run1_lead (m := 65534) (c := c) (by omega) [] z 0
  simp only [List.replicate_zero, List.append_nil, run1, Option.map_some] at h
  cases d with
  | true => exact h
  | false =>
    refine (run1_back (d := true) (most := 65534) (fun v hv => ?_) h).1
    rw [List.eq_of_mem_replicate hv]; decide
theorem sd_mono {d : Bool} {c : Cur} {p : List Smp} (hc : ckV c = 0) (hp : ckQ p = 0) : sdR d c (monoL p) = monoL p ∧ sdE d c (monoL p) = 0 := by
  have hm := mono_ck hp
  have hr : run1 d 65534 c [] (spD (monoL p)) = some (spD (monoL p)) := by rw [mono_sp]; exact run1_none _
  obtain ⟨g1, g2⟩ := sdR_some (sdEr_mk hc hm) hr
  obtain ⟨g3, g4⟩ := jnRes_sp (ckQ_ok hm).2
  exact ⟨by rw [g1, g3], by rw [g2, g4]⟩
theorem jo_sp {p : List Smp} (hp : ckQ p = 0) : joR (spM p) (spD p) = p ∧ joE (spM p) (spD p) = 0 := by
  obtain ⟨p1, p2⟩ := ckQ_ok hp
  have hs : ckSd (spM p) (spD p) = 0 := by
    obtain ⟨l1, l2⟩ := sp_len p
    have w1 : wibs (spM p) 32767 = true := by unfold wibs; rw [List.all_eq_true]; exact spM_wib p2
    have w2 : wibs (spD p) 65534 = true := by unfold wibs; rw [List.all_eq_true]; exact spD_wib p2
    unfold ckSd
    rw [if_neg (by omega), if_neg (by omega), if_neg (by rw [w1, w2]; simp)]
  obtain ⟨g1, g2⟩ := jnRes_sp p2
  unfold joR joE
  rw [if_pos hs, if_pos hs]
  exact ⟨g1, g2⟩
theorem spl_ok {p : List Smp} (hp : ckQ p = 0) : splM p = spM p ∧ splD p = spD p := by unfold splM splD; rw [if_pos hp, if_pos hp]; exact ⟨rfl, rfl⟩
end Go.Proofs.Ytjaomjbhkgijbaa

/-
  The mathematics of TopSided; a cutter, opened with the bounds of its gain.
-/
namespace Go.Proofs.Ytjaomjbhkgijbaa
open Go.RowKit

theorem run1_ckT {d : Bool} {c : Cur} {x y : List Int} (hx : ckX x = 0) (h : run1 d 32767 c [] x = some y) : ckX y = 0 := by
  obtain ⟨h1, h2⟩ := ckX_ok hx
  obtain ⟨_, h4, h5⟩ := run1_back h2 h
  exact ckX_mk (by omega) h5
theorem run1_more {d : Bool} {m m' : Int} {c : Cur} (hm : m ≤ m') : ∀ {x : List Int} {h : List (Int × Int)} {y : List Int}, run1 d m c h x = some y → run1 d m' c h x = some y
  | [], _, y, e => by unfold run1 at e ⊢; exact e
  | v :: x, h, y, e => by
    unfold run1 at e ⊢
    split at e
    · rename_i hw
      have hw' : wib (outM d (mom d c h v)) m' = true := by
        unfold wib at hw ⊢
        simp at hw ⊢
        omega
      rw [if_pos hw']
      cases hr : run1 d m c (mom d c h v :: h) x with
      | none => rw [hr] at e; cases e
      | some z =>
        rw [hr] at e
        rw [run1_more hm hr]
        exact e
    · cases e
theorem one_err3 {c : Cur} {d : List Int} (h1 : ckV c = 0) (h2 : d.length ≤ 4096) : oneErr true c d = 0 ∨ oneErr true c d = 3 ∨ oneErr true c d = 4 := by
  by_cases hx : ckX d = 0
  · have h := one_er h1 hx
    unfold oneErr chErr
    rw [if_pos h]
    split
    · exact .inr (.inr rfl)
    · exact .inl rfl
  · have h3 : ckX d = 3 := by
      unfold ckX at hx ⊢
      rw [if_neg (by omega)] at hx ⊢
      split
      · rename_i hw; rw [if_pos hw] at hx; exact absurd rfl hx
      · rfl
    have hc : ckCs [c] = 0 := by unfold ckCs; rw [if_neg (by simp)]; unfold errs; rw [if_pos h1]; rfl
    have he : chEr [c] d = 3 := by unfold chEr orL; rw [if_pos hc]; unfold orL; rw [h3]; rfl
    unfold oneErr chErr
    rw [he]
    exact .inr (.inl rfl)
theorem swg_k {ct : Ctr} {k x : Int} (hg : ct.gain = k * 1000) : swg ct x = x * k := by
  unfold swg
  rw [hg, ← Int.mul_assoc, Int.mul_tdiv_cancel _ (by omega)]
theorem mul_kb {x k : Int} (hx : -32767 ≤ x ∧ x ≤ 32767) (hk : 0 ≤ k ∧ k ≤ 100) : -3276700 ≤ x * k ∧ x * k ≤ 3276700 := by
  have h := Int.natAbs_mul x k
  have : x.natAbs * k.natAbs ≤ 32767 * 100 := Nat.mul_le_mul (by omega) (by omega)
  omega
/-- What is told of a programme that is narrowed, of its groove, and of the sides through the curve. -/
structure Sdd (c : Cur) (ct : Ctr) (p q : List Smp) (y : List Int) (k : Int) : Prop where
  one : oneRes true c (splD p) = y ∧ oneErr true c (splD p) = 0
  nar : sdR true c p = q ∧ sdE true c p = 0
  ck : ckQ q = 0
  spl : splM q = splM p ∧ splD q = y
  len : y.length = p.length ∧ q.length = p.length ∧ (splM p).length = p.length ∧ (splD p).length = p.length
  cut : cutEr ct q = 0 ∧ cutRes ct q = q.map (wallP ct)
  wal : ∀ i (h : i < y.length), ∃ a b : Int, gAt (q.map (wallP ct)) i = (a, b) ∧ b - a = 2 * ct.half + k * y[i] ∧ (-8388608 ≤ a ∧ a ≤ 8388608) ∧ (-8388608 ≤ b ∧ b ≤ 8388608) ∧ (-3276800 ≤ k * y[i] ∧ k * y[i] ≤ 3276800)
  kb : 0 ≤ k ∧ k ≤ 100
theorem sdd_of {c : Cur} {ct : Ctr} {p : List Smp} {k : Int} (xc : ckV c = 0) (pc : ckQ p = 0) (cc : ckC ct = 0) (hg : ct.gain = k * 1000) (hE : sdE true c p = 0) (hF : oneErr true c (splD p) = 0) :
    ∃ q y, Sdd c ct p q y k := by
  obtain ⟨hl, hv⟩ := ckQ_ok pc
  obtain ⟨m1, m2⟩ := spl_ok pc
  obtain ⟨l1, l2⟩ := sp_len p
  have hct := ckC_ok cc
  have hg1 := hct.g1
  have hg2 := hct.g2
  rw [hg] at hg1 hg2
  have hsd := sdEr_mk xc pc
  rw [m2] at hF
  have hX : ckX (spD p) = 0 := by
    by_cases hx : ckX (spD p) = 0
    · exact hx
    · exfalso
      have h3 : ckX (spD p) = 3 := by
        unfold ckX at hx ⊢
        rw [if_neg (by omega)] at hx ⊢
        split
        · rename_i hw; rw [if_pos hw] at hx; exact absurd rfl hx
        · rfl
      have hc : ckCs [c] = 0 := by unfold ckCs; rw [if_neg (by simp)]; unfold errs; rw [if_pos xc]; rfl
      have he : chEr [c] (spD p) = 3 := by unfold chEr orL; rw [if_pos hc]; unfold orL; rw [h3]; rfl
      unfold oneErr chErr at hF
      rw [he] at hF
      simp at hF
  have hch := one_er xc hX
  cases hy : run1 true 32767 c [] (spD p) with
  | none =>
    have := (one_none (d := true) hch (by rw [chain_one]; exact hy)).2
    rw [hF] at this
    cases this
  | some y =>
    have ho := one_some (d := true) hch (by rw [chain_one]; exact hy)
    have hr := sdR_some hsd (run1_more (by omega) hy)
    rw [hr.2] at hE
    have hvj : vss (jn (spM p) y) = true := by
      unfold jnErr at hE
      split at hE
      · assumption
      · cases hE
    have hyl : y.length = (spD p).length := run1_length hy
    have hjl := jn_len (ms := spM p) (ds := y) (by omega)
    have hq : jnRes (spM p) y = jn (spM p) y := by unfold jnRes; rw [hvj]; rfl
    have hck : ckQ (jn (spM p) y) = 0 := ckQ_mk (by omega) hvj
    obtain ⟨s1, s2⟩ := spl_ok hck
    obtain ⟨t1, t2⟩ := sp_jn (spM p) y (by omega)
    have hcs : ckS (jn (spM p) y) = 0 := by
      unfold ckS
      rw [if_neg (by omega), hvj]
      rfl
    have hcu : cutEr ct (jn (spM p) y) = 0 := by unfold cutEr orL; rw [if_pos cc]; unfold orL; rw [if_pos hcs]; rfl
    have hyx := (ckX_ok (run1_ckT hX hy)).2
    refine ⟨jn (spM p) y, y, ⟨by rw [m2]; exact ho, ⟨hr.1.trans hq, by rw [hr.2]; unfold jnErr; rw [hvj]; rfl⟩, hck, ⟨by rw [s1, t1, m1], by rw [s2, t2]⟩, ⟨by omega, by omega, by rw [m1]; exact l1, by rw [m2]; exact l2⟩, ⟨hcu, by unfold cutRes; rw [if_pos hcu]⟩, fun i h => ?_, by omega, by omega⟩⟩
    have hi1 : i < (spM p).length := by omega
    have hi2 : i < (jn (spM p) y).length := by omega
    have hbs := (ckS_ok hcs).2 _ (List.getElem_mem hi2)
    have hyb := wib_bd (hyx _ (List.getElem_mem h))
    rw [gAt_eq (by rw [List.length_map]; exact hi2), List.getElem_map]
    rw [jn_at hi1 h hi2] at hbs ⊢
    unfold jn1 at hbs ⊢
    dsimp only at hbs
    unfold wallP
    dsimp only
    obtain ⟨v, hv_⟩ : ∃ v, y[i] = v := ⟨_, rfl⟩
    obtain ⟨m, hm_⟩ : ∃ m, (spM p)[i] = m := ⟨_, rfl⟩
    rw [hv_, hm_] at hbs ⊢
    rw [hv_] at hyb
    obtain ⟨r, hr_⟩ : ∃ r, m - v / 2 = r := ⟨_, rfl⟩
    rw [hr_] at hbs ⊢
    rw [swg_k hg, swg_k hg]
    have e1 : (r + v) * k = r * k + v * k := Int.add_mul _ _ _
    have e2 : k * v = v * k := Int.mul_comm _ _
    have b1 := mul_kb (x := r) (k := k) (by omega) (by omega)
    have b2 := mul_kb (x := v) (k := k) (by omega) (by omega)
    have b3 := mul_kb (x := r + v) (k := k) (by omega) (by omega)
    have hh1 := hct.h1
    have hh2 := hct.h2
    refine ⟨_, _, rfl, by omega, by omega, by omega, by omega⟩
end Go.Proofs.Ytjaomjbhkgijbaa

