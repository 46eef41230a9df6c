/-
  The edges of a sample and of a groove, as lists; when a cut keeps them; the first one that is broken.
-/
import Derived.Test.YtgdkcbnpgpjnbaaLB
namespace Go.Proofs.Ytgdkcbnpgpjnbaa

/-- An edge: its rule, its sample, where it begins and ends, its weight. -/
abbrev Ed := Int × Int × Int × Int × Int
def edAt (b : Bk) (P : List Smp) (i : Nat) (r : Nat) : List Ed := match edgO b P ((r : Int), (i : Int)) with
  | none => []
  | some e => [((r : Int), (i : Int), e.1, e.2.1, e.2.2)]
/-- The edges of the first r rules. -/
def edsTo (b : Bk) (P : List Smp) (i : Nat) (r : Nat) : List Ed := (List.range r).flatMap fun q => edAt b P i (q + 1)
abbrev edsAt (b : Bk) (P : List Smp) (i : Nat) : List Ed := edsTo b P i 5
theorem edsTo_succ (b : Bk) (P : List Smp) (i r : Nat) : edsTo b P i (r + 1) = edsTo b P i r ++ edAt b P i (r + 1) := by unfold edsTo; rw [List.range_succ, List.flatMap_append]; simp
theorem edsTo_prefix (b : Bk) (P : List Smp) (i r : Nat) (h : r ≤ 5) : edsTo b P i r <+: edsAt b P i := by
  obtain ⟨d, hd⟩ : ∃ d, 5 = r + d := ⟨5 - r, by omega⟩
  have : edsAt b P i = edsTo b P i r ++ ((List.range d).map (r + ·)).flatMap fun q => edAt b P i (q + 1) := by
    unfold edsAt edsTo; rw [hd, List.range_add, List.flatMap_append]
  rw [this]; exact List.prefix_append _ _
def edsUp (b : Bk) (P : List Smp) (k : Nat) : List Ed := (List.range k).flatMap (edsAt b P)
abbrev edsAll (b : Bk) (P : List Smp) : List Ed := edsUp b P P.length
theorem edsUp_succ (b : Bk) (P : List Smp) (k : Nat) : edsUp b P (k + 1) = edsUp b P k ++ edsAt b P k := by unfold edsUp; rw [List.range_succ, List.flatMap_append]; simp
theorem edsUp_prefix (b : Bk) (P : List Smp) (k n : Nat) (h : k ≤ n) : edsUp b P k <+: edsUp b P n := by
  obtain ⟨d, rfl⟩ : ∃ d, n = k + d := ⟨n - k, by omega⟩
  unfold edsUp
  rw [List.range_add, List.flatMap_append]; exact List.prefix_append _ _

theorem mem_edsTo {b : Bk} {P : List Smp} {i r : Nat} {e : Ed} : e ∈ edsTo b P i r ↔ ∃ q : Nat, 1 ≤ q ∧ q ≤ r ∧ e ∈ edAt b P i q := by
  unfold edsTo
  rw [List.mem_flatMap]
  constructor
  · rintro ⟨q, hq, he⟩; exact ⟨q + 1, by omega, by have := List.mem_range.1 hq; omega, he⟩
  · rintro ⟨q, h1, h2, he⟩; exact ⟨q - 1, List.mem_range.2 (by omega), by rwa [show q - 1 + 1 = q by omega]⟩
theorem mem_edAt {b : Bk} {P : List Smp} {i r : Nat} {e : Ed} : e ∈ edAt b P i r ↔ e.1 = (r : Int) ∧ e.2.1 = (i : Int) ∧ edgO b P ((r : Int), (i : Int)) = some (e.2.2.1, e.2.2.2.1, e.2.2.2.2) := by
  unfold edAt
  cases h : edgO b P ((r : Int), (i : Int)) with
  | none => simp
  | some x =>
    obtain ⟨a, c, d⟩ := x
    obtain ⟨e1, e2, e3, e4, e5⟩ := e
    simp only [List.mem_singleton, Prod.mk.injEq, Option.some.injEq]
    constructor
    · rintro ⟨rfl, rfl, rfl, rfl, rfl⟩; simp
    · rintro ⟨rfl, rfl, rfl, rfl, rfl⟩; simp

theorem edgO_neg {b : Bk} {P : List Smp} {r i : Int} (h : i < 0) : edgO b P (r, i) = none := by unfold edgO; rw [if_pos (.inl h)]
theorem edgO_far {b : Bk} {P : List Smp} {r i : Int} (h : (P.length : Int) ≤ i) : edgO b P (r, i) = none := by unfold edgO; rw [if_pos (.inr h)]
theorem edgO_rim {b : Bk} {P : List Smp} {k : Nat} (h : k < P.length) : edgO b P (1, (k : Int)) = some (-1, (k : Int), b.rim - pout P k) := by
  unfold edgO; rw [if_neg (by simp only; omega), if_pos rfl]; simp
theorem edgO_core {b : Bk} {P : List Smp} {k : Nat} (h : k < P.length) : edgO b P (2, (k : Int)) = some ((k : Int), -1, pin P k - b.core) := by
  unfold edgO; rw [if_neg (by simp only; omega), if_neg (by simp), if_pos rfl]; simp
theorem edgO_slow {b : Bk} {P : List Smp} {k : Nat} (h : k < P.length) (h0 : 0 < k) : edgO b P (3, (k : Int)) = some ((k : Int) - 1, (k : Int), -b.slow) := by
  unfold edgO; rw [if_neg (by simp only; omega), if_neg (by simp), if_neg (by simp), if_pos ⟨rfl, by simp only; omega⟩]
theorem edgO_fast {b : Bk} {P : List Smp} {k : Nat} (h : k < P.length) (h0 : 0 < k) : edgO b P (4, (k : Int)) = some ((k : Int), (k : Int) - 1, b.fast) := by
  unfold edgO; rw [if_neg (by simp only; omega), if_neg (by simp), if_neg (by simp), if_neg (by simp), if_pos ⟨rfl, by simp only; omega⟩]
theorem edgO_land {b : Bk} {P : List Smp} {k : Nat} (h : k < P.length) (h0 : b.per ≤ k) : edgO b P (5, (k : Int)) = some ((k : Int) - b.per, (k : Int), wLand b P k) := by
  unfold edgO; rw [if_neg (by simp only; omega), if_neg (by simp), if_neg (by simp), if_neg (by simp), if_neg (by simp), if_pos ⟨rfl, h0⟩]; simp
theorem edgO_slow0 {b : Bk} {P : List Smp} : edgO b P (3, 0) = none := by unfold edgO; simp
theorem edgO_fast0 {b : Bk} {P : List Smp} : edgO b P (4, 0) = none := by unfold edgO; simp
theorem edgO_land0 {b : Bk} {P : List Smp} {k : Nat} (h0 : (k : Int) < b.per) : edgO b P (5, (k : Int)) = none := by
  unfold edgO; split
  · rfl
  · rw [if_neg (by simp), if_neg (by simp), if_neg (by simp), if_neg (by simp), if_neg (by rintro ⟨-, h⟩; simp only at h; omega)]
theorem edgO_other {b : Bk} {P : List Smp} {r i : Int} (h1 : r ≠ 1) (h2 : r ≠ 2) (h3 : r ≠ 3) (h4 : r ≠ 4) (h5 : r ≠ 5) : edgO b P (r, i) = none := by
  simp [edgO, h1, h2, h3, h4, h5]

/-- What an edge's numbers are. -/
inductive IsEd (b : Bk) (P : List Smp) (i : Nat) : Ed → Prop
  | rim : IsEd b P i (1, (i : Int), -1, (i : Int), b.rim - pout P i)
  | core : IsEd b P i (2, (i : Int), (i : Int), -1, pin P i - b.core)
  | slow (h : 0 < i) : IsEd b P i (3, (i : Int), ((i - 1 : Nat) : Int), (i : Int), -b.slow)
  | fast (h : 0 < i) : IsEd b P i (4, (i : Int), (i : Int), ((i - 1 : Nat) : Int), b.fast)
  | land (h : b.per.toNat ≤ i) : IsEd b P i (5, (i : Int), ((i - b.per.toNat : Nat) : Int), (i : Int), wLand b P i)
theorem isEd_of {b : Bk} {P : List Smp} {i : Nat} {e : Ed} (hb : BkOk b) (h : e ∈ edsAt b P i) : IsEd b P i e := by
  obtain ⟨q, h1, h2, he⟩ := mem_edsTo.1 h
  obtain ⟨e1, e2, e3, e4, e5⟩ := e
  obtain ⟨rfl, rfl, hE⟩ := mem_edAt.1 he
  have hp := hb.per1
  unfold edgO at hE
  simp only at hE
  split at hE
  · cases hE
  split at hE
  · rename_i hq; simp only [Option.some.injEq, Prod.mk.injEq] at hE; obtain ⟨rfl, rfl, rfl⟩ := hE; rw [hq, Int.toNat_natCast]; exact .rim
  split at hE
  · rename_i hq; simp only [Option.some.injEq, Prod.mk.injEq] at hE; obtain ⟨rfl, rfl, rfl⟩ := hE; rw [hq, Int.toNat_natCast]; exact .core
  split at hE
  · rename_i hq; simp only [Option.some.injEq, Prod.mk.injEq] at hE; obtain ⟨rfl, rfl, rfl⟩ := hE; rw [hq.1, show (i : Int) - 1 = ((i - 1 : Nat) : Int) by omega]; exact .slow (by omega)
  split at hE
  · rename_i hq; simp only [Option.some.injEq, Prod.mk.injEq] at hE; obtain ⟨rfl, rfl, rfl⟩ := hE; rw [hq.1, show (i : Int) - 1 = ((i - 1 : Nat) : Int) by omega]; exact .fast (by omega)
  split at hE
  · rename_i hq; simp only [Option.some.injEq, Prod.mk.injEq] at hE; obtain ⟨rfl, rfl, rfl⟩ := hE; rw [hq.1, show (i : Int) - b.per = ((i - b.per.toNat : Nat) : Int) by omega, Int.toNat_natCast]; exact .land (by omega)
  · cases hE
theorem isEd_mem {b : Bk} {P : List Smp} {i : Nat} {e : Ed} (hb : BkOk b) (hi : i < P.length) (h : IsEd b P i e) : e ∈ edsAt b P i := by
  have hp := hb.per1
  apply mem_edsTo.2
  cases h with
  | rim => exact ⟨1, by omega, by omega, mem_edAt.2 ⟨rfl, rfl, edgO_rim hi⟩⟩
  | core => exact ⟨2, by omega, by omega, mem_edAt.2 ⟨rfl, rfl, edgO_core hi⟩⟩
  | slow h => exact ⟨3, by omega, by omega, mem_edAt.2 ⟨rfl, rfl, (edgO_slow hi h).trans (by simp only [Option.some.injEq, Prod.mk.injEq, and_true]; omega)⟩⟩
  | fast h => exact ⟨4, by omega, by omega, mem_edAt.2 ⟨rfl, rfl, (edgO_fast hi h).trans (by simp only [Option.some.injEq, Prod.mk.injEq, and_true, true_and]; omega)⟩⟩
  | land h => exact ⟨5, by omega, by omega, mem_edAt.2 ⟨rfl, rfl, (edgO_land hi (by omega)).trans (by simp only [Option.some.injEq, Prod.mk.injEq, and_true]; omega)⟩⟩

/-- A radius, or 0 for the middle. -/
def rad (R : List Int) (i : Int) : Int := if i = -1 then 0 else fx R i.toNat
theorem rad_nat (R : List Int) (i : Nat) : rad R (i : Int) = fx R i := by unfold rad; rw [if_neg (by omega)]; rfl
theorem rad_none (R : List Int) : rad R (-1) = 0 := by unfold rad; rw [if_pos rfl]
/-- Whether radii are as an edge says. -/
def kpt (R : List Int) (f t w : Int) : Bool := decide (rad R t ≤ rad R f + w)
def kptE (R : List Int) (e : Ed) : Bool := kpt R e.2.2.1 e.2.2.2.1 e.2.2.2.2
/-- The first edge that radii break. -/
def brkE (b : Bk) (P : List Smp) (R : List Int) : Option Ed := (edsAll b P).find? fun e => !kptE R e

theorem kept_iff {b : Bk} {P : List Smp} {R : List Int} (hb : BkOk b) (n : Nat) (hn : n ≤ P.length) : (∀ e ∈ edsUp b P n, kptE R e = true) ↔ Keeps b P n (fx R) ∧ Cores b P n (fx R) := by
  constructor
  · intro h
    have hE : ∀ i, i < n → ∀ e, IsEd b P i e → kptE R e = true := fun i hi e he => h e (by
      unfold edsUp; rw [List.mem_flatMap]; exact ⟨i, List.mem_range.2 hi, isEd_mem hb (by omega) he⟩)
    refine ⟨fun i hi => ⟨?_, fun h0 => ⟨?_, ?_⟩, fun hp => ?_⟩, fun i hi => ?_⟩
    · have := hE i hi _ .rim
      simpa [kptE, kpt, rad_nat, rad_none] using this
    · have := hE i hi _ (.slow h0)
      simp only [kptE, kpt, rad_nat, decide_eq_true_eq] at this; omega
    · have := hE i hi _ (.fast h0)
      simpa [kptE, kpt, rad_nat] using this
    · have := hE i hi _ (.land hp)
      simpa [kptE, kpt, rad_nat] using this
    · have := hE i hi _ .core
      simp only [kptE, kpt, rad_nat, rad_none, decide_eq_true_eq] at this; omega
  · rintro ⟨hK, hC⟩ e he
    unfold edsUp at he
    rw [List.mem_flatMap] at he
    obtain ⟨i, hi, he⟩ := he
    have hi := List.mem_range.1 hi
    have h := hK i hi
    have hc := hC i hi
    cases isEd_of hb he with
    | rim => simp only [kptE, kpt, rad_nat, rad_none, decide_eq_true_eq]; omega
    | core => simp only [kptE, kpt, rad_nat, rad_none, decide_eq_true_eq]; omega
    | slow h0 => simp only [kptE, kpt, rad_nat, decide_eq_true_eq]; have := (h.2.1 h0).1; omega
    | fast h0 => simp only [kptE, kpt, rad_nat, decide_eq_true_eq]; exact (h.2.1 h0).2
    | land hp => simp only [kptE, kpt, rad_nat, decide_eq_true_eq]; exact h.2.2 hp
theorem brkE_none {b : Bk} {P : List Smp} {R : List Int} (hb : BkOk b) : brkE b P R = none ↔ Keeps b P P.length (fx R) ∧ Cores b P P.length (fx R) := by
  unfold brkE
  rw [List.find?_eq_none]
  rw [← kept_iff hb _ (Nat.le_refl _)]
  simp
theorem brkE_some {b : Bk} {P : List Smp} {R : List Int} {pre : List Ed} {e : Ed} (hp : pre ++ [e] <+: edsAll b P) (h : ∀ x ∈ pre, kptE R x = true) (he : kptE R e = false) : brkE b P R = some e := by
  obtain ⟨d, hd⟩ := hp
  unfold brkE
  rw [← hd, List.append_assoc, List.find?_append, List.find?_eq_none.2 (fun v hv => by rw [h v hv]; simp)]
  simp [he]
theorem brkE_none_of {b : Bk} {P : List Smp} {R : List Int} (h : ∀ x ∈ edsAll b P, kptE R x = true) : brkE b P R = none := by
  unfold brkE; rw [List.find?_eq_none]; intro x hx; rw [h x hx]; simp
/-- The document's word for a rule that is kept. -/
def keptB (b : Bk) (P : List Smp) (R : List Int) (i r : Nat) : Bool := (edAt b P i r).all (kptE R)
theorem edsTo_all {b : Bk} {P : List Smp} {R : List Int} {i r : Nat} (h : ∀ x ∈ edsTo b P i r, kptE R x = true) (hk : keptB b P R i (r + 1) = true) : ∀ x ∈ edsTo b P i (r + 1), kptE R x = true := by
  intro x hx
  rw [edsTo_succ] at hx
  rcases List.mem_append.1 hx with hx | hx
  · exact h x hx
  · unfold keptB at hk; rw [List.all_eq_true] at hk; exact hk x hx
theorem edAt_some {b : Bk} {P : List Smp} {i r : Nat} {e : Int × Int × Int} (h : edgO b P ((r : Int), (i : Int)) = some e) : edAt b P i r = [((r : Int), (i : Int), e.1, e.2.1, e.2.2)] := by unfold edAt; rw [h]
theorem edAt_none {b : Bk} {P : List Smp} {i r : Nat} (h : edgO b P ((r : Int), (i : Int)) = none) : edAt b P i r = [] := by unfold edAt; rw [h]
theorem keptB_rim {b : Bk} {P : List Smp} {R : List Int} {i : Nat} (h : i < P.length) : keptB b P R i 1 = decide (fx R i + pout P i ≤ b.rim) := by
  unfold keptB; rw [edAt_some (edgO_rim h)]; simp only [List.all_cons, List.all_nil, Bool.and_true, kptE, kpt, rad_nat, rad_none, decide_eq_decide]; omega
theorem keptB_core {b : Bk} {P : List Smp} {R : List Int} {i : Nat} (h : i < P.length) : keptB b P R i 2 = decide (b.core ≤ fx R i + pin P i) := by
  unfold keptB; rw [edAt_some (edgO_core h)]; simp only [List.all_cons, List.all_nil, Bool.and_true, kptE, kpt, rad_nat, rad_none, decide_eq_decide]; omega
theorem keptB_slow {b : Bk} {P : List Smp} {R : List Int} {i : Nat} (h : i < P.length) : keptB b P R i 3 = (decide (i < 1) || decide (b.slow ≤ fx R (i - 1) - fx R i)) := by
  by_cases h0 : 0 < i
  · unfold keptB; rw [edAt_some (edgO_slow h h0), show (i : Int) - 1 = ((i - 1 : Nat) : Int) by omega]
    rw [show decide (i < 1) = false by simp; omega]
    simp only [List.all_cons, List.all_nil, Bool.and_true, kptE, kpt, rad_nat, Bool.false_or, decide_eq_decide]; omega
  · obtain rfl : i = 0 := by omega
    unfold keptB; rw [edAt_none edgO_slow0]; simp
theorem keptB_fast {b : Bk} {P : List Smp} {R : List Int} {i : Nat} (h : i < P.length) : keptB b P R i 4 = (decide (i < 1) || decide (fx R (i - 1) - fx R i ≤ b.fast)) := by
  by_cases h0 : 0 < i
  · unfold keptB; rw [edAt_some (edgO_fast h h0), show (i : Int) - 1 = ((i - 1 : Nat) : Int) by omega]
    rw [show decide (i < 1) = false by simp; omega]
    simp only [List.all_cons, List.all_nil, Bool.and_true, kptE, kpt, rad_nat, Bool.false_or, decide_eq_decide]; omega
  · obtain rfl : i = 0 := by omega
    unfold keptB; rw [edAt_none edgO_fast0]; simp
theorem keptB_land {b : Bk} {P : List Smp} {R : List Int} {i : Nat} (h : i < P.length) (hb : BkOk b) : keptB b P R i 5 = (decide ((i : Int) < b.per) || decide (b.land ≤ fx R (i - b.per.toNat) + pin P (i - b.per.toNat) - (fx R i + pout P i))) := by
  have hp := hb.per1
  by_cases h0 : b.per ≤ (i : Int)
  · unfold keptB; rw [edAt_some (edgO_land h h0), show (i : Int) - b.per = ((i - b.per.toNat : Nat) : Int) by omega]
    rw [show decide ((i : Int) < b.per) = false by simp; omega]
    simp only [List.all_cons, List.all_nil, Bool.and_true, kptE, kpt, rad_nat, Bool.false_or, decide_eq_decide, wLand]; omega
  · unfold keptB; rw [edAt_none (edgO_land0 (by omega))]; simp; omega
/-- What CheckCut tells: where, and which rule; 0, 0 if none is broken. -/
def brkR : Option Ed → Int × Int
  | none => (0, 0)
  | some e => (e.2.1, e.1)
end Go.Proofs.Ytgdkcbnpgpjnbaa
