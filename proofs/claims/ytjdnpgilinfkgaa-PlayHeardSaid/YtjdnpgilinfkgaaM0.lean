/-
  The mathematics of what a tip reads and sweeps: least and greatest numbers over the samples near a sample.
-/
import Derived.Test.YtjdnpgilinfkgaaSm
namespace Go.Proofs.Ytjdnpgilinfkgaa
open Go.RowKit

/-- The amount of a difference of indexes. -/
def dst (u t : Nat) : Nat := (u - t) + (t - u)
theorem dst_comm (u t : Nat) : dst u t = dst t u := by unfold dst; omega
theorem dst_self (t : Nat) : dst t t = 0 := by unfold dst; omega
/-- A list of numbers at an index (0 beyond). -/
def atI (s : List Int) (k : Nat) : Int := s[k]?.getD 0
theorem atI_eq {s : List Int} {k : Nat} (h : k < s.length) : atI s k = s[k] := by unfold atI; rw [List.getElem?_eq_getElem h]; rfl

/-- The samples, of n, that are at most so far from t. -/
def nbr (t far n : Nat) : List Nat := List.range' (t - far) (min n (t + far + 1) - (t - far))
theorem nbr_mem {t far n u : Nat} : u ∈ nbr t far n ↔ u < n ∧ dst u t ≤ far := by
  unfold nbr dst
  rw [List.mem_range'_1]
  omega
theorem nbr_self {t far n : Nat} (h : t < n) : t ∈ nbr t far n := nbr_mem.2 ⟨h, by rw [dst_self]; omega⟩

def IsMin (f : Nat → Int) (S : Nat → Prop) (v : Int) : Prop := (∃ u, S u ∧ v = f u) ∧ ∀ u, S u → v ≤ f u
theorem IsMin.uniq {f : Nat → Int} {S : Nat → Prop} {v v' : Int} (h : IsMin f S v) (h' : IsMin f S v') : v = v' := by
  obtain ⟨⟨u, hu, e⟩, h1⟩ := h
  obtain ⟨⟨u', hu', e'⟩, h1'⟩ := h'
  have := h1 u' hu'
  have := h1' u hu
  omega
theorem IsMin.congr {f g : Nat → Int} {S T : Nat → Prop} {v : Int} (h : IsMin f S v) (hf : ∀ u, S u → f u = g u) (hS : ∀ u, S u ↔ T u) : IsMin g T v := by
  obtain ⟨⟨u, hu, e⟩, h1⟩ := h
  exact ⟨⟨u, (hS u).1 hu, by rw [e, hf u hu]⟩, fun u hu => by rw [← hf u ((hS u).2 hu)]; exact h1 u ((hS u).2 hu)⟩

/-- The least number that f has on some indexes; the greatest number of all if there are none. -/
def mnL {α : Type} (f : α → Int) (us : List α) : Int := us.foldl (fun a u => min a (f u)) 9223372036854775807
theorem mnL_snoc {α : Type} (f : α → Int) (us : List α) (u : α) : mnL f (us ++ [u]) = min (mnL f us) (f u) := by unfold mnL; rw [List.foldl_append]; rfl
theorem foldl_min_le {α : Type} (f : α → Int) : ∀ (us : List α) (a : Int), us.foldl (fun a u => min a (f u)) a ≤ a ∧ ∀ u ∈ us, us.foldl (fun a u => min a (f u)) a ≤ f u
  | [], a => ⟨by simp, fun _ h => by cases h⟩
  | x :: us, a => by
    obtain ⟨h1, h2⟩ := foldl_min_le f us (min a (f x))
    rw [List.foldl_cons]
    refine ⟨by omega, fun u hu => ?_⟩
    rcases List.mem_cons.1 hu with rfl | hu
    · omega
    · exact h2 u hu
theorem foldl_min_at {α : Type} (f : α → Int) : ∀ (us : List α) (a : Int), us.foldl (fun a u => min a (f u)) a = a ∨ ∃ u ∈ us, us.foldl (fun a u => min a (f u)) a = f u
  | [], a => .inl rfl
  | x :: us, a => by
    rw [List.foldl_cons]
    rcases foldl_min_at f us (min a (f x)) with h | ⟨u, hu, h⟩
    · rw [h]
      rcases Int.le_total a (f x) with h1 | h1
      · exact .inl (by omega)
      · exact .inr ⟨x, List.mem_cons_self, by omega⟩
    · exact .inr ⟨u, List.mem_cons_of_mem _ hu, h⟩
theorem mnL_le {α : Type} {f : α → Int} {us : List α} {u : α} (h : u ∈ us) : mnL f us ≤ f u := (foldl_min_le f us _).2 u h
theorem mnL_at {α : Type} {f : α → Int} {us : List α} (hne : us ≠ []) (hb : ∀ u ∈ us, f u ≤ 9223372036854775807) : ∃ u ∈ us, mnL f us = f u := by
  rcases foldl_min_at f us 9223372036854775807 with h | h
  · obtain ⟨u, hu⟩ := List.exists_mem_of_ne_nil us hne
    have h1 := mnL_le (f := f) hu
    have h2 := hb u hu
    exact ⟨u, hu, by unfold mnL at *; omega⟩
  · exact h
theorem mnL_isMin {f : Nat → Int} {us : List Nat} (hne : us ≠ []) (hb : ∀ u ∈ us, f u ≤ 9223372036854775807) : IsMin f (· ∈ us) (mnL f us) :=
  ⟨(mnL_at hne hb).imp fun _ h => h, fun _ h => mnL_le h⟩
theorem mnL_congr {α : Type} {f g : α → Int} {us : List α} (h : ∀ u ∈ us, f u = g u) : mnL f us = mnL g us := by
  unfold mnL
  generalize (9223372036854775807 : Int) = a
  induction us generalizing a with
  | nil => rfl
  | cons x us ih => rw [List.foldl_cons, List.foldl_cons, h x List.mem_cons_self]; exact ih (fun u hu => h u (List.mem_cons_of_mem _ hu)) _

/-- How far a tip can go towards a wall at t. -/
def er (s : List Int) (n : Nat) (a : Nat → Int) (t : Nat) : Int := mnL (fun u => a u + atI s (dst u t)) (nbr t (s.length - 1) n)
/-- How far its flanks come at t. -/
def dl (s : List Int) (n : Nat) (b : Nat → Int) (t : Nat) : Int := -mnL (fun u => -(b u - atI s (dst u t))) (nbr t (s.length - 1) n)

/-- A valid shape. -/
structure Shp (s : List Int) : Prop where
  pos : 1 ≤ s.length
  many : s.length ≤ 64
  zero : atI s 0 = 0
  up : ∀ i j, i ≤ j → j < s.length → atI s i ≤ atI s j
  top : ∀ k, atI s k ≤ 4194304
theorem Shp.nn {s : List Int} (h : Shp s) (k : Nat) : 0 ≤ atI s k := by
  rcases Nat.lt_or_ge k s.length with hk | hk
  · have := h.up 0 k (Nat.zero_le _) hk; rw [h.zero] at this; exact this
  · unfold atI; rw [List.getElem?_eq_none hk]; simp
/-- A wall whose numbers are edges. -/
def Wal (n : Nat) (a : Nat → Int) : Prop := ∀ u, u < n → -4194304 ≤ a u ∧ a u ≤ 4194304
section
variable {s : List Int} {n : Nat} {a b : Nat → Int} {t u : Nat}
theorem nbr_ne (h : t < n) (far : Nat) : nbr t far n ≠ [] := List.ne_nil_of_mem (nbr_self h)
theorem er_isMin (hs : Shp s) (ha : Wal n a) (h : t < n) : IsMin (fun u => a u + atI s (dst u t)) (fun u => u < n ∧ dst u t < s.length) (er s n a t) := by
  refine (mnL_isMin (nbr_ne h _) (fun u hu => ?_)).congr (fun _ _ => rfl) (fun u => ?_)
  · have := (ha u (nbr_mem.1 hu).1).2
    have := hs.top (dst u t)
    omega
  · have := hs.pos
    show u ∈ nbr t (s.length - 1) n ↔ _
    rw [nbr_mem]; omega
theorem dl_isMin (hs : Shp s) (hb : Wal n b) (h : t < n) : IsMin (fun u => -(b u - atI s (dst u t))) (fun u => u < n ∧ dst u t < s.length) (-(dl s n b t)) := by
  unfold dl
  rw [Int.neg_neg]
  refine (mnL_isMin (nbr_ne h _) (fun u hu => ?_)).congr (fun _ _ => rfl) (fun u => ?_)
  · have := (hb u (nbr_mem.1 hu).1).1
    have := hs.top (dst u t)
    omega
  · have := hs.pos
    show u ∈ nbr t (s.length - 1) n ↔ _
    rw [nbr_mem]; omega
theorem er_at (hs : Shp s) (ha : Wal n a) (h : t < n) : ∃ u, u < n ∧ dst u t < s.length ∧ er s n a t = a u + atI s (dst u t) := by
  obtain ⟨u, ⟨h1, h2⟩, e⟩ := (er_isMin hs ha h).1
  exact ⟨u, h1, h2, e⟩
theorem dl_at (hs : Shp s) (hb : Wal n b) (h : t < n) : ∃ u, u < n ∧ dst u t < s.length ∧ dl s n b t = b u - atI s (dst u t) := by
  obtain ⟨u, ⟨h1, h2⟩, e⟩ := (dl_isMin hs hb h).1
  refine ⟨u, h1, h2, ?_⟩
  have e : -dl s n b t = -(b u - atI s (dst u t)) := e
  omega
theorem er_le (hs : Shp s) (ha : Wal n a) (h : t < n) (hu : u < n) (hd : dst u t < s.length) : er s n a t ≤ a u + atI s (dst u t) := (er_isMin hs ha h).2 u ⟨hu, hd⟩
theorem er_below (hs : Shp s) (ha : Wal n a) (h : t < n) : er s n a t ≤ a t := by
  have := er_le hs ha h h (by rw [dst_self]; exact hs.pos)
  rw [dst_self, hs.zero] at this; omega
theorem er_wal (hs : Shp s) (ha : Wal n a) : Wal n (er s n a) := fun t h => by
  have h1 := er_below hs ha h
  obtain ⟨u, hu, _, e⟩ := er_at hs ha h
  have := (ha u hu).1
  have := hs.nn (dst u t)
  have := (ha t h).2
  omega
theorem dl_ge (hs : Shp s) (hb : Wal n b) (h : t < n) (hu : u < n) (hd : dst u t < s.length) : b u - atI s (dst u t) ≤ dl s n b t := by
  have h1 : -dl s n b t ≤ -(b u - atI s (dst u t)) := (dl_isMin hs hb h).2 u ⟨hu, hd⟩
  omega
theorem dl_above (hs : Shp s) (hb : Wal n b) (h : t < n) : b t ≤ dl s n b t := by
  have := dl_ge hs hb h h (by rw [dst_self]; exact hs.pos)
  rw [dst_self, hs.zero] at this; omega
/-- What is read is at most a wall just if what it sweeps is. -/
theorem dl_le_iff (hs : Shp s) (ha : Wal n a) (hb : Wal n b) : (∀ t, t < n → dl s n b t ≤ a t) ↔ ∀ t, t < n → b t ≤ er s n a t := by
  constructor
  · intro h t ht
    obtain ⟨u, hu, hd, e⟩ := er_at hs ha ht
    have h1 := dl_ge hs hb hu ht (by rw [dst_comm]; exact hd)
    have h2 := h u hu
    rw [dst_comm] at h1
    omega
  · intro h t ht
    obtain ⟨u, hu, hd, e⟩ := dl_at hs hb ht
    have h1 := er_le hs ha hu ht (by rw [dst_comm]; exact hd)
    have h2 := h u hu
    rw [dst_comm] at h1
    omega
theorem dl_wal (hs : Shp s) (ha : Wal n a) (hb : Wal n b) (h : ∀ t, t < n → b t ≤ er s n a t) : Wal n (dl s n b) := fun t ht => by
  have h1 := (dl_le_iff hs ha hb).2 h t ht
  have h2 := dl_above hs hb ht
  have := (hb t ht).1
  have := (ha t ht).2
  omega
theorem dler_le (hs : Shp s) (ha : Wal n a) (ht : t < n) : dl s n (er s n a) t ≤ a t := (dl_le_iff hs ha (er_wal hs ha)).2 (fun _ _ => Int.le_refl _) t ht
theorem dler_wal (hs : Shp s) (ha : Wal n a) : Wal n (dl s n (er s n a)) := dl_wal hs ha (er_wal hs ha) (fun _ _ => Int.le_refl _)
theorem er_mono (hs : Shp s) (ha : Wal n a) (hb : Wal n b) (h : ∀ t, t < n → a t ≤ b t) (ht : t < n) : er s n a t ≤ er s n b t := by
  obtain ⟨u, hu, hd, e⟩ := er_at hs hb ht
  have := er_le hs ha ht hu hd
  have := h u hu
  omega
theorem dl_mono (hs : Shp s) (ha : Wal n a) (hb : Wal n b) (h : ∀ t, t < n → a t ≤ b t) (ht : t < n) : dl s n a t ≤ dl s n b t := by
  obtain ⟨u, hu, hd, e⟩ := dl_at hs ha ht
  have := dl_ge hs hb ht hu hd
  have := h u hu
  omega
theorem erdler (hs : Shp s) (ha : Wal n a) (ht : t < n) : er s n (dl s n (er s n a)) t = er s n a t := by
  have h1 := er_mono hs (dler_wal hs ha) ha (fun t h => dler_le hs ha h) ht
  have h2 := (dl_le_iff hs (dler_wal hs ha) (er_wal hs ha)).1 (fun _ _ => Int.le_refl _) t ht
  omega
theorem er_sharper {s' : List Int} (hs : Shp s) (hs' : Shp s') (hl : s'.length ≤ s.length) (hk : ∀ k, k < s'.length → atI s k ≤ atI s' k) (ha : Wal n a) (ht : t < n) : er s n a t ≤ er s' n a t := by
  obtain ⟨u, hu, hd, e⟩ := er_at hs' ha ht
  have := er_le hs ha ht hu (by omega)
  have := hk _ hd
  omega
theorem er_congr (h : ∀ u, u < n → a u = b u) : er s n a t = er s n b t := mnL_congr fun u hu => by rw [h u (nbr_mem.1 hu).1]
theorem dl_congr (h : ∀ u, u < n → a u = b u) : dl s n a t = dl s n b t := congrArg Neg.neg (mnL_congr fun u hu => by rw [h u (nbr_mem.1 hu).1])
end
/-- The outer wall of a groove, and the inner one, each measured to its own side. -/
def outW (l : List Smp) (u : Nat) : Int := (l[u]?.getD (0, 0)).2
def innW (l : List Smp) (u : Nat) : Int := -(l[u]?.getD (0, 0)).1
/-- The groove of two walls. -/
def ofW (n : Nat) (i o : Nat → Int) : List Smp := (List.range n).map fun t => (-(i t), o t)
theorem ofW_len (n : Nat) (i o : Nat → Int) : (ofW n i o).length = n := by simp [ofW]
theorem outW_of {n : Nat} {i o : Nat → Int} {t : Nat} (h : t < n) : outW (ofW n i o) t = o t := by simp [outW, ofW, h]
theorem innW_of {n : Nat} {i o : Nat → Int} {t : Nat} (h : t < n) : innW (ofW n i o) t = i t := by simp [innW, ofW, h]
theorem ofW_congr {n : Nat} {i o i' o' : Nat → Int} (hi : ∀ t, t < n → i t = i' t) (ho : ∀ t, t < n → o t = o' t) : ofW n i o = ofW n i' o' := by
  unfold ofW
  refine List.map_congr_left fun t ht => ?_
  rw [hi t (List.mem_range.1 ht), ho t (List.mem_range.1 ht)]
theorem ofW_self (l : List Smp) : ofW l.length (innW l) (outW l) = l := by
  refine List.ext_getElem (by simp [ofW]) fun k h1 h2 => ?_
  simp [ofW, innW, outW, h2]
/-- What a tip reads, and what it sweeps. -/
def rdL (s : List Int) (l : List Smp) : List Smp := ofW l.length (er s l.length (innW l)) (er s l.length (outW l))
def swL (s : List Int) (l : List Smp) : List Smp := ofW l.length (dl s l.length (innW l)) (dl s l.length (outW l))
theorem rdL_len (s : List Int) (l : List Smp) : (rdL s l).length = l.length := ofW_len _ _ _
theorem swL_len (s : List Int) (l : List Smp) : (swL s l).length = l.length := ofW_len _ _ _
end Go.Proofs.Ytjdnpgilinfkgaa
