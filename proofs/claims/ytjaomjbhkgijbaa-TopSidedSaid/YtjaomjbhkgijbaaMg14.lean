/-
  Contracts of amount, width, change, bend, arc of package groove.
-/
import Derived.Test.YtjaomjbhkgijbaaMg13
import Derived.Test.YtjaomjbhkgijbaaMg1
import Derived.BigRegion
import Derived.RegionTactic
import Derived.Deep.RegionHeld3
import Derived.Deep.QuietTactic
import Derived.BigQuiet

namespace Go.Proofs.Ytjaomjbhkgijbaa
open Go.RowKit

/-- The greatest amount of some numbers. -/
def amL (l : List Int) : Int := l.foldl (fun m x => max m (am x)) 0
theorem am_nn (x : Int) : 0 ≤ am x := by unfold am; omega
theorem amL_snoc (l : List Int) (x : Int) : amL (l ++ [x]) = max (amL l) (am x) := by simp [amL]
theorem amL_bd (b : Int) (h0 : 0 ≤ b) (l : List Int) (h : ∀ x ∈ l, am x ≤ b) : 0 ≤ amL l ∧ amL l ≤ b := by
  have key : ∀ (l : List Int) (m : Int), 0 ≤ m → m ≤ b → (∀ x ∈ l, am x ≤ b) → 0 ≤ l.foldl (fun m x => max m (am x)) m ∧ l.foldl (fun m x => max m (am x)) m ≤ b := by
    intro l
    induction l with
    | nil => intro m h1 h2 _; exact ⟨h1, h2⟩
    | cons x xs ih =>
      intro m h1 h2 h3
      exact ih (max m (am x)) (by omega) (by have := h3 x (by simp); omega) (fun y hy => h3 y (by simp [hy]))
  exact key l 0 (by omega) h0 h

set_option maxHeartbeats 1000000 in
theorem amount_any_ (B : Nat) (A : Option Addr) (n c : Nat) (xs : List Int) (w : World) (h0 : n = xs.length) (h1 : Reads w B 1 A n (xs.map (Value.int .i64))) (hl : n ≤ 9223372036854775807) (hx : ∀ x ∈ xs, am x ≤ 1152921504606846976) :
    Calls Try.prog 203 #[.slice A n c] w fun e w' => e = .returned (.int .i64 (amL xs)) ∧ w = w' := by
  have HN := Lib.hid h0
  have H := Lib.hid h1
  have HX := Lib.hid hx
  clear h0 h1 hx
  go_enter Try.func203, Try.ntmps203
  go_wp2
  go_loop [3, 8] (fun m i => ∃ (k : Nat) (v : Int), k ≤ n ∧ i = .int .i64 k ∧ m = .int .i64 v ∧ 0 ≤ v ∧ v ≤ 1152921504606846976 ∧ Hid (amL (xs.take k) = v)) (fun _ i => n - (intOf i).toNat)
  case atStart => exact ⟨0, 0, Nat.zero_le _, rfl, rfl, by omega, by omega, Lib.hid rfl⟩
  case round =>
    obtain ⟨k, v, hk, rfl, rfl, hv0, hv1, hv⟩ := hrel
    by_cases hlt : k < n
    · obtain ⟨ad, hA, hbl, hc⟩ := H.out.2 (by omega)
      have hc1 := hc k (.int .i64 (xs[k]'(by have := HN.out; omega))) (by simp)
      clear hc
      obtain rfl := hA
      have hb1 := HX.out _ (List.getElem_mem (show k < xs.length by have := HN.out; omega))
      obtain ⟨x, hx⟩ : ∃ x, x = xs[k]'(by have := HN.out; omega) := ⟨_, rfl⟩
      rw [← hx] at hc1 hb1
      have hb2 : -1152921504606846976 ≤ x ∧ x ≤ 1152921504606846976 := by unfold am at hb1; omega
      have hs : amL (xs.take (k + 1)) = max v (am x) := by
        rw [List.take_succ_eq_append_getElem (by have := HN.out; omega), amL_snoc, hv.out, hx]
      have HS := Lib.hid hs
      have HX1 := Lib.hid hx
      have HB := Lib.hid hb1
      obtain ⟨hb3, hb4⟩ := hb2
      clear hx hs hb1 hv
      go_wp2
      all_goals
        go_round
        case rel => exact ⟨k + 1, max v (am x), by omega, by go_num, by congr 1; unfold am; omega, by omega, by have := HB.out; omega, HS⟩
        case measure => simp [intOf]; omega
    · go_wp2
      go_ret
      have hv' := hv.out
      rw [List.take_of_length_le (by have := HN.out; omega)] at hv'
      exact ⟨ret_i hv'.symm, rfl⟩

/-- The bounds of a groove. -/
def EdOk (p : Smp) : Prop := -4194304 ≤ p.1 ∧ p.1 ≤ 4194304 ∧ -4194304 ≤ p.2 ∧ p.2 ≤ 4194304
theorem edOk_of {p : Smp} (h : vE p = true) : EdOk p := by
  unfold vE win at h
  simp only [Bool.and_eq_true, decide_eq_true_eq] at h
  unfold EdOk; omega
theorem edOk_all {l : List Smp} (h : vPs l = true) : ∀ p ∈ l, EdOk p := by
  unfold vPs at h
  exact fun p hp => edOk_of (List.all_eq_true.1 h p hp)
def wid (p : Smp) : Int := p.2 - p.1
def chg (p q : Smp) : Int := amL [q.1 - p.1, q.2 - p.2]
def bnd (p q s : Smp) : Int := amL [p.1 + s.1 - 2 * q.1, p.2 + s.2 - 2 * q.2]
def chgAt (l : List Smp) (i : Nat) : Int := if i = 0 then 0 else chg (gAt l (i - 1)) (gAt l i)
def bndAt (l : List Smp) (i : Nat) : Int := if i = 0 ∨ i = l.length - 1 then 0 else bnd (gAt l (i - 1)) (gAt l i) (gAt l (i + 1))

set_option maxHeartbeats 1000000 in
theorem width_any (B : Nat) (A : Option Addr) (n c : Nat) (l : List Smp) (i : Nat) (w : World) (h0 : RS w B A n l) (hB : B ≤ w.heap.size) (_hl : n ≤ 9223372036854775807) (hi : i < l.length) (he : ∀ p ∈ l, EdOk p) :
    Calls Try.prog 200 #[.agg #[.slice A n c, .int .i64 i]] w fun e w' => e = .returned (.int .i64 (wid (gAt l i))) ∧ Below w.heap.size w w' := by
  have hb := he _ (List.getElem_mem hi)
  rw [← gAt_eq hi] at hb
  obtain ⟨ad, hA, hbl, h1, h2⟩ := ((h0.more hB).below ((Below.refl _ w).alloc (Nat.le_refl _) (.cells #[.slice A n c, .int .i64 i] 180)) (Nat.le_refl _)).at2 hi
  obtain ⟨p, hp⟩ : ∃ p, gAt l i = p := ⟨_, rfl⟩
  rw [hp] at h1 h2 hb ⊢
  obtain ⟨b1, b2, b3, b4⟩ := hb
  have hn := h0.1
  have hin : i < n := by omega
  clear h0 he hp hn hi
  obtain rfl := hA
  go_enter Try.func200, Try.ntmps200
  go_wp2
  go_quiet (fail)
  go_wp2
  go_ret
  exact ⟨ret_i rfl, below_drewN_ ((Below.refl _ _).alloc (Nat.le_refl _) _) _⟩

theorem wn0 (i : Nat) (h1 : ¬ i = 0) : ((i : Int) == 0) = false := beq_eq_false_iff_ne.2 (by omega)

set_option maxRecDepth 100000 in
set_option maxHeartbeats 4000000 in
theorem change_any (B : Nat) (A : Option Addr) (n c : Nat) (l : List Smp) (i : Nat) (w : World) (h0 : RS w B A n l) (hB : B ≤ w.heap.size) (hl : n ≤ 9223372036854775807) (hi : i < l.length) (he : ∀ p ∈ l, EdOk p) :
    Calls Try.prog 201 #[.agg #[.slice A n c, .int .i64 i]] w fun e w' => e = .returned (.int .i64 (chgAt l i)) ∧ Below w.heap.size w w' := by
  by_cases hz : i = 0
  · subst hz
    go_enter Try.func201, Try.ntmps201
    go_wp2
    go_ret
    exact ⟨ret_i rfl, (Below.refl _ _).alloc (Nat.le_refl _) _⟩
  · have hr : chgAt l i = chg (gAt l (i - 1)) (gAt l i) := by unfold chgAt; rw [if_neg hz]
    have HR := Lib.hid hr
    have hn := h0.1
    have hz' := wn0 i hz
    have hw1 : IntKind.i64.wrap ((i : Int) - 1) = ((i - 1 : Nat) : Int) := by rw [IntWalk.i64_in _ (by omega)]; omega
    have HE0 := Lib.hid (he _ (List.getElem_mem hi))
    have HE1 := Lib.hid (he _ (List.getElem_mem (show i - 1 < l.length by omega)))
    rw [← gAt_eq] at HE0 HE1
    have H0 := Lib.hid (h0.more hB)
    have HI := Lib.hid hi
    have hin : i < n := by omega
    have hin1 : i - 1 < n := by omega
    have hA : ∃ ad, A = some ad := by obtain ⟨ad, e, _⟩ := h0.at2 hi; exact ⟨ad, e⟩
    obtain ⟨ad, hA⟩ := hA
    obtain rfl := hA
    clear h0 he hn hr hi hz
    go_enter Try.func201, Try.ntmps201
    go_wp2
    obtain ⟨W, hW⟩ : ∃ W, w.alloc (.cells #[.slice (some ad) n c, .int .i64 i] 180) = W := ⟨_, rfl⟩
    have HBW : Hid (Below w.heap.size w W) := Lib.hid (by rw [← hW]; exact (Below.refl _ _).alloc (Nat.le_refl _) _)
    have hbx : Blk W w.heap.size 180 #[.slice (some ad) n c, .int .i64 i] := by rw [← hW]; exact Blk.new _ _ _
    rw [hW]
    clear hW
    have HS := Lib.hid hbx.lt
    obtain ⟨bx, hbxx⟩ : ∃ bx, w.heap.size = bx := ⟨_, rfl⟩
    rw [hbxx] at hbx HS ⊢
    have HBX := Lib.hid hbxx
    clear hbxx
    obtain ⟨ad0, e0, -, h1, h2⟩ := (H0.out.below HBW.out (Nat.le_refl _)).at2 HI.out
    obtain rfl := Option.some.inj e0
    obtain ⟨ad0, e0, -, h3, h4⟩ := (H0.out.below HBW.out (Nat.le_refl _)).at2 (show i - 1 < l.length by have := HI.out; omega)
    obtain rfl := Option.some.inj e0
    have k0 : W.cell? ⟨bx, 0, none⟩ = some (.slice (some ad) n c) := (hbx.cell 0).trans rfl
    have k1 : W.cell? ⟨bx, 1, none⟩ = some (.int .i64 i) := (hbx.cell 1).trans rfl
    clear hbx
    go_region_held3 (fun w' => w'.cell? ⟨bx, 0, none⟩ = some (.slice (some ad) n c) ∧ w'.cell? ⟨bx, 1, none⟩ = some (.int .i64 i) ∧ w'.cell? (ad.add (i * 2)) = some (.int .i64 (gAt l i).1) ∧ w'.cell? ⟨(ad.add (i * 2)).block, (ad.add (i * 2)).off + 1, none⟩ = some (.int .i64 (gAt l i).2) ∧ w'.cell? (ad.add ((i - 1) * 2)) = some (.int .i64 (gAt l (i - 1)).1) ∧ w'.cell? ⟨(ad.add ((i - 1) * 2)).block, (ad.add ((i - 1) * 2)).off + 1, none⟩ = some (.int .i64 (gAt l (i - 1)).2))
      ((refine ⟨?_, ?_, ?_, ?_, ?_, ?_⟩ <;> (repeat (with_reducible (first | refine cell_al _ ?_ | refine cell_dr ?_))) <;> (with_reducible assumption))) ((fail))
    all_goals
      have hb := HBW.out
      clear k0 k1 h1 h2 h3 h4 hz' hw1 hin hin1 HS
      obtain ⟨p, hp⟩ : ∃ p, gAt l i = p := ⟨_, rfl⟩
      obtain ⟨q, hq⟩ : ∃ q, gAt l (i - 1) = q := ⟨_, rfl⟩
      rw [hp] at HE0
      rw [hq] at HE1
      rw [hp, hq] at HR ⊢
      clear hp hq
      obtain ⟨a1, a2, a3, a4⟩ := HE0.out
      obtain ⟨b1, b2, b3, b4⟩ := HE1.out
      have HX : Hid (∀ x ∈ [p.1 - q.1, p.2 - q.2], am x ≤ 1152921504606846976) := Lib.hid (by intro x hx; simp at hx; unfold am; rcases hx with rfl | rfl <;> omega)
      have hb' := Lib.hid hb
      clear hb
      go_wp2_with fail
      refine (amount_any_ (W.heap.size + 3) _ _ _ [p.1 - q.1, p.2 - q.2] _ rfl (reads_cells (blk_dr (by simp)) (by omega) (by rfl) (by rfl)) (by simp) HX.out).mono ?_
      rintro e w' ⟨rfl, rfl⟩
      go_wp2
      go_ret
      exact ⟨ret_i HR.out.symm, ((((hb'.out.alloc hb'.out.size _).alloc (by have := hb'.out.size; simp; omega) _).alloc (by have := hb'.out.size; simp; omega) _).drew)⟩

end Go.Proofs.Ytjaomjbhkgijbaa

/-
  Contract of bend.
-/
namespace Go.Proofs.Ytjaomjbhkgijbaa
open Go.RowKit

set_option maxRecDepth 100000 in
set_option maxHeartbeats 4000000 in
theorem bend_any (B : Nat) (A : Option Addr) (n c : Nat) (l : List Smp) (i : Nat) (w : World) (h0 : RS w B A n l) (hB : B ≤ w.heap.size) (hl : n ≤ 9223372036854775807) (hi : i < l.length) (he : ∀ p ∈ l, EdOk p) :
    Calls Try.prog 202 #[.agg #[.slice A n c, .int .i64 i]] w fun e w' => e = .returned (.int .i64 (bndAt l i)) ∧ Below w.heap.size w w' := by
  have hn := h0.1
  by_cases hz : i = 0
  · subst hz
    go_enter Try.func202, Try.ntmps202
    go_wp2
    go_ret
    exact ⟨ret_i rfl, (Below.refl _ _).alloc (Nat.le_refl _) _⟩
  have hz' := wn0 i hz
  have hwn : IntKind.i64.wrap ((n : Int) - 1) = ((n - 1 : Nat) : Int) := by rw [IntWalk.i64_in _ (by omega)]; omega
  by_cases hy : i = l.length - 1
  · have hr : bndAt l i = 0 := by unfold bndAt; rw [if_pos (.inr hy)]
    have HR := Lib.hid hr
    have hy' : ((i : Int) == (n : Int) - 1) = true := beq_iff_eq.2 (by omega)
    clear hr hn hz hy h0 he hi
    go_enter Try.func202, Try.ntmps202
    go_wp2
    go_ret
    exact ⟨ret_i HR.out.symm, (Below.refl _ _).alloc (Nat.le_refl _) _⟩
  · have hr : bndAt l i = bnd (gAt l (i - 1)) (gAt l i) (gAt l (i + 1)) := by unfold bndAt; rw [if_neg (by omega)]
    have HR := Lib.hid hr
    have hy' : ((i : Int) == (n : Int) - 1) = false := beq_eq_false_iff_ne.2 (by omega)
    have hw1 : IntKind.i64.wrap ((i : Int) - 1) = ((i - 1 : Nat) : Int) := by rw [IntWalk.i64_in _ (by omega)]; omega
    have hw2 : IntKind.i64.wrap ((i : Int) + 1) = ((i + 1 : Nat) : Int) := by rw [IntWalk.i64_in _ (by omega)]; omega
    have HE0 := Lib.hid (he _ (List.getElem_mem hi))
    have HE1 := Lib.hid (he _ (List.getElem_mem (show i - 1 < l.length by omega)))
    have HE2 := Lib.hid (he _ (List.getElem_mem (show i + 1 < l.length by omega)))
    rw [← gAt_eq] at HE0 HE1 HE2
    have H0 := Lib.hid (h0.more hB)
    have HI := Lib.hid hi
    have HI2 := Lib.hid (show i + 1 < l.length by omega)
    have hin : i < n := by omega
    have hin1 : i - 1 < n := by omega
    have hin2 : i + 1 < n := by omega
    have hin3 : (i : Int) + 1 < (n : Int) := by omega
    have hin4 : 0 ≤ (i : Int) + 1 := by omega
    have hA : ∃ ad, A = some ad := by obtain ⟨ad, e, _⟩ := h0.at2 hi; exact ⟨ad, e⟩
    obtain ⟨ad, hA⟩ := hA
    obtain rfl := hA
    clear h0 he hn hr hi hz hy
    go_enter Try.func202, Try.ntmps202
    go_wp2
    obtain ⟨W, hW⟩ : ∃ W, w.alloc (.cells #[.slice (some ad) n c, .int .i64 i] 180) = W := ⟨_, rfl⟩
    have HBW : Hid (Below w.heap.size w W) := Lib.hid (by rw [← hW]; exact (Below.refl _ _).alloc (Nat.le_refl _) _)
    have hbx : Blk W w.heap.size 180 #[.slice (some ad) n c, .int .i64 i] := by rw [← hW]; exact Blk.new _ _ _
    rw [hW]
    clear hW
    have HS := Lib.hid hbx.lt
    obtain ⟨bx, hbxx⟩ : ∃ bx, w.heap.size = bx := ⟨_, rfl⟩
    rw [hbxx] at hbx HS ⊢
    have HBX := Lib.hid hbxx
    clear hbxx
    obtain ⟨ad0, e0, -, h1, h2⟩ := (H0.out.below HBW.out (Nat.le_refl _)).at2 HI.out
    obtain rfl := Option.some.inj e0
    obtain ⟨ad0, e0, -, h3, h4⟩ := (H0.out.below HBW.out (Nat.le_refl _)).at2 (show i - 1 < l.length by have := HI.out; omega)
    obtain rfl := Option.some.inj e0
    obtain ⟨ad0, e0, -, h5, h6⟩ := (H0.out.below HBW.out (Nat.le_refl _)).at2 HI2.out
    obtain rfl := Option.some.inj e0
    have k0 : W.cell? ⟨bx, 0, none⟩ = some (.slice (some ad) n c) := (hbx.cell 0).trans rfl
    have k1 : W.cell? ⟨bx, 1, none⟩ = some (.int .i64 i) := (hbx.cell 1).trans rfl
    clear hbx
    go_region_held3 (fun w' => w'.cell? ⟨bx, 0, none⟩ = some (.slice (some ad) n c) ∧ w'.cell? ⟨bx, 1, none⟩ = some (.int .i64 i) ∧ w'.cell? (ad.add (i * 2)) = some (.int .i64 (gAt l i).1) ∧ w'.cell? ⟨(ad.add (i * 2)).block, (ad.add (i * 2)).off + 1, none⟩ = some (.int .i64 (gAt l i).2) ∧ w'.cell? (ad.add ((i - 1) * 2)) = some (.int .i64 (gAt l (i - 1)).1) ∧ w'.cell? ⟨(ad.add ((i - 1) * 2)).block, (ad.add ((i - 1) * 2)).off + 1, none⟩ = some (.int .i64 (gAt l (i - 1)).2) ∧ w'.cell? (ad.add ((i + 1) * 2)) = some (.int .i64 (gAt l (i + 1)).1) ∧ w'.cell? ⟨(ad.add ((i + 1) * 2)).block, (ad.add ((i + 1) * 2)).off + 1, none⟩ = some (.int .i64 (gAt l (i + 1)).2))
      ((refine ⟨?_, ?_, ?_, ?_, ?_, ?_, ?_, ?_⟩ <;> (repeat (with_reducible (first | refine cell_al _ ?_ | refine cell_dr ?_))) <;> (with_reducible assumption))) ((fail))
    all_goals
      have hb := HBW.out
      clear k0 k1 h1 h2 h3 h4 h5 h6 hz' hy' hw1 hw2 hwn hin hin1 hin2 hin3 hin4 HS
      obtain ⟨p, hp⟩ : ∃ p, gAt l i = p := ⟨_, rfl⟩
      obtain ⟨q, hq⟩ : ∃ q, gAt l (i - 1) = q := ⟨_, rfl⟩
      obtain ⟨s, hs⟩ : ∃ s, gAt l (i + 1) = s := ⟨_, rfl⟩
      rw [hp] at HE0
      rw [hq] at HE1
      rw [hs] at HE2
      rw [hp, hq, hs] at HR ⊢
      clear hp hq hs
      obtain ⟨d1, d2, d3, d4⟩ := HE2.out
      obtain ⟨a1, a2, a3, a4⟩ := HE0.out
      obtain ⟨b1, b2, b3, b4⟩ := HE1.out
      have HX : Hid (∀ x ∈ [q.1 + s.1 - 2 * p.1, q.2 + s.2 - 2 * p.2], am x ≤ 1152921504606846976) := Lib.hid (by intro x hx; simp at hx; unfold am; rcases hx with rfl | rfl <;> omega)
      have hb' := Lib.hid hb
      clear hb
      go_wp2_with fail
      refine (amount_any_ (W.heap.size + 4) _ _ _ [q.1 + s.1 - 2 * p.1, q.2 + s.2 - 2 * p.2] _ rfl (reads_cells (blk_dr (by simp)) (by omega) (by rfl) (by rfl)) (by simp) HX.out).mono ?_
      rintro e w' ⟨rfl, rfl⟩
      go_wp2
      go_ret
      exact ⟨ret_i HR.out.symm, (((((hb'.out.alloc hb'.out.size _).alloc (by have := hb'.out.size; simp; omega) _).alloc (by have := hb'.out.size; simp; omega) _).alloc (by have := hb'.out.size; simp; omega) _).drew)⟩
end Go.Proofs.Ytjaomjbhkgijbaa

/-
  Regions that draw their order and whose operations read, reckon, or call what only makes new memory: one walk of the text's order serves every order.
-/
namespace Go.Proofs.Ytjaomjbhkgijbaa
open Go.RowKit

/-- The worlds that have grown out of w: all that was there is as it was. -/
def Lat (w : World) : Type := { w' : World // Below w.heap.size w w' }
def Lat.w {w : World} (x : Lat w) : World := x.1
theorem Lat.below {w : World} (x : Lat w) : Below w.heap.size w x.w := x.2
instance Lat.some_ {w : World} : Nonempty (Lat w) := ⟨⟨w, Below.refl _ _⟩⟩

theorem block_lt_of_cell {w : World} {p : Addr} {v : Value} (h : w.cell? p = some v) : p.block < w.heap.size :=
  World.block_lt_of_cell? w p h
/-- A cell that is read in w is read alike in all worlds that have grown out of w. -/
theorem Lat.cell {w : World} {p : Addr} {v : Value} (h : w.cell? p = some v) : ∀ x : Lat w, x.w.cell? p = some v :=
  fun x => (x.below.cell (block_lt_of_cell h)).trans h
theorem Lat.froz {w : World} {p : Addr} (hp : p.block < w.heap.size) (h : w.frozen? p = false) : ∀ x : Lat w, x.w.frozen? p = false :=
  fun x => (x.below.frozen hp).trans h

theorem lat_out {w w' : World} (h : ∃ x : Lat w, w' = x.w) : Below w.heap.size w w' := by
  obtain ⟨x, rfl⟩ := h
  exact x.below
theorem Lat.to_ {w w' : World} {p : Addr} {v : Value} (h : ∀ x : Lat w, x.w.cell? p = some v) (hb : Below w.heap.size w w') : w'.cell? p = some v := h ⟨w', hb⟩

theorem Calls.lat {P : Program} {w : World} {x : Lat w} {f : Nat} {args : Array Value} {v : Value} (h : Calls P f args x.w (fun e w' => e = .returned v ∧ Below x.w.heap.size x.w w')) :
    Calls P f args x.w (fun e w'' => e = .returned v ∧ ∃ y : Lat w, w'' = y.w) :=
  h.mono fun _ w' ⟨he, hb⟩ => ⟨he, ⟨w', x.below.trans (hb.mono x.below.size)⟩, rfl⟩
theorem Calls.lat_ {P : Program} {w : World} {x : Lat w} {f : Nat} {args : Array Value} {v : Value} (h : Calls P f args x.w (fun e w' => e = .returned v ∧ x.w = w')) :
    Calls P f args x.w (fun e w'' => e = .returned v ∧ ∃ y : Lat w, w'' = y.w) :=
  h.mono fun _ _ ⟨he, hb⟩ => ⟨he, x, hb.symm⟩

theorem wp_region_lat {P : Program} {id : Nat} {Q : Exit → Act → World → Prop} {a : Act} {w : World} {l : List Oper} (hm : P.follows .mixedOrders = true) (hB : Region.lexB .any l.toArray = true)
    (h : wpQuiet P l.toArray (fun w' => ∃ x : Lat w, w' = x.w) (fun a' => ∀ w', (∃ x : Lat w, w' = x.w) → Q .normal a' w') l a) : (Code.region id l.toArray true).wp P Q a w :=
  wp_region_quiet (C := fun w' => ∃ x : Lat w, w' = x.w) hm hB ⟨⟨w.drew, (Below.refl _ _).drew⟩, rfl⟩ (by simpa using h)
/-- The same in a world that has grown out of the base. -/
theorem wp_region_lat_ {P : Program} {id : Nat} {Q : Exit → Act → World → Prop} {a : Act} {w b : World} {l : List Oper} (hb : Below b.heap.size b w) (hm : P.follows .mixedOrders = true) (hB : Region.lexB .any l.toArray = true)
    (h : wpQuiet P l.toArray (fun w' => ∃ x : Lat b, w' = x.w) (fun a' => ∀ w', (∃ x : Lat b, w' = x.w) → Q .normal a' w') l a) : (Code.region id l.toArray true).wp P Q a w :=
  wp_region_quiet (C := fun w' => ∃ x : Lat b, w' = x.w) hm hB ⟨⟨w.drew, hb.drew⟩, rfl⟩ (by simpa using h)
end Go.Proofs.Ytjaomjbhkgijbaa

