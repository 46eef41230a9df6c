/-
  The statements' valid and narrowed.
-/
import Derived.Test.YtjdnpgilinfkgaaME
import Derived.Test.YtjdnpgilinfkgaaKG
import Derived.StillTailTactics
import Derived.Deep.Cut
namespace Go.Proofs.Ytjdnpgilinfkgaa
open Go.RowKit

/-- '.slice A n c' reads as the bytes bs. -/
def LU (w : World) (B : Nat) (A : Option Addr) (n : Nat) (bs : List Int) : Prop := (n = bs.length ∧ ∀ x ∈ bs, 0 ≤ x ∧ x ≤ 255) ∧ Reads w B 1 A n (bs.map (.int .u8 ·))
section
variable {w w' : World} {B B' n : Nat} {A : Option Addr} {bs : List Int}
theorem LU.below (h : LU w B A n bs) (hb : Below B' w w') (hB : B ≤ B') : LU w' B A n bs := ⟨h.1, h.2.below hb hB⟩
theorem LU.more (h : LU w B A n bs) (hB : B ≤ B') : LU w B' A n bs := ⟨h.1, h.2.more hB⟩
theorem LU.at_ (h : LU w B A n bs) {k : Nat} (hk : k < bs.length) : ∃ ad, A = some ad ∧ ad.block < B ∧ w.cell? (ad.add k) = some (.int .u8 (atI bs k)) := by
  obtain ⟨⟨rfl, _⟩, hr⟩ := h
  obtain ⟨ad, e, hb, hc⟩ := hr.2 (by omega)
  exact ⟨ad, e, hb, hc k _ (by rw [atI_eq hk]; simp [hk])⟩
theorem LU.bd (h : LU w B A n bs) (k : Nat) : 0 ≤ atI bs k ∧ atI bs k ≤ 255 := by
  rcases Nat.lt_or_ge k bs.length with hk | hk
  · rw [atI_eq hk]; exact h.1.2 _ (List.getElem_mem hk)
  · unfold atI; rw [List.getElem?_eq_none hk]; simp
end

def vdL (s : List Int) (l : List Smp) (most : Int) : Bool := decide (ckTip s = 0) && decide ((l.length : Int) ≤ most) && decide (ckG l = 0)

set_option maxRecDepth 100000 in
set_option maxHeartbeats 2000000 in
theorem valid_any (B : Nat) (Af A : Option Addr) (nf cf n c : Nat) (s : List Int) (l : List Smp) (most : Int) (w : World) (hL : LI w B Af nf s) (h0 : RS w B A n l) (hB : B ≤ w.heap.size) (hf : nf ≤ 9223372036854775807) (hl : n ≤ 9223372036854775807) :
    Calls Try.prog 36 #[.agg #[.slice Af nf cf], .slice A n c, .int .i64 most] w fun e w' => e = .returned (.bool (vdL s l most)) ∧ Below w.heap.size w w' := by
  have HN := Lib.hid h0.1
  have CT := Lib.hid (fun W (hb : Below w.heap.size w W) => refCheckTip_any B Af nf cf s W (hL.below hb hB) (Nat.le_trans hB hb.size) hf)
  have CG := Lib.hid (fun W (hb : Below w.heap.size w W) => refCheckPoints_any B A n c l W (h0.below hb hB) (Nat.le_trans hB hb.size) hl)
  have HV : Hid (vdL s l most = (decide (ckTip s = 0) && decide ((n : Int) ≤ most) && decide (ckG l = 0))) := Lib.hid (by unfold vdL; rw [HN.out])
  obtain ⟨e1, h1⟩ : ∃ x, ckTip s = x := ⟨_, rfl⟩
  obtain ⟨e2, h2⟩ : ∃ x, ckG l = x := ⟨_, rfl⟩
  rw [h1] at CT HV
  rw [h2] at CG HV
  clear h1 h2 hL h0 hB
  by_cases c1 : e1 = 0
  · subst c1
    by_cases c2 : (n : Int) ≤ most
    · have d2 : decide ((n : Int) ≤ most) = true := by simpa using c2
      by_cases c3 : e2 = 0
      all_goals
        (try subst c3)
        (try have d3 : (e2 == 0) = false := beq_eq_false_iff_ne.2 c3)
        go_enter Try.func36, Try.ntmps36
        go_wp2_with fail
        refine (CT.out _ ((Below.refl _ _).alloc (Nat.le_refl _) _)).mono ?_
        rintro e w1 ⟨rfl, hb1⟩
        have HB := Lib.hid (((Below.refl _ w).alloc (Nat.le_refl _) (.cells #[.slice Af nf cf] 24)).trans (hb1.mono (by simp)))
        clear hb1
        go_wp2_with fail
        refine (CG.out _ HB.out).mono ?_
        rintro e w2 ⟨rfl, hb1⟩
        replace HB := Lib.hid (HB.out.trans (hb1.mono HB.out.size))
        clear hb1
        go_wp2
        go_ret
        exact ⟨ret_b (by rw [HV.out]; simp [*]), HB.out⟩
    · have d2 : decide ((n : Int) ≤ most) = false := by simpa using c2
      go_enter Try.func36, Try.ntmps36
      go_wp2_with fail
      refine (CT.out _ ((Below.refl _ _).alloc (Nat.le_refl _) _)).mono ?_
      rintro e w1 ⟨rfl, hb1⟩
      have HB := Lib.hid (((Below.refl _ w).alloc (Nat.le_refl _) (.cells #[.slice Af nf cf] 24)).trans (hb1.mono (by simp)))
      clear hb1
      go_wp2
      go_ret
      exact ⟨ret_b (by rw [HV.out, d2]; simp), HB.out⟩
  · have d1 : (e1 == 0) = false := beq_eq_false_iff_ne.2 c1
    go_enter Try.func36, Try.ntmps36
    go_wp2_with fail
    refine (CT.out _ ((Below.refl _ _).alloc (Nat.le_refl _) _)).mono ?_
    rintro e w1 ⟨rfl, hb1⟩
    have HB := Lib.hid (((Below.refl _ w).alloc (Nat.le_refl _) (.cells #[.slice Af nf cf] 24)).trans (hb1.mono (by simp)))
    clear hb1
    go_wp2
    go_ret
    exact ⟨ret_b (by rw [HV.out, decide_eq_false c1]; rfl), HB.out⟩

/-- A groove whose edges are moved inwards by some numbers. -/
def nrO (l : List Smp) (by_ : List Int) (i : Nat) : Int := if 2 * i + 1 < by_.length then max (-4194304) (outW l i - atI by_ (2 * i)) else outW l i
def nrI (l : List Smp) (by_ : List Int) (i : Nat) : Int := if 2 * i + 1 < by_.length then max (-4194304) (innW l i - atI by_ (2 * i + 1)) else innW l i
def nrL (l : List Smp) (by_ : List Int) : List Smp := ofW l.length (nrI l by_) (nrO l by_)
theorem nrL_len (l : List Smp) (by_ : List Int) : (nrL l by_).length = l.length := ofW_len _ _ _
theorem nr_bd {l : List Smp} {by_ : List Int} (he : Edg l) (hb : ∀ k, 0 ≤ atI by_ k ∧ atI by_ k ≤ 255) {i : Nat} (h : i < l.length) :
    (-4194304 ≤ nrO l by_ i ∧ nrO l by_ i ≤ outW l i) ∧ -4194304 ≤ nrI l by_ i ∧ nrI l by_ i ≤ innW l i := by
  have h1 := he.1 i h
  have h2 := he.2 i h
  have h3 := hb (2 * i)
  have h4 := hb (2 * i + 1)
  unfold nrO nrI
  by_cases hc : 2 * i + 1 < by_.length
  · rw [if_pos hc, if_pos hc]; omega
  · rw [if_neg hc, if_neg hc]; omega
theorem nrL_edg {l : List Smp} {by_ : List Int} (he : Edg l) (hb : ∀ k, 0 ≤ atI by_ k ∧ atI by_ k ≤ 255) : Edg (nrL l by_) := by
  refine ofW_edg (fun u hu => ?_) (fun u hu => ?_)
  · have h1 := nr_bd he hb hu; have := he.1 u hu; omega
  · have h1 := nr_bd he hb hu; have := he.2 u hu; omega

theorem wrap_u8_i64 {x : Int} (h : 0 ≤ x ∧ x ≤ 255) : IntKind.i64.wrap x = x := IntWalk.i64_in _ (by omega)

end Go.Proofs.Ytjdnpgilinfkgaa
