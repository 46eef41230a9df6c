/-
  Contract of bend.
-/
import Derived.Test.YtaiigdbbpdkamaaJ2
namespace Go.Proofs.Ytaiigdbbpdkamaa
open Go.RowKit

set_option maxRecDepth 100000 in
set_option maxHeartbeats 4000000 in
theorem bend_any (B : Nat) (A : Option Addr) (n c : Nat) (l : List Smp) (i : Nat) (w : World) (h0 : RS w B A n l) (hB : B ≤ w.heap.size) (hl : n ≤ 9223372036854775807) (hi : i < l.length) (he : ∀ p ∈ l, EdOk p) :
    Calls Try.prog 87 #[.agg #[.slice A n c, .int .i64 i]] w fun e w' => e = .returned (.int .i64 (bndAt l i)) ∧ Below w.heap.size w w' := by
  have hn := h0.1
  by_cases hz : i = 0
  · subst hz
    go_enter Try.func87, Try.ntmps87
    go_wp2
    go_ret
    exact ⟨ret_i rfl, (Below.refl _ _).alloc (Nat.le_refl _) _⟩
  have hz' := wn0 i hz
  have hwn : IntKind.i64.wrap ((n : Int) - 1) = ((n - 1 : Nat) : Int) := by rw [IntWalk.i64_in _ (by omega)]; omega
  by_cases hy : i = l.length - 1
  · have hr : bndAt l i = 0 := by unfold bndAt; rw [if_pos (.inr hy)]
    have HR := Lib.hid hr
    have hy' : ((i : Int) == (n : Int) - 1) = true := beq_iff_eq.2 (by omega)
    clear hr hn hz hy h0 he hi
    go_enter Try.func87, Try.ntmps87
    go_wp2
    go_ret
    exact ⟨ret_i HR.out.symm, (Below.refl _ _).alloc (Nat.le_refl _) _⟩
  · have hr : bndAt l i = bnd (gAt l (i - 1)) (gAt l i) (gAt l (i + 1)) := by unfold bndAt; rw [if_neg (by omega)]
    have HR := Lib.hid hr
    have hy' : ((i : Int) == (n : Int) - 1) = false := beq_eq_false_iff_ne.2 (by omega)
    have hw1 : IntKind.i64.wrap ((i : Int) - 1) = ((i - 1 : Nat) : Int) := by rw [IntWalk.i64_in _ (by omega)]; omega
    have hw2 : IntKind.i64.wrap ((i : Int) + 1) = ((i + 1 : Nat) : Int) := by rw [IntWalk.i64_in _ (by omega)]; omega
    have HE0 := Lib.hid (he _ (List.getElem_mem hi))
    have HE1 := Lib.hid (he _ (List.getElem_mem (show i - 1 < l.length by omega)))
    have HE2 := Lib.hid (he _ (List.getElem_mem (show i + 1 < l.length by omega)))
    rw [← gAt_eq] at HE0 HE1 HE2
    have H0 := Lib.hid (h0.more hB)
    have HI := Lib.hid hi
    have HI2 := Lib.hid (show i + 1 < l.length by omega)
    have hin : i < n := by omega
    have hin1 : i - 1 < n := by omega
    have hin2 : i + 1 < n := by omega
    have hin3 : (i : Int) + 1 < (n : Int) := by omega
    have hin4 : 0 ≤ (i : Int) + 1 := by omega
    have hA : ∃ ad, A = some ad := by obtain ⟨ad, e, _⟩ := h0.at2 hi; exact ⟨ad, e⟩
    obtain ⟨ad, hA⟩ := hA
    obtain rfl := hA
    clear h0 he hn hr hi hz hy
    go_enter Try.func87, Try.ntmps87
    go_wp2
    obtain ⟨W, hW⟩ : ∃ W, w.alloc (.cells #[.slice (some ad) n c, .int .i64 i] 95) = W := ⟨_, rfl⟩
    have HBW : Hid (Below w.heap.size w W) := Lib.hid (by rw [← hW]; exact (Below.refl _ _).alloc (Nat.le_refl _) _)
    have hbx : Blk W w.heap.size 95 #[.slice (some ad) n c, .int .i64 i] := by rw [← hW]; exact Blk.new _ _ _
    rw [hW]
    clear hW
    have HS := Lib.hid hbx.lt
    obtain ⟨bx, hbxx⟩ : ∃ bx, w.heap.size = bx := ⟨_, rfl⟩
    rw [hbxx] at hbx HS ⊢
    have HBX := Lib.hid hbxx
    clear hbxx
    obtain ⟨ad0, e0, -, h1, h2⟩ := (H0.out.below HBW.out (Nat.le_refl _)).at2 HI.out
    obtain rfl := Option.some.inj e0
    obtain ⟨ad0, e0, -, h3, h4⟩ := (H0.out.below HBW.out (Nat.le_refl _)).at2 (show i - 1 < l.length by have := HI.out; omega)
    obtain rfl := Option.some.inj e0
    obtain ⟨ad0, e0, -, h5, h6⟩ := (H0.out.below HBW.out (Nat.le_refl _)).at2 HI2.out
    obtain rfl := Option.some.inj e0
    have k0 : W.cell? ⟨bx, 0, none⟩ = some (.slice (some ad) n c) := (hbx.cell 0).trans rfl
    have k1 : W.cell? ⟨bx, 1, none⟩ = some (.int .i64 i) := (hbx.cell 1).trans rfl
    clear hbx
    go_region_held3 (fun w' => w'.cell? ⟨bx, 0, none⟩ = some (.slice (some ad) n c) ∧ w'.cell? ⟨bx, 1, none⟩ = some (.int .i64 i) ∧ w'.cell? (ad.add (i * 2)) = some (.int .i64 (gAt l i).1) ∧ w'.cell? ⟨(ad.add (i * 2)).block, (ad.add (i * 2)).off + 1, none⟩ = some (.int .i64 (gAt l i).2) ∧ w'.cell? (ad.add ((i - 1) * 2)) = some (.int .i64 (gAt l (i - 1)).1) ∧ w'.cell? ⟨(ad.add ((i - 1) * 2)).block, (ad.add ((i - 1) * 2)).off + 1, none⟩ = some (.int .i64 (gAt l (i - 1)).2) ∧ w'.cell? (ad.add ((i + 1) * 2)) = some (.int .i64 (gAt l (i + 1)).1) ∧ w'.cell? ⟨(ad.add ((i + 1) * 2)).block, (ad.add ((i + 1) * 2)).off + 1, none⟩ = some (.int .i64 (gAt l (i + 1)).2))
      ((refine ⟨?_, ?_, ?_, ?_, ?_, ?_, ?_, ?_⟩ <;> (repeat (with_reducible (first | refine cell_al _ ?_ | refine cell_dr ?_))) <;> (with_reducible assumption))) ((fail))
    all_goals
      have hb := HBW.out
      clear k0 k1 h1 h2 h3 h4 h5 h6 hz' hy' hw1 hw2 hwn hin hin1 hin2 hin3 hin4 HS
      obtain ⟨p, hp⟩ : ∃ p, gAt l i = p := ⟨_, rfl⟩
      obtain ⟨q, hq⟩ : ∃ q, gAt l (i - 1) = q := ⟨_, rfl⟩
      obtain ⟨s, hs⟩ : ∃ s, gAt l (i + 1) = s := ⟨_, rfl⟩
      rw [hp] at HE0
      rw [hq] at HE1
      rw [hs] at HE2
      rw [hp, hq, hs] at HR ⊢
      clear hp hq hs
      obtain ⟨d1, d2, d3, d4⟩ := HE2.out
      obtain ⟨a1, a2, a3, a4⟩ := HE0.out
      obtain ⟨b1, b2, b3, b4⟩ := HE1.out
      have HX : Hid (∀ x ∈ [q.1 + s.1 - 2 * p.1, q.2 + s.2 - 2 * p.2], am x ≤ 1152921504606846976) := Lib.hid (by intro x hx; simp at hx; unfold am; rcases hx with rfl | rfl <;> omega)
      have hb' := Lib.hid hb
      clear hb
      go_wp2_with fail
      refine (amount_any_ (W.heap.size + 4) _ _ _ [q.1 + s.1 - 2 * p.1, q.2 + s.2 - 2 * p.2] _ rfl (reads_cells (blk_dr (by simp)) (by omega) (by rfl) (by rfl)) (by simp) HX.out).mono ?_
      rintro e w' ⟨rfl, rfl⟩
      go_wp2
      go_ret
      exact ⟨ret_i HR.out.symm, (((((hb'.out.alloc hb'.out.size _).alloc (by have := hb'.out.size; simp; omega) _).alloc (by have := hb'.out.size; simp; omega) _).alloc (by have := hb'.out.size; simp; omega) _).drew)⟩
end Go.Proofs.Ytaiigdbbpdkamaa
