/-
  The statements' valid and narrowed.
-/
import Derived.Test.YtpcamnblpfccjaaME
import Derived.Test.YtpcamnblpfccjaaKG
import Derived.StillTailTactics
import Derived.Deep.Cut
namespace Go.Proofs.Ytpcamnblpfccjaa
open Go.RowKit

/-- '.slice A n c' reads as the bytes bs. -/
def LU (w : World) (B : Nat) (A : Option Addr) (n : Nat) (bs : List Int) : Prop := (n = bs.length ∧ ∀ x ∈ bs, 0 ≤ x ∧ x ≤ 255) ∧ Reads w B 1 A n (bs.map (.int .u8 ·))
section
variable {w w' : World} {B B' n : Nat} {A : Option Addr} {bs : List Int}
theorem LU.below (h : LU w B A n bs) (hb : Below B' w w') (hB : B ≤ B') : LU w' B A n bs := ⟨h.1, h.2.below hb hB⟩
theorem LU.more (h : LU w B A n bs) (hB : B ≤ B') : LU w B' A n bs := ⟨h.1, h.2.more hB⟩
theorem LU.at_ (h : LU w B A n bs) {k : Nat} (hk : k < bs.length) : ∃ ad, A = some ad ∧ ad.block < B ∧ w.cell? (ad.add k) = some (.int .u8 (atI bs k)) := by
  obtain ⟨⟨rfl, _⟩, hr⟩ := h
  obtain ⟨ad, e, hb, hc⟩ := hr.2 (by omega)
  exact ⟨ad, e, hb, hc k _ (by rw [atI_eq hk]; simp [hk])⟩
theorem LU.bd (h : LU w B A n bs) (k : Nat) : 0 ≤ atI bs k ∧ atI bs k ≤ 255 := by
  rcases Nat.lt_or_ge k bs.length with hk | hk
  · rw [atI_eq hk]; exact h.1.2 _ (List.getElem_mem hk)
  · unfold atI; rw [List.getElem?_eq_none hk]; simp
end

def vdL (s : List Int) (l : List Smp) (most : Int) : Bool := decide (ckTip s = 0) && decide ((l.length : Int) ≤ most) && decide (ckG l = 0)

set_option maxRecDepth 100000 in
set_option maxHeartbeats 2000000 in
theorem valid_any (B : Nat) (Af A : Option Addr) (nf cf n c : Nat) (s : List Int) (l : List Smp) (most : Int) (w : World) (hL : LI w B Af nf s) (h0 : RS w B A n l) (hB : B ≤ w.heap.size) (hf : nf ≤ 9223372036854775807) (hl : n ≤ 9223372036854775807) :
    Calls Try.prog 36 #[.agg #[.slice Af nf cf], .slice A n c, .int .i64 most] w fun e w' => e = .returned (.bool (vdL s l most)) ∧ Below w.heap.size w w' := by
  have HN := Lib.hid h0.1
  have CT := Lib.hid (fun W (hb : Below w.heap.size w W) => refCheckTip_any B Af nf cf s W (hL.below hb hB) (Nat.le_trans hB hb.size) hf)
  have CG := Lib.hid (fun W (hb : Below w.heap.size w W) => refCheckPoints_any B A n c l W (h0.below hb hB) (Nat.le_trans hB hb.size) hl)
  have HV : Hid (vdL s l most = (decide (ckTip s = 0) && decide ((n : Int) ≤ most) && decide (ckG l = 0))) := Lib.hid (by unfold vdL; rw [HN.out])
  obtain ⟨e1, h1⟩ : ∃ x, ckTip s = x := ⟨_, rfl⟩
  obtain ⟨e2, h2⟩ : ∃ x, ckG l = x := ⟨_, rfl⟩
  rw [h1] at CT HV
  rw [h2] at CG HV
  clear h1 h2 hL h0 hB
  by_cases c1 : e1 = 0
  · subst c1
    by_cases c2 : (n : Int) ≤ most
    · have d2 : decide ((n : Int) ≤ most) = true := by simpa using c2
      by_cases c3 : e2 = 0
      all_goals
        (try subst c3)
        (try have d3 : (e2 == 0) = false := beq_eq_false_iff_ne.2 c3)
        go_enter Try.func36, Try.ntmps36
        go_wp2_with fail
        refine (CT.out _ ((Below.refl _ _).alloc (Nat.le_refl _) _)).mono ?_
        rintro e w1 ⟨rfl, hb1⟩
        have HB := Lib.hid (((Below.refl _ w).alloc (Nat.le_refl _) (.cells #[.slice Af nf cf] 24)).trans (hb1.mono (by simp)))
        clear hb1
        go_wp2_with fail
        refine (CG.out _ HB.out).mono ?_
        rintro e w2 ⟨rfl, hb1⟩
        replace HB := Lib.hid (HB.out.trans (hb1.mono HB.out.size))
        clear hb1
        go_wp2
        go_ret
        exact ⟨ret_b (by rw [HV.out]; simp [*]), HB.out⟩
    · have d2 : decide ((n : Int) ≤ most) = false := by simpa using c2
      go_enter Try.func36, Try.ntmps36
      go_wp2_with fail
      refine (CT.out _ ((Below.refl _ _).alloc (Nat.le_refl _) _)).mono ?_
      rintro e w1 ⟨rfl, hb1⟩
      have HB := Lib.hid (((Below.refl _ w).alloc (Nat.le_refl _) (.cells #[.slice Af nf cf] 24)).trans (hb1.mono (by simp)))
      clear hb1
      go_wp2
      go_ret
      exact ⟨ret_b (by rw [HV.out, d2]; simp), HB.out⟩
  · have d1 : (e1 == 0) = false := beq_eq_false_iff_ne.2 c1
    go_enter Try.func36, Try.ntmps36
    go_wp2_with fail
    refine (CT.out _ ((Below.refl _ _).alloc (Nat.le_refl _) _)).mono ?_
    rintro e w1 ⟨rfl, hb1⟩
    have HB := Lib.hid (((Below.refl _ w).alloc (Nat.le_refl _) (.cells #[.slice Af nf cf] 24)).trans (hb1.mono (by simp)))
    clear hb1
    go_wp2
    go_ret
    exact ⟨ret_b (by rw [HV.out, decide_eq_false c1]; rfl), HB.out⟩

/-- A groove whose edges are moved inwards by some numbers. -/
def nrO (l : List Smp) (by_ : List Int) (i : Nat) : Int := if 2 * i + 1 < by_.length then max (-4194304) (outW l i - atI by_ (2 * i)) else outW l i
def nrI (l : List Smp) (by_ : List Int) (i : Nat) : Int := if 2 * i + 1 < by_.length then max (-4194304) (innW l i - atI by_ (2 * i + 1)) else innW l i
def nrL (l : List Smp) (by_ : List Int) : List Smp := ofW l.length (nrI l by_) (nrO l by_)
theorem nrL_len (l : List Smp) (by_ : List Int) : (nrL l by_).length = l.length := ofW_len _ _ _
theorem nr_bd {l : List Smp} {by_ : List Int} (he : Edg l) (hb : ∀ k, 0 ≤ atI by_ k ∧ atI by_ k ≤ 255) {i : Nat} (h : i < l.length) :
    (-4194304 ≤ nrO l by_ i ∧ nrO l by_ i ≤ outW l i) ∧ -4194304 ≤ nrI l by_ i ∧ nrI l by_ i ≤ innW l i := by
  have h1 := he.1 i h
  have h2 := he.2 i h
  have h3 := hb (2 * i)
  have h4 := hb (2 * i + 1)
  unfold nrO nrI
  by_cases hc : 2 * i + 1 < by_.length
  · rw [if_pos hc, if_pos hc]; omega
  · rw [if_neg hc, if_neg hc]; omega
theorem nrL_edg {l : List Smp} {by_ : List Int} (he : Edg l) (hb : ∀ k, 0 ≤ atI by_ k ∧ atI by_ k ≤ 255) : Edg (nrL l by_) := by
  refine ofW_edg (fun u hu => ?_) (fun u hu => ?_)
  · have h1 := nr_bd he hb hu; have := he.1 u hu; omega
  · have h1 := nr_bd he hb hu; have := he.2 u hu; omega

theorem wrap_u8_i64 {x : Int} (h : 0 ≤ x ∧ x ≤ 255) : IntKind.i64.wrap x = x := IntWalk.i64_in _ (by omega)

set_option maxRecDepth 100000 in
set_option maxHeartbeats 4000000 in
theorem narrowed_any (B : Nat) (A Ab : Option Addr) (n k nb kb : Nat) (l : List Smp) (bs : List Int) (w : World) (h0 : RS w B A n l) (hb0 : LU w B Ab nb bs) (hB : B ≤ w.heap.size) (hn : n ≤ 4096) (he : Edg l) :
    Calls Try.prog 37 #[.slice A n k, .slice Ab nb kb] w (LinePost w (nrL l bs)) := by
  have HN := Lib.hid h0.1
  have HNB := Lib.hid hb0.1.1
  have H := Lib.hid (h0.more hB)
  have HU := Lib.hid (hb0.more hB)
  have HE := Lib.hid he
  clear h0 hb0 hB he
  obtain ⟨i0, hi0, hz0, hz1, hz2⟩ := info_parts info_pt
  have HI0 := Lib.hid hi0
  have HZ0 := Lib.hid hz0
  have HZ1 := Lib.hid hz1
  have HZ2 := Lib.hid hz2
  clear hi0 hz0 hz1 hz2
  have hown : w.ownsRow w.heap.size 65 2 (.slice none 0 0) 0 [] := World.ownsRow_nil _ _ _ _
  have HO := Lib.hid hown
  clear hown
  go_enter Try.func37, Try.ntmps37
  go_wp2_with fail
  go_loopw [5, 6] (fun v z wr => ∃ (j : Nat) (sv : Value), j ≤ n ∧ z = .int .i64 j ∧ sv = v ∧ Hid (wr.ownsRow w.heap.size 65 2 sv j (smpCells ((nrL l bs).take j))) ∧ Hid (Below w.heap.size w wr)) (fun v z wr => n - (intOf z).toNat)
  case atStart => exact ⟨0, _, Nat.zero_le _, rfl, rfl, HO, Lib.hid (Below.refl _ _)⟩
  case round =>
    clear HO
    obtain ⟨j, sv, hj, rfl, rfl, HO, HB⟩ := hrel
    by_cases hlt : j < n
    · have hjl : j < l.length := by have := HN.out; omega
      obtain ⟨ad, hA, hbl, p1, p2⟩ := (H.out.below HB.out (Nat.le_refl _)).at_ hjl
      obtain rfl := hA
      have HSN : Hid ((nrL l bs).take (j + 1) = (nrL l bs).take j ++ [(-nrI l bs j, nrO l bs j)]) := Lib.hid (ofW_take _ _ hjl)
      have e1 := HE.out.1 j hjl
      have e2 := HE.out.2 j hjl
      have o1 : nrO l bs j = if 2 * j + 1 < bs.length then max (-4194304) (outW l j - atI bs (2 * j)) else outW l j := rfl
      have o2 : nrI l bs j = if 2 * j + 1 < bs.length then max (-4194304) (innW l j - atI bs (2 * j + 1)) else innW l j := rfl
      rw [innW_eq hjl] at e1 o2
      rw [outW_eq hjl] at e2 o1
      obtain ⟨p, hp⟩ : ∃ p, l[j] = p := ⟨_, rfl⟩
      rw [hp] at p1 p2 e1 e2 o1 o2
      clear hp
      have w1 : IntKind.i64.wrap (2 * (j : Int)) = 2 * (j : Int) := IntWalk.i64_in _ (by omega)
      have w2 : IntKind.i64.wrap (2 * (j : Int) + 1) = 2 * (j : Int) + 1 := IntWalk.i64_in _ (by omega)
      by_cases hc : 2 * j + 1 < nb
      · obtain ⟨i2, hi2⟩ : ∃ i, 2 * j = i := ⟨_, rfl⟩
        obtain ⟨i3, hi3⟩ : ∃ i, 2 * j + 1 = i := ⟨_, rfl⟩
        have hx2 : i2 < bs.length := by have := HNB.out; omega
        have hx3 : i3 < bs.length := by have := HNB.out; omega
        obtain ⟨ab, hAb, _, u1⟩ := (HU.out.below HB.out (Nat.le_refl _)).at_ hx2
        obtain ⟨ab', hAb', _, u2⟩ := (HU.out.below HB.out (Nat.le_refl _)).at_ hx3
        obtain rfl := hAb
        cases hAb'
        have b1 := HU.out.bd i2
        have b2 := HU.out.bd i3
        rw [hi2, if_pos (by have := HNB.out; omega)] at o1
        rw [hi3, if_pos (by have := HNB.out; omega)] at o2
        obtain ⟨x, hx⟩ : ∃ x, atI bs i2 = x := ⟨_, rfl⟩
        obtain ⟨y, hy⟩ : ∃ y, atI bs i3 = y := ⟨_, rfl⟩
        rw [hx] at u1 b1 o1
        rw [hy] at u2 b2 o2
        clear hx hy
        have c1 : 2 * (j : Int) + 1 < (nb : Int) := by omega
        have w3 : 2 * (j : Int) = (i2 : Int) := by omega
        have w4 : IntKind.i64.wrap (2 * (j : Int)) = (i2 : Int) := by rw [w3]; exact IntWalk.i64_in _ (by omega)
        have w5 : IntKind.i64.wrap ((i2 : Int) + 1) = (i3 : Int) := by rw [show (i2 : Int) + 1 = i3 by omega]; exact IntWalk.i64_in _ (by omega)
        have w4b : IntKind.i64.wrap (i2 : Int) = (i2 : Int) := IntWalk.i64_in _ (by omega)
        have c2 : (i2 : Int) < (nb : Int) := by omega
        have c3 : (i3 : Int) < (nb : Int) := by omega
        have w6 : IntKind.i64.wrap (p.2 - x) = p.2 - x := IntWalk.i64_in _ (by omega)
        have w7 : IntKind.i64.wrap (p.1 + y) = p.1 + y := IntWalk.i64_in _ (by omega)
        have w8 := wrap_u8_i64 b1
        have w9 := wrap_u8_i64 b2
        obtain ⟨o, ho⟩ : ∃ o, nrO l bs j = o := ⟨_, rfl⟩
        obtain ⟨i, hi⟩ : ∃ i, -nrI l bs j = i := ⟨_, rfl⟩
        have m1 : (if -4194304 < p.2 - x then p.2 - x else -4194304) = o := by rw [← ho, o1]; split <;> omega
        have m2 : (if p.1 + y < 4194304 then p.1 + y else 4194304) = i := by rw [← hi, o2]; split <;> omega
        rw [ho, hi] at HSN
        clear o1 o2 ho hi w1 w2 hx2 hx3
        go_wp2_with fail
        obtain ⟨W4, hW4⟩ : ∃ W4, wr.alloc (.cells #[.int .i64 p.1, .int .i64 p.2] 65) = W4 := ⟨_, rfl⟩
        have k4 : Blk W4 wr.heap.size 65 #[.int .i64 p.1, .int .i64 p.2] := by rw [← hW4]; exact Blk.new _ _ _
        have hb4 : Below wr.heap.size wr W4 := by rw [← hW4]; exact (Below.refl _ _).alloc (Nat.le_refl _) _
        have v1 := cell_bl hb4 u1
        have HV2 := Lib.hid (cell_bl hb4 u2)
        have HO4 := Lib.hid (own_below HO.out hb4)
        have hsw := HB.out.size
        have HB4 := Lib.hid (HB.out.trans (hb4.mono hsw))
        have HLT : Hid (∀ g, sv.ownBlock = some g → g < wr.heap.size) := Lib.hid (fun g hg => (HO.out.lt g hg).2)
        have HAB : Hid (ab.block < wr.heap.size) := Lib.hid (by have h := World.block_lt_of_cell? _ _ u2; rw [block_of_add] at h; exact h)
        rw [hW4]
        obtain ⟨b, hb⟩ : ∃ b, wr.heap.size = b := ⟨_, rfl⟩
        rw [hb] at k4 HLT HAB hsw ⊢
        have K4 := Lib.hid k4
        obtain ⟨z0, z1, z2, z3, z4⟩ := k4.two
        clear hW4 hb4 hb u1 u2 p1 p2 k4 HO HB
        go_still_tail 11, (by kernel_rfl)
        repeat still_step
        try refine wpStill_nil ?_
        change wpList _ _ _ _ _ W4.drew
        go_wp2_with fail
        obtain ⟨W5, hW5⟩ : ∃ W5, (W4.setCell ⟨b, 1, none⟩ (.int .i64 o)).drew = W5 := ⟨_, rfl⟩
        have k5 : Blk W5 b 65 #[.int .i64 p.1, .int .i64 o] := by rw [← hW5]; exact (K4.out.set_ 1 _).drew
        have hg5 : W4.grownBy W5 (some b) := by rw [← hW5]; exact grown_drew (grown_setCell (World.grownBy.refl _ _) 1 _)
        have v2 : W5.cell? (ab.add i3) = some (.int .u8 y) := hg5.cell HV2.out (fun e => by have h := Option.some.inj e; rw [block_of_add] at h; have := HAB.out; omega)
        have HO5 := Lib.hid (HO4.out.kept hg5 (by
          cases h : sv.ownBlock with
          | none => exact .inl rfl
          | some g => exact .inr (fun e => by have := Option.some.inj e; have := HLT.out g h; omega)))
        have HB5 := Lib.hid (HB4.out.grown hg5 HB4.out.size (fun q e => by cases e; exact hsw))
        have K5 := Lib.hid k5
        obtain ⟨y0, y1, y2, y3, y4⟩ := k5.two
        rw [hW5]
        clear hW5 hg5 k5 HO4 HB4 K4 HV2
        go_still_tail 12, (by kernel_rfl)
        repeat still_step
        try refine wpStill_nil ?_
        change wpList _ _ _ _ _ W5.drew
        go_upto_region 9 with fail
        obtain ⟨W6, hW6⟩ : ∃ W6, (W5.setCell ⟨b, 0, none⟩ (.int .i64 i)).drew = W6 := ⟨_, rfl⟩
        have k6 : Blk W6 b 65 #[.int .i64 i, .int .i64 o] := by rw [← hW6]; exact (K5.out.set_ 0 _).drew
        have hg6 : W5.grownBy W6 (some b) := by rw [← hW6]; exact grown_drew (grown_setCell (World.grownBy.refl _ _) 0 _)
        have HO6 := Lib.hid (HO5.out.kept hg6 (by
          cases h : sv.ownBlock with
          | none => exact .inl rfl
          | some g => exact .inr (fun e => by have := Option.some.inj e; have := HLT.out g h; omega)))
        have HB6 := Lib.hid (HB5.out.grown hg6 HB5.out.size (fun q e => by cases e; exact hsw))
        have hs6 := HB6.out.size
        obtain ⟨x0, x1, -, -, -⟩ := k6.two
        rw [hW6]
        clear hW6 hg6 k6 HO5 HB5 K5 v2 y0 y1 y2 y3 y4
        go_wp2_with (at_builtin; refine wpList_append_any _ rfl (.tmp 47) (.tmp 49) _ rfl w.heap.size 65 i0 _ 2 16 Try.underlying25 HI0.out HZ0.out HZ1.out HZ2.out rfl (by omega) sv j _ rfl (HO6.out.alloc _) (W6.heap.size + 1) (some ⟨W6.heap.size, 0, none⟩) 1 1 [.int .i64 i, .int .i64 o] rfl (reads_cells (blk_al rfl) (Nat.lt_succ_self _) (by rfl) (by rfl)) (by intro u hu; simp at hu; rcases hu with rfl | rfl <;> rfl) (by unfold maxLen; omega) (by omega) (by simp; omega) ?_)
        intro v' w4 hown' hgrow _
        have HON : Hid (w4.ownsRow w.heap.size 65 2 v' (j + 1) (smpCells ((nrL l bs).take (j + 1)))) := Lib.hid (by rw [HSN.out, smpCells_snoc]; exact hown')
        have HBN := Lib.hid ((HB6.out.alloc HB6.out.size (.cells #[.int .i64 i, .int .i64 o] 65)).grown hgrow (by simp; omega) (fun g hg => by have := (HO6.out.lt g hg).1; omega))
        clear hown' hgrow
        go_wp2
        go_roundw
        case rel => exact ⟨j + 1, v', by omega, by go_num, rfl, HON, HBN⟩
        case measure => simp [intOf]; omega
      · rw [if_neg (by have := HNB.out; omega)] at o1 o2
        obtain ⟨o, ho⟩ : ∃ o, nrO l bs j = o := ⟨_, rfl⟩
        obtain ⟨i, hi⟩ : ∃ i, -nrI l bs j = i := ⟨_, rfl⟩
        rw [ho, hi] at HSN
        have q1 : p.2 = o := by rw [← ho, o1]
        have q2 : p.1 = i := by rw [← hi, o2]; omega
        rw [q1] at p2
        rw [q2] at p1
        have c1 : ¬ (2 * (j : Int) + 1 < (nb : Int)) := by omega
        clear o1 o2 ho hi q1 q2 e1 e2
        go_upto_region 9 with fail
        obtain ⟨W6, hW6⟩ : ∃ W6, wr.alloc (.cells #[.int .i64 i, .int .i64 o] 65) = W6 := ⟨_, rfl⟩
        have k6 : Blk W6 wr.heap.size 65 #[.int .i64 i, .int .i64 o] := by rw [← hW6]; exact Blk.new _ _ _
        have hb6 : Below wr.heap.size wr W6 := by rw [← hW6]; exact (Below.refl _ _).alloc (Nat.le_refl _) _
        have HO6 := Lib.hid (own_below HO.out hb6)
        have HB6 := Lib.hid (HB.out.trans (hb6.mono HB.out.size))
        have hs6 := HB6.out.size
        obtain ⟨x0, x1, -, -, -⟩ := k6.two
        rw [hW6]
        obtain ⟨b, hb⟩ : ∃ b, wr.heap.size = b := ⟨_, rfl⟩
        rw [hb] at x0 x1 ⊢
        clear hW6 hb6 k6 HO HB hb p1 p2
        go_wp2_with (at_builtin; refine wpList_append_any _ rfl (.tmp 47) (.tmp 49) _ rfl w.heap.size 65 i0 _ 2 16 Try.underlying25 HI0.out HZ0.out HZ1.out HZ2.out rfl (by omega) sv j _ rfl (HO6.out.alloc _) (W6.heap.size + 1) (some ⟨W6.heap.size, 0, none⟩) 1 1 [.int .i64 i, .int .i64 o] rfl (reads_cells (blk_al rfl) (Nat.lt_succ_self _) (by rfl) (by rfl)) (by intro u hu; simp at hu; rcases hu with rfl | rfl <;> rfl) (by unfold maxLen; omega) (by omega) (by simp; omega) ?_)
        intro v' w4 hown' hgrow _
        have HON : Hid (w4.ownsRow w.heap.size 65 2 v' (j + 1) (smpCells ((nrL l bs).take (j + 1)))) := Lib.hid (by rw [HSN.out, smpCells_snoc]; exact hown')
        have HBN := Lib.hid ((HB6.out.alloc HB6.out.size (.cells #[.int .i64 i, .int .i64 o] 65)).grown hgrow (by simp; omega) (fun g hg => by have := (HO6.out.lt g hg).1; omega))
        clear hown' hgrow
        go_wp2
        go_roundw
        case rel => exact ⟨j + 1, v', by omega, by go_num, rfl, HON, HBN⟩
        case measure => simp [intOf]; omega
    · obtain rfl : j = n := by omega
      obtain ⟨A', c', hv, hr, hc⟩ := own_readsC HO.out
      subst hv
      rw [List.take_of_length_le (by rw [nrL_len]; have := HN.out; omega)] at hr
      have HRD := Lib.hid hr
      clear hr
      go_wp2
      go_ret
      exact ⟨A', j, c', rfl, ⟨by rw [nrL_len]; exact HN.out, HRD.out⟩, hc, HB.out⟩
end Go.Proofs.Ytpcamnblpfccjaa
