/-
  The document's Broken: the first rule that a groove breaks at an index.
-/
import Derived.Test.YtaiigdbbpdkamaaR2
import Derived.Test.YtaiigdbbpdkamaaJM
namespace Go.Proofs.Ytaiigdbbpdkamaa
open Go.RowKit

theorem eAt_map (o : Bool) (l : List Smp) (i : Nat) : eAt (l.map (edg o)) i = edg o (gAt l i) := by
  unfold eAt gAt
  rw [List.getElem?_map]
  cases l[i]? with
  | none => cases o <;> rfl
  | some p => rfl
theorem mul_max_lt {k s a b : Int} (hk : 0 ≤ k) : s < k * max (max 0 a) b ↔ (s < k * max 0 a ∨ s < k * b) := by
  rcases Int.le_total (max 0 a) b with h | h
  · have := Int.mul_le_mul_of_nonneg_left h hk
    rw [Int.max_eq_right h]; omega
  · have := Int.mul_le_mul_of_nonneg_left h hk
    rw [Int.max_eq_left h]; omega
theorem mul_max_lt' {k s a b : Int} (hk : 0 ≤ k) : s < max (max 0 a) b * k ↔ (s < max 0 a * k ∨ s < b * k) := by
  rw [Int.mul_comm _ k, Int.mul_comm _ k, Int.mul_comm _ k]; exact mul_max_lt hk
theorem max_am (x : Int) : max 0 (am x) = am x := by unfold am; omega
theorem amL2 (x y : Int) : amL [x, y] = max (max 0 (am x)) (am y) := rfl
theorem brE3 (c : Ctr) (e : List Int) (r per : Int) (i : Nat) : brE c e r per i 3 = if i = 0 then false else decide (710 * r * c.slope < 113000 * per * am (eAt e i - eAt e (i - 1))) := by
  unfold brE; rw [if_pos rfl]
theorem brE4 (c : Ctr) (e : List Int) (r per : Int) (i : Nat) : brE c e r per i 4 = if i = 0 then false else if i = e.length - 1 then false else decide (c.jerk < am (eAt e (i - 1) + eAt e (i + 1) - 2 * eAt e i)) := by
  unfold brE; rw [if_neg (show ¬ (4 : Int) = 3 by decide), if_pos rfl]
theorem brE5 (c : Ctr) (e : List Int) (r per : Int) (i : Nat) : brE c e r per i 5 = if i = 0 then false else if i = e.length - 1 then false else decide (arcN r per < am (eAt e (i - 1) + eAt e (i + 1) - 2 * eAt e i) * c.stylus) := by
  unfold brE; rw [if_neg (show ¬ (5 : Int) = 3 by decide), if_neg (show ¬ (5 : Int) = 4 by decide)]
theorem steep_eq (c : Ctr) (l : List Smp) (r per : Int) (i : Nat) (hp : 0 ≤ per) (hs : 0 ≤ 710 * r * c.slope) : (brE c (l.map (edg false)) r per i 3 || brE c (l.map (edg true)) r per i 3) = steepB c l r per i := by
  rw [brE3, brE3]
  unfold steepB chgAt
  by_cases h : i = 0
  · rw [if_pos h, if_pos h, if_pos h]; simp; omega
  · rw [if_neg h, if_neg h, if_neg h]
    simp only [eAt_map]
    unfold chg
    rw [amL2, ← Bool.decide_or]
    have hk : 0 ≤ 113000 * per := by omega
    rw [Bool.eq_iff_iff, decide_eq_true_iff, decide_eq_true_iff, mul_max_lt hk, max_am]
    exact Iff.rfl
theorem sudden_eq (c : Ctr) (l : List Smp) (r per : Int) (i : Nat) (hj : 0 ≤ c.jerk) : (brE c (l.map (edg false)) r per i 4 || brE c (l.map (edg true)) r per i 4) = suddenB c l i := by
  rw [brE4, brE4]
  unfold suddenB bndAt
  simp only [List.length_map]
  by_cases h : i = 0
  · rw [if_pos h, if_pos h, if_pos (.inl h)]; simp; omega
  · by_cases h2 : i = l.length - 1
    · rw [if_neg h, if_pos h2, if_neg h, if_pos h2, if_pos (.inr h2)]; simp; omega
    · rw [if_neg h, if_neg h2, if_neg h, if_neg h2, if_neg (by omega)]
      simp only [eAt_map]
      unfold bnd
      rw [amL2, ← Bool.decide_or, Bool.eq_iff_iff, decide_eq_true_iff, decide_eq_true_iff, max_am]
      simp only [edg, Bool.false_eq_true, if_false, if_true]
      omega
theorem bent_eq (c : Ctr) (l : List Smp) (r per : Int) (i : Nat) (hy : 0 ≤ c.stylus) (ha : 0 ≤ arcN r per) : (brE c (l.map (edg false)) r per i 5 || brE c (l.map (edg true)) r per i 5) = bentB c l r per i := by
  rw [brE5, brE5]
  unfold bentB bndAt
  simp only [List.length_map]
  by_cases h : i = 0
  · rw [if_pos h, if_pos h, if_pos (.inl h)]; simp; omega
  · by_cases h2 : i = l.length - 1
    · rw [if_neg h, if_pos h2, if_neg h, if_pos h2, if_pos (.inr h2)]; simp; omega
    · rw [if_neg h, if_neg h2, if_neg h, if_neg h2, if_neg (by omega)]
      simp only [eAt_map]
      unfold bnd
      rw [amL2, ← Bool.decide_or, Bool.eq_iff_iff, decide_eq_true_iff, decide_eq_true_iff, mul_max_lt' hy, max_am]
      exact Iff.rfl
theorem edg_bd {l : List Smp} (he : ∀ p ∈ l, EdOk p) (o : Bool) : ∀ x ∈ l.map (edg o), -4194304 ≤ x ∧ x ≤ 4194304 := by
  intro x hx
  obtain ⟨p, hp, rfl⟩ := List.mem_map.1 hx
  obtain ⟨h1, h2, h3, h4⟩ := he p hp
  cases o
  · exact ⟨h1, h2⟩
  · exact ⟨h3, h4⟩

set_option maxRecDepth 100000 in
set_option maxHeartbeats 8000000 in
theorem refBroken_any (B : Nat) (A : Option Addr) (n k : Nat) (c : Ctr) (l : List Smp) (r per : Int) (i : Nat) (w : World) (h0 : RS w B A n l) (hB : B ≤ w.heap.size) (hl : n ≤ 4096) (hi : i < l.length) (he : ∀ p ∈ l, EdOk p) (hc : CtOk c) (hs : SpOk r per) :
    Calls Try.prog 68 #[.agg #[.int .i64 c.half, .int .i64 c.gain, .int .i64 c.thin, .int .i64 c.wide, .int .i64 c.slope, .int .i64 c.jerk, .int .i64 c.stylus], .slice A n k, .int .i64 r, .int .i64 per, .int .i64 i] w fun e w' => e = .returned (.int .i64 (brk c l r per i)) ∧ Below w.heap.size w w' := by
  have H := Lib.hid (h0.more hB)
  have ED := Lib.hid (fun o W (hb : Below w.heap.size w W) => edges_any w.heap.size A n k l o W (H.out.below hb (Nat.le_refl _)) hb.size hl)
  have hin : i < n := by have := h0.1; omega
  have BR := Lib.hid (fun (W : World) (A1 : Option Addr) (k1 : Nat) (o : Bool) (rule : Int) (hr : rule = 3 ∨ rule = 4 ∨ rule = 5) (hrd : Reads W W.heap.size 1 A1 n (ints (l.map (edg o)))) => breaks_any W.heap.size A1 n k1 c (l.map (edg o)) r per i rule W hrd (Nat.le_refl _) hl hin (edg_bd he o) hc hs hr)
  have hbr : brk c l r per i = if thinB c l i = true then 1 else if wideB c l i = true then 2 else if steepB c l r per i = true then 3 else if suddenB c l i = true then 4 else if bentB c l r per i = true then 5 else 0 := rfl
  have hsl : 0 ≤ 710 * r * c.slope := Int.mul_nonneg (by have := hs.r1; omega) hc.s1
  have q3 := steep_eq c l r per i (by have := hs.p1; omega) hsl
  have q4 := sudden_eq c l r per i hc.j1
  have q5 := bent_eq c l r per i hc.y1 (arcN_bd r per hs)
  rw [← q3, ← q4, ← q5] at hbr
  obtain ⟨f3, hf3⟩ : ∃ b, brE c (l.map (edg false)) r per i 3 = b := ⟨_, rfl⟩
  obtain ⟨f4, hf4⟩ : ∃ b, brE c (l.map (edg false)) r per i 4 = b := ⟨_, rfl⟩
  obtain ⟨f5, hf5⟩ : ∃ b, brE c (l.map (edg false)) r per i 5 = b := ⟨_, rfl⟩
  obtain ⟨t3, ht3⟩ : ∃ b, brE c (l.map (edg true)) r per i 3 = b := ⟨_, rfl⟩
  obtain ⟨t4, ht4⟩ : ∃ b, brE c (l.map (edg true)) r per i 4 = b := ⟨_, rfl⟩
  obtain ⟨t5, ht5⟩ : ∃ b, brE c (l.map (edg true)) r per i 5 = b := ⟨_, rfl⟩
  rw [hf3, hf4, hf5, ht3, ht4, ht5] at hbr
  have F3 := Lib.hid (fun W A1 k1 hrd => hf3 ▸ BR.out W A1 k1 false 3 (.inl rfl) hrd)
  have F4 := Lib.hid (fun W A1 k1 hrd => hf4 ▸ BR.out W A1 k1 false 4 (.inr (.inl rfl)) hrd)
  have F5 := Lib.hid (fun W A1 k1 hrd => hf5 ▸ BR.out W A1 k1 false 5 (.inr (.inr rfl)) hrd)
  have T3 := Lib.hid (fun W A1 k1 hrd => ht3 ▸ BR.out W A1 k1 true 3 (.inl rfl) hrd)
  have T4 := Lib.hid (fun W A1 k1 hrd => ht4 ▸ BR.out W A1 k1 true 4 (.inr (.inl rfl)) hrd)
  have T5 := Lib.hid (fun W A1 k1 hrd => ht5 ▸ BR.out W A1 k1 true 5 (.inr (.inr rfl)) hrd)
  obtain ⟨R, hR⟩ : ∃ R, brk c l r per i = R := ⟨_, rfl⟩
  rw [hR] at hbr ⊢
  obtain ⟨ad, hA, -⟩ := H.out.at2 hi
  obtain rfl := hA
  have CX := Lib.hid (fun W (hb : Below w.heap.size w W) => show W.cell? (ad.add (i * 2)) = some (.int .i64 (gAt l i).1) ∧ W.cell? ⟨(ad.add (i * 2)).block, (ad.add (i * 2)).off + 1, none⟩ = some (.int .i64 (gAt l i).2) from by
    obtain ⟨ad', e, -, h1, h2⟩ := (H.out.below hb (Nat.le_refl _)).at2 hi
    obtain rfl := Option.some.inj e
    exact ⟨h1, h2⟩)
  obtain ⟨p1, p2, p3, p4⟩ := gAt_ok he i
  unfold thinB wideB wid at hbr
  obtain ⟨p, hp⟩ : ∃ p, gAt l i = p := ⟨_, rfl⟩
  rw [hp] at CX hbr p1 p2 p3 p4
  have HI := Lib.hid hi
  have e1 : IntKind.i64.wrap (p.2 - p.1) = p.2 - p.1 := IntWalk.i64_in _ (by omega)
  clear h0 hB he hc hs hsl q3 q4 q5 hf3 hf4 hf5 ht3 ht4 ht5 hR hp BR hi
  obtain ⟨wd, hwd⟩ : ∃ x, p.2 - p.1 = x := ⟨_, rfl⟩
  rw [hwd] at hbr e1
  have HBR := Lib.hid hbr
  clear hbr
  go_enter Try.func68, Try.ntmps68
  go_wp2_with fail
  obtain ⟨W, hW⟩ : ∃ W, w.alloc (.cells #[.int .i64 c.half, .int .i64 c.gain, .int .i64 c.thin, .int .i64 c.wide, .int .i64 c.slope, .int .i64 c.jerk, .int .i64 c.stylus] 23) = W := ⟨_, rfl⟩
  have HB : Hid (Below w.heap.size w W) := Lib.hid (by rw [← hW]; exact (Below.refl _ _).alloc (Nat.le_refl _) _)
  have HK : Hid (Blk W w.heap.size 23 #[.int .i64 c.half, .int .i64 c.gain, .int .i64 c.thin, .int .i64 c.wide, .int .i64 c.slope, .int .i64 c.jerk, .int .i64 c.stylus]) := Lib.hid (by rw [← hW]; exact Blk.new _ _ _)
  rw [hW]
  clear hW
  have y1 := Lat.cell (CX.out _ HB.out).1
  have y2 := Lat.cell (CX.out _ HB.out).2
  try dsimp only [List.append]
  refine wp_region_lat (by kernel_rfl) (by kernel_rfl) ?_
  repeat (go_big_quiet_step (fail))
  refine wpQuiet_nil ?_
  intro W2 hw'
  have hb1 := lat_out hw'
  replace HK := Lib.hid (HK.out.below hb1 HK.out.lt)
  replace HB := Lib.hid (HB.out.trans (hb1.mono HB.out.size))
  clear hb1 hw' y1 y2 e1 hwd
  have hk_0 : W2.cell? ⟨w.heap.size, 0, none⟩ = some (.int .i64 c.half) := (HK.out.cell 0).trans rfl
  have hk_1 : W2.cell? ⟨w.heap.size, 1, none⟩ = some (.int .i64 c.gain) := (HK.out.cell 1).trans rfl
  have hk_2 : W2.cell? ⟨w.heap.size, 2, none⟩ = some (.int .i64 c.thin) := (HK.out.cell 2).trans rfl
  have hk_3 : W2.cell? ⟨w.heap.size, 3, none⟩ = some (.int .i64 c.wide) := (HK.out.cell 3).trans rfl
  have hk_4 : W2.cell? ⟨w.heap.size, 4, none⟩ = some (.int .i64 c.slope) := (HK.out.cell 4).trans rfl
  have hk_5 : W2.cell? ⟨w.heap.size, 5, none⟩ = some (.int .i64 c.jerk) := (HK.out.cell 5).trans rfl
  have hk_6 : W2.cell? ⟨w.heap.size, 6, none⟩ = some (.int .i64 c.stylus) := (HK.out.cell 6).trans rfl
  by_cases c1 : wd < c.thin
  · go_wp2_with fail
    go_ret
    exact ⟨ret_i (by rw [HBR.out, if_pos (decide_eq_true c1)]), HB.out⟩
  by_cases c2 : c.wide < wd
  · go_wp2_with fail
    go_ret
    exact ⟨ret_i (by rw [HBR.out, if_neg (by simpa using c1), if_pos (decide_eq_true c2)]), HB.out⟩
  replace HBR : Hid (R = if (f3 || t3) = true then 3 else if (f4 || t4) = true then 4 else if (f5 || t5) = true then 5 else 0) := Lib.hid (by rw [HBR.out, if_neg (by simpa using c1), if_neg (by simpa using c2)])
  go_wp2_with fail
  clear c1 c2 hk_0 hk_1 hk_2 hk_3 hk_4 hk_5 hk_6
  go_loopw [12] (fun z wr => ∃ j : Nat, z = .int .i64 j ∧ Hid (Below w.heap.size w wr) ∧ Hid (Blk wr w.heap.size 23 #[.int .i64 c.half, .int .i64 c.gain, .int .i64 c.thin, .int .i64 c.wide, .int .i64 c.slope, .int .i64 c.jerk, .int .i64 c.stylus]) ∧ Hid (j = 3 ∨ (j = 4 ∧ (f3 || t3) = false) ∨ (j = 5 ∧ (f3 || t3) = false ∧ (f4 || t4) = false) ∨ (j = 6 ∧ (f3 || t3) = false ∧ (f4 || t4) = false ∧ (f5 || t5) = false))) (fun i wr => 6 - (intOf i).toNat)
  case atStart => exact ⟨3, rfl, HB, HK, Lib.hid (.inl rfl)⟩
  case round =>
    clear HB HK
    obtain ⟨j, rfl, HB, HK, HJ⟩ := hrel
    rcases HJ.out with rfl | ⟨rfl, c3⟩ | ⟨rfl, c3, c4⟩ | ⟨rfl, c3, c4, c5⟩
    · clear HJ
      have hk_0 : wr.cell? ⟨w.heap.size, 0, none⟩ = some (.int .i64 c.half) := (HK.out.cell 0).trans rfl
      have hk_1 : wr.cell? ⟨w.heap.size, 1, none⟩ = some (.int .i64 c.gain) := (HK.out.cell 1).trans rfl
      have hk_2 : wr.cell? ⟨w.heap.size, 2, none⟩ = some (.int .i64 c.thin) := (HK.out.cell 2).trans rfl
      have hk_3 : wr.cell? ⟨w.heap.size, 3, none⟩ = some (.int .i64 c.wide) := (HK.out.cell 3).trans rfl
      have hk_4 : wr.cell? ⟨w.heap.size, 4, none⟩ = some (.int .i64 c.slope) := (HK.out.cell 4).trans rfl
      have hk_5 : wr.cell? ⟨w.heap.size, 5, none⟩ = some (.int .i64 c.jerk) := (HK.out.cell 5).trans rfl
      have hk_6 : wr.cell? ⟨w.heap.size, 6, none⟩ = some (.int .i64 c.stylus) := (HK.out.cell 6).trans rfl
      cases f3
      · cases t3
        · as_aux_lemma =>
            go_wp2_with fail
            go_region_held3 (fun w' => w'.cell? ⟨w.heap.size, 0, none⟩ = some (.int .i64 c.half) ∧ w'.cell? ⟨w.heap.size, 1, none⟩ = some (.int .i64 c.gain) ∧ w'.cell? ⟨w.heap.size, 2, none⟩ = some (.int .i64 c.thin) ∧ w'.cell? ⟨w.heap.size, 3, none⟩ = some (.int .i64 c.wide) ∧ w'.cell? ⟨w.heap.size, 4, none⟩ = some (.int .i64 c.slope) ∧ w'.cell? ⟨w.heap.size, 5, none⟩ = some (.int .i64 c.jerk) ∧ w'.cell? ⟨w.heap.size, 6, none⟩ = some (.int .i64 c.stylus))
              ((refine ⟨?_, ?_, ?_, ?_, ?_, ?_, ?_⟩ <;> (repeat (with_reducible (first | refine cell_al _ ?_ | refine cell_dr ?_))) <;> (with_reducible assumption)))
              (first | (go_at_call 76; refine Calls.mono (ED.out _ _ (by first | exact HB.out | exact HB.out.drew)) ?_; rintro e wa ⟨Aa, ka, rfl, hra, hb1⟩; have HK := Lib.hid (by first | exact HK.out.below hb1 HK.out.lt | exact HK.out.drew.below hb1 HK.out.lt); have HB := Lib.hid (by first | exact HB.out.trans (hb1.mono HB.out.size) | exact HB.out.drew.trans (hb1.mono HB.out.size)); have HRD := Lib.hid hra; clear hb1 hra; have hk_0 : wa.cell? ⟨w.heap.size, 0, none⟩ = some (.int .i64 c.half) := (HK.out.cell 0).trans rfl; have hk_1 : wa.cell? ⟨w.heap.size, 1, none⟩ = some (.int .i64 c.gain) := (HK.out.cell 1).trans rfl; have hk_2 : wa.cell? ⟨w.heap.size, 2, none⟩ = some (.int .i64 c.thin) := (HK.out.cell 2).trans rfl; have hk_3 : wa.cell? ⟨w.heap.size, 3, none⟩ = some (.int .i64 c.wide) := (HK.out.cell 3).trans rfl; have hk_4 : wa.cell? ⟨w.heap.size, 4, none⟩ = some (.int .i64 c.slope) := (HK.out.cell 4).trans rfl; have hk_5 : wa.cell? ⟨w.heap.size, 5, none⟩ = some (.int .i64 c.jerk) := (HK.out.cell 5).trans rfl; have hk_6 : wa.cell? ⟨w.heap.size, 6, none⟩ = some (.int .i64 c.stylus) := (HK.out.cell 6).trans rfl) | (go_at_call 75; refine Calls.mono (F3.out _ _ _ HRD.out) ?_; rintro e wb ⟨rfl, hb1⟩; have HK := Lib.hid (HK.out.below hb1 HK.out.lt); have HB := Lib.hid (HB.out.trans (hb1.mono HB.out.size)); clear hb1; have hk_0 : wb.cell? ⟨w.heap.size, 0, none⟩ = some (.int .i64 c.half) := (HK.out.cell 0).trans rfl; have hk_1 : wb.cell? ⟨w.heap.size, 1, none⟩ = some (.int .i64 c.gain) := (HK.out.cell 1).trans rfl; have hk_2 : wb.cell? ⟨w.heap.size, 2, none⟩ = some (.int .i64 c.thin) := (HK.out.cell 2).trans rfl; have hk_3 : wb.cell? ⟨w.heap.size, 3, none⟩ = some (.int .i64 c.wide) := (HK.out.cell 3).trans rfl; have hk_4 : wb.cell? ⟨w.heap.size, 4, none⟩ = some (.int .i64 c.slope) := (HK.out.cell 4).trans rfl; have hk_5 : wb.cell? ⟨w.heap.size, 5, none⟩ = some (.int .i64 c.jerk) := (HK.out.cell 5).trans rfl; have hk_6 : wb.cell? ⟨w.heap.size, 6, none⟩ = some (.int .i64 c.stylus) := (HK.out.cell 6).trans rfl) | (go_at_call 75; refine Calls.mono (T3.out _ _ _ HRD.out) ?_; rintro e wb ⟨rfl, hb1⟩; have HK := Lib.hid (HK.out.below hb1 HK.out.lt); have HB := Lib.hid (HB.out.trans (hb1.mono HB.out.size)); clear hb1; have hk_0 : wb.cell? ⟨w.heap.size, 0, none⟩ = some (.int .i64 c.half) := (HK.out.cell 0).trans rfl; have hk_1 : wb.cell? ⟨w.heap.size, 1, none⟩ = some (.int .i64 c.gain) := (HK.out.cell 1).trans rfl; have hk_2 : wb.cell? ⟨w.heap.size, 2, none⟩ = some (.int .i64 c.thin) := (HK.out.cell 2).trans rfl; have hk_3 : wb.cell? ⟨w.heap.size, 3, none⟩ = some (.int .i64 c.wide) := (HK.out.cell 3).trans rfl; have hk_4 : wb.cell? ⟨w.heap.size, 4, none⟩ = some (.int .i64 c.slope) := (HK.out.cell 4).trans rfl; have hk_5 : wb.cell? ⟨w.heap.size, 5, none⟩ = some (.int .i64 c.jerk) := (HK.out.cell 5).trans rfl; have hk_6 : wb.cell? ⟨w.heap.size, 6, none⟩ = some (.int .i64 c.stylus) := (HK.out.cell 6).trans rfl))
            go_wp2_with fail
            go_roundw
            case rel => exact ⟨4, rfl, HB, HK, Lib.hid (by simp)⟩
            case measure => simp [intOf]
        · as_aux_lemma =>
            go_wp2_with fail
            go_region_held3 (fun w' => w'.cell? ⟨w.heap.size, 0, none⟩ = some (.int .i64 c.half) ∧ w'.cell? ⟨w.heap.size, 1, none⟩ = some (.int .i64 c.gain) ∧ w'.cell? ⟨w.heap.size, 2, none⟩ = some (.int .i64 c.thin) ∧ w'.cell? ⟨w.heap.size, 3, none⟩ = some (.int .i64 c.wide) ∧ w'.cell? ⟨w.heap.size, 4, none⟩ = some (.int .i64 c.slope) ∧ w'.cell? ⟨w.heap.size, 5, none⟩ = some (.int .i64 c.jerk) ∧ w'.cell? ⟨w.heap.size, 6, none⟩ = some (.int .i64 c.stylus))
              ((refine ⟨?_, ?_, ?_, ?_, ?_, ?_, ?_⟩ <;> (repeat (with_reducible (first | refine cell_al _ ?_ | refine cell_dr ?_))) <;> (with_reducible assumption)))
              (first | (go_at_call 76; refine Calls.mono (ED.out _ _ (by first | exact HB.out | exact HB.out.drew)) ?_; rintro e wa ⟨Aa, ka, rfl, hra, hb1⟩; have HK := Lib.hid (by first | exact HK.out.below hb1 HK.out.lt | exact HK.out.drew.below hb1 HK.out.lt); have HB := Lib.hid (by first | exact HB.out.trans (hb1.mono HB.out.size) | exact HB.out.drew.trans (hb1.mono HB.out.size)); have HRD := Lib.hid hra; clear hb1 hra; have hk_0 : wa.cell? ⟨w.heap.size, 0, none⟩ = some (.int .i64 c.half) := (HK.out.cell 0).trans rfl; have hk_1 : wa.cell? ⟨w.heap.size, 1, none⟩ = some (.int .i64 c.gain) := (HK.out.cell 1).trans rfl; have hk_2 : wa.cell? ⟨w.heap.size, 2, none⟩ = some (.int .i64 c.thin) := (HK.out.cell 2).trans rfl; have hk_3 : wa.cell? ⟨w.heap.size, 3, none⟩ = some (.int .i64 c.wide) := (HK.out.cell 3).trans rfl; have hk_4 : wa.cell? ⟨w.heap.size, 4, none⟩ = some (.int .i64 c.slope) := (HK.out.cell 4).trans rfl; have hk_5 : wa.cell? ⟨w.heap.size, 5, none⟩ = some (.int .i64 c.jerk) := (HK.out.cell 5).trans rfl; have hk_6 : wa.cell? ⟨w.heap.size, 6, none⟩ = some (.int .i64 c.stylus) := (HK.out.cell 6).trans rfl) | (go_at_call 75; refine Calls.mono (F3.out _ _ _ HRD.out) ?_; rintro e wb ⟨rfl, hb1⟩; have HK := Lib.hid (HK.out.below hb1 HK.out.lt); have HB := Lib.hid (HB.out.trans (hb1.mono HB.out.size)); clear hb1; have hk_0 : wb.cell? ⟨w.heap.size, 0, none⟩ = some (.int .i64 c.half) := (HK.out.cell 0).trans rfl; have hk_1 : wb.cell? ⟨w.heap.size, 1, none⟩ = some (.int .i64 c.gain) := (HK.out.cell 1).trans rfl; have hk_2 : wb.cell? ⟨w.heap.size, 2, none⟩ = some (.int .i64 c.thin) := (HK.out.cell 2).trans rfl; have hk_3 : wb.cell? ⟨w.heap.size, 3, none⟩ = some (.int .i64 c.wide) := (HK.out.cell 3).trans rfl; have hk_4 : wb.cell? ⟨w.heap.size, 4, none⟩ = some (.int .i64 c.slope) := (HK.out.cell 4).trans rfl; have hk_5 : wb.cell? ⟨w.heap.size, 5, none⟩ = some (.int .i64 c.jerk) := (HK.out.cell 5).trans rfl; have hk_6 : wb.cell? ⟨w.heap.size, 6, none⟩ = some (.int .i64 c.stylus) := (HK.out.cell 6).trans rfl) | (go_at_call 75; refine Calls.mono (T3.out _ _ _ HRD.out) ?_; rintro e wb ⟨rfl, hb1⟩; have HK := Lib.hid (HK.out.below hb1 HK.out.lt); have HB := Lib.hid (HB.out.trans (hb1.mono HB.out.size)); clear hb1; have hk_0 : wb.cell? ⟨w.heap.size, 0, none⟩ = some (.int .i64 c.half) := (HK.out.cell 0).trans rfl; have hk_1 : wb.cell? ⟨w.heap.size, 1, none⟩ = some (.int .i64 c.gain) := (HK.out.cell 1).trans rfl; have hk_2 : wb.cell? ⟨w.heap.size, 2, none⟩ = some (.int .i64 c.thin) := (HK.out.cell 2).trans rfl; have hk_3 : wb.cell? ⟨w.heap.size, 3, none⟩ = some (.int .i64 c.wide) := (HK.out.cell 3).trans rfl; have hk_4 : wb.cell? ⟨w.heap.size, 4, none⟩ = some (.int .i64 c.slope) := (HK.out.cell 4).trans rfl; have hk_5 : wb.cell? ⟨w.heap.size, 5, none⟩ = some (.int .i64 c.jerk) := (HK.out.cell 5).trans rfl; have hk_6 : wb.cell? ⟨w.heap.size, 6, none⟩ = some (.int .i64 c.stylus) := (HK.out.cell 6).trans rfl))
            go_wp2_with fail
            go_ret
            exact ⟨ret_i (by rw [HBR.out]; simp), HB.out⟩
      · as_aux_lemma =>
          go_wp2_with fail
          refine wp_region_held_drew (S := (fun w' => w'.cell? ⟨w.heap.size, 0, none⟩ = some (.int .i64 c.half) ∧ w'.cell? ⟨w.heap.size, 1, none⟩ = some (.int .i64 c.gain) ∧ w'.cell? ⟨w.heap.size, 2, none⟩ = some (.int .i64 c.thin) ∧ w'.cell? ⟨w.heap.size, 3, none⟩ = some (.int .i64 c.wide) ∧ w'.cell? ⟨w.heap.size, 4, none⟩ = some (.int .i64 c.slope) ∧ w'.cell? ⟨w.heap.size, 5, none⟩ = some (.int .i64 c.jerk) ∧ w'.cell? ⟨w.heap.size, 6, none⟩ = some (.int .i64 c.stylus))) (by kernel_rfl) ?_ (fun hHeld => ?_)
          · ((refine ⟨?_, ?_, ?_, ?_, ?_, ?_, ?_⟩ <;> (repeat (with_reducible (first | refine cell_al _ ?_ | refine cell_dr ?_))) <;> (with_reducible assumption)))
          refine wpAnyH_take (i := 0) (oi := { dst := some 36, op := Op.load 23 (Operand.tmp 5), type := 23, pos := "ref.go:161", after := #[], guard := none }) (v := ?v0_3) rfl (by kernel_rfl) (by kernel_rfl) (by kernel_rfl) (fun _ _ _ h => h) (Or.inl ⟨by rfl, ?hy0_3⟩) hHeld ?_
          case hy0_3 => intro w hSw; (try dsimp only at hSw); go_simp; try with_reducible rfl
          simp only [Act.put, List.setIfInBounds_toArray, List.set_cons_zero, List.set_cons_succ]
          refine wpAnyH_take (i := 1) (oi := { dst := some 37, op := Op.move (Operand.tmp 1), type := 29, pos := "ref.go:161", after := #[], guard := none }) (v := ?v1_3) rfl (by kernel_rfl) (by kernel_rfl) (by kernel_rfl) (fun _ _ _ h => h) (Or.inl ⟨by rfl, ?hy1_3⟩) hHeld ?_
          case hy1_3 => intro w hSw; (try dsimp only at hSw); go_simp; try with_reducible rfl
          simp only [Act.put, List.setIfInBounds_toArray, List.set_cons_zero, List.set_cons_succ]
          refine wpAnyH_take (i := 3) (oi := { dst := some 39, op := Op.move (Operand.tmp 2), type := 2, pos := "ref.go:161", after := #[], guard := none }) (v := ?v3_3) rfl (by kernel_rfl) (by kernel_rfl) (by kernel_rfl) (fun _ _ _ h => h) (Or.inl ⟨by rfl, ?hy3_3⟩) hHeld ?_
          case hy3_3 => intro w hSw; (try dsimp only at hSw); go_simp; try with_reducible rfl
          simp only [Act.put, List.setIfInBounds_toArray, List.set_cons_zero, List.set_cons_succ]
          refine wpAnyH_take (i := 4) (oi := { dst := some 40, op := Op.move (Operand.tmp 3), type := 2, pos := "ref.go:161", after := #[], guard := none }) (v := ?v4_3) rfl (by kernel_rfl) (by kernel_rfl) (by kernel_rfl) (fun _ _ _ h => h) (Or.inl ⟨by rfl, ?hy4_3⟩) hHeld ?_
          case hy4_3 => intro w hSw; (try dsimp only at hSw); go_simp; try with_reducible rfl
          simp only [Act.put, List.setIfInBounds_toArray, List.set_cons_zero, List.set_cons_succ]
          refine wpAnyH_take (i := 5) (oi := { dst := some 41, op := Op.move (Operand.tmp 4), type := 3, pos := "ref.go:161", after := #[], guard := none }) (v := ?v5_3) rfl (by kernel_rfl) (by kernel_rfl) (by kernel_rfl) (fun _ _ _ h => h) (Or.inl ⟨by rfl, ?hy5_3⟩) hHeld ?_
          case hy5_3 => intro w hSw; (try dsimp only at hSw); go_simp; try with_reducible rfl
          simp only [Act.put, List.setIfInBounds_toArray, List.set_cons_zero, List.set_cons_succ]
          refine wpAnyH_take (i := 6) (oi := { dst := some 42, op := Op.move (Operand.tmp 12), type := 3, pos := "ref.go:161", after := #[], guard := none }) (v := ?v6_3) rfl (by kernel_rfl) (by kernel_rfl) (by kernel_rfl) (fun _ _ _ h => h) (Or.inl ⟨by rfl, ?hy6_3⟩) hHeld ?_
          case hy6_3 => intro w hSw; (try dsimp only at hSw); go_simp; try with_reducible rfl
          simp only [Act.put, List.setIfInBounds_toArray, List.set_cons_zero, List.set_cons_succ]
          refine wpAnyH_ready (rs := [2]) (by kernel_rfl) (by simp) ?_
          refine AllReadyH.cons rfl (fun K hK => ?_) AllReadyH.nil
          go_simp
          go_wp2_with (go_at_call 76; refine Calls.mono (ED.out _ _ (by first | exact HB.out | exact HB.out.drew)) ?_; rintro e wa ⟨Aa, ka, rfl, hra, hb1⟩; have HK := Lib.hid (by first | exact HK.out.below hb1 HK.out.lt | exact HK.out.drew.below hb1 HK.out.lt); have HB := Lib.hid (by first | exact HB.out.trans (hb1.mono HB.out.size) | exact HB.out.drew.trans (hb1.mono HB.out.size)); have HRD := Lib.hid hra; clear hb1 hra; have hk_0 : wa.cell? ⟨w.heap.size, 0, none⟩ = some (.int .i64 c.half) := (HK.out.cell 0).trans rfl; have hk_1 : wa.cell? ⟨w.heap.size, 1, none⟩ = some (.int .i64 c.gain) := (HK.out.cell 1).trans rfl; have hk_2 : wa.cell? ⟨w.heap.size, 2, none⟩ = some (.int .i64 c.thin) := (HK.out.cell 2).trans rfl; have hk_3 : wa.cell? ⟨w.heap.size, 3, none⟩ = some (.int .i64 c.wide) := (HK.out.cell 3).trans rfl; have hk_4 : wa.cell? ⟨w.heap.size, 4, none⟩ = some (.int .i64 c.slope) := (HK.out.cell 4).trans rfl; have hk_5 : wa.cell? ⟨w.heap.size, 5, none⟩ = some (.int .i64 c.jerk) := (HK.out.cell 5).trans rfl; have hk_6 : wa.cell? ⟨w.heap.size, 6, none⟩ = some (.int .i64 c.stylus) := (HK.out.cell 6).trans rfl)
          refine hK.out _ _ ?_ (fun hHeld2 => ?_)
          · ((refine ⟨?_, ?_, ?_, ?_, ?_, ?_, ?_⟩ <;> (repeat (with_reducible (first | refine cell_al _ ?_ | refine cell_dr ?_))) <;> (with_reducible assumption)))
          clear hK
          refine wpAnyH_ready (rs := [7]) (by kernel_rfl) (by simp) ?_
          refine AllReadyH.cons rfl (fun K hK => ?_) AllReadyH.nil
          go_simp
          go_wp2_with (go_at_call 75; refine Calls.mono (F3.out _ _ _ HRD.out) ?_; rintro e wb ⟨rfl, hb1⟩; have HK := Lib.hid (HK.out.below hb1 HK.out.lt); have HB := Lib.hid (HB.out.trans (hb1.mono HB.out.size)); clear hb1; have hk_0 : wb.cell? ⟨w.heap.size, 0, none⟩ = some (.int .i64 c.half) := (HK.out.cell 0).trans rfl; have hk_1 : wb.cell? ⟨w.heap.size, 1, none⟩ = some (.int .i64 c.gain) := (HK.out.cell 1).trans rfl; have hk_2 : wb.cell? ⟨w.heap.size, 2, none⟩ = some (.int .i64 c.thin) := (HK.out.cell 2).trans rfl; have hk_3 : wb.cell? ⟨w.heap.size, 3, none⟩ = some (.int .i64 c.wide) := (HK.out.cell 3).trans rfl; have hk_4 : wb.cell? ⟨w.heap.size, 4, none⟩ = some (.int .i64 c.slope) := (HK.out.cell 4).trans rfl; have hk_5 : wb.cell? ⟨w.heap.size, 5, none⟩ = some (.int .i64 c.jerk) := (HK.out.cell 5).trans rfl; have hk_6 : wb.cell? ⟨w.heap.size, 6, none⟩ = some (.int .i64 c.stylus) := (HK.out.cell 6).trans rfl)
          refine hK.out _ _ ?_ (fun hHeld3 => ?_)
          · ((refine ⟨?_, ?_, ?_, ?_, ?_, ?_, ?_⟩ <;> (repeat (with_reducible (first | refine cell_al _ ?_ | refine cell_dr ?_))) <;> (with_reducible assumption)))
          clear hK
          refine wpAnyH_take (i := 8) (oi := { dst := some 44, op := Op.move (Operand.tmp 43), type := 4, pos := "ref.go:161", after := #[{ on := 7, ground := Ground.data }, { on := 7, ground := Ground.chain }], guard := none }) (v := ?v8_3) rfl (by kernel_rfl) (by kernel_rfl) (by kernel_rfl) (fun _ _ _ h => h) (Or.inl ⟨by rfl, ?hy8_3⟩) hHeld3 ?_
          case hy8_3 => intro w hSw; (try dsimp only at hSw); go_simp; try with_reducible rfl
          simp only [Act.put, List.setIfInBounds_toArray, List.set_cons_zero, List.set_cons_succ]
          refine wpAnyH_take (i := 9) (oi := { dst := some 45, op := Op.load 23 (Operand.tmp 5), type := 23, pos := "ref.go:161", after := #[{ on := 8, ground := Ground.guard }], guard := some (8, false) }) (v := undef) rfl (by kernel_rfl) (by kernel_rfl) (by kernel_rfl) (fun _ _ _ h => h) (Or.inr ⟨by rfl, rfl⟩) hHeld3 ?_
          simp only [Act.put, List.setIfInBounds_toArray, List.set_cons_zero, List.set_cons_succ]
          refine wpAnyH_take (i := 10) (oi := { dst := some 46, op := Op.move (Operand.tmp 1), type := 29, pos := "ref.go:161", after := #[{ on := 8, ground := Ground.guard }], guard := some (8, false) }) (v := undef) rfl (by kernel_rfl) (by kernel_rfl) (by kernel_rfl) (fun _ _ _ h => h) (Or.inr ⟨by rfl, rfl⟩) hHeld3 ?_
          simp only [Act.put, List.setIfInBounds_toArray, List.set_cons_zero, List.set_cons_succ]
          refine wpAnyH_take (i := 11) (oi := { dst := some 47, op := Op.call { callee := Callee.value (Operand.func 76), args := #[Operand.tmp 46, Operand.const (Value.bool true)], argTypes := #[29, 4] }, type := 108, pos := "ref.go:161", after := #[{ on := 10, ground := Ground.data }, { on := 8, ground := Ground.chain }, { on := 8, ground := Ground.guard }], guard := some (8, false) }) (v := undef) rfl (by kernel_rfl) (by kernel_rfl) (by kernel_rfl) (fun _ _ _ h => h) (Or.inr ⟨by rfl, rfl⟩) hHeld3 ?_
          simp only [Act.put, List.setIfInBounds_toArray, List.set_cons_zero, List.set_cons_succ]
          refine wpAnyH_take (i := 12) (oi := { dst := some 48, op := Op.move (Operand.tmp 2), type := 2, pos := "ref.go:161", after := #[{ on := 8, ground := Ground.guard }], guard := some (8, false) }) (v := undef) rfl (by kernel_rfl) (by kernel_rfl) (by kernel_rfl) (fun _ _ _ h => h) (Or.inr ⟨by rfl, rfl⟩) hHeld3 ?_
          simp only [Act.put, List.setIfInBounds_toArray, List.set_cons_zero, List.set_cons_succ]
          refine wpAnyH_take (i := 13) (oi := { dst := some 49, op := Op.move (Operand.tmp 3), type := 2, pos := "ref.go:161", after := #[{ on := 8, ground := Ground.guard }], guard := some (8, false) }) (v := undef) rfl (by kernel_rfl) (by kernel_rfl) (by kernel_rfl) (fun _ _ _ h => h) (Or.inr ⟨by rfl, rfl⟩) hHeld3 ?_
          simp only [Act.put, List.setIfInBounds_toArray, List.set_cons_zero, List.set_cons_succ]
          refine wpAnyH_take (i := 14) (oi := { dst := some 50, op := Op.move (Operand.tmp 4), type := 3, pos := "ref.go:161", after := #[{ on := 8, ground := Ground.guard }], guard := some (8, false) }) (v := undef) rfl (by kernel_rfl) (by kernel_rfl) (by kernel_rfl) (fun _ _ _ h => h) (Or.inr ⟨by rfl, rfl⟩) hHeld3 ?_
          simp only [Act.put, List.setIfInBounds_toArray, List.set_cons_zero, List.set_cons_succ]
          refine wpAnyH_take (i := 15) (oi := { dst := some 51, op := Op.move (Operand.tmp 12), type := 3, pos := "ref.go:161", after := #[{ on := 8, ground := Ground.guard }], guard := some (8, false) }) (v := undef) rfl (by kernel_rfl) (by kernel_rfl) (by kernel_rfl) (fun _ _ _ h => h) (Or.inr ⟨by rfl, rfl⟩) hHeld3 ?_
          simp only [Act.put, List.setIfInBounds_toArray, List.set_cons_zero, List.set_cons_succ]
          refine wpAnyH_take (i := 16) (oi := { dst := some 52, op := Op.call { callee := Callee.value (Operand.func 75), args := #[Operand.tmp 45, Operand.tmp 47, Operand.tmp 48, Operand.tmp 49, Operand.tmp 50, Operand.tmp 51], argTypes := #[23, 108, 2, 2, 3, 3] }, type := 4, pos := "ref.go:161", after := #[{ on := 9, ground := Ground.data }, { on := 11, ground := Ground.data }, { on := 12, ground := Ground.data }, { on := 13, ground := Ground.data }, { on := 14, ground := Ground.data }, { on := 15, ground := Ground.data }, { on := 11, ground := Ground.chain }, { on := 8, ground := Ground.guard }], guard := some (8, false) }) (v := undef) rfl (by kernel_rfl) (by kernel_rfl) (by kernel_rfl) (fun _ _ _ h => h) (Or.inr ⟨by rfl, rfl⟩) hHeld3 ?_
          simp only [Act.put, List.setIfInBounds_toArray, List.set_cons_zero, List.set_cons_succ]
          refine wpAnyH_take (i := 17) (oi := { dst := some 53, op := Op.pick (Operand.tmp 44) (Operand.const (Value.bool true)) (Operand.tmp 52), type := 4, pos := "ref.go:161", after := #[{ on := 8, ground := Ground.data }, { on := 16, ground := Ground.data }], guard := none }) (v := ?v17_3) rfl (by kernel_rfl) (by kernel_rfl) (by kernel_rfl) (fun _ _ _ h => h) (Or.inl ⟨by rfl, ?hy17_3⟩) hHeld3 ?_
          case hy17_3 => intro w hSw; (try dsimp only at hSw); go_simp; try with_reducible rfl
          simp only [Act.put, List.setIfInBounds_toArray, List.set_cons_zero, List.set_cons_succ]
          refine wpAnyH_done (by kernel_rfl) ?_ _
          go_wp2_with fail
          go_ret
          exact ⟨ret_i (by rw [HBR.out]; simp), HB.out⟩
    · clear HJ
      have C3 := Lib.hid c3
      clear c3
      have hk_0 : wr.cell? ⟨w.heap.size, 0, none⟩ = some (.int .i64 c.half) := (HK.out.cell 0).trans rfl
      have hk_1 : wr.cell? ⟨w.heap.size, 1, none⟩ = some (.int .i64 c.gain) := (HK.out.cell 1).trans rfl
      have hk_2 : wr.cell? ⟨w.heap.size, 2, none⟩ = some (.int .i64 c.thin) := (HK.out.cell 2).trans rfl
      have hk_3 : wr.cell? ⟨w.heap.size, 3, none⟩ = some (.int .i64 c.wide) := (HK.out.cell 3).trans rfl
      have hk_4 : wr.cell? ⟨w.heap.size, 4, none⟩ = some (.int .i64 c.slope) := (HK.out.cell 4).trans rfl
      have hk_5 : wr.cell? ⟨w.heap.size, 5, none⟩ = some (.int .i64 c.jerk) := (HK.out.cell 5).trans rfl
      have hk_6 : wr.cell? ⟨w.heap.size, 6, none⟩ = some (.int .i64 c.stylus) := (HK.out.cell 6).trans rfl
      cases f4
      · cases t4
        · as_aux_lemma =>
            go_wp2_with fail
            go_region_held3 (fun w' => w'.cell? ⟨w.heap.size, 0, none⟩ = some (.int .i64 c.half) ∧ w'.cell? ⟨w.heap.size, 1, none⟩ = some (.int .i64 c.gain) ∧ w'.cell? ⟨w.heap.size, 2, none⟩ = some (.int .i64 c.thin) ∧ w'.cell? ⟨w.heap.size, 3, none⟩ = some (.int .i64 c.wide) ∧ w'.cell? ⟨w.heap.size, 4, none⟩ = some (.int .i64 c.slope) ∧ w'.cell? ⟨w.heap.size, 5, none⟩ = some (.int .i64 c.jerk) ∧ w'.cell? ⟨w.heap.size, 6, none⟩ = some (.int .i64 c.stylus))
              ((refine ⟨?_, ?_, ?_, ?_, ?_, ?_, ?_⟩ <;> (repeat (with_reducible (first | refine cell_al _ ?_ | refine cell_dr ?_))) <;> (with_reducible assumption)))
              (first | (go_at_call 76; refine Calls.mono (ED.out _ _ (by first | exact HB.out | exact HB.out.drew)) ?_; rintro e wa ⟨Aa, ka, rfl, hra, hb1⟩; have HK := Lib.hid (by first | exact HK.out.below hb1 HK.out.lt | exact HK.out.drew.below hb1 HK.out.lt); have HB := Lib.hid (by first | exact HB.out.trans (hb1.mono HB.out.size) | exact HB.out.drew.trans (hb1.mono HB.out.size)); have HRD := Lib.hid hra; clear hb1 hra; have hk_0 : wa.cell? ⟨w.heap.size, 0, none⟩ = some (.int .i64 c.half) := (HK.out.cell 0).trans rfl; have hk_1 : wa.cell? ⟨w.heap.size, 1, none⟩ = some (.int .i64 c.gain) := (HK.out.cell 1).trans rfl; have hk_2 : wa.cell? ⟨w.heap.size, 2, none⟩ = some (.int .i64 c.thin) := (HK.out.cell 2).trans rfl; have hk_3 : wa.cell? ⟨w.heap.size, 3, none⟩ = some (.int .i64 c.wide) := (HK.out.cell 3).trans rfl; have hk_4 : wa.cell? ⟨w.heap.size, 4, none⟩ = some (.int .i64 c.slope) := (HK.out.cell 4).trans rfl; have hk_5 : wa.cell? ⟨w.heap.size, 5, none⟩ = some (.int .i64 c.jerk) := (HK.out.cell 5).trans rfl; have hk_6 : wa.cell? ⟨w.heap.size, 6, none⟩ = some (.int .i64 c.stylus) := (HK.out.cell 6).trans rfl) | (go_at_call 75; refine Calls.mono (F4.out _ _ _ HRD.out) ?_; rintro e wb ⟨rfl, hb1⟩; have HK := Lib.hid (HK.out.below hb1 HK.out.lt); have HB := Lib.hid (HB.out.trans (hb1.mono HB.out.size)); clear hb1; have hk_0 : wb.cell? ⟨w.heap.size, 0, none⟩ = some (.int .i64 c.half) := (HK.out.cell 0).trans rfl; have hk_1 : wb.cell? ⟨w.heap.size, 1, none⟩ = some (.int .i64 c.gain) := (HK.out.cell 1).trans rfl; have hk_2 : wb.cell? ⟨w.heap.size, 2, none⟩ = some (.int .i64 c.thin) := (HK.out.cell 2).trans rfl; have hk_3 : wb.cell? ⟨w.heap.size, 3, none⟩ = some (.int .i64 c.wide) := (HK.out.cell 3).trans rfl; have hk_4 : wb.cell? ⟨w.heap.size, 4, none⟩ = some (.int .i64 c.slope) := (HK.out.cell 4).trans rfl; have hk_5 : wb.cell? ⟨w.heap.size, 5, none⟩ = some (.int .i64 c.jerk) := (HK.out.cell 5).trans rfl; have hk_6 : wb.cell? ⟨w.heap.size, 6, none⟩ = some (.int .i64 c.stylus) := (HK.out.cell 6).trans rfl) | (go_at_call 75; refine Calls.mono (T4.out _ _ _ HRD.out) ?_; rintro e wb ⟨rfl, hb1⟩; have HK := Lib.hid (HK.out.below hb1 HK.out.lt); have HB := Lib.hid (HB.out.trans (hb1.mono HB.out.size)); clear hb1; have hk_0 : wb.cell? ⟨w.heap.size, 0, none⟩ = some (.int .i64 c.half) := (HK.out.cell 0).trans rfl; have hk_1 : wb.cell? ⟨w.heap.size, 1, none⟩ = some (.int .i64 c.gain) := (HK.out.cell 1).trans rfl; have hk_2 : wb.cell? ⟨w.heap.size, 2, none⟩ = some (.int .i64 c.thin) := (HK.out.cell 2).trans rfl; have hk_3 : wb.cell? ⟨w.heap.size, 3, none⟩ = some (.int .i64 c.wide) := (HK.out.cell 3).trans rfl; have hk_4 : wb.cell? ⟨w.heap.size, 4, none⟩ = some (.int .i64 c.slope) := (HK.out.cell 4).trans rfl; have hk_5 : wb.cell? ⟨w.heap.size, 5, none⟩ = some (.int .i64 c.jerk) := (HK.out.cell 5).trans rfl; have hk_6 : wb.cell? ⟨w.heap.size, 6, none⟩ = some (.int .i64 c.stylus) := (HK.out.cell 6).trans rfl))
            go_wp2_with fail
            go_roundw
            case rel => exact ⟨5, rfl, HB, HK, Lib.hid (by simp [C3.out])⟩
            case measure => simp [intOf]
        · as_aux_lemma =>
            go_wp2_with fail
            go_region_held3 (fun w' => w'.cell? ⟨w.heap.size, 0, none⟩ = some (.int .i64 c.half) ∧ w'.cell? ⟨w.heap.size, 1, none⟩ = some (.int .i64 c.gain) ∧ w'.cell? ⟨w.heap.size, 2, none⟩ = some (.int .i64 c.thin) ∧ w'.cell? ⟨w.heap.size, 3, none⟩ = some (.int .i64 c.wide) ∧ w'.cell? ⟨w.heap.size, 4, none⟩ = some (.int .i64 c.slope) ∧ w'.cell? ⟨w.heap.size, 5, none⟩ = some (.int .i64 c.jerk) ∧ w'.cell? ⟨w.heap.size, 6, none⟩ = some (.int .i64 c.stylus))
              ((refine ⟨?_, ?_, ?_, ?_, ?_, ?_, ?_⟩ <;> (repeat (with_reducible (first | refine cell_al _ ?_ | refine cell_dr ?_))) <;> (with_reducible assumption)))
              (first | (go_at_call 76; refine Calls.mono (ED.out _ _ (by first | exact HB.out | exact HB.out.drew)) ?_; rintro e wa ⟨Aa, ka, rfl, hra, hb1⟩; have HK := Lib.hid (by first | exact HK.out.below hb1 HK.out.lt | exact HK.out.drew.below hb1 HK.out.lt); have HB := Lib.hid (by first | exact HB.out.trans (hb1.mono HB.out.size) | exact HB.out.drew.trans (hb1.mono HB.out.size)); have HRD := Lib.hid hra; clear hb1 hra; have hk_0 : wa.cell? ⟨w.heap.size, 0, none⟩ = some (.int .i64 c.half) := (HK.out.cell 0).trans rfl; have hk_1 : wa.cell? ⟨w.heap.size, 1, none⟩ = some (.int .i64 c.gain) := (HK.out.cell 1).trans rfl; have hk_2 : wa.cell? ⟨w.heap.size, 2, none⟩ = some (.int .i64 c.thin) := (HK.out.cell 2).trans rfl; have hk_3 : wa.cell? ⟨w.heap.size, 3, none⟩ = some (.int .i64 c.wide) := (HK.out.cell 3).trans rfl; have hk_4 : wa.cell? ⟨w.heap.size, 4, none⟩ = some (.int .i64 c.slope) := (HK.out.cell 4).trans rfl; have hk_5 : wa.cell? ⟨w.heap.size, 5, none⟩ = some (.int .i64 c.jerk) := (HK.out.cell 5).trans rfl; have hk_6 : wa.cell? ⟨w.heap.size, 6, none⟩ = some (.int .i64 c.stylus) := (HK.out.cell 6).trans rfl) | (go_at_call 75; refine Calls.mono (F4.out _ _ _ HRD.out) ?_; rintro e wb ⟨rfl, hb1⟩; have HK := Lib.hid (HK.out.below hb1 HK.out.lt); have HB := Lib.hid (HB.out.trans (hb1.mono HB.out.size)); clear hb1; have hk_0 : wb.cell? ⟨w.heap.size, 0, none⟩ = some (.int .i64 c.half) := (HK.out.cell 0).trans rfl; have hk_1 : wb.cell? ⟨w.heap.size, 1, none⟩ = some (.int .i64 c.gain) := (HK.out.cell 1).trans rfl; have hk_2 : wb.cell? ⟨w.heap.size, 2, none⟩ = some (.int .i64 c.thin) := (HK.out.cell 2).trans rfl; have hk_3 : wb.cell? ⟨w.heap.size, 3, none⟩ = some (.int .i64 c.wide) := (HK.out.cell 3).trans rfl; have hk_4 : wb.cell? ⟨w.heap.size, 4, none⟩ = some (.int .i64 c.slope) := (HK.out.cell 4).trans rfl; have hk_5 : wb.cell? ⟨w.heap.size, 5, none⟩ = some (.int .i64 c.jerk) := (HK.out.cell 5).trans rfl; have hk_6 : wb.cell? ⟨w.heap.size, 6, none⟩ = some (.int .i64 c.stylus) := (HK.out.cell 6).trans rfl) | (go_at_call 75; refine Calls.mono (T4.out _ _ _ HRD.out) ?_; rintro e wb ⟨rfl, hb1⟩; have HK := Lib.hid (HK.out.below hb1 HK.out.lt); have HB := Lib.hid (HB.out.trans (hb1.mono HB.out.size)); clear hb1; have hk_0 : wb.cell? ⟨w.heap.size, 0, none⟩ = some (.int .i64 c.half) := (HK.out.cell 0).trans rfl; have hk_1 : wb.cell? ⟨w.heap.size, 1, none⟩ = some (.int .i64 c.gain) := (HK.out.cell 1).trans rfl; have hk_2 : wb.cell? ⟨w.heap.size, 2, none⟩ = some (.int .i64 c.thin) := (HK.out.cell 2).trans rfl; have hk_3 : wb.cell? ⟨w.heap.size, 3, none⟩ = some (.int .i64 c.wide) := (HK.out.cell 3).trans rfl; have hk_4 : wb.cell? ⟨w.heap.size, 4, none⟩ = some (.int .i64 c.slope) := (HK.out.cell 4).trans rfl; have hk_5 : wb.cell? ⟨w.heap.size, 5, none⟩ = some (.int .i64 c.jerk) := (HK.out.cell 5).trans rfl; have hk_6 : wb.cell? ⟨w.heap.size, 6, none⟩ = some (.int .i64 c.stylus) := (HK.out.cell 6).trans rfl))
            go_wp2_with fail
            go_ret
            exact ⟨ret_i (by rw [HBR.out, C3.out]; simp), HB.out⟩
      · as_aux_lemma =>
          go_wp2_with fail
          refine wp_region_held_drew (S := (fun w' => w'.cell? ⟨w.heap.size, 0, none⟩ = some (.int .i64 c.half) ∧ w'.cell? ⟨w.heap.size, 1, none⟩ = some (.int .i64 c.gain) ∧ w'.cell? ⟨w.heap.size, 2, none⟩ = some (.int .i64 c.thin) ∧ w'.cell? ⟨w.heap.size, 3, none⟩ = some (.int .i64 c.wide) ∧ w'.cell? ⟨w.heap.size, 4, none⟩ = some (.int .i64 c.slope) ∧ w'.cell? ⟨w.heap.size, 5, none⟩ = some (.int .i64 c.jerk) ∧ w'.cell? ⟨w.heap.size, 6, none⟩ = some (.int .i64 c.stylus))) (by kernel_rfl) ?_ (fun hHeld => ?_)
          · ((refine ⟨?_, ?_, ?_, ?_, ?_, ?_, ?_⟩ <;> (repeat (with_reducible (first | refine cell_al _ ?_ | refine cell_dr ?_))) <;> (with_reducible assumption)))
          refine wpAnyH_take (i := 0) (oi := { dst := some 36, op := Op.load 23 (Operand.tmp 5), type := 23, pos := "ref.go:161", after := #[], guard := none }) (v := ?v0_4) rfl (by kernel_rfl) (by kernel_rfl) (by kernel_rfl) (fun _ _ _ h => h) (Or.inl ⟨by rfl, ?hy0_4⟩) hHeld ?_
          case hy0_4 => intro w hSw; (try dsimp only at hSw); go_simp; try with_reducible rfl
          simp only [Act.put, List.setIfInBounds_toArray, List.set_cons_zero, List.set_cons_succ]
          refine wpAnyH_take (i := 1) (oi := { dst := some 37, op := Op.move (Operand.tmp 1), type := 29, pos := "ref.go:161", after := #[], guard := none }) (v := ?v1_4) rfl (by kernel_rfl) (by kernel_rfl) (by kernel_rfl) (fun _ _ _ h => h) (Or.inl ⟨by rfl, ?hy1_4⟩) hHeld ?_
          case hy1_4 => intro w hSw; (try dsimp only at hSw); go_simp; try with_reducible rfl
          simp only [Act.put, List.setIfInBounds_toArray, List.set_cons_zero, List.set_cons_succ]
          refine wpAnyH_take (i := 3) (oi := { dst := some 39, op := Op.move (Operand.tmp 2), type := 2, pos := "ref.go:161", after := #[], guard := none }) (v := ?v3_4) rfl (by kernel_rfl) (by kernel_rfl) (by kernel_rfl) (fun _ _ _ h => h) (Or.inl ⟨by rfl, ?hy3_4⟩) hHeld ?_
          case hy3_4 => intro w hSw; (try dsimp only at hSw); go_simp; try with_reducible rfl
          simp only [Act.put, List.setIfInBounds_toArray, List.set_cons_zero, List.set_cons_succ]
          refine wpAnyH_take (i := 4) (oi := { dst := some 40, op := Op.move (Operand.tmp 3), type := 2, pos := "ref.go:161", after := #[], guard := none }) (v := ?v4_4) rfl (by kernel_rfl) (by kernel_rfl) (by kernel_rfl) (fun _ _ _ h => h) (Or.inl ⟨by rfl, ?hy4_4⟩) hHeld ?_
          case hy4_4 => intro w hSw; (try dsimp only at hSw); go_simp; try with_reducible rfl
          simp only [Act.put, List.setIfInBounds_toArray, List.set_cons_zero, List.set_cons_succ]
          refine wpAnyH_take (i := 5) (oi := { dst := some 41, op := Op.move (Operand.tmp 4), type := 3, pos := "ref.go:161", after := #[], guard := none }) (v := ?v5_4) rfl (by kernel_rfl) (by kernel_rfl) (by kernel_rfl) (fun _ _ _ h => h) (Or.inl ⟨by rfl, ?hy5_4⟩) hHeld ?_
          case hy5_4 => intro w hSw; (try dsimp only at hSw); go_simp; try with_reducible rfl
          simp only [Act.put, List.setIfInBounds_toArray, List.set_cons_zero, List.set_cons_succ]
          refine wpAnyH_take (i := 6) (oi := { dst := some 42, op := Op.move (Operand.tmp 12), type := 3, pos := "ref.go:161", after := #[], guard := none }) (v := ?v6_4) rfl (by kernel_rfl) (by kernel_rfl) (by kernel_rfl) (fun _ _ _ h => h) (Or.inl ⟨by rfl, ?hy6_4⟩) hHeld ?_
          case hy6_4 => intro w hSw; (try dsimp only at hSw); go_simp; try with_reducible rfl
          simp only [Act.put, List.setIfInBounds_toArray, List.set_cons_zero, List.set_cons_succ]
          refine wpAnyH_ready (rs := [2]) (by kernel_rfl) (by simp) ?_
          refine AllReadyH.cons rfl (fun K hK => ?_) AllReadyH.nil
          go_simp
          go_wp2_with (go_at_call 76; refine Calls.mono (ED.out _ _ (by first | exact HB.out | exact HB.out.drew)) ?_; rintro e wa ⟨Aa, ka, rfl, hra, hb1⟩; have HK := Lib.hid (by first | exact HK.out.below hb1 HK.out.lt | exact HK.out.drew.below hb1 HK.out.lt); have HB := Lib.hid (by first | exact HB.out.trans (hb1.mono HB.out.size) | exact HB.out.drew.trans (hb1.mono HB.out.size)); have HRD := Lib.hid hra; clear hb1 hra; have hk_0 : wa.cell? ⟨w.heap.size, 0, none⟩ = some (.int .i64 c.half) := (HK.out.cell 0).trans rfl; have hk_1 : wa.cell? ⟨w.heap.size, 1, none⟩ = some (.int .i64 c.gain) := (HK.out.cell 1).trans rfl; have hk_2 : wa.cell? ⟨w.heap.size, 2, none⟩ = some (.int .i64 c.thin) := (HK.out.cell 2).trans rfl; have hk_3 : wa.cell? ⟨w.heap.size, 3, none⟩ = some (.int .i64 c.wide) := (HK.out.cell 3).trans rfl; have hk_4 : wa.cell? ⟨w.heap.size, 4, none⟩ = some (.int .i64 c.slope) := (HK.out.cell 4).trans rfl; have hk_5 : wa.cell? ⟨w.heap.size, 5, none⟩ = some (.int .i64 c.jerk) := (HK.out.cell 5).trans rfl; have hk_6 : wa.cell? ⟨w.heap.size, 6, none⟩ = some (.int .i64 c.stylus) := (HK.out.cell 6).trans rfl)
          refine hK.out _ _ ?_ (fun hHeld2 => ?_)
          · ((refine ⟨?_, ?_, ?_, ?_, ?_, ?_, ?_⟩ <;> (repeat (with_reducible (first | refine cell_al _ ?_ | refine cell_dr ?_))) <;> (with_reducible assumption)))
          clear hK
          refine wpAnyH_ready (rs := [7]) (by kernel_rfl) (by simp) ?_
          refine AllReadyH.cons rfl (fun K hK => ?_) AllReadyH.nil
          go_simp
          go_wp2_with (go_at_call 75; refine Calls.mono (F4.out _ _ _ HRD.out) ?_; rintro e wb ⟨rfl, hb1⟩; have HK := Lib.hid (HK.out.below hb1 HK.out.lt); have HB := Lib.hid (HB.out.trans (hb1.mono HB.out.size)); clear hb1; have hk_0 : wb.cell? ⟨w.heap.size, 0, none⟩ = some (.int .i64 c.half) := (HK.out.cell 0).trans rfl; have hk_1 : wb.cell? ⟨w.heap.size, 1, none⟩ = some (.int .i64 c.gain) := (HK.out.cell 1).trans rfl; have hk_2 : wb.cell? ⟨w.heap.size, 2, none⟩ = some (.int .i64 c.thin) := (HK.out.cell 2).trans rfl; have hk_3 : wb.cell? ⟨w.heap.size, 3, none⟩ = some (.int .i64 c.wide) := (HK.out.cell 3).trans rfl; have hk_4 : wb.cell? ⟨w.heap.size, 4, none⟩ = some (.int .i64 c.slope) := (HK.out.cell 4).trans rfl; have hk_5 : wb.cell? ⟨w.heap.size, 5, none⟩ = some (.int .i64 c.jerk) := (HK.out.cell 5).trans rfl; have hk_6 : wb.cell? ⟨w.heap.size, 6, none⟩ = some (.int .i64 c.stylus) := (HK.out.cell 6).trans rfl)
          refine hK.out _ _ ?_ (fun hHeld3 => ?_)
          · ((refine ⟨?_, ?_, ?_, ?_, ?_, ?_, ?_⟩ <;> (repeat (with_reducible (first | refine cell_al _ ?_ | refine cell_dr ?_))) <;> (with_reducible assumption)))
          clear hK
          refine wpAnyH_take (i := 8) (oi := { dst := some 44, op := Op.move (Operand.tmp 43), type := 4, pos := "ref.go:161", after := #[{ on := 7, ground := Ground.data }, { on := 7, ground := Ground.chain }], guard := none }) (v := ?v8_4) rfl (by kernel_rfl) (by kernel_rfl) (by kernel_rfl) (fun _ _ _ h => h) (Or.inl ⟨by rfl, ?hy8_4⟩) hHeld3 ?_
          case hy8_4 => intro w hSw; (try dsimp only at hSw); go_simp; try with_reducible rfl
          simp only [Act.put, List.setIfInBounds_toArray, List.set_cons_zero, List.set_cons_succ]
          refine wpAnyH_take (i := 9) (oi := { dst := some 45, op := Op.load 23 (Operand.tmp 5), type := 23, pos := "ref.go:161", after := #[{ on := 8, ground := Ground.guard }], guard := some (8, false) }) (v := undef) rfl (by kernel_rfl) (by kernel_rfl) (by kernel_rfl) (fun _ _ _ h => h) (Or.inr ⟨by rfl, rfl⟩) hHeld3 ?_
          simp only [Act.put, List.setIfInBounds_toArray, List.set_cons_zero, List.set_cons_succ]
          refine wpAnyH_take (i := 10) (oi := { dst := some 46, op := Op.move (Operand.tmp 1), type := 29, pos := "ref.go:161", after := #[{ on := 8, ground := Ground.guard }], guard := some (8, false) }) (v := undef) rfl (by kernel_rfl) (by kernel_rfl) (by kernel_rfl) (fun _ _ _ h => h) (Or.inr ⟨by rfl, rfl⟩) hHeld3 ?_
          simp only [Act.put, List.setIfInBounds_toArray, List.set_cons_zero, List.set_cons_succ]
          refine wpAnyH_take (i := 11) (oi := { dst := some 47, op := Op.call { callee := Callee.value (Operand.func 76), args := #[Operand.tmp 46, Operand.const (Value.bool true)], argTypes := #[29, 4] }, type := 108, pos := "ref.go:161", after := #[{ on := 10, ground := Ground.data }, { on := 8, ground := Ground.chain }, { on := 8, ground := Ground.guard }], guard := some (8, false) }) (v := undef) rfl (by kernel_rfl) (by kernel_rfl) (by kernel_rfl) (fun _ _ _ h => h) (Or.inr ⟨by rfl, rfl⟩) hHeld3 ?_
          simp only [Act.put, List.setIfInBounds_toArray, List.set_cons_zero, List.set_cons_succ]
          refine wpAnyH_take (i := 12) (oi := { dst := some 48, op := Op.move (Operand.tmp 2), type := 2, pos := "ref.go:161", after := #[{ on := 8, ground := Ground.guard }], guard := some (8, false) }) (v := undef) rfl (by kernel_rfl) (by kernel_rfl) (by kernel_rfl) (fun _ _ _ h => h) (Or.inr ⟨by rfl, rfl⟩) hHeld3 ?_
          simp only [Act.put, List.setIfInBounds_toArray, List.set_cons_zero, List.set_cons_succ]
          refine wpAnyH_take (i := 13) (oi := { dst := some 49, op := Op.move (Operand.tmp 3), type := 2, pos := "ref.go:161", after := #[{ on := 8, ground := Ground.guard }], guard := some (8, false) }) (v := undef) rfl (by kernel_rfl) (by kernel_rfl) (by kernel_rfl) (fun _ _ _ h => h) (Or.inr ⟨by rfl, rfl⟩) hHeld3 ?_
          simp only [Act.put, List.setIfInBounds_toArray, List.set_cons_zero, List.set_cons_succ]
          refine wpAnyH_take (i := 14) (oi := { dst := some 50, op := Op.move (Operand.tmp 4), type := 3, pos := "ref.go:161", after := #[{ on := 8, ground := Ground.guard }], guard := some (8, false) }) (v := undef) rfl (by kernel_rfl) (by kernel_rfl) (by kernel_rfl) (fun _ _ _ h => h) (Or.inr ⟨by rfl, rfl⟩) hHeld3 ?_
          simp only [Act.put, List.setIfInBounds_toArray, List.set_cons_zero, List.set_cons_succ]
          refine wpAnyH_take (i := 15) (oi := { dst := some 51, op := Op.move (Operand.tmp 12), type := 3, pos := "ref.go:161", after := #[{ on := 8, ground := Ground.guard }], guard := some (8, false) }) (v := undef) rfl (by kernel_rfl) (by kernel_rfl) (by kernel_rfl) (fun _ _ _ h => h) (Or.inr ⟨by rfl, rfl⟩) hHeld3 ?_
          simp only [Act.put, List.setIfInBounds_toArray, List.set_cons_zero, List.set_cons_succ]
          refine wpAnyH_take (i := 16) (oi := { dst := some 52, op := Op.call { callee := Callee.value (Operand.func 75), args := #[Operand.tmp 45, Operand.tmp 47, Operand.tmp 48, Operand.tmp 49, Operand.tmp 50, Operand.tmp 51], argTypes := #[23, 108, 2, 2, 3, 3] }, type := 4, pos := "ref.go:161", after := #[{ on := 9, ground := Ground.data }, { on := 11, ground := Ground.data }, { on := 12, ground := Ground.data }, { on := 13, ground := Ground.data }, { on := 14, ground := Ground.data }, { on := 15, ground := Ground.data }, { on := 11, ground := Ground.chain }, { on := 8, ground := Ground.guard }], guard := some (8, false) }) (v := undef) rfl (by kernel_rfl) (by kernel_rfl) (by kernel_rfl) (fun _ _ _ h => h) (Or.inr ⟨by rfl, rfl⟩) hHeld3 ?_
          simp only [Act.put, List.setIfInBounds_toArray, List.set_cons_zero, List.set_cons_succ]
          refine wpAnyH_take (i := 17) (oi := { dst := some 53, op := Op.pick (Operand.tmp 44) (Operand.const (Value.bool true)) (Operand.tmp 52), type := 4, pos := "ref.go:161", after := #[{ on := 8, ground := Ground.data }, { on := 16, ground := Ground.data }], guard := none }) (v := ?v17_4) rfl (by kernel_rfl) (by kernel_rfl) (by kernel_rfl) (fun _ _ _ h => h) (Or.inl ⟨by rfl, ?hy17_4⟩) hHeld3 ?_
          case hy17_4 => intro w hSw; (try dsimp only at hSw); go_simp; try with_reducible rfl
          simp only [Act.put, List.setIfInBounds_toArray, List.set_cons_zero, List.set_cons_succ]
          refine wpAnyH_done (by kernel_rfl) ?_ _
          go_wp2_with fail
          go_ret
          exact ⟨ret_i (by rw [HBR.out, C3.out]; simp), HB.out⟩
    · clear HJ
      have C3 := Lib.hid c3
      have C4 := Lib.hid c4
      clear c3 c4
      have hk_0 : wr.cell? ⟨w.heap.size, 0, none⟩ = some (.int .i64 c.half) := (HK.out.cell 0).trans rfl
      have hk_1 : wr.cell? ⟨w.heap.size, 1, none⟩ = some (.int .i64 c.gain) := (HK.out.cell 1).trans rfl
      have hk_2 : wr.cell? ⟨w.heap.size, 2, none⟩ = some (.int .i64 c.thin) := (HK.out.cell 2).trans rfl
      have hk_3 : wr.cell? ⟨w.heap.size, 3, none⟩ = some (.int .i64 c.wide) := (HK.out.cell 3).trans rfl
      have hk_4 : wr.cell? ⟨w.heap.size, 4, none⟩ = some (.int .i64 c.slope) := (HK.out.cell 4).trans rfl
      have hk_5 : wr.cell? ⟨w.heap.size, 5, none⟩ = some (.int .i64 c.jerk) := (HK.out.cell 5).trans rfl
      have hk_6 : wr.cell? ⟨w.heap.size, 6, none⟩ = some (.int .i64 c.stylus) := (HK.out.cell 6).trans rfl
      cases f5
      · cases t5
        · as_aux_lemma =>
            go_wp2_with fail
            go_region_held3 (fun w' => w'.cell? ⟨w.heap.size, 0, none⟩ = some (.int .i64 c.half) ∧ w'.cell? ⟨w.heap.size, 1, none⟩ = some (.int .i64 c.gain) ∧ w'.cell? ⟨w.heap.size, 2, none⟩ = some (.int .i64 c.thin) ∧ w'.cell? ⟨w.heap.size, 3, none⟩ = some (.int .i64 c.wide) ∧ w'.cell? ⟨w.heap.size, 4, none⟩ = some (.int .i64 c.slope) ∧ w'.cell? ⟨w.heap.size, 5, none⟩ = some (.int .i64 c.jerk) ∧ w'.cell? ⟨w.heap.size, 6, none⟩ = some (.int .i64 c.stylus))
              ((refine ⟨?_, ?_, ?_, ?_, ?_, ?_, ?_⟩ <;> (repeat (with_reducible (first | refine cell_al _ ?_ | refine cell_dr ?_))) <;> (with_reducible assumption)))
              (first | (go_at_call 76; refine Calls.mono (ED.out _ _ (by first | exact HB.out | exact HB.out.drew)) ?_; rintro e wa ⟨Aa, ka, rfl, hra, hb1⟩; have HK := Lib.hid (by first | exact HK.out.below hb1 HK.out.lt | exact HK.out.drew.below hb1 HK.out.lt); have HB := Lib.hid (by first | exact HB.out.trans (hb1.mono HB.out.size) | exact HB.out.drew.trans (hb1.mono HB.out.size)); have HRD := Lib.hid hra; clear hb1 hra; have hk_0 : wa.cell? ⟨w.heap.size, 0, none⟩ = some (.int .i64 c.half) := (HK.out.cell 0).trans rfl; have hk_1 : wa.cell? ⟨w.heap.size, 1, none⟩ = some (.int .i64 c.gain) := (HK.out.cell 1).trans rfl; have hk_2 : wa.cell? ⟨w.heap.size, 2, none⟩ = some (.int .i64 c.thin) := (HK.out.cell 2).trans rfl; have hk_3 : wa.cell? ⟨w.heap.size, 3, none⟩ = some (.int .i64 c.wide) := (HK.out.cell 3).trans rfl; have hk_4 : wa.cell? ⟨w.heap.size, 4, none⟩ = some (.int .i64 c.slope) := (HK.out.cell 4).trans rfl; have hk_5 : wa.cell? ⟨w.heap.size, 5, none⟩ = some (.int .i64 c.jerk) := (HK.out.cell 5).trans rfl; have hk_6 : wa.cell? ⟨w.heap.size, 6, none⟩ = some (.int .i64 c.stylus) := (HK.out.cell 6).trans rfl) | (go_at_call 75; refine Calls.mono (F5.out _ _ _ HRD.out) ?_; rintro e wb ⟨rfl, hb1⟩; have HK := Lib.hid (HK.out.below hb1 HK.out.lt); have HB := Lib.hid (HB.out.trans (hb1.mono HB.out.size)); clear hb1; have hk_0 : wb.cell? ⟨w.heap.size, 0, none⟩ = some (.int .i64 c.half) := (HK.out.cell 0).trans rfl; have hk_1 : wb.cell? ⟨w.heap.size, 1, none⟩ = some (.int .i64 c.gain) := (HK.out.cell 1).trans rfl; have hk_2 : wb.cell? ⟨w.heap.size, 2, none⟩ = some (.int .i64 c.thin) := (HK.out.cell 2).trans rfl; have hk_3 : wb.cell? ⟨w.heap.size, 3, none⟩ = some (.int .i64 c.wide) := (HK.out.cell 3).trans rfl; have hk_4 : wb.cell? ⟨w.heap.size, 4, none⟩ = some (.int .i64 c.slope) := (HK.out.cell 4).trans rfl; have hk_5 : wb.cell? ⟨w.heap.size, 5, none⟩ = some (.int .i64 c.jerk) := (HK.out.cell 5).trans rfl; have hk_6 : wb.cell? ⟨w.heap.size, 6, none⟩ = some (.int .i64 c.stylus) := (HK.out.cell 6).trans rfl) | (go_at_call 75; refine Calls.mono (T5.out _ _ _ HRD.out) ?_; rintro e wb ⟨rfl, hb1⟩; have HK := Lib.hid (HK.out.below hb1 HK.out.lt); have HB := Lib.hid (HB.out.trans (hb1.mono HB.out.size)); clear hb1; have hk_0 : wb.cell? ⟨w.heap.size, 0, none⟩ = some (.int .i64 c.half) := (HK.out.cell 0).trans rfl; have hk_1 : wb.cell? ⟨w.heap.size, 1, none⟩ = some (.int .i64 c.gain) := (HK.out.cell 1).trans rfl; have hk_2 : wb.cell? ⟨w.heap.size, 2, none⟩ = some (.int .i64 c.thin) := (HK.out.cell 2).trans rfl; have hk_3 : wb.cell? ⟨w.heap.size, 3, none⟩ = some (.int .i64 c.wide) := (HK.out.cell 3).trans rfl; have hk_4 : wb.cell? ⟨w.heap.size, 4, none⟩ = some (.int .i64 c.slope) := (HK.out.cell 4).trans rfl; have hk_5 : wb.cell? ⟨w.heap.size, 5, none⟩ = some (.int .i64 c.jerk) := (HK.out.cell 5).trans rfl; have hk_6 : wb.cell? ⟨w.heap.size, 6, none⟩ = some (.int .i64 c.stylus) := (HK.out.cell 6).trans rfl))
            go_wp2_with fail
            go_roundw
            case rel => exact ⟨6, rfl, HB, HK, Lib.hid (by simp [C3.out, C4.out])⟩
            case measure => simp [intOf]
        · as_aux_lemma =>
            go_wp2_with fail
            go_region_held3 (fun w' => w'.cell? ⟨w.heap.size, 0, none⟩ = some (.int .i64 c.half) ∧ w'.cell? ⟨w.heap.size, 1, none⟩ = some (.int .i64 c.gain) ∧ w'.cell? ⟨w.heap.size, 2, none⟩ = some (.int .i64 c.thin) ∧ w'.cell? ⟨w.heap.size, 3, none⟩ = some (.int .i64 c.wide) ∧ w'.cell? ⟨w.heap.size, 4, none⟩ = some (.int .i64 c.slope) ∧ w'.cell? ⟨w.heap.size, 5, none⟩ = some (.int .i64 c.jerk) ∧ w'.cell? ⟨w.heap.size, 6, none⟩ = some (.int .i64 c.stylus))
              ((refine ⟨?_, ?_, ?_, ?_, ?_, ?_, ?_⟩ <;> (repeat (with_reducible (first | refine cell_al _ ?_ | refine cell_dr ?_))) <;> (with_reducible assumption)))
              (first | (go_at_call 76; refine Calls.mono (ED.out _ _ (by first | exact HB.out | exact HB.out.drew)) ?_; rintro e wa ⟨Aa, ka, rfl, hra, hb1⟩; have HK := Lib.hid (by first | exact HK.out.below hb1 HK.out.lt | exact HK.out.drew.below hb1 HK.out.lt); have HB := Lib.hid (by first | exact HB.out.trans (hb1.mono HB.out.size) | exact HB.out.drew.trans (hb1.mono HB.out.size)); have HRD := Lib.hid hra; clear hb1 hra; have hk_0 : wa.cell? ⟨w.heap.size, 0, none⟩ = some (.int .i64 c.half) := (HK.out.cell 0).trans rfl; have hk_1 : wa.cell? ⟨w.heap.size, 1, none⟩ = some (.int .i64 c.gain) := (HK.out.cell 1).trans rfl; have hk_2 : wa.cell? ⟨w.heap.size, 2, none⟩ = some (.int .i64 c.thin) := (HK.out.cell 2).trans rfl; have hk_3 : wa.cell? ⟨w.heap.size, 3, none⟩ = some (.int .i64 c.wide) := (HK.out.cell 3).trans rfl; have hk_4 : wa.cell? ⟨w.heap.size, 4, none⟩ = some (.int .i64 c.slope) := (HK.out.cell 4).trans rfl; have hk_5 : wa.cell? ⟨w.heap.size, 5, none⟩ = some (.int .i64 c.jerk) := (HK.out.cell 5).trans rfl; have hk_6 : wa.cell? ⟨w.heap.size, 6, none⟩ = some (.int .i64 c.stylus) := (HK.out.cell 6).trans rfl) | (go_at_call 75; refine Calls.mono (F5.out _ _ _ HRD.out) ?_; rintro e wb ⟨rfl, hb1⟩; have HK := Lib.hid (HK.out.below hb1 HK.out.lt); have HB := Lib.hid (HB.out.trans (hb1.mono HB.out.size)); clear hb1; have hk_0 : wb.cell? ⟨w.heap.size, 0, none⟩ = some (.int .i64 c.half) := (HK.out.cell 0).trans rfl; have hk_1 : wb.cell? ⟨w.heap.size, 1, none⟩ = some (.int .i64 c.gain) := (HK.out.cell 1).trans rfl; have hk_2 : wb.cell? ⟨w.heap.size, 2, none⟩ = some (.int .i64 c.thin) := (HK.out.cell 2).trans rfl; have hk_3 : wb.cell? ⟨w.heap.size, 3, none⟩ = some (.int .i64 c.wide) := (HK.out.cell 3).trans rfl; have hk_4 : wb.cell? ⟨w.heap.size, 4, none⟩ = some (.int .i64 c.slope) := (HK.out.cell 4).trans rfl; have hk_5 : wb.cell? ⟨w.heap.size, 5, none⟩ = some (.int .i64 c.jerk) := (HK.out.cell 5).trans rfl; have hk_6 : wb.cell? ⟨w.heap.size, 6, none⟩ = some (.int .i64 c.stylus) := (HK.out.cell 6).trans rfl) | (go_at_call 75; refine Calls.mono (T5.out _ _ _ HRD.out) ?_; rintro e wb ⟨rfl, hb1⟩; have HK := Lib.hid (HK.out.below hb1 HK.out.lt); have HB := Lib.hid (HB.out.trans (hb1.mono HB.out.size)); clear hb1; have hk_0 : wb.cell? ⟨w.heap.size, 0, none⟩ = some (.int .i64 c.half) := (HK.out.cell 0).trans rfl; have hk_1 : wb.cell? ⟨w.heap.size, 1, none⟩ = some (.int .i64 c.gain) := (HK.out.cell 1).trans rfl; have hk_2 : wb.cell? ⟨w.heap.size, 2, none⟩ = some (.int .i64 c.thin) := (HK.out.cell 2).trans rfl; have hk_3 : wb.cell? ⟨w.heap.size, 3, none⟩ = some (.int .i64 c.wide) := (HK.out.cell 3).trans rfl; have hk_4 : wb.cell? ⟨w.heap.size, 4, none⟩ = some (.int .i64 c.slope) := (HK.out.cell 4).trans rfl; have hk_5 : wb.cell? ⟨w.heap.size, 5, none⟩ = some (.int .i64 c.jerk) := (HK.out.cell 5).trans rfl; have hk_6 : wb.cell? ⟨w.heap.size, 6, none⟩ = some (.int .i64 c.stylus) := (HK.out.cell 6).trans rfl))
            go_wp2_with fail
            go_ret
            exact ⟨ret_i (by rw [HBR.out, C3.out, C4.out]; simp), HB.out⟩
      · as_aux_lemma =>
          go_wp2_with fail
          refine wp_region_held_drew (S := (fun w' => w'.cell? ⟨w.heap.size, 0, none⟩ = some (.int .i64 c.half) ∧ w'.cell? ⟨w.heap.size, 1, none⟩ = some (.int .i64 c.gain) ∧ w'.cell? ⟨w.heap.size, 2, none⟩ = some (.int .i64 c.thin) ∧ w'.cell? ⟨w.heap.size, 3, none⟩ = some (.int .i64 c.wide) ∧ w'.cell? ⟨w.heap.size, 4, none⟩ = some (.int .i64 c.slope) ∧ w'.cell? ⟨w.heap.size, 5, none⟩ = some (.int .i64 c.jerk) ∧ w'.cell? ⟨w.heap.size, 6, none⟩ = some (.int .i64 c.stylus))) (by kernel_rfl) ?_ (fun hHeld => ?_)
          · ((refine ⟨?_, ?_, ?_, ?_, ?_, ?_, ?_⟩ <;> (repeat (with_reducible (first | refine cell_al _ ?_ | refine cell_dr ?_))) <;> (with_reducible assumption)))
          refine wpAnyH_take (i := 0) (oi := { dst := some 36, op := Op.load 23 (Operand.tmp 5), type := 23, pos := "ref.go:161", after := #[], guard := none }) (v := ?v0_5) rfl (by kernel_rfl) (by kernel_rfl) (by kernel_rfl) (fun _ _ _ h => h) (Or.inl ⟨by rfl, ?hy0_5⟩) hHeld ?_
          case hy0_5 => intro w hSw; (try dsimp only at hSw); go_simp; try with_reducible rfl
          simp only [Act.put, List.setIfInBounds_toArray, List.set_cons_zero, List.set_cons_succ]
          refine wpAnyH_take (i := 1) (oi := { dst := some 37, op := Op.move (Operand.tmp 1), type := 29, pos := "ref.go:161", after := #[], guard := none }) (v := ?v1_5) rfl (by kernel_rfl) (by kernel_rfl) (by kernel_rfl) (fun _ _ _ h => h) (Or.inl ⟨by rfl, ?hy1_5⟩) hHeld ?_
          case hy1_5 => intro w hSw; (try dsimp only at hSw); go_simp; try with_reducible rfl
          simp only [Act.put, List.setIfInBounds_toArray, List.set_cons_zero, List.set_cons_succ]
          refine wpAnyH_take (i := 3) (oi := { dst := some 39, op := Op.move (Operand.tmp 2), type := 2, pos := "ref.go:161", after := #[], guard := none }) (v := ?v3_5) rfl (by kernel_rfl) (by kernel_rfl) (by kernel_rfl) (fun _ _ _ h => h) (Or.inl ⟨by rfl, ?hy3_5⟩) hHeld ?_
          case hy3_5 => intro w hSw; (try dsimp only at hSw); go_simp; try with_reducible rfl
          simp only [Act.put, List.setIfInBounds_toArray, List.set_cons_zero, List.set_cons_succ]
          refine wpAnyH_take (i := 4) (oi := { dst := some 40, op := Op.move (Operand.tmp 3), type := 2, pos := "ref.go:161", after := #[], guard := none }) (v := ?v4_5) rfl (by kernel_rfl) (by kernel_rfl) (by kernel_rfl) (fun _ _ _ h => h) (Or.inl ⟨by rfl, ?hy4_5⟩) hHeld ?_
          case hy4_5 => intro w hSw; (try dsimp only at hSw); go_simp; try with_reducible rfl
          simp only [Act.put, List.setIfInBounds_toArray, List.set_cons_zero, List.set_cons_succ]
          refine wpAnyH_take (i := 5) (oi := { dst := some 41, op := Op.move (Operand.tmp 4), type := 3, pos := "ref.go:161", after := #[], guard := none }) (v := ?v5_5) rfl (by kernel_rfl) (by kernel_rfl) (by kernel_rfl) (fun _ _ _ h => h) (Or.inl ⟨by rfl, ?hy5_5⟩) hHeld ?_
          case hy5_5 => intro w hSw; (try dsimp only at hSw); go_simp; try with_reducible rfl
          simp only [Act.put, List.setIfInBounds_toArray, List.set_cons_zero, List.set_cons_succ]
          refine wpAnyH_take (i := 6) (oi := { dst := some 42, op := Op.move (Operand.tmp 12), type := 3, pos := "ref.go:161", after := #[], guard := none }) (v := ?v6_5) rfl (by kernel_rfl) (by kernel_rfl) (by kernel_rfl) (fun _ _ _ h => h) (Or.inl ⟨by rfl, ?hy6_5⟩) hHeld ?_
          case hy6_5 => intro w hSw; (try dsimp only at hSw); go_simp; try with_reducible rfl
          simp only [Act.put, List.setIfInBounds_toArray, List.set_cons_zero, List.set_cons_succ]
          refine wpAnyH_ready (rs := [2]) (by kernel_rfl) (by simp) ?_
          refine AllReadyH.cons rfl (fun K hK => ?_) AllReadyH.nil
          go_simp
          go_wp2_with (go_at_call 76; refine Calls.mono (ED.out _ _ (by first | exact HB.out | exact HB.out.drew)) ?_; rintro e wa ⟨Aa, ka, rfl, hra, hb1⟩; have HK := Lib.hid (by first | exact HK.out.below hb1 HK.out.lt | exact HK.out.drew.below hb1 HK.out.lt); have HB := Lib.hid (by first | exact HB.out.trans (hb1.mono HB.out.size) | exact HB.out.drew.trans (hb1.mono HB.out.size)); have HRD := Lib.hid hra; clear hb1 hra; have hk_0 : wa.cell? ⟨w.heap.size, 0, none⟩ = some (.int .i64 c.half) := (HK.out.cell 0).trans rfl; have hk_1 : wa.cell? ⟨w.heap.size, 1, none⟩ = some (.int .i64 c.gain) := (HK.out.cell 1).trans rfl; have hk_2 : wa.cell? ⟨w.heap.size, 2, none⟩ = some (.int .i64 c.thin) := (HK.out.cell 2).trans rfl; have hk_3 : wa.cell? ⟨w.heap.size, 3, none⟩ = some (.int .i64 c.wide) := (HK.out.cell 3).trans rfl; have hk_4 : wa.cell? ⟨w.heap.size, 4, none⟩ = some (.int .i64 c.slope) := (HK.out.cell 4).trans rfl; have hk_5 : wa.cell? ⟨w.heap.size, 5, none⟩ = some (.int .i64 c.jerk) := (HK.out.cell 5).trans rfl; have hk_6 : wa.cell? ⟨w.heap.size, 6, none⟩ = some (.int .i64 c.stylus) := (HK.out.cell 6).trans rfl)
          refine hK.out _ _ ?_ (fun hHeld2 => ?_)
          · ((refine ⟨?_, ?_, ?_, ?_, ?_, ?_, ?_⟩ <;> (repeat (with_reducible (first | refine cell_al _ ?_ | refine cell_dr ?_))) <;> (with_reducible assumption)))
          clear hK
          refine wpAnyH_ready (rs := [7]) (by kernel_rfl) (by simp) ?_
          refine AllReadyH.cons rfl (fun K hK => ?_) AllReadyH.nil
          go_simp
          go_wp2_with (go_at_call 75; refine Calls.mono (F5.out _ _ _ HRD.out) ?_; rintro e wb ⟨rfl, hb1⟩; have HK := Lib.hid (HK.out.below hb1 HK.out.lt); have HB := Lib.hid (HB.out.trans (hb1.mono HB.out.size)); clear hb1; have hk_0 : wb.cell? ⟨w.heap.size, 0, none⟩ = some (.int .i64 c.half) := (HK.out.cell 0).trans rfl; have hk_1 : wb.cell? ⟨w.heap.size, 1, none⟩ = some (.int .i64 c.gain) := (HK.out.cell 1).trans rfl; have hk_2 : wb.cell? ⟨w.heap.size, 2, none⟩ = some (.int .i64 c.thin) := (HK.out.cell 2).trans rfl; have hk_3 : wb.cell? ⟨w.heap.size, 3, none⟩ = some (.int .i64 c.wide) := (HK.out.cell 3).trans rfl; have hk_4 : wb.cell? ⟨w.heap.size, 4, none⟩ = some (.int .i64 c.slope) := (HK.out.cell 4).trans rfl; have hk_5 : wb.cell? ⟨w.heap.size, 5, none⟩ = some (.int .i64 c.jerk) := (HK.out.cell 5).trans rfl; have hk_6 : wb.cell? ⟨w.heap.size, 6, none⟩ = some (.int .i64 c.stylus) := (HK.out.cell 6).trans rfl)
          refine hK.out _ _ ?_ (fun hHeld3 => ?_)
          · ((refine ⟨?_, ?_, ?_, ?_, ?_, ?_, ?_⟩ <;> (repeat (with_reducible (first | refine cell_al _ ?_ | refine cell_dr ?_))) <;> (with_reducible assumption)))
          clear hK
          refine wpAnyH_take (i := 8) (oi := { dst := some 44, op := Op.move (Operand.tmp 43), type := 4, pos := "ref.go:161", after := #[{ on := 7, ground := Ground.data }, { on := 7, ground := Ground.chain }], guard := none }) (v := ?v8_5) rfl (by kernel_rfl) (by kernel_rfl) (by kernel_rfl) (fun _ _ _ h => h) (Or.inl ⟨by rfl, ?hy8_5⟩) hHeld3 ?_
          case hy8_5 => intro w hSw; (try dsimp only at hSw); go_simp; try with_reducible rfl
          simp only [Act.put, List.setIfInBounds_toArray, List.set_cons_zero, List.set_cons_succ]
          refine wpAnyH_take (i := 9) (oi := { dst := some 45, op := Op.load 23 (Operand.tmp 5), type := 23, pos := "ref.go:161", after := #[{ on := 8, ground := Ground.guard }], guard := some (8, false) }) (v := undef) rfl (by kernel_rfl) (by kernel_rfl) (by kernel_rfl) (fun _ _ _ h => h) (Or.inr ⟨by rfl, rfl⟩) hHeld3 ?_
          simp only [Act.put, List.setIfInBounds_toArray, List.set_cons_zero, List.set_cons_succ]
          refine wpAnyH_take (i := 10) (oi := { dst := some 46, op := Op.move (Operand.tmp 1), type := 29, pos := "ref.go:161", after := #[{ on := 8, ground := Ground.guard }], guard := some (8, false) }) (v := undef) rfl (by kernel_rfl) (by kernel_rfl) (by kernel_rfl) (fun _ _ _ h => h) (Or.inr ⟨by rfl, rfl⟩) hHeld3 ?_
          simp only [Act.put, List.setIfInBounds_toArray, List.set_cons_zero, List.set_cons_succ]
          refine wpAnyH_take (i := 11) (oi := { dst := some 47, op := Op.call { callee := Callee.value (Operand.func 76), args := #[Operand.tmp 46, Operand.const (Value.bool true)], argTypes := #[29, 4] }, type := 108, pos := "ref.go:161", after := #[{ on := 10, ground := Ground.data }, { on := 8, ground := Ground.chain }, { on := 8, ground := Ground.guard }], guard := some (8, false) }) (v := undef) rfl (by kernel_rfl) (by kernel_rfl) (by kernel_rfl) (fun _ _ _ h => h) (Or.inr ⟨by rfl, rfl⟩) hHeld3 ?_
          simp only [Act.put, List.setIfInBounds_toArray, List.set_cons_zero, List.set_cons_succ]
          refine wpAnyH_take (i := 12) (oi := { dst := some 48, op := Op.move (Operand.tmp 2), type := 2, pos := "ref.go:161", after := #[{ on := 8, ground := Ground.guard }], guard := some (8, false) }) (v := undef) rfl (by kernel_rfl) (by kernel_rfl) (by kernel_rfl) (fun _ _ _ h => h) (Or.inr ⟨by rfl, rfl⟩) hHeld3 ?_
          simp only [Act.put, List.setIfInBounds_toArray, List.set_cons_zero, List.set_cons_succ]
          refine wpAnyH_take (i := 13) (oi := { dst := some 49, op := Op.move (Operand.tmp 3), type := 2, pos := "ref.go:161", after := #[{ on := 8, ground := Ground.guard }], guard := some (8, false) }) (v := undef) rfl (by kernel_rfl) (by kernel_rfl) (by kernel_rfl) (fun _ _ _ h => h) (Or.inr ⟨by rfl, rfl⟩) hHeld3 ?_
          simp only [Act.put, List.setIfInBounds_toArray, List.set_cons_zero, List.set_cons_succ]
          refine wpAnyH_take (i := 14) (oi := { dst := some 50, op := Op.move (Operand.tmp 4), type := 3, pos := "ref.go:161", after := #[{ on := 8, ground := Ground.guard }], guard := some (8, false) }) (v := undef) rfl (by kernel_rfl) (by kernel_rfl) (by kernel_rfl) (fun _ _ _ h => h) (Or.inr ⟨by rfl, rfl⟩) hHeld3 ?_
          simp only [Act.put, List.setIfInBounds_toArray, List.set_cons_zero, List.set_cons_succ]
          refine wpAnyH_take (i := 15) (oi := { dst := some 51, op := Op.move (Operand.tmp 12), type := 3, pos := "ref.go:161", after := #[{ on := 8, ground := Ground.guard }], guard := some (8, false) }) (v := undef) rfl (by kernel_rfl) (by kernel_rfl) (by kernel_rfl) (fun _ _ _ h => h) (Or.inr ⟨by rfl, rfl⟩) hHeld3 ?_
          simp only [Act.put, List.setIfInBounds_toArray, List.set_cons_zero, List.set_cons_succ]
          refine wpAnyH_take (i := 16) (oi := { dst := some 52, op := Op.call { callee := Callee.value (Operand.func 75), args := #[Operand.tmp 45, Operand.tmp 47, Operand.tmp 48, Operand.tmp 49, Operand.tmp 50, Operand.tmp 51], argTypes := #[23, 108, 2, 2, 3, 3] }, type := 4, pos := "ref.go:161", after := #[{ on := 9, ground := Ground.data }, { on := 11, ground := Ground.data }, { on := 12, ground := Ground.data }, { on := 13, ground := Ground.data }, { on := 14, ground := Ground.data }, { on := 15, ground := Ground.data }, { on := 11, ground := Ground.chain }, { on := 8, ground := Ground.guard }], guard := some (8, false) }) (v := undef) rfl (by kernel_rfl) (by kernel_rfl) (by kernel_rfl) (fun _ _ _ h => h) (Or.inr ⟨by rfl, rfl⟩) hHeld3 ?_
          simp only [Act.put, List.setIfInBounds_toArray, List.set_cons_zero, List.set_cons_succ]
          refine wpAnyH_take (i := 17) (oi := { dst := some 53, op := Op.pick (Operand.tmp 44) (Operand.const (Value.bool true)) (Operand.tmp 52), type := 4, pos := "ref.go:161", after := #[{ on := 8, ground := Ground.data }, { on := 16, ground := Ground.data }], guard := none }) (v := ?v17_5) rfl (by kernel_rfl) (by kernel_rfl) (by kernel_rfl) (fun _ _ _ h => h) (Or.inl ⟨by rfl, ?hy17_5⟩) hHeld3 ?_
          case hy17_5 => intro w hSw; (try dsimp only at hSw); go_simp; try with_reducible rfl
          simp only [Act.put, List.setIfInBounds_toArray, List.set_cons_zero, List.set_cons_succ]
          refine wpAnyH_done (by kernel_rfl) ?_ _
          go_wp2_with fail
          go_ret
          exact ⟨ret_i (by rw [HBR.out, C3.out, C4.out]; simp), HB.out⟩
    · clear HJ
      have C3 := Lib.hid c3
      have C4 := Lib.hid c4
      have C5 := Lib.hid c5
      clear c3 c4 c5
      go_wp2_with fail
      go_ret
      exact ⟨ret_i (by rw [HBR.out, C3.out, C4.out, C5.out]; simp), HB.out⟩
end Go.Proofs.Ytaiigdbbpdkamaa
