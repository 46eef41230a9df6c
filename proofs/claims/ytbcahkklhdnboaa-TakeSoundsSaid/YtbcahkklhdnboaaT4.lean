/-
  The walk of TakePlaces.
-/
import Derived.Test.YtbcahkklhdnboaaC4
import Derived.Test.YtbcahkklhdnboaaG5
import Derived.Test.YtbcahkklhdnboaaT3
namespace Go.Proofs.Ytbcahkklhdnboaa
open Go.RowKit

theorem own_len {w : World} {base : Nat} {e : TypeId} {size n : Nat} {v : Value} {xs : List Value} (h : w.ownsRow base e size v n xs) : n ≤ 9223372036854775807 := by
  rcases h.2 with ⟨rfl, rfl⟩ | ⟨g, cap, cur, rfl, _, _, h1, h2, _⟩
  · omega
  · unfold maxLen at h2; omega
theorem srcCells_length (l : List (Pl × Int)) : (srcCells l).length = l.length * 3 := by
  induction l with
  | nil => rfl
  | cons x xs ih => simp [srcCells, src] at ih ⊢; omega
theorem srcCells_at (l : List (Pl × Int)) : ∀ (k : Nat) (h : k < l.length) (j : Nat), j < 3 → (srcCells l)[k * 3 + j]? = (src l[k])[j]? := by
  induction l with
  | nil => intro k h; simp at h
  | cons x xs ih =>
    intro k h j hj
    show ((src x) ++ srcCells xs)[k * 3 + j]? = _
    cases k with
    | zero => rw [List.getElem?_append_left (by simp [src]; omega)]; simp
    | succ k =>
      rw [List.getElem?_append_right (by simp [src]; omega)]
      rw [show (k + 1) * 3 + j - (src x).length = k * 3 + j from by simp [src]; omega]
      exact ih k (by simpa using h) j hj
theorem src_cells {w : World} {B : Nat} {ad : Addr} {n : Nat} {l : List (Pl × Int)} (h : Reads w B 3 (some ad) n (srcCells l)) {k : Nat} (hk : k < l.length) {a b c : Int} (hs : src l[k] = [.int .i64 a, .int .i64 b, .int .i64 c]) :
    w.cell? (ad.add (k * 3)) = some (.int .i64 a) ∧ w.cell? ⟨(ad.add (k * 3)).block, (ad.add (k * 3)).off + 1, none⟩ = some (.int .i64 b) ∧ w.cell? ⟨(ad.add (k * 3)).block, (ad.add (k * 3)).off + 2, none⟩ = some (.int .i64 c) := by
  have hn := h.1
  rw [srcCells_length] at hn
  obtain ⟨ad', hA, _, hc⟩ := h.2 (by omega)
  cases hA
  have g : ∀ j, j < 3 → ∀ u, (src l[k])[j]? = some u → w.cell? ((ad.add (k * 3)).add j) = some u := by
    intro j hj u hu
    rw [add_of_add]
    exact hc _ _ ((srcCells_at l k hk j hj).trans hu)
  rw [hs] at g
  exact ⟨g 0 (by omega) _ rfl, g 1 (by omega) _ rfl, g 2 (by omega) _ rfl⟩
theorem eq_src (a b c : Int) (w : World) : Sem.run Try.prog (Op.equalIn 10000 36 (.agg #[.int .i64 a, .int .i64 b, .int .i64 c]) (.agg #[.int .i64 a, .int .i64 b, .int .i64 c])) w = .ok true w := by
  simp [go_sem]

set_option maxRecDepth 100000 in
set_option maxHeartbeats 8000000 in
theorem placesLaw_any (A A' : Option Addr) (n c n' c' : Nat) (l : List TV) (ps : List Prt) (t : Int) (w : World) (h0 : RT w w.heap.size A n l) (g0 : RP w w.heap.size A' n' ps)
    (hl : n ≤ 9223372036854775807) (hl' : n' ≤ 9223372036854775807) (hs : TSm l) (hi : I64t l) :
    Calls Try.prog 3 #[.slice A n c, .slice A' n' c', .int .i64 t] w fun e w' => e = .returned (.bool true) ∧ Below w.heap.size w w' := by
  have H := Lib.hid h0
  have G := Lib.hid g0
  have HS := Lib.hid hs
  have HI := Lib.hid hi
  have hR32 : (stsR l ps).length ≤ 9223372036854775807 := by
    unfold stsR
    split
    · rw [placeL_length, ← g0.1]; exact hl'
    · simp
  clear h0 g0 hs hi
  have SA := Lib.hid (fun W (h : RT W W.heap.size A n l) (g : RP W W.heap.size A' n' ps) => starts_any _ A A' n c n' c' l ps W h g (Nat.le_refl _) hl hl' HS.out)
  have SR := Lib.hid (fun W (h : RT W W.heap.size A n l) (g : RP W W.heap.size A' n' ps) => refStartsAll_any _ A A' n c n' c' l ps W h g (Nat.le_refl _) hl hl' HS.out HI.out)
  have TA := Lib.hid (fun W (h : RT W W.heap.size A n l) => CheckTakes_any _ A n c l W h (Nat.le_refl _) hl HS.out)
  have TR := Lib.hid (fun W (h : RT W W.heap.size A n l) => refCheckTakes_any _ A n c l W h (Nat.le_refl _) hl HS.out HI.out)
  have PA := Lib.hid (fun W (h : RT W W.heap.size A n l) (g : RP W W.heap.size A' n' ps) => CheckProgramme_any _ A A' n c n' c' l ps W h g (Nat.le_refl _) hl hl' HS.out)
  have PR := Lib.hid (fun W (h : RT W W.heap.size A n l) (g : RP W W.heap.size A' n' ps) => refCheckProgramme_any _ A A' n c n' c' l ps W h g (Nat.le_refl _) hl hl' HS.out HI.out)
  have OA := Lib.hid (fun W (h : RT W W.heap.size A n l) (g : RP W W.heap.size A' n' ps) => sources_any _ A A' n c n' c' l ps t W h g (Nat.le_refl _) hl hl' HS.out)
  have OR := Lib.hid (fun W (h : RT W W.heap.size A n l) (g : RP W W.heap.size A' n' ps) => refSourcesAll_any _ A A' n c n' c' l ps t W h g (Nat.le_refl _) hl hl' HS.out HI.out)
  have HGR := Lib.hid (great_any _ A A' n c n' c' l w H.out (Nat.le_refl _) hl hl' HS.out)
  obtain ⟨R, hR⟩ : ∃ R, stsR l ps = R := ⟨_, rfl⟩
  obtain ⟨L, hL⟩ : ∃ L, soL l ps t = L := ⟨_, rfl⟩
  obtain ⟨qt, hqt⟩ : ∃ q, ckT l = q := ⟨_, rfl⟩
  obtain ⟨qp, hqp⟩ : ∃ q, ckP l ps = q := ⟨_, rfl⟩
  obtain ⟨qs, hqs⟩ : ∃ q, soEr l ps t = q := ⟨_, rfl⟩
  rw [hR, hqp] at SA SR
  rw [hqt] at TA TR
  rw [hqp] at PA PR
  rw [hqs, hL] at OA OR
  rw [hR] at hR32
  clear hR hL hqt hqp hqs
  obtain ⟨en, hen⟩ : ∃ en, lenP R = en := ⟨_, rfl⟩
  have HEN := Lib.hid hen
  clear hen
  go_enter Try.func3, Try.ntmps3
  go_wp2_with fail
  refine HGR.out.mono ?_
  rintro e w1 ⟨b, rfl, hb1⟩
  have HB1 := Lib.hid hb1
  clear hb1
  cases b
  · go_wp2_with fail
    refine (SA.out _ ((H.out.below HB1.out (Nat.le_refl _)).more HB1.out.size) ((G.out.below HB1.out (Nat.le_refl _)).more HB1.out.size)).mono ?_
    rintro e w2 ⟨A1, c1, rfl, hr1, hb2⟩
    rw [HEN.out]
    have HB2 := Lib.hid (HB1.out.trans (hb2.mono HB1.out.size))
    have R1 := Lib.hid hr1
    clear hb2 hr1
    go_wp2_with fail
    refine (SR.out _ ((H.out.below HB2.out (Nat.le_refl _)).more HB2.out.size) ((G.out.below HB2.out (Nat.le_refl _)).more HB2.out.size)).mono ?_
    rintro e w3 ⟨A2, c2, rfl, hr2, hb3⟩
    rw [HEN.out]
    have HB3 := Lib.hid (HB2.out.trans (hb3.mono HB2.out.size))
    have R1 := Lib.hid ((R1.out.below hb3 (Nat.le_refl _)).more hb3.size)
    have R2 := Lib.hid hr2
    clear hb3 hr2
    go_wp2_with fail
    refine (TA.out _ ((H.out.below HB3.out (Nat.le_refl _)).more HB3.out.size)).mono ?_
    rintro e w4 ⟨rfl, hb4⟩
    have HB4 := Lib.hid (HB3.out.trans (hb4.mono HB3.out.size))
    have R1 := Lib.hid ((R1.out.below hb4 (Nat.le_refl _)).more hb4.size)
    have R2 := Lib.hid ((R2.out.below hb4 (Nat.le_refl _)).more hb4.size)
    clear hb4
    go_wp2_with fail
    refine (TR.out _ ((H.out.below HB4.out (Nat.le_refl _)).more HB4.out.size)).mono ?_
    rintro e w5 ⟨rfl, hb5⟩
    have HB5 := Lib.hid (HB4.out.trans (hb5.mono HB4.out.size))
    have R1 := Lib.hid ((R1.out.below hb5 (Nat.le_refl _)).more hb5.size)
    have R2 := Lib.hid ((R2.out.below hb5 (Nat.le_refl _)).more hb5.size)
    clear hb5
    go_wp2_with fail
    refine (PA.out _ ((H.out.below HB5.out (Nat.le_refl _)).more HB5.out.size) ((G.out.below HB5.out (Nat.le_refl _)).more HB5.out.size)).mono ?_
    rintro e w6 ⟨rfl, hb6⟩
    have HB6 := Lib.hid (HB5.out.trans (hb6.mono HB5.out.size))
    have R1 := Lib.hid ((R1.out.below hb6 (Nat.le_refl _)).more hb6.size)
    have R2 := Lib.hid ((R2.out.below hb6 (Nat.le_refl _)).more hb6.size)
    clear hb6
    go_wp2_with fail
    refine (PR.out _ ((H.out.below HB6.out (Nat.le_refl _)).more HB6.out.size) ((G.out.below HB6.out (Nat.le_refl _)).more HB6.out.size)).mono ?_
    rintro e w7 ⟨rfl, hb7⟩
    have HB7 := Lib.hid (HB6.out.trans (hb7.mono HB6.out.size))
    have R1 := Lib.hid ((R1.out.below hb7 (Nat.le_refl _)).more hb7.size)
    have R2 := Lib.hid ((R2.out.below hb7 (Nat.le_refl _)).more hb7.size)
    clear hb7
    go_wp2_with fail
    go_loopw [13] (fun i wr => ∃ k : Nat, k ≤ R.length ∧ i = .int .i64 k ∧ Hid (Below w7.heap.size w7 wr)) (fun i _ => R.length - (intOf i).toNat)
    case atStart => exact ⟨0, Nat.zero_le _, rfl, Lib.hid (Below.refl _ _)⟩
    case round =>
      obtain ⟨k, hk, rfl, HW⟩ := hrel
      by_cases hlt : k < R.length
      · obtain ⟨ax, hax, -⟩ := R1.out.2 (by omega)
        obtain ⟨ay, hay, -⟩ := R2.out.2 (by omega)
        obtain rfl := hax
        obtain rfl := hay
        obtain ⟨st, hst⟩ : ∃ st, st = (R[k]'hlt).st := ⟨_, rfl⟩
        have y1 := st_cell (R1.out.below HW.out (Nat.le_refl _)) hlt hst
        have y2 := st_cell (R2.out.below HW.out (Nat.le_refl _)) hlt hst
        have k0 : (0 : Int) ≤ (k : Int) := by omega
        have k1 : (k : Int) < (R.length : Int) := by omega
        clear hst
        go_wp2
        go_big_quiet (fail)
        go_wp2
        go_roundw
        case rel => exact ⟨k + 1, by omega, by go_num, Lib.hid (below_drewN_ HW.out _)⟩
        case measure => simp [intOf]; omega
      · have HB8 : Hid (Below w.heap.size w wr) := Lib.hid (HB7.out.trans (HW.out.mono HB7.out.size))
        clear HW
        go_wp2_with fail
        refine (OA.out _ ((H.out.below HB8.out (Nat.le_refl _)).more HB8.out.size) ((G.out.below HB8.out (Nat.le_refl _)).more HB8.out.size)).mono ?_
        rintro e w8 ⟨v, rfl, ho1, hb8⟩
        have HLL : L.length ≤ 9223372036854775807 := own_len ho1
        obtain ⟨A3, c3, rfl, hr3⟩ := own_reads ho1
        have HB9 := Lib.hid (HB8.out.trans (hb8.mono HB8.out.size))
        have R3 := Lib.hid hr3
        clear hb8 hr3 ho1
        go_wp2_with fail
        refine (OR.out _ ((H.out.below HB9.out (Nat.le_refl _)).more HB9.out.size) ((G.out.below HB9.out (Nat.le_refl _)).more HB9.out.size)).mono ?_
        rintro e w9 ⟨v, rfl, ho1, hb9⟩
        obtain ⟨A4, c4, rfl, hr4⟩ := own_reads ho1
        have HB10 := Lib.hid (HB9.out.trans (hb9.mono HB9.out.size))
        have R3 := Lib.hid ((R3.out.below hb9 (Nat.le_refl _)).more hb9.size)
        have R4 := Lib.hid hr4
        clear hb9 hr4 ho1
        go_wp2_with fail
        go_loopw [16] (fun i wr => ∃ k : Nat, k ≤ L.length ∧ i = .int .i64 k ∧ Hid (Below w9.heap.size w9 wr)) (fun i _ => L.length - (intOf i).toNat)
        case atStart => exact ⟨0, Nat.zero_le _, rfl, Lib.hid (Below.refl _ _)⟩
        case round =>
          obtain ⟨k, hk, rfl, HW⟩ := hrel
          by_cases hlt : k < L.length
          · obtain ⟨ax, hax, -⟩ := R3.out.2 (by omega)
            obtain ⟨ay, hay, -⟩ := R4.out.2 (by omega)
            obtain rfl := hax
            obtain rfl := hay
            obtain ⟨a, ha⟩ : ∃ a, a = (L[k]'hlt).1.ix := ⟨_, rfl⟩
            obtain ⟨b, hb⟩ : ∃ a, a = (L[k]'hlt).1.p.tk := ⟨_, rfl⟩
            obtain ⟨d, hd⟩ : ∃ a, a = (L[k]'hlt).1.p.fr + (L[k]'hlt).2 := ⟨_, rfl⟩
            have hsrc : src (L[k]'hlt) = [.int .i64 a, .int .i64 b, .int .i64 d] := by rw [ha, hb, hd]; rfl
            obtain ⟨x0, x1, x2⟩ := src_cells (R3.out.below HW.out (Nat.le_refl _)) hlt hsrc
            obtain ⟨y0, y1, y2⟩ := src_cells (R4.out.below HW.out (Nat.le_refl _)) hlt hsrc
            have hq := eq_src a b d
            have k0 : (0 : Int) ≤ (k : Int) := by omega
            have k1 : (k : Int) < (L.length : Int) := by omega
            clear ha hb hd hsrc
            go_wp2
            go_big_quiet (fail)
            go_wp2
            go_roundw
            case rel => exact ⟨k + 1, by omega, by go_num, Lib.hid (below_drewN_ HW.out _)⟩
            case measure => simp [intOf]; omega
          · have HB11 : Hid (Below w.heap.size w wr) := Lib.hid (HB10.out.trans (HW.out.mono HB10.out.size))
            go_wp2_with fail
            refine (Works_any _).mono ?_
            rintro e w10 ⟨rfl, hb10⟩
            go_wp2
            go_ret
            exact ⟨rfl, HB11.out.trans (hb10.mono HB11.out.size)⟩
  · go_wp2_with fail
    refine (Works_any _).mono ?_
    rintro e w2 ⟨rfl, hb2⟩
    go_wp2
    go_ret
    exact ⟨rfl, HB1.out.trans (hb2.mono HB1.out.size)⟩
end Go.Proofs.Ytbcahkklhdnboaa
