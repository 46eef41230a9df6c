/-
  The document's wall and Cut.
-/
import Derived.Test.YtaiigdbbpdkamaaY1
import Derived.Test.YtaiigdbbpdkamaaR5
import Derived.Test.YtaiigdbbpdkamaaA4
namespace Go.Proofs.Ytaiigdbbpdkamaa
open Go.RowKit

set_option maxHeartbeats 1000000 in
theorem refwall_any (c : Ctr) (s : Smp) (w : World) (hc : CtOk c) (hs : SmOk s) :
    Calls Try.prog 43 #[.agg #[.int .i64 c.half, .int .i64 c.gain, .int .i64 c.thin, .int .i64 c.wide, .int .i64 c.slope, .int .i64 c.jerk, .int .i64 c.stylus], .agg #[.int .i64 s.1, .int .i64 s.2]] w fun e w' => e = .returned (.agg #[.int .i64 (wallP c s).1, .int .i64 (wallP c s).2]) ∧ Below w.heap.size w w' := by
  obtain ⟨d1, d2, d3, d4⟩ := hs
  have m1 := prod_bd hc (x := s.1) (by omega) (by omega)
  have m2 := prod_bd hc (x := s.2) (by omega) (by omega)
  have s1 := swg_bd hc d1 d2
  have s2 := swg_bd hc d3 d4
  have h1 := hc.h1
  have h2 := hc.h2
  have hv : (wallP c s).1 = -c.half + swg c s.2 ∧ (wallP c s).2 = c.half + swg c s.1 := by unfold wallP; dsimp only; omega
  have HV := Lib.hid hv
  unfold swg at s1 s2
  obtain ⟨s3, s4⟩ := s1
  obtain ⟨s5, s6⟩ := s2
  have x1 : IntKind.i64.wrap (s.1 * c.gain) = s.1 * c.gain := IntWalk.i64_in _ (by omega)
  have x2 : IntKind.i64.wrap (s.2 * c.gain) = s.2 * c.gain := IntWalk.i64_in _ (by omega)
  have x3 : IntKind.i64.wrap ((s.1 * c.gain).tdiv 1000) = (s.1 * c.gain).tdiv 1000 := IntWalk.i64_in _ (by omega)
  have x4 : IntKind.i64.wrap ((s.2 * c.gain).tdiv 1000) = (s.2 * c.gain).tdiv 1000 := IntWalk.i64_in _ (by omega)
  have x5 : IntKind.i64.wrap (-c.half) = -c.half := IntWalk.i64_in _ (by omega)
  have x6 : IntKind.i64.wrap (-c.half + (s.2 * c.gain).tdiv 1000) = -c.half + (s.2 * c.gain).tdiv 1000 := IntWalk.i64_in _ (by omega)
  have x7 : IntKind.i64.wrap (c.half + (s.1 * c.gain).tdiv 1000) = c.half + (s.1 * c.gain).tdiv 1000 := IntWalk.i64_in _ (by omega)
  clear m1 m2 hv
  go_enter Try.func43, Try.ntmps43
  go_wp2
  refine bodyPost_ret (v := .agg #[.int .i64 (-c.half + (s.2 * c.gain).tdiv 1000), .int .i64 (c.half + (s.1 * c.gain).tdiv 1000)]) (by simp [results, Try.results43, go_sem]) rfl ⟨by rw [HV.out.1, HV.out.2]; rfl, (((Below.refl _ _).alloc (Nat.le_refl _) _).alloc (by simp) _).alloc (by simp <;> omega) _⟩

theorem own_readsC {w : World} {base : Nat} {e : TypeId} {size : Nat} {v : Value} {n : Nat} {xs : List Value} (h : w.ownsRow base e size v n xs) :
    ∃ A c, v = .slice A n c ∧ Reads w w.heap.size size A n xs ∧ n ≤ c := by
  rcases h.2 with ⟨rfl, rfl⟩ | ⟨g, cap, cur, rfl, _, _, h1, _⟩
  · exact ⟨none, 0, rfl, ⟨h.1, fun hn => absurd hn (by omega)⟩, Nat.le_refl _⟩
  · exact ⟨some ⟨g, 0, none⟩, cap, rfl, ⟨h.1, fun hn => ⟨⟨g, 0, none⟩, rfl, (h.lt g rfl).2, h.cells (g := g) rfl⟩⟩, h1⟩
/-- A slice of points that the call has made, within its capacity. -/
def CutPostC (w : World) (er : Int) (l : List Smp) (e : Ending) (w' : World) : Prop :=
  ∃ A n k, e = .returned (.tuple #[.slice A n k, .int .i64 er]) ∧ RS w' w'.heap.size A n l ∧ n ≤ k ∧ Below w.heap.size w w'

set_option maxRecDepth 100000 in
set_option maxHeartbeats 8000000 in
theorem refCut_any (B : Nat) (A : Option Addr) (n k : Nat) (c : Ctr) (xs : List Smp) (w : World) (h0 : RS w B A n xs) (hB : B ≤ w.heap.size) (hl : n ≤ 9223372036854775807) (hi : I64s xs) :
    Calls Try.prog 20 #[.agg #[.int .i64 c.half, .int .i64 c.gain, .int .i64 c.thin, .int .i64 c.wide, .int .i64 c.slope, .int .i64 c.jerk, .int .i64 c.stylus], .slice A n k] w (CutPostC w (cutEr c xs) (cutRes c xs)) := by
  have HN := Lib.hid h0.1
  have H := Lib.hid (h0.more hB)
  clear h0 hB
  have CS := Lib.hid (fun W (hb : Below w.heap.size w W) => refCheckSamples_any w.heap.size A n k xs W (H.out.below hb (Nat.le_refl _)) hb.size hl hi)
  have CK := Lib.hid (fun W => refCheck_any c W)
  obtain ⟨i0, hi0, hz0, hz1, hz2⟩ := info_parts info_pt
  have HI0 := Lib.hid hi0
  have HZ0 := Lib.hid hz0
  have HZ1 := Lib.hid hz1
  have HZ2 := Lib.hid hz2
  clear hi0 hz0 hz1 hz2
  by_cases hc : ckC c = 0
  rotate_left
  · have h2 : ckC c = 2 := by rcases ckC_2 c with h | h <;> omega
    have he : cutEr c xs = 2 := by unfold cutEr; rw [h2]; rfl
    have hr : cutRes c xs = [] := by unfold cutRes; rw [if_neg (by omega)]
    rw [h2] at CK
    rw [he, hr]
    clear hc h2 he hr
    go_enter Try.func20, Try.ntmps20
    go_wp2_with fail
    obtain ⟨W0, hW⟩ : ∃ W0, w.alloc (.cells #[.int .i64 c.half, .int .i64 c.gain, .int .i64 c.thin, .int .i64 c.wide, .int .i64 c.slope, .int .i64 c.jerk, .int .i64 c.stylus] 23) = W0 := ⟨_, rfl⟩
    have HK : Hid (Blk W0 w.heap.size 23 #[.int .i64 c.half, .int .i64 c.gain, .int .i64 c.thin, .int .i64 c.wide, .int .i64 c.slope, .int .i64 c.jerk, .int .i64 c.stylus]) := Lib.hid (by rw [← hW]; exact Blk.new _ _ _)
    have HB : Hid (Below w.heap.size w W0) := Lib.hid (by rw [← hW]; exact (Below.refl _ w).alloc (Nat.le_refl _) _)
    rw [hW]
    clear hW
    go_wp2_with fail
    refine (CK.out _).mono ?_
    rintro e w1 ⟨rfl, hb1⟩
    replace HB := Lib.hid (HB.out.trans (hb1.mono HB.out.size))
    clear hb1
    go_wp2
    go_ret2
    exact ⟨_, _, _, rfl, ⟨rfl, Reads.none_⟩, Nat.le_refl _, HB.out⟩
  by_cases hsz : ckS xs = 0
  rotate_left
  · have he : cutEr c xs = ckS xs := by unfold cutEr; rw [hc]; simp [orL]; omega
    have hr : cutRes c xs = [] := by unfold cutRes; rw [if_neg (by omega)]
    obtain ⟨g, hg⟩ : ∃ g, ckS xs = g := ⟨_, rfl⟩
    rw [hg] at CS he hsz
    rw [hc] at CK
    rw [he, hr]
    have hne : (g == 0) = false := by simpa using hsz
    have hne' : (g != 0) = true := by simpa using hsz
    clear hc hg he hr hsz
    go_enter Try.func20, Try.ntmps20
    go_wp2_with fail
    obtain ⟨W0, hW⟩ : ∃ W0, w.alloc (.cells #[.int .i64 c.half, .int .i64 c.gain, .int .i64 c.thin, .int .i64 c.wide, .int .i64 c.slope, .int .i64 c.jerk, .int .i64 c.stylus] 23) = W0 := ⟨_, rfl⟩
    have HK : Hid (Blk W0 w.heap.size 23 #[.int .i64 c.half, .int .i64 c.gain, .int .i64 c.thin, .int .i64 c.wide, .int .i64 c.slope, .int .i64 c.jerk, .int .i64 c.stylus]) := Lib.hid (by rw [← hW]; exact Blk.new _ _ _)
    have HB : Hid (Below w.heap.size w W0) := Lib.hid (by rw [← hW]; exact (Below.refl _ w).alloc (Nat.le_refl _) _)
    rw [hW]
    clear hW
    go_wp2_with fail
    refine (CK.out _).mono ?_
    rintro e w1 ⟨rfl, hb1⟩
    replace HB := Lib.hid (HB.out.trans (hb1.mono HB.out.size))
    clear hb1
    go_wp2_with fail
    refine (CS.out _ HB.out).mono ?_
    rintro e w2 ⟨rfl, hb1⟩
    replace HB := Lib.hid (HB.out.trans (hb1.mono HB.out.size))
    clear hb1
    go_wp2_with fail
    refine (CS.out _ HB.out).mono ?_
    rintro e w3 ⟨rfl, hb1⟩
    replace HB := Lib.hid (HB.out.trans (hb1.mono HB.out.size))
    clear hb1
    go_wp2
    go_ret2
    exact ⟨_, _, _, rfl, ⟨rfl, Reads.none_⟩, Nat.le_refl _, HB.out⟩
  have he : cutEr c xs = 0 := by unfold cutEr; rw [hc, hsz]; rfl
  have hr : cutRes c xs = xs.map (wallP c) := by unfold cutRes; rw [if_pos he]
  have HC := Lib.hid (ckC_ok hc)
  have HSO := Lib.hid (ckS_ok hsz)
  have hn4 : n ≤ 4096 := by have := HSO.out.1; have := HN.out; omega
  rw [hc] at CK
  rw [hsz] at CS
  rw [he, hr]
  clear hc hsz he hr
  go_enter Try.func20, Try.ntmps20
  go_wp2_with fail
  obtain ⟨W0, hW⟩ : ∃ W0, w.alloc (.cells #[.int .i64 c.half, .int .i64 c.gain, .int .i64 c.thin, .int .i64 c.wide, .int .i64 c.slope, .int .i64 c.jerk, .int .i64 c.stylus] 23) = W0 := ⟨_, rfl⟩
  have HK : Hid (Blk W0 w.heap.size 23 #[.int .i64 c.half, .int .i64 c.gain, .int .i64 c.thin, .int .i64 c.wide, .int .i64 c.slope, .int .i64 c.jerk, .int .i64 c.stylus]) := Lib.hid (by rw [← hW]; exact Blk.new _ _ _)
  have HB : Hid (Below w.heap.size w W0) := Lib.hid (by rw [← hW]; exact (Below.refl _ w).alloc (Nat.le_refl _) _)
  rw [hW]
  clear hW
  go_wp2_with fail
  refine (CK.out _).mono ?_
  rintro e w1 ⟨rfl, hb1⟩
  replace HK := Lib.hid (HK.out.below hb1 HK.out.lt)
  replace HB := Lib.hid (HB.out.trans (hb1.mono HB.out.size))
  clear hb1
  go_wp2_with fail
  refine (CS.out _ HB.out).mono ?_
  rintro e w2 ⟨rfl, hb1⟩
  replace HK := Lib.hid (HK.out.below hb1 HK.out.lt)
  replace HB := Lib.hid (HB.out.trans (hb1.mono HB.out.size))
  clear hb1
  go_wp2_with fail
  go_loopw [6, 7] (fun v z wr => ∃ (j : Nat) (sv : Value), j ≤ n ∧ z = .int .i64 j ∧ sv = v ∧ Hid (wr.ownsRow (w.heap.size + 1) 27 2 sv j (smpCells ((xs.take j).map (wallP c)))) ∧ Hid (Blk wr w.heap.size 23 #[.int .i64 c.half, .int .i64 c.gain, .int .i64 c.thin, .int .i64 c.wide, .int .i64 c.slope, .int .i64 c.jerk, .int .i64 c.stylus]) ∧ Hid (Below w.heap.size w wr)) (fun v z wr => n - (intOf z).toNat)
  case atStart => exact ⟨0, _, Nat.zero_le _, rfl, rfl, Lib.hid (World.ownsRow_nil _ _ _ _), HK, HB⟩
  case round =>
    clear HK HB
    obtain ⟨j, sv, hj, rfl, rfl, HO, HK, HB⟩ := hrel
    by_cases hlt : j < n
    · have hjx : j < xs.length := by have := HN.out; omega
      have hA : ∃ ad, A = some ad := by obtain ⟨ad, e, _⟩ := H.out.at2 hjx; exact ⟨ad, e⟩
      obtain ⟨ad, rfl⟩ := hA
      have CX := Lib.hid (fun W (hb : Below w.heap.size w W) => show W.cell? (ad.add (j * 2)) = some (.int .i64 (gAt xs j).1) ∧ W.cell? ⟨(ad.add (j * 2)).block, (ad.add (j * 2)).off + 1, none⟩ = some (.int .i64 (gAt xs j).2) from by
        obtain ⟨ad', e, -, h1, h2⟩ := (H.out.below hb (Nat.le_refl _)).at2 hjx
        obtain rfl := Option.some.inj e
        exact ⟨h1, h2⟩)
      have HSN := Lib.hid (map_take_snoc (wallP c) xs j hjx)
      have hbd := HSO.out.2 _ (List.getElem_mem hjx)
      rw [← gAt_eq hjx] at HSN hbd
      obtain ⟨x, hx⟩ : ∃ x, gAt xs j = x := ⟨_, rfl⟩
      rw [hx] at CX HSN hbd
      have WA := Lib.hid (fun W => refwall_any c x W HC.out hbd)
      obtain ⟨p, hp⟩ : ∃ p, wallP c x = p := ⟨_, rfl⟩
      rw [hp] at WA HSN
      clear hx hbd hp
      obtain ⟨y1, y2⟩ := CX.out _ HB.out
      have hk_0 : wr.cell? ⟨w.heap.size, 0, none⟩ = some (.int .i64 c.half) := (HK.out.cell 0).trans rfl
      have hk_1 : wr.cell? ⟨w.heap.size, 1, none⟩ = some (.int .i64 c.gain) := (HK.out.cell 1).trans rfl
      have hk_2 : wr.cell? ⟨w.heap.size, 2, none⟩ = some (.int .i64 c.thin) := (HK.out.cell 2).trans rfl
      have hk_3 : wr.cell? ⟨w.heap.size, 3, none⟩ = some (.int .i64 c.wide) := (HK.out.cell 3).trans rfl
      have hk_4 : wr.cell? ⟨w.heap.size, 4, none⟩ = some (.int .i64 c.slope) := (HK.out.cell 4).trans rfl
      have hk_5 : wr.cell? ⟨w.heap.size, 5, none⟩ = some (.int .i64 c.jerk) := (HK.out.cell 5).trans rfl
      have hk_6 : wr.cell? ⟨w.heap.size, 6, none⟩ = some (.int .i64 c.stylus) := (HK.out.cell 6).trans rfl
      have HNE1 : Hid (∀ g, sv.ownBlock = some g → g ≠ w.heap.size) := Lib.hid (fun g hg => by have := (HO.out.lt g hg).1; omega)
      go_wp2_with fail
      go_region_held3 (fun w' => w'.cell? ⟨w.heap.size, 0, none⟩ = some (.int .i64 c.half) ∧ w'.cell? ⟨w.heap.size, 1, none⟩ = some (.int .i64 c.gain) ∧ w'.cell? ⟨w.heap.size, 2, none⟩ = some (.int .i64 c.thin) ∧ w'.cell? ⟨w.heap.size, 3, none⟩ = some (.int .i64 c.wide) ∧ w'.cell? ⟨w.heap.size, 4, none⟩ = some (.int .i64 c.slope) ∧ w'.cell? ⟨w.heap.size, 5, none⟩ = some (.int .i64 c.jerk) ∧ w'.cell? ⟨w.heap.size, 6, none⟩ = some (.int .i64 c.stylus) ∧ w'.cell? (ad.add (j * 2)) = some (.int .i64 x.1) ∧ w'.cell? ⟨(ad.add (j * 2)).block, (ad.add (j * 2)).off + 1, none⟩ = some (.int .i64 x.2))
        ((refine ⟨?_, ?_, ?_, ?_, ?_, ?_, ?_, ?_, ?_⟩ <;> (repeat (with_reducible (first | refine cell_al _ ?_ | refine cell_dr ?_))) <;> (with_reducible assumption)))
        (first | (go_at_call 43; refine (WA.out _).mono ?_; rintro e w5 ⟨rfl, hb1⟩; have HK := Lib.hid (by first | exact HK.out.below hb1 HK.out.lt | exact HK.out.drew.below hb1 HK.out.lt); have HO := Lib.hid (by first | exact own_below HO.out hb1 | exact own_below HO.out.drew hb1); have HB := Lib.hid (by first | exact HB.out.trans (hb1.mono HB.out.size) | exact HB.out.drew.trans (hb1.mono HB.out.size)); clear hb1; obtain ⟨y1, y2⟩ := CX.out _ HB.out; have hk_0 : w5.cell? ⟨w.heap.size, 0, none⟩ = some (.int .i64 c.half) := (HK.out.cell 0).trans rfl; have hk_1 : w5.cell? ⟨w.heap.size, 1, none⟩ = some (.int .i64 c.gain) := (HK.out.cell 1).trans rfl; have hk_2 : w5.cell? ⟨w.heap.size, 2, none⟩ = some (.int .i64 c.thin) := (HK.out.cell 2).trans rfl; have hk_3 : w5.cell? ⟨w.heap.size, 3, none⟩ = some (.int .i64 c.wide) := (HK.out.cell 3).trans rfl; have hk_4 : w5.cell? ⟨w.heap.size, 4, none⟩ = some (.int .i64 c.slope) := (HK.out.cell 4).trans rfl; have hk_5 : w5.cell? ⟨w.heap.size, 5, none⟩ = some (.int .i64 c.jerk) := (HK.out.cell 5).trans rfl; have hk_6 : w5.cell? ⟨w.heap.size, 6, none⟩ = some (.int .i64 c.stylus) := (HK.out.cell 6).trans rfl) | (refine step_append_any _ rfl (.tmp 22) (.tmp 29) _ rfl (w.heap.size + 1) 27 i0 _ 2 16 Try.underlying29 HI0.out HZ0.out HZ1.out HZ2.out rfl (by omega) sv j _ rfl (HO.out.alloc _) _ _ 1 _ _ rfl (reads_cells (blk_al (by simp)) (Nat.lt_succ_self _) (by rfl) (by rfl)) (by intro u hu; simp at hu; rcases hu with rfl | rfl <;> rfl) (by unfold maxLen; omega) (by omega) (by have := HK.out.lt; simp; omega) ?_; intro sv2 w6 hown' hgrow hblk; have HO2 := Lib.hid hown'; have HB := Lib.hid ((HB.out.alloc HB.out.size _).grown hgrow (by have := HB.out.size; simp; omega) (fun g hg => by have := (HO.out.lt g hg).1; omega)); have HK := Lib.hid ((HK.out.alloc _).grown hgrow (fun e => HNE1.out _ e.symm rfl)); clear hown' hgrow hblk; obtain ⟨y1, y2⟩ := CX.out _ HB.out; have hk_0 : w6.cell? ⟨w.heap.size, 0, none⟩ = some (.int .i64 c.half) := (HK.out.cell 0).trans rfl; have hk_1 : w6.cell? ⟨w.heap.size, 1, none⟩ = some (.int .i64 c.gain) := (HK.out.cell 1).trans rfl; have hk_2 : w6.cell? ⟨w.heap.size, 2, none⟩ = some (.int .i64 c.thin) := (HK.out.cell 2).trans rfl; have hk_3 : w6.cell? ⟨w.heap.size, 3, none⟩ = some (.int .i64 c.wide) := (HK.out.cell 3).trans rfl; have hk_4 : w6.cell? ⟨w.heap.size, 4, none⟩ = some (.int .i64 c.slope) := (HK.out.cell 4).trans rfl; have hk_5 : w6.cell? ⟨w.heap.size, 5, none⟩ = some (.int .i64 c.jerk) := (HK.out.cell 5).trans rfl; have hk_6 : w6.cell? ⟨w.heap.size, 6, none⟩ = some (.int .i64 c.stylus) := (HK.out.cell 6).trans rfl))
      clear hk_0 hk_1 hk_2 hk_3 hk_4 hk_5 hk_6
      clear y1 y2
      go_wp2
      go_roundw
      case rel => exact ⟨j + 1, sv2, by omega, by go_num, rfl, Lib.hid (by rw [HSN.out, smpCells_snoc]; exact HO2.out), HK, HB⟩
      case measure => simp [intOf]; omega
    · obtain rfl : j = n := by omega
      obtain ⟨Av, cv, hv, hrd, hcap⟩ := own_readsC HO.out
      obtain rfl := hv
      have hle : xs.take j = xs := List.take_of_length_le (by have := HN.out; omega)
      rw [hle] at hrd
      have HRD := Lib.hid hrd
      clear hrd hle
      go_wp2
      go_ret2
      exact ⟨_, _, _, rfl, ⟨by rw [List.length_map]; exact HN.out, HRD.out⟩, hcap, HB.out⟩
end Go.Proofs.Ytaiigdbbpdkamaa
