/-
  What is valid of a cutter; points by their index; errors that are all 0.
-/
import Derived.Test.YtjaomjbhkgijbaaMg12
import Derived.Test.YtjaomjbhkgijbaaMg3
import Derived.Deep.RegionHeld3
import Derived.RegionTactic
import Derived.BigRegion

namespace Go.Proofs.Ytjaomjbhkgijbaa
open Go.RowKit

def gAt (l : List Smp) (i : Nat) : Smp := l[i]?.getD (0, 0)
theorem gAt_eq {l : List Smp} {i : Nat} (h : i < l.length) : gAt l i = l[i] := by simp [gAt, h]
theorem RS.at2 {w : World} {B : Nat} {A : Option Addr} {n : Nat} {xs : List Smp} (h : RS w B A n xs) {k : Nat} (hk : k < xs.length) :
    ∃ ad, A = some ad ∧ ad.block < B ∧ w.cell? (ad.add (k * 2)) = some (.int .i64 (gAt xs k).1) ∧ w.cell? ⟨(ad.add (k * 2)).block, (ad.add (k * 2)).off + 1, none⟩ = some (.int .i64 (gAt xs k).2) := by
  rw [gAt_eq hk]; exact h.at_ hk
/-- The bounds of a valid cutter, of a radius and a turn. -/
structure CtOk (c : Ctr) : Prop where
  h1 : 1 ≤ c.half
  h2 : c.half ≤ 4096
  g1 : 0 ≤ c.gain
  g2 : c.gain ≤ 100000
  t1 : 0 ≤ c.thin
  t2 : c.thin ≤ c.wide
  w2 : c.wide ≤ 1048576
  s1 : 0 ≤ c.slope
  s2 : c.slope ≤ 10000
  j1 : 0 ≤ c.jerk
  j2 : c.jerk ≤ 1048576
  y1 : 0 ≤ c.stylus
  y2 : c.stylus ≤ 1024
theorem ctOk_of {c : Ctr} (h : vC c = true) : CtOk c := by
  unfold vC win at h
  simp only [Bool.and_eq_true, decide_eq_true_eq] at h
  obtain ⟨⟨⟨⟨⟨⟨⟨a1, a2⟩, b1, b2⟩, d1, d2⟩, e1, e2⟩, f1, f2⟩, g1, g2⟩, i1, i2⟩ := h
  exact ⟨a1, a2, b1, b2, d1, d2, e2, f1, f2, g1, g2, i1, i2⟩
theorem orL_zero {l : List Int} (h : orL l = 0) : ∀ x ∈ l, x = 0 := by
  induction l with
  | nil => intro x hx; cases hx
  | cons y ys ih =>
    unfold orL at h
    split at h
    · rename_i hy
      intro x hx
      rcases List.mem_cons.1 hx with rfl | hx
      · exact hy
      · exact ih h x hx
    · rename_i hy; exact absurd h hy
theorem ckC_ok {c : Ctr} (h : ckC c = 0) : CtOk c := by
  unfold ckC at h
  split at h
  · rename_i hv; exact ctOk_of hv
  · omega
end Go.Proofs.Ytjaomjbhkgijbaa

/-
  Contracts of swing and Cut.
-/
namespace Go.Proofs.Ytjaomjbhkgijbaa
open Go.RowKit

/-- How far a channel moves its edge. -/
def swg (c : Ctr) (x : Int) : Int := (x * c.gain).tdiv 1000
theorem tdiv_bd {x b : Int} (h1 : -b * 1000 ≤ x) (h2 : x ≤ b * 1000) : -b ≤ x.tdiv 1000 ∧ x.tdiv 1000 ≤ b := by
  rw [Int.tdiv_eq_ediv]
  have : Int.sign 1000 = 1 := rfl
  rw [this]; split <;> omega
theorem mul_abs {x g b : Int} (h1 : -b ≤ x) (h2 : x ≤ b) (h3 : 0 ≤ g) (_h0 : 0 ≤ b) : -(b * g) ≤ x * g ∧ x * g ≤ b * g := by
  constructor
  · have := Int.mul_le_mul_of_nonneg_right h1 h3; rw [Int.neg_mul] at this; exact this
  · exact Int.mul_le_mul_of_nonneg_right h2 h3
theorem prod_bd {c : Ctr} (hc : CtOk c) {x : Int} (h1 : -4294967296 ≤ x) (h2 : x ≤ 4294967296) : -429496729600000 ≤ x * c.gain ∧ x * c.gain ≤ 429496729600000 := by
  obtain ⟨a, b⟩ := mul_abs h1 h2 hc.g1 (by omega)
  have : 4294967296 * c.gain ≤ 4294967296 * 100000 := Int.mul_le_mul_of_nonneg_left hc.g2 (by omega)
  omega
theorem swg_bd {c : Ctr} (hc : CtOk c) {x : Int} (h1 : -32767 ≤ x) (h2 : x ≤ 32767) : -3276700 ≤ swg c x ∧ swg c x ≤ 3276700 := by
  obtain ⟨a, b⟩ := mul_abs h1 h2 hc.g1 (by omega)
  have : 32767 * c.gain ≤ 32767 * 100000 := Int.mul_le_mul_of_nonneg_left hc.g2 (by omega)
  exact tdiv_bd (by omega) (by omega)
/-- The point of a sample. -/
def wallP (c : Ctr) (s : Smp) : Smp := (swg c s.2 - c.half, swg c s.1 + c.half)

set_option maxHeartbeats 1000000 in
theorem swing_any (c : Ctr) (x : Int) (w : World) (hm1 : -429496729600000 ≤ x * c.gain) (hm2 : x * c.gain ≤ 429496729600000) :
    Calls Try.prog 128 #[.agg #[.int .i64 c.half, .int .i64 c.gain, .int .i64 c.thin, .int .i64 c.wide, .int .i64 c.slope, .int .i64 c.jerk, .int .i64 c.stylus], .int .i64 x] w fun e w' => e = .returned (.int .i64 (swg c x)) ∧ Below w.heap.size w w' := by
  go_enter Try.func128, Try.ntmps128
  go_wp2
  go_ret
  exact ⟨ret_i rfl, (Below.refl _ _).alloc (Nat.le_refl _) _⟩

theorem vs_bd {l r : Int} (h : vs l r = true) : -32767 ≤ l ∧ l ≤ 32767 ∧ -32767 ≤ r ∧ r ≤ 32767 := by
  unfold vs win at h
  simp only [Bool.and_eq_true, decide_eq_true_eq] at h
  omega
def cutEr (c : Ctr) (xs : List Smp) : Int := orL [ckC c, ckS xs]
def cutRes (c : Ctr) (xs : List Smp) : List Smp := if cutEr c xs = 0 then xs.map (wallP c) else []
theorem ckS_ok {xs : List Smp} (h : ckS xs = 0) : xs.length ≤ 4096 ∧ ∀ s ∈ xs, -32767 ≤ s.1 ∧ s.1 ≤ 32767 ∧ -32767 ≤ s.2 ∧ s.2 ≤ 32767 := by
  unfold ckS at h
  split at h
  · omega
  · split at h
    · rename_i h1 hv
      exact ⟨by omega, fun s hs => vs_bd (List.all_eq_true.1 hv s hs)⟩
    · omega
theorem cut_ok {c : Ctr} {xs : List Smp} (h : cutEr c xs = 0) : CtOk c ∧ ckS xs = 0 := by
  have h' := orL_zero h
  exact ⟨ckC_ok (h' _ (by simp)), h' (ckS xs) (by simp)⟩
/-- A slice of points that the call has made. -/
def CutPost (w : World) (er : Int) (l : List Smp) (e : Ending) (w' : World) : Prop :=
  ∃ A n k, e = .returned (.tuple #[.slice A n k, .int .i64 er]) ∧ RS w' w'.heap.size A n l ∧ Below w.heap.size w w'
theorem map_take_snoc (f : Smp → Smp) (xs : List Smp) (k : Nat) (h : k < xs.length) : (xs.take (k + 1)).map f = (xs.take k).map f ++ [f xs[k]] := by
  rw [List.take_succ_eq_append_getElem h, List.map_append]; rfl

set_option maxRecDepth 100000 in
set_option maxHeartbeats 8000000 in
theorem Cut_any (B : Nat) (A : Option Addr) (n k : Nat) (c : Ctr) (xs : List Smp) (w : World) (h0 : RS w B A n xs) (hB : B ≤ w.heap.size) (hl : n ≤ 9223372036854775807) :
    Calls Try.prog 61 #[.agg #[.int .i64 c.half, .int .i64 c.gain, .int .i64 c.thin, .int .i64 c.wide, .int .i64 c.slope, .int .i64 c.jerk, .int .i64 c.stylus], .slice A n k] w (CutPost w (cutEr c xs) (cutRes c xs)) := by
  have HN := Lib.hid h0.1
  have H := Lib.hid (h0.more hB)
  clear h0 hB
  have CS := Lib.hid (fun W (hb : Below w.heap.size w W) => CheckSamples_any w.heap.size A n k xs W (H.out.below hb (Nat.le_refl _)) hb.size hl)
  have he : cutEr c xs = orL [ckC c, ckS xs] := rfl
  have CK := Lib.hid (fun W => Check_any c W)
  obtain ⟨e1, h1⟩ : ∃ x, ckC c = x := ⟨_, rfl⟩
  obtain ⟨e2, h2⟩ : ∃ x, ckS xs = x := ⟨_, rfl⟩
  rw [h1] at CK
  rw [h2] at CS
  rw [h1, h2] at he
  obtain ⟨er, h5⟩ : ∃ x, orL [e1, e2] = x := ⟨_, rfl⟩
  rw [h5] at he
  have HER := Lib.hid he
  have HOR := Lib.hid (fun B A n c W h1 h2 h3 h4 => cmpOr_any B A n c [e1, e2] W h1 h2 h3 h4)
  rw [h5] at HOR
  rw [he]
  clear h1 h2 h5 he
  obtain ⟨i0, hi0, hz0, hz1, hz2⟩ := info_parts info_pt
  have HI0 := Lib.hid hi0
  have HZ0 := Lib.hid hz0
  have HZ1 := Lib.hid hz1
  have HZ2 := Lib.hid hz2
  have HMK := Lib.hid (fun (W : World) (hn : n ≤ 4096) => run_make_rowN (P := Try.prog) 78 77 i0 _ Try.underlying78 hi0 hz0 .i64 .i64 0 n (Nat.zero_le _) (by rw [hz2]; omega) (by omega) W)
  clear hi0 hz0 hz2
  go_enter Try.func61, Try.ntmps61
  go_wp2_with fail
  refine (CK.out _).mono ?_
  rintro e w1 ⟨rfl, hb1⟩
  have k0 : Blk w1 w.heap.size 73 #[.int .i64 c.half, .int .i64 c.gain, .int .i64 c.thin, .int .i64 c.wide, .int .i64 c.slope, .int .i64 c.jerk, .int .i64 c.stylus] := (Blk.new _ _ _).below hb1 (by simp)
  have HK := Lib.hid k0
  have HB := Lib.hid (((Below.refl _ w).alloc (Nat.le_refl _) (.cells #[.int .i64 c.half, .int .i64 c.gain, .int .i64 c.thin, .int .i64 c.wide, .int .i64 c.slope, .int .i64 c.jerk, .int .i64 c.stylus] 73)).trans (hb1.mono (by simp)))
  clear hb1 k0
  go_wp2_with fail
  refine (CS.out _ HB.out).mono ?_
  rintro e w2 ⟨rfl, hb1⟩
  have HK := Lib.hid (HK.out.below hb1 HK.out.lt)
  have HB := Lib.hid (HB.out.trans (hb1.mono HB.out.size))
  clear hb1
  go_wp2_with fail
  refine (HOR.out _ _ _ _ _ rfl (reads_cells (blk_al rfl) (Nat.lt_succ_self _) (by rfl) (by rfl)) (by simp) (by simp)).mono ?_
  rintro e w' ⟨rfl, rfl⟩
  obtain ⟨W2, hW2⟩ : ∃ W2, w2.alloc (.cells #[.int .i64 e1, .int .i64 e2] 27) = W2 := ⟨_, rfl⟩
  have HK : Hid (Blk W2 w.heap.size 73 #[.int .i64 c.half, .int .i64 c.gain, .int .i64 c.thin, .int .i64 c.wide, .int .i64 c.slope, .int .i64 c.jerk, .int .i64 c.stylus]) := Lib.hid (by rw [← hW2]; exact HK.out.alloc _)
  have HB : Hid (Below w.heap.size w W2) := Lib.hid (by rw [← hW2]; exact HB.out.alloc HB.out.size _)
  rw [hW2]
  clear hW2
  by_cases hz : er = 0
  · subst hz
    have HRES : Hid (cutRes c xs = xs.map (wallP c)) := Lib.hid (by rw [cutRes, if_pos HER.out])
    have HOK := Lib.hid (cut_ok HER.out)
    have HSO := Lib.hid (ckS_ok HOK.out.2)
    have hn4 : n ≤ 4096 := by have := HSO.out.1; have := HN.out; omega
    have hmk := HMK.out
    have hmk := fun W => hmk W hn4
    rw [hz1] at hmk
    simp only [Int.natCast_zero] at hmk
    go_wp2_with fail
    have hown := World.ownsRow_made (base := w.heap.size + 1) (e := 77) (size := 2) W2 (madeCells (Value.agg #[Value.int IntKind.i64 0, Value.int IntKind.i64 0]).cells (n * 2)) n (by have := HK.out.lt; omega) (by unfold maxLen; omega) (by rw [size_madeCells])
    have hown : (W2.alloc (.cells (madeCells #[.int .i64 0, .int .i64 0] (n * 2)) 77)).ownsRow (w.heap.size + 1) 77 2 (.slice (some ⟨W2.heap.size, 0, none⟩) 0 n) 0 [] := hown
    obtain ⟨W3, hW3⟩ : ∃ W3, W2.alloc (.cells (madeCells #[.int .i64 0, .int .i64 0] (n * 2)) 77) = W3 := ⟨_, rfl⟩
    rw [hW3] at hown ⊢
    have HO := Lib.hid hown
    have HK : Hid (Blk W3 w.heap.size 73 #[.int .i64 c.half, .int .i64 c.gain, .int .i64 c.thin, .int .i64 c.wide, .int .i64 c.slope, .int .i64 c.jerk, .int .i64 c.stylus]) := Lib.hid (by rw [← hW3]; exact HK.out.alloc _)
    have HB : Hid (Below w.heap.size w W3) := Lib.hid (by rw [← hW3]; exact HB.out.alloc HB.out.size _)
    clear hown hmk hW3 hz1
    go_wp2_with fail
    go_loopw [7, 24] (fun v z wr => ∃ (j : Nat) (sv : Value), j ≤ n ∧ z = .int .i64 j ∧ sv = v ∧ Hid (wr.ownsRow (w.heap.size + 1) 77 2 sv j (smpCells ((xs.take j).map (wallP c)))) ∧ Hid (Blk wr w.heap.size 73 #[.int .i64 c.half, .int .i64 c.gain, .int .i64 c.thin, .int .i64 c.wide, .int .i64 c.slope, .int .i64 c.jerk, .int .i64 c.stylus]) ∧ Hid (Below w.heap.size w wr)) (fun v z wr => n - (intOf z).toNat)
    case atStart => exact ⟨0, _, Nat.zero_le _, rfl, rfl, HO, HK, HB⟩
    case round =>
      clear HO HK HB
      obtain ⟨j, sv, hj, rfl, rfl, HO, HK, HB⟩ := hrel
      by_cases hlt : j < n
      · obtain ⟨ad, hA, hbl, y1, y2⟩ := (H.out.below HB.out (Nat.le_refl _)).at2 (k := j) (by have := HN.out; omega)
        obtain rfl := hA
        have hjx : j < xs.length := by have := HN.out; omega
        have HSN := Lib.hid (map_take_snoc (wallP c) xs j hjx)
        have hbd := HSO.out.2 _ (List.getElem_mem hjx)
        rw [← gAt_eq hjx] at HSN hbd
        obtain ⟨x, hx⟩ : ∃ x, gAt xs j = x := ⟨_, rfl⟩
        rw [hx] at y1 y2 HSN hbd
        obtain ⟨d1, d2, d3, d4⟩ := hbd
        have m1 := prod_bd HOK.out.1 (x := x.1) (by omega) (by omega)
        have m2 := prod_bd HOK.out.1 (x := x.2) (by omega) (by omega)
        have SL := Lib.hid (fun W => swing_any c x.1 W m1.1 m1.2)
        have SR := Lib.hid (fun W => swing_any c x.2 W m2.1 m2.2)
        have s1 := swg_bd HOK.out.1 d1 d2
        have s2 := swg_bd HOK.out.1 d3 d4
        have HW : Hid (wallP c x = (swg c x.2 - c.half, swg c x.1 + c.half)) := Lib.hid rfl
        obtain ⟨u1, hu1⟩ : ∃ u, swg c x.1 = u := ⟨_, rfl⟩
        obtain ⟨u2, hu2⟩ : ∃ u, swg c x.2 = u := ⟨_, rfl⟩
        rw [hu1] at SL s1 HW
        rw [hu2] at SR s2 HW
        obtain ⟨s3, s4⟩ := s1
        obtain ⟨s5, s6⟩ := s2
        obtain ⟨f1, f2⟩ := (show 1 ≤ c.half ∧ c.half ≤ 4096 from ⟨HOK.out.1.h1, HOK.out.1.h2⟩)
        have x1 : IntKind.i64.wrap (u2 - c.half) = u2 - c.half := IntWalk.i64_in _ (by omega)
        have x2 : IntKind.i64.wrap (u1 + c.half) = u1 + c.half := IntWalk.i64_in _ (by omega)
        clear hx hu1 hu2 m1 m2
        go_wp2_with fail
        obtain ⟨W4, hW4⟩ : ∃ W4, wr.alloc (.cells #[.int .i64 x.1, .int .i64 x.2] 75) = W4 := ⟨_, rfl⟩
        have hs0 : Blk W4 wr.heap.size 75 #[.int .i64 x.1, .int .i64 x.2] := by rw [← hW4]; exact Blk.new _ _ _
        have HK : Hid (Blk W4 w.heap.size 73 #[.int .i64 c.half, .int .i64 c.gain, .int .i64 c.thin, .int .i64 c.wide, .int .i64 c.slope, .int .i64 c.jerk, .int .i64 c.stylus]) := Lib.hid (by rw [← hW4]; exact HK.out.alloc _)
        have HB : Hid (Below w.heap.size w W4) := Lib.hid (by rw [← hW4]; exact HB.out.alloc HB.out.size _)
        have HNE1 : Hid (∀ g, sv.ownBlock = some g → g ≠ w.heap.size) := Lib.hid (fun g hg => by have := (HO.out.lt g hg).1; omega)
        have HNE2 : Hid (∀ g, sv.ownBlock = some g → g ≠ wr.heap.size) := Lib.hid (fun g hg => by have := (HO.out.lt g hg).2; omega)
        have HO : Hid (W4.ownsRow (w.heap.size + 1) 77 2 sv j (smpCells ((xs.take j).map (wallP c)))) := Lib.hid (by rw [← hW4]; exact HO.out.alloc _)
        rw [hW4]
        clear hW4
        obtain ⟨bs, hbs⟩ : ∃ bs, wr.heap.size = bs := ⟨_, rfl⟩
        rw [hbs] at hs0 HNE2 ⊢
        have HBS := Lib.hid hbs
        have HS := Lib.hid hs0
        clear hbs hs0 y1 y2 hbl
        have p0 : W4.cell? ⟨w.heap.size, 0, none⟩ = some (.int .i64 c.half) := (HK.out.cell 0).trans rfl; have p1 : W4.cell? ⟨w.heap.size, 1, none⟩ = some (.int .i64 c.gain) := (HK.out.cell 1).trans rfl; have p2 : W4.cell? ⟨w.heap.size, 2, none⟩ = some (.int .i64 c.thin) := (HK.out.cell 2).trans rfl; have p3 : W4.cell? ⟨w.heap.size, 3, none⟩ = some (.int .i64 c.wide) := (HK.out.cell 3).trans rfl; have p4 : W4.cell? ⟨w.heap.size, 4, none⟩ = some (.int .i64 c.slope) := (HK.out.cell 4).trans rfl; have p5 : W4.cell? ⟨w.heap.size, 5, none⟩ = some (.int .i64 c.jerk) := (HK.out.cell 5).trans rfl; have p6 : W4.cell? ⟨w.heap.size, 6, none⟩ = some (.int .i64 c.stylus) := (HK.out.cell 6).trans rfl
        have q0 : W4.cell? ⟨bs, 0, none⟩ = some (.int .i64 x.1) := (HS.out.cell 0).trans rfl; have q1 : W4.cell? ⟨bs, 1, none⟩ = some (.int .i64 x.2) := (HS.out.cell 1).trans rfl
        go_region_held3 (fun w' => w'.cell? ⟨w.heap.size, 0, none⟩ = some (.int .i64 c.half) ∧ w'.cell? ⟨w.heap.size, 1, none⟩ = some (.int .i64 c.gain) ∧ w'.cell? ⟨w.heap.size, 2, none⟩ = some (.int .i64 c.thin) ∧ w'.cell? ⟨w.heap.size, 3, none⟩ = some (.int .i64 c.wide) ∧ w'.cell? ⟨w.heap.size, 4, none⟩ = some (.int .i64 c.slope) ∧ w'.cell? ⟨w.heap.size, 5, none⟩ = some (.int .i64 c.jerk) ∧ w'.cell? ⟨w.heap.size, 6, none⟩ = some (.int .i64 c.stylus) ∧ w'.cell? ⟨bs, 0, none⟩ = some (.int .i64 x.1) ∧ w'.cell? ⟨bs, 1, none⟩ = some (.int .i64 x.2))
          ((refine ⟨?_, ?_, ?_, ?_, ?_, ?_, ?_, ?_, ?_⟩ <;> (repeat (with_reducible (first | refine cell_al _ ?_ | refine cell_dr ?_))) <;> (with_reducible assumption)))
          (first | (refine step_append_any _ rfl (.tmp 28) (.tmp 44) _ rfl (w.heap.size + 1) 77 i0 _ 2 16 Try.underlying78 HI0.out HZ0.out HZ1.out HZ2.out rfl (by omega) sv j _ rfl (HO.out.alloc _) _ _ 1 _ _ rfl (reads_cells (blk_al rfl) (Nat.lt_succ_self _) (by rfl) (by rfl)) (by intro u hu; simp at hu; rcases hu with rfl | rfl <;> rfl) (by unfold maxLen; omega) (by omega) (by have := HB.out.size; have := HK.out.lt; simp; omega) ?_; intro sv2 w6 hown' hgrow hblk; have HO2 := Lib.hid hown'; have HG := Lib.hid hgrow; clear hown' hgrow hblk; have HB := Lib.hid ((HB.out.alloc HB.out.size _).grown HG.out (by have := HB.out.size; simp; omega) (fun g hg => by have := (HO.out.lt g hg).1; omega)); have HK := Lib.hid ((HK.out.alloc _).grown HG.out (fun e => HNE1.out _ e.symm rfl)); have HS := Lib.hid ((HS.out.alloc _).grown HG.out (fun e => HNE2.out _ e.symm rfl)); have p0 : w6.cell? ⟨w.heap.size, 0, none⟩ = some (.int .i64 c.half) := (HK.out.cell 0).trans rfl; have p1 : w6.cell? ⟨w.heap.size, 1, none⟩ = some (.int .i64 c.gain) := (HK.out.cell 1).trans rfl; have p2 : w6.cell? ⟨w.heap.size, 2, none⟩ = some (.int .i64 c.thin) := (HK.out.cell 2).trans rfl; have p3 : w6.cell? ⟨w.heap.size, 3, none⟩ = some (.int .i64 c.wide) := (HK.out.cell 3).trans rfl; have p4 : w6.cell? ⟨w.heap.size, 4, none⟩ = some (.int .i64 c.slope) := (HK.out.cell 4).trans rfl; have p5 : w6.cell? ⟨w.heap.size, 5, none⟩ = some (.int .i64 c.jerk) := (HK.out.cell 5).trans rfl; have p6 : w6.cell? ⟨w.heap.size, 6, none⟩ = some (.int .i64 c.stylus) := (HK.out.cell 6).trans rfl; have q0 : w6.cell? ⟨bs, 0, none⟩ = some (.int .i64 x.1) := (HS.out.cell 0).trans rfl; have q1 : w6.cell? ⟨bs, 1, none⟩ = some (.int .i64 x.2) := (HS.out.cell 1).trans rfl) | (go_at_call 128; refine (SR.out _).mono ?_; rintro e w5 ⟨rfl, hb1⟩; have HK := Lib.hid (HK.out.drew.below hb1 HK.out.lt); have HS := Lib.hid (HS.out.drew.below hb1 HS.out.lt); have HB := Lib.hid (HB.out.drew.trans (hb1.mono HB.out.size)); have HO := Lib.hid (own_below (HO.out.drew) hb1); clear hb1; have p0 : w5.cell? ⟨w.heap.size, 0, none⟩ = some (.int .i64 c.half) := (HK.out.cell 0).trans rfl; have p1 : w5.cell? ⟨w.heap.size, 1, none⟩ = some (.int .i64 c.gain) := (HK.out.cell 1).trans rfl; have p2 : w5.cell? ⟨w.heap.size, 2, none⟩ = some (.int .i64 c.thin) := (HK.out.cell 2).trans rfl; have p3 : w5.cell? ⟨w.heap.size, 3, none⟩ = some (.int .i64 c.wide) := (HK.out.cell 3).trans rfl; have p4 : w5.cell? ⟨w.heap.size, 4, none⟩ = some (.int .i64 c.slope) := (HK.out.cell 4).trans rfl; have p5 : w5.cell? ⟨w.heap.size, 5, none⟩ = some (.int .i64 c.jerk) := (HK.out.cell 5).trans rfl; have p6 : w5.cell? ⟨w.heap.size, 6, none⟩ = some (.int .i64 c.stylus) := (HK.out.cell 6).trans rfl; have q0 : w5.cell? ⟨bs, 0, none⟩ = some (.int .i64 x.1) := (HS.out.cell 0).trans rfl; have q1 : w5.cell? ⟨bs, 1, none⟩ = some (.int .i64 x.2) := (HS.out.cell 1).trans rfl) | (go_at_call 128; refine (SL.out _).mono ?_; rintro e w5 ⟨rfl, hb1⟩; have HK := Lib.hid (HK.out.below hb1 HK.out.lt); have HS := Lib.hid (HS.out.below hb1 HS.out.lt); have HB := Lib.hid (HB.out.trans (hb1.mono HB.out.size)); have HO := Lib.hid (own_below (HO.out) hb1); clear hb1; have p0 : w5.cell? ⟨w.heap.size, 0, none⟩ = some (.int .i64 c.half) := (HK.out.cell 0).trans rfl; have p1 : w5.cell? ⟨w.heap.size, 1, none⟩ = some (.int .i64 c.gain) := (HK.out.cell 1).trans rfl; have p2 : w5.cell? ⟨w.heap.size, 2, none⟩ = some (.int .i64 c.thin) := (HK.out.cell 2).trans rfl; have p3 : w5.cell? ⟨w.heap.size, 3, none⟩ = some (.int .i64 c.wide) := (HK.out.cell 3).trans rfl; have p4 : w5.cell? ⟨w.heap.size, 4, none⟩ = some (.int .i64 c.slope) := (HK.out.cell 4).trans rfl; have p5 : w5.cell? ⟨w.heap.size, 5, none⟩ = some (.int .i64 c.jerk) := (HK.out.cell 5).trans rfl; have p6 : w5.cell? ⟨w.heap.size, 6, none⟩ = some (.int .i64 c.stylus) := (HK.out.cell 6).trans rfl; have q0 : w5.cell? ⟨bs, 0, none⟩ = some (.int .i64 x.1) := (HS.out.cell 0).trans rfl; have q1 : w5.cell? ⟨bs, 1, none⟩ = some (.int .i64 x.2) := (HS.out.cell 1).trans rfl))
        clear p0 p1 p2 p3 p4 p5 p6 q0 q1 x1 x2
        go_wp2
        go_roundw
        case rel =>
          refine ⟨j + 1, sv2, by omega, by go_num, rfl, Lib.hid ?_, HK, HB⟩
          rw [HSN.out, smpCells_snoc, HW.out]; exact HO2.out
        case measure => simp [intOf]; omega
      · obtain rfl : j = n := by omega
        obtain ⟨Av, cv, hv, hrd⟩ := own_reads HO.out
        obtain rfl := hv
        have hle : xs.take j = xs := List.take_of_length_le (by have := HN.out; omega)
        rw [hle] at hrd
        have HRD := Lib.hid hrd
        clear hrd hle
        go_wp2
        go_ret2
        refine ⟨_, _, _, rfl, ?_, HB.out⟩
        rw [HRES.out]
        exact ⟨by rw [List.length_map]; exact HN.out, HRD.out⟩
  · have hz1 : (er == 0) = false := by simpa using hz
    have hz2 : (er != 0) = true := by simpa using hz
    have HZ := Lib.hid hz
    clear hz
    go_wp2
    go_ret2
    refine ⟨_, _, _, rfl, ?_, HB.out⟩
    rw [cutRes, if_neg (by rw [HER.out]; exact HZ.out)]
    exact ⟨rfl, Reads.none_⟩
end Go.Proofs.Ytjaomjbhkgijbaa

/-
  Contracts of checkRange, checkRadius, checkTurn of package groove.
-/
namespace Go.Proofs.Ytjaomjbhkgijbaa
open Go.RowKit

def ckN (lo x hi : Int) : Int := if win x lo hi = true then 0 else 3
set_option maxHeartbeats 400000 in
theorem checkRange_any (lo x hi : Int) (w : World) :
    Calls Try.prog 178 #[.int .i64 lo, .int .i64 x, .int .i64 hi] w fun e w' => e = .returned (.int .i64 (ckN lo x hi)) ∧ w = w' := by
  cases h1 : win x lo hi
  all_goals
    have H1 := Lib.hid h1
    clear h1
    go_enter Try.func178, Try.ntmps178
    go_wp2_with ((with_reducible refine (between_any _ _ _ _).mono ?_); rintro e w' ⟨rfl, rfl⟩; (try rw [H1.out]))
    go_ret
    exact ⟨ret_i (by unfold ckN; rw [H1.out]; rfl), rfl⟩

def ckR (r : Int) : Int := ckN 0 r 4194304
def ckTn (per : Int) : Int := ckN 1 per 65536
set_option maxHeartbeats 400000 in
theorem checkRadius_any (r : Int) (w : World) :
    Calls Try.prog 172 #[.int .i64 r] w fun e w' => e = .returned (.int .i64 (ckR r)) ∧ w = w' := by
  go_enter Try.func172, Try.ntmps172
  go_wp2_with ((with_reducible refine (checkRange_any _ _ _ _).mono ?_); rintro e w' ⟨rfl, rfl⟩)
  go_ret
  exact ⟨rfl, rfl⟩
set_option maxHeartbeats 400000 in
theorem checkTurn_any (r : Int) (w : World) :
    Calls Try.prog 140 #[.int .i64 r] w fun e w' => e = .returned (.int .i64 (ckTn r)) ∧ w = w' := by
  go_enter Try.func140, Try.ntmps140
  go_wp2_with ((with_reducible refine (checkRange_any _ _ _ _).mono ?_); rintro e w' ⟨rfl, rfl⟩)
  go_ret
  exact ⟨rfl, rfl⟩

end Go.Proofs.Ytjaomjbhkgijbaa

