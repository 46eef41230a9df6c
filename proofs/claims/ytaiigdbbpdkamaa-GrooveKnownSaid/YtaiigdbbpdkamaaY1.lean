/-
  Louder samples: the code's and the document's.
-/
import Derived.Test.YtaiigdbbpdkamaaO6
namespace Go.Proofs.Ytaiigdbbpdkamaa
open Go.RowKit

/-- A slice of samples that the call has made. -/
def LouPost (w : World) (l : List Smp) (e : Ending) (w' : World) : Prop :=
  ∃ A n k, e = .returned (.slice A n k) ∧ RS w' w'.heap.size A n l ∧ Below w.heap.size w w'
def SmOk (s : Smp) : Prop := -32767 ≤ s.1 ∧ s.1 ≤ 32767 ∧ -32767 ≤ s.2 ∧ s.2 ≤ 32767

set_option maxRecDepth 100000 in
set_option maxHeartbeats 4000000 in
theorem louder_any (B : Nat) (A : Option Addr) (n c : Nat) (xs : List Smp) (k : Int) (w : World) (h0 : RS w B A n xs) (hB : B ≤ w.heap.size) (hl : n ≤ 4096) (hx : ∀ s ∈ xs, SmOk s) (k0 : 0 ≤ k) (k1 : k ≤ 40) :
    Calls Try.prog 69 #[.slice A n c, .int .i64 k] w (LouPost w (xs.map (lou k))) := by
  have HN := Lib.hid h0.1
  have H := Lib.hid (h0.more hB)
  have HX := Lib.hid hx
  clear h0 hB hx
  obtain ⟨i0, hi0, hz0, hz1, hz2⟩ := info_parts info_smp
  have HI0 := Lib.hid hi0
  have HZ0 := Lib.hid hz0
  have HZ1 := Lib.hid hz1
  have HZ2 := Lib.hid hz2
  have HMK := Lib.hid (fun (W : World) => run_make_rowN (P := Try.prog) 28 25 i0 _ Try.underlying28 hi0 hz0 .i64 .i64 0 n (Nat.zero_le _) (by rw [hz2]; omega) (by omega) W)
  clear hi0 hz0 hz2
  have hmk := HMK.out
  rw [hz1] at hmk
  simp only [Int.natCast_zero] at hmk
  go_enter Try.func69, Try.ntmps69
  go_wp2_with fail
  have hown := World.ownsRow_made (base := w.heap.size) (e := 25) (size := 2) w (madeCells (Value.agg #[Value.int IntKind.i64 0, Value.int IntKind.i64 0]).cells (n * 2)) n (Nat.le_refl _) (by unfold maxLen; omega) (by rw [size_madeCells])
  have hown : (w.alloc (.cells (madeCells #[.int .i64 0, .int .i64 0] (n * 2)) 25)).ownsRow w.heap.size 25 2 (.slice (some ⟨w.heap.size, 0, none⟩) 0 n) 0 [] := hown
  obtain ⟨W3, hW3⟩ : ∃ W3, w.alloc (.cells (madeCells #[.int .i64 0, .int .i64 0] (n * 2)) 25) = W3 := ⟨_, rfl⟩
  rw [hW3] at hown ⊢
  have HO := Lib.hid hown
  have HB : Hid (Below w.heap.size w W3) := Lib.hid (by rw [← hW3]; exact (Below.refl _ _).alloc (Nat.le_refl _) _)
  clear hown hmk hW3 hz1
  go_wp2_with fail
  go_loopw [5, 13] (fun v z wr => ∃ (j : Nat) (sv : Value), j ≤ n ∧ z = .int .i64 j ∧ sv = v ∧ Hid (wr.ownsRow w.heap.size 25 2 sv j (smpCells ((xs.take j).map (lou k)))) ∧ Hid (Below w.heap.size w wr)) (fun v z wr => n - (intOf z).toNat)
  case atStart => exact ⟨0, _, Nat.zero_le _, rfl, rfl, HO, HB⟩
  case round =>
    clear HO HB
    obtain ⟨j, sv, hj, rfl, rfl, HO, HB⟩ := hrel
    by_cases hlt : j < n
    · have hjx : j < xs.length := by have := HN.out; omega
      obtain ⟨ad, hA, hbl, y1, y2⟩ := (H.out.below HB.out (Nat.le_refl _)).at2 (k := j) hjx
      obtain rfl := hA
      have HSN := Lib.hid (louder_snoc k xs j hjx)
      obtain ⟨d1, d2, d3, d4⟩ := HX.out _ (List.getElem_mem hjx)
      rw [← gAt_eq hjx] at d1 d2 d3 d4
      obtain ⟨x, hx⟩ : ∃ x, gAt xs j = x := ⟨_, rfl⟩
      rw [hx] at y1 y2 HSN d1 d2 d3 d4
      clear hx
      obtain ⟨m1, m2⟩ := lou_p d1 d2 k0 k1
      obtain ⟨m3, m4⟩ := lou_p d3 d4 k0 k1
      obtain ⟨b1, b2⟩ := lou_bd d1 d2 k0 k1
      obtain ⟨b3, b4⟩ := lou_bd d3 d4 k0 k1
      have x1 : IntKind.i64.wrap (x.1 * 50) = x.1 * 50 := IntWalk.i64_in _ (by omega)
      have x2 : IntKind.i64.wrap (x.2 * 50) = x.2 * 50 := IntWalk.i64_in _ (by omega)
      have x3 : IntKind.i64.wrap (x.1 * 50 * k) = x.1 * 50 * k := IntWalk.i64_in _ (by omega)
      have x4 : IntKind.i64.wrap (x.2 * 50 * k) = x.2 * 50 * k := IntWalk.i64_in _ (by omega)
      have x5 : IntKind.i64.wrap ((x.1 * 50 * k).tdiv 1000) = (x.1 * 50 * k).tdiv 1000 := IntWalk.i64_in _ (by omega)
      have x6 : IntKind.i64.wrap ((x.2 * 50 * k).tdiv 1000) = (x.2 * 50 * k).tdiv 1000 := IntWalk.i64_in _ (by omega)
      clear m1 m2 m3 m4 b1 b2 b3 b4
      go_wp2_with (at_builtin; refine wpList_append_any _ rfl (.tmp 17) (.tmp 31) _ rfl w.heap.size 25 i0 _ 2 16 Try.underlying28 HI0.out HZ0.out HZ1.out HZ2.out rfl (by omega) sv j _ rfl ((HO.out.alloc _).alloc _) _ _ 1 _ _ rfl (reads_cells (blk_al (by simp)) (Nat.lt_succ_self _) (by rfl) (by rfl)) (by intro u hu; simp at hu; rcases hu with rfl | rfl <;> rfl) (by unfold maxLen; omega) (by omega) (by have := HB.out.size; simp; omega) ?_; intro v1 w3 hown1 hgrow1 hblk1)
      have HB := Lib.hid (((HB.out.alloc HB.out.size _).alloc (by have := HB.out.size; simp; omega) _).grown hgrow1 (by have := HB.out.size; simp; omega) (fun q e => (HO.out.lt q e).1))
      have HO1 := Lib.hid hown1
      clear hgrow1 hown1 hblk1 y1 y2 x1 x2 x3 x4 x5 x6
      go_wp2
      go_roundw
      case rel => exact ⟨j + 1, v1, by omega, by go_num, rfl, Lib.hid (by rw [HSN.out]; exact HO1.out), HB⟩
      case measure => simp [intOf]; omega
    · obtain rfl : n = j := by omega
      have hlen : xs.take n = xs := List.take_of_length_le (by have := HN.out; omega)
      rw [hlen] at HO
      obtain ⟨Ab, cb, hsb, hrb⟩ := own_reads HO.out
      obtain rfl := hsb
      have HRB := Lib.hid hrb
      clear hrb hlen
      go_wp2
      go_ret
      exact ⟨_, _, _, rfl, ⟨by rw [List.length_map]; exact HN.out, HRB.out⟩, HB.out⟩

set_option maxRecDepth 100000 in
set_option maxHeartbeats 4000000 in
theorem refLouder_any (B : Nat) (A : Option Addr) (n c : Nat) (xs : List Smp) (k : Int) (w : World) (h0 : RS w B A n xs) (hB : B ≤ w.heap.size) (hl : n ≤ 4096) (hx : ∀ s ∈ xs, SmOk s) (k0 : 0 ≤ k) (k1 : k ≤ 40) :
    Calls Try.prog 40 #[.slice A n c, .int .i64 k] w (LouPost w (xs.map (lou k))) := by
  have HN := Lib.hid h0.1
  have H := Lib.hid (h0.more hB)
  have HX := Lib.hid hx
  clear h0 hB hx
  obtain ⟨i0, hi0, hz0, hz1, hz2⟩ := info_parts info_smp
  have HI0 := Lib.hid hi0
  have HZ0 := Lib.hid hz0
  have HZ1 := Lib.hid hz1
  have HZ2 := Lib.hid hz2
  clear hi0 hz0 hz1 hz2
  go_enter Try.func40, Try.ntmps40
  go_wp2_with fail
  go_loopw [5, 6] (fun v z wr => ∃ (j : Nat) (sv : Value), j ≤ n ∧ z = .int .i64 j ∧ sv = v ∧ Hid (wr.ownsRow w.heap.size 25 2 sv j (smpCells ((xs.take j).map (lou k)))) ∧ Hid (Below w.heap.size w wr)) (fun v z wr => n - (intOf z).toNat)
  case atStart => exact ⟨0, _, Nat.zero_le _, rfl, rfl, Lib.hid (World.ownsRow_nil _ _ _ _), Lib.hid (Below.refl _ _)⟩
  case round =>
    obtain ⟨j, sv, hj, rfl, rfl, HO, HB⟩ := hrel
    by_cases hlt : j < n
    · have hjx : j < xs.length := by have := HN.out; omega
      have hA : ∃ ad, A = some ad := by obtain ⟨ad, e, _⟩ := H.out.at2 hjx; exact ⟨ad, e⟩
      obtain ⟨ad, rfl⟩ := hA
      have CX := Lib.hid (fun W (hb : Below w.heap.size w W) => show W.cell? (ad.add (j * 2)) = some (.int .i64 (gAt xs j).1) ∧ W.cell? ⟨(ad.add (j * 2)).block, (ad.add (j * 2)).off + 1, none⟩ = some (.int .i64 (gAt xs j).2) from by
        obtain ⟨ad', e, -, h1, h2⟩ := (H.out.below hb (Nat.le_refl _)).at2 hjx
        obtain rfl := Option.some.inj e
        exact ⟨h1, h2⟩)
      have HSN := Lib.hid (louder_snoc k xs j hjx)
      obtain ⟨d1, d2, d3, d4⟩ := HX.out _ (List.getElem_mem hjx)
      rw [← gAt_eq hjx] at d1 d2 d3 d4
      obtain ⟨x, hx⟩ : ∃ x, gAt xs j = x := ⟨_, rfl⟩
      rw [hx] at CX HSN d1 d2 d3 d4
      clear hx
      obtain ⟨m1, m2⟩ := lou_p d1 d2 k0 k1
      obtain ⟨m3, m4⟩ := lou_p d3 d4 k0 k1
      obtain ⟨b1, b2⟩ := lou_bd d1 d2 k0 k1
      obtain ⟨b3, b4⟩ := lou_bd d3 d4 k0 k1
      have x1 : IntKind.i64.wrap (x.1 * 50) = x.1 * 50 := IntWalk.i64_in _ (by omega)
      have x2 : IntKind.i64.wrap (x.2 * 50) = x.2 * 50 := IntWalk.i64_in _ (by omega)
      have x3 : IntKind.i64.wrap (x.1 * 50 * k) = x.1 * 50 * k := IntWalk.i64_in _ (by omega)
      have x4 : IntKind.i64.wrap (x.2 * 50 * k) = x.2 * 50 * k := IntWalk.i64_in _ (by omega)
      have x5 : IntKind.i64.wrap ((x.1 * 50 * k).tdiv 1000) = (x.1 * 50 * k).tdiv 1000 := IntWalk.i64_in _ (by omega)
      have x6 : IntKind.i64.wrap ((x.2 * 50 * k).tdiv 1000) = (x.2 * 50 * k).tdiv 1000 := IntWalk.i64_in _ (by omega)
      clear m1 m2 m3 m4 b1 b2 b3 b4
      obtain ⟨y1, y2⟩ := CX.out _ HB.out
      have hk' : IntKind.i64.wrap k = k := IntWalk.i64_in _ (by omega)
      go_wp2_with fail
      go_region_held3 (fun w' => w'.cell? (ad.add (j * 2)) = some (.int .i64 x.1) ∧ w'.cell? ⟨(ad.add (j * 2)).block, (ad.add (j * 2)).off + 1, none⟩ = some (.int .i64 x.2))
        ((refine ⟨?_, ?_⟩ <;> (repeat (with_reducible (first | refine cell_al _ ?_ | refine cell_dr ?_))) <;> (with_reducible assumption)))
        (first | (refine step_append_any _ rfl (.tmp 13) (.tmp 33) _ rfl w.heap.size 25 i0 _ 2 16 Try.underlying28 HI0.out HZ0.out HZ1.out HZ2.out rfl (by omega) sv j _ rfl (by first | exact HO.out.drew.alloc _ | exact (HO.out.alloc _).drew | exact HO.out.alloc _) _ _ 1 _ _ rfl (reads_cells (by first | exact blk_al (by simp) | exact blk_dr (by simp)) (Nat.lt_succ_self _) (by rfl) (by rfl)) (by intro u hu; simp at hu; rcases hu with rfl | rfl <;> rfl) (by unfold maxLen; omega) (by omega) (by have := HB.out.size; simp; omega) ?_; intro v1 w3 hown1 hgrow1 hblk1; have HB := Lib.hid (Below.grown (by first | exact (HB.out.drew.alloc HB.out.size _) | exact (HB.out.alloc HB.out.size _).drew | exact (HB.out.alloc HB.out.size _)) hgrow1 (by have := HB.out.size; simp; omega) (fun q e => (HO.out.lt q e).1)); have HO1 := Lib.hid hown1; clear hgrow1 hown1 hblk1; obtain ⟨y1, y2⟩ := CX.out _ HB.out))
      clear y1 y2 x1 x2 x3 x4 x5 x6 hk'
      go_wp2
      go_roundw
      case rel => exact ⟨j + 1, v1, by omega, by go_num, rfl, Lib.hid (by rw [HSN.out]; exact HO1.out), HB⟩
      case measure => simp [intOf]; omega
    · obtain rfl : n = j := by omega
      have hlen : xs.take n = xs := List.take_of_length_le (by have := HN.out; omega)
      rw [hlen] at HO
      obtain ⟨Ab, cb, hsb, hrb⟩ := own_reads HO.out
      obtain rfl := hsb
      have HRB := Lib.hid hrb
      clear hrb hlen
      go_wp2
      go_ret
      exact ⟨_, _, _, rfl, ⟨by rw [List.length_map]; exact HN.out, HRB.out⟩, HB.out⟩
end Go.Proofs.Ytaiigdbbpdkamaa
