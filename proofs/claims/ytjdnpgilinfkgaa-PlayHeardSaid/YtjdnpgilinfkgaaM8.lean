/-
  The flanks of a tip: stylusOf.
-/
import Derived.Test.YtjdnpgilinfkgaaM7
import Derived.StillTailTactics
namespace Go.Proofs.Ytjdnpgilinfkgaa
open Go.RowKit

theorem blk_setRow {w : World} {g : Nat} {t : TypeId} {cs : Array Value} (h : Blk w g t cs) (cs' : Array Value) : Blk (w.setRow g cs') g t cs' := by
  unfold Blk at h ⊢
  exact setRow_heap w g cs cs' t (0, 0) h
theorem setRow_grown (w : World) (g : Nat) (cs' : Array Value) : w.grownBy (w.setRow g cs') (some g) :=
  ⟨rfl, rfl, rfl, by simp [World.setRow], fun i hi hne => by
    have : g ≠ i := fun e => hne (by rw [e])
    simp [World.setRow, Array.getElem?_modify, this]⟩
theorem copy_cells {w : World} {B : Nat} {A : Option Addr} {n : Nat} {s : List Int} (h : LI w B A n s) (hn : 1 ≤ n) : ∃ ad, A = some ad ∧ ad.block < B ∧ ∀ j v, (nums s)[j]? = some v → w.cell? (ad.add j) = some v := h.2.2 (by omega)
theorem flk_take {s : List Int} (h : 1 ≤ s.length) : s.reverse.take (s.length - 1) ++ s = flk s := by
  cases s with
  | nil => simp at h
  | cons x xs => simp [flk]
/-- What a call leaves that returns a stylus. -/
def StyPost (w : World) (s : List Int) (e : Ending) (w' : World) : Prop :=
  ∃ Af nf cf, e = .returned (.agg #[.slice Af nf cf, .int .i64 ((s.length - 1 : Nat) : Int)]) ∧ LI w' w'.heap.size Af nf (flk s) ∧ Below w.heap.size w w'

set_option maxRecDepth 100000 in
set_option maxHeartbeats 4000000 in
theorem stylusOf_any (B : Nat) (A : Option Addr) (n c : Nat) (s : List Int) (w : World) (h0 : LI w B A n s) (hB : B ≤ w.heap.size) (hs : Shp s) :
    Calls Try.prog 63 #[.agg #[.slice A n c]] w (StyPost w s) := by
  have hn1 : 1 ≤ n := by have := h0.1; have := hs.pos; omega
  have hn2 : n ≤ 64 := by have := h0.1; have := hs.many; omega
  have HN := Lib.hid h0.1
  have H := Lib.hid h0
  obtain ⟨ad, hA, hbl, hcl⟩ := copy_cells h0 hn1
  obtain rfl := hA
  have HCL := Lib.hid hcl
  clear h0 hs hcl
  obtain ⟨m, hm⟩ : ∃ m, 2 * n - 1 = m := ⟨_, rfl⟩
  have e1 : IntKind.i64.wrap (2 * (n : Int)) = 2 * (n : Int) := IntWalk.i64_in _ (by omega)
  have e2 : IntKind.i64.wrap (2 * (n : Int) - 1) = (m : Int) := by rw [show 2 * (n : Int) - 1 = m by omega]; exact IntWalk.i64_in _ (by omega)
  have e3 : IntKind.i64.wrap ((n : Int) - 1) = ((n - 1 : Nat) : Int) := by rw [show (n : Int) - 1 = ((n - 1 : Nat) : Int) by omega]; exact IntWalk.i64_in _ (by omega)
  obtain ⟨i0, hi0, hz0, hz1, hz2⟩ := info_parts info_i64
  have hmk := fun (W : World) => run_make_rowN (P := Try.prog) 22 2 i0 _ Try.underlying22 hi0 hz0 .i64 .i64 m m (Nat.le_refl _) (by rw [hz2]; omega) (by omega) W
  rw [hz1] at hmk
  have HZ := Lib.hid (show (Try.prog.info? 2).map (·.size) = some 1 by rw [hi0, Option.map_some, hz1])
  have HM := Lib.hid hm
  clear hi0 hz0 hz1 hz2 hm
  go_enter Try.func63, Try.ntmps63
  go_wp2_with fail
  obtain ⟨W, hW⟩ : ∃ W, ((w.alloc (.cells #[.slice (some ad) n c] 24)).alloc (.cells #[.slice none 0 0, .int .i64 0] 107)).alloc (.cells (madeCells #[.int .i64 0] m) 2) = W := ⟨_, rfl⟩
  have hbw : Below w.heap.size w W := by rw [← hW]; exact (((Below.refl _ _).alloc (Nat.le_refl _) _).alloc (by simp) _).alloc (by simp; omega) _
  have k0 : Blk W w.heap.size 24 #[.slice (some ad) n c] := by rw [← hW]; exact ((Blk.new _ _ _).alloc _).alloc _
  have k1 : Blk W (w.heap.size + 1) 107 #[.slice none 0 0, .int .i64 0] := by rw [← hW]; exact (blk_al (by simp)).alloc _
  have k2 : Blk W (w.heap.size + 1 + 1) 2 (madeCells #[.int .i64 0] m) := by rw [← hW]; exact blk_al (by simp)
  rw [hW]
  clear hW
  have hmz : (madeCells #[Value.int .i64 0] m).size = m := by rw [size_madeCells]
  have hln : (nums s).length = n := by rw [List.length_map]; exact HN.out.symm
  have hone : ∀ v ∈ nums s, v.oneCell' = true := fun v hv => by obtain ⟨q, _, rfl⟩ := List.mem_map.1 hv; rfl
  have hsz := hbw.size
  have hcp := run_copy_row (P := Try.prog) W 22 22 3 2 (w.heap.size + 1 + 1) 0 m m ad n c (madeCells #[.int .i64 0] m) 2 (nums s) Try.underlying22 HZ.out k2 (by rw [hln]; exact (Nat.min_eq_left (by have := HM.out; omega)).symm)
    (fun j v hj => (hbw.cell (by rw [block_of_add]; omega)).trans (HCL.out j v hj)) (by rw [hmz, hln]; have := HM.out; omega) hone
  rw [List.take_zero, List.nil_append, Nat.zero_add, hln] at hcp
  obtain ⟨rest, hrest⟩ : ∃ rest, (madeCells #[Value.int .i64 0] m).toList.drop n = rest := ⟨_, rfl⟩
  have hrl : rest.length = m - n := by rw [← hrest, List.length_drop, Array.length_toList, hmz]
  rw [hrest] at hcp
  have HRL := Lib.hid hrl
  have HLN := Lib.hid hln
  have HONE := Lib.hid hone
  obtain ⟨W2, hW2⟩ : ∃ W2, W.setRow (w.heap.size + 1 + 1) (nums s ++ rest).toArray = W2 := ⟨_, rfl⟩
  have p2 : Blk W2 (w.heap.size + 1 + 1) 2 (nums s ++ rest).toArray := by rw [← hW2]; exact blk_setRow k2 _
  have hg2 : W.grownBy W2 (some (w.heap.size + 1 + 1)) := by rw [← hW2]; exact setRow_grown W _ _
  rw [hW2] at hcp
  have K0 := Lib.hid (k0.grown hg2 (fun e => by have := Option.some.inj e; omega))
  have K1 := Lib.hid (k1.grown hg2 (fun e => by have := Option.some.inj e; omega))
  have HB := Lib.hid (hbw.grown hg2 hbw.size (fun q e => by cases e; omega))
  clear hW2 hrest hmz hrl hln hone k0 k1 k2 hbw hg2 hsz
  have hto := fun W => nums_to (some ⟨w.heap.size + 1 + 1, 0, none⟩) n m m (by have := HM.out; omega) W
  have RV := Lib.hid (reverse_any (w.heap.size + 1 + 1) n m s rest W2 p2 HN.out (by omega))
  clear p2
  rw [hcp]
  go_wp2_with fail
  refine RV.out.mono ?_
  rintro e W3 ⟨⟨v, rfl⟩, hk3, hg3⟩
  have K2 := Lib.hid hk3
  replace K0 := Lib.hid (K0.out.grown hg3 (fun e => by have := Option.some.inj e; omega))
  replace K1 := Lib.hid (K1.out.grown hg3 (fun e => by have := Option.some.inj e; omega))
  replace HB := Lib.hid (HB.out.grown hg3 HB.out.size (fun q e => by cases e; omega))
  clear hk3 hg3 RV hcp hto
  have hfr : ∀ W, (Instr.slice 22 (.slice (some ⟨w.heap.size + 1 + 1, 0, none⟩) m m) (some (.int .i64 ((n - 1 : Nat) : Int))) none none).run Try.prog W = .ok (.slice (some ⟨w.heap.size + 1 + 1, n - 1, none⟩) n n) W := fun W => by
    have h := nums_from (some ⟨w.heap.size + 1 + 1, 0, none⟩) .i64 (n - 1) m m (by have := HM.out; omega) W
    rw [h, show m - (n - 1) = n by have := HM.out; omega]
    unfold restA
    rw [if_neg (by have := HM.out; omega), Option.map_some]
    congr 3
    unfold Addr.add; split
    · rename_i h; rw [h]
    · simp
  have hsz := HB.out.size
  have hcp := run_copy_row (P := Try.prog) W3.drew 22 22 3 2 (w.heap.size + 1 + 1) (n - 1) n n ad n c (nums s.reverse ++ rest).toArray 2 (nums s) Try.underlying22 HZ.out K2.out (by rw [HLN.out]; simp)
    (fun j v hj => (HB.out.cell (by rw [block_of_add]; omega)).trans (HCL.out j v hj)) (by have := HRL.out; have := HLN.out; have := HN.out; have := HM.out; simp [nums] at *; omega) HONE.out
  obtain ⟨W4, hW4⟩ : ∃ W4, W3.drew.setRow (w.heap.size + 1 + 1) ((nums s.reverse ++ rest).take (n - 1) ++ nums s ++ (nums s.reverse ++ rest).drop (n - 1 + (nums s).length)).toArray = W4 := ⟨_, rfl⟩
  have p2 : Blk W4 (w.heap.size + 1 + 1) 2 (nums (flk s)).toArray := by
    rw [← hW4]
    refine (blk_setRow K2.out.drew _).cast ?_
    congr 1
    have := HRL.out; have := HLN.out; have := HN.out; have := HM.out
    rw [List.drop_eq_nil_of_le (by simp [nums] at *; omega), List.append_nil, List.take_append_of_le_length (by simp [nums] at *; omega)]
    rw [show n - 1 = s.length - 1 by omega, ← flk_take (by omega : 1 ≤ s.length)]
    simp [nums]
  have hg4 : W3.drew.grownBy W4 (some (w.heap.size + 1 + 1)) := by rw [← hW4]; exact setRow_grown _ _ _
  rw [show ((nums s.reverse ++ rest).toArray.toList) = nums s.reverse ++ rest from rfl, hW4, HLN.out] at hcp
  have t0 := K0.out.one.1
  go_wp2_with fail
  go_still_tail 6, (by kernel_rfl)
  repeat still_step
  try refine wpStill_nil ?_
  change wpList _ _ _ _ _ W3.drew
  have K1' := Lib.hid ((K1.out.drew).grown hg4 (fun e => by have := Option.some.inj e; omega))
  have HB4 := Lib.hid (HB.out.drew.grown hg4 HB.out.size (fun q e => by cases e; omega))
  have HF := Lib.hid p2
  obtain ⟨z0, z1, z2, z3, z4⟩ := K1'.out.two
  clear t0 hW4 p2 hg4 K1 K2 K0 HB hsz hfr
  go_wp2
  have KF := Lib.hid ((K1'.out.set_ 0 (.slice (some ⟨w.heap.size + 1 + 1, 0, none⟩) m m)).set_ 1 (.int .i64 ((n - 1 : Nat) : Int)))
  have g0 := (KF.out.cell 0).trans rfl
  have g1 := (KF.out.cell 1).trans rfl
  have HF2 := Lib.hid ((HF.out.far (p := ⟨w.heap.size + 1, 0, none⟩) (by show w.heap.size + 1 + 1 ≠ w.heap.size + 1; omega) (.slice (some ⟨w.heap.size + 1 + 1, 0, none⟩) m m)).far (p := ⟨w.heap.size + 1, 1, none⟩) (by show w.heap.size + 1 + 1 ≠ w.heap.size + 1; omega) (.int .i64 ((n - 1 : Nat) : Int)))
  have HB5 := Lib.hid ((HB4.out.setCell (p := ⟨w.heap.size + 1, 0, none⟩) (by show w.heap.size ≤ w.heap.size + 1; omega) (.slice (some ⟨w.heap.size + 1 + 1, 0, none⟩) m m)).setCell (p := ⟨w.heap.size + 1, 1, none⟩) (by show w.heap.size ≤ w.heap.size + 1; omega) (.int .i64 ((n - 1 : Nat) : Int)))
  refine ⟨rfl, .agg #[.slice (some ⟨w.heap.size + 1 + 1, 0, none⟩) m m, .int .i64 ((n - 1 : Nat) : Int)], ?_, some ⟨w.heap.size + 1 + 1, 0, none⟩, m, m, by rw [HN.out], ?_, HB5.out⟩
  · simp [results, Try.results63, go_sem, g0, g1]
  · exact li_blk HF2.out HF2.out.lt rfl (by rw [flk_len (by have := HN.out; omega)]; have := HN.out; have := HM.out; omega)
end Go.Proofs.Ytjdnpgilinfkgaa
