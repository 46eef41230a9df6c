/-
  Contracts of the verifier's example and of its word 'Works'.
-/
import Derived.Test.YtaiigdbbpdkamaaK7
namespace Go.Proofs.Ytaiigdbbpdkamaa
open Go.RowKit

def exC : Ctr := ⟨400, 2000, 200, 2000, 1000, 1000, 100⟩
def wkS : List Smp := [(0, 0), (100, 100), (0, 0)]
def wkL : List Smp := [(-400, 400), (-200, 600), (-400, 400)]
theorem wk_er : cutEr exC wkS = 0 := by decide
theorem wk_res : cutRes exC wkS = wkL := by decide
theorem exC_ok : CtOk exC := ctOk_of (by decide)
theorem ls_val {c : Ctr} {l : List Smp} {per a v er : Int} (he : lsEr c l per = 0) (hc : CtOk c) (h1 : 1 ≤ per) (h2 : per ≤ 65536) (ha : 1 ≤ a) (ha' : a ≤ 4194304) (ht : fls c l a per = true) (hf : fls c l (a - 1) per = false) (h : lsQ c l per v er) : v = a ∧ er = 0 := by
  unfold lsQ at h
  rw [if_pos he] at h
  refine h.uniq (.inl ⟨rfl, by omega, ha', ht, fun q q1 q2 => ?_⟩)
  show fls c l q per = false
  cases hq : fls c l q per
  · rfl
  · have h3 : fls c l (a - 1) per = true := fls_mono hc h1 h2 q (a - 1) q1 (by omega) (by omega) hq
    rw [hf] at h3; cases h3
theorem wk_least {v er : Int} (h : lsQ exC wkL 1000 v er) : v = 31831 ∧ er = 0 :=
  ls_val (by decide) exC_ok (by omega) (by omega) (by omega) (by omega) (by decide) (by decide) h

set_option maxHeartbeats 1000000 in
theorem Example_any (w : World) : Calls Try.prog 41 #[] w fun e w' => e = .returned (.agg #[.int .i64 400, .int .i64 2000, .int .i64 200, .int .i64 2000, .int .i64 1000, .int .i64 1000, .int .i64 100]) ∧ Below w.heap.size w w' := by
  go_enter Try.func41, Try.ntmps41
  go_wp2
  exact bodyPost_ret (v := .agg #[.int .i64 400, .int .i64 2000, .int .i64 200, .int .i64 2000, .int .i64 1000, .int .i64 1000, .int .i64 100]) (by simp [results, Try.results41, go_sem]) rfl ⟨rfl, (Below.refl _ _).alloc (Nat.le_refl _) _⟩

set_option maxRecDepth 100000 in
set_option maxHeartbeats 4000000 in
theorem Works_any (w : World) : Calls Try.prog 16 #[] w fun e w' => e = .returned (.bool true) ∧ Below w.heap.size w w' := by
  have HCU := Lib.hid (fun B A n k W h0 hB hl => Cut_any B A n k exC wkS W h0 hB hl)
  rw [wk_er, wk_res] at HCU
  have HLE := Lib.hid (fun B A n k W h0 hB hl => Least_any B A n k exC wkL 1000 W h0 hB hl)
  have HAR := Lib.hid (fun W => Arc_any 1130000 1000 W)
  rw [show arV 1130000 1000 = 50410000 from by decide, show arEr 1130000 1000 = 0 from by decide] at HAR
  go_enter Try.func16, Try.ntmps16
  go_wp2_with fail
  refine (Example_any _).mono ?_
  rintro e w1 ⟨rfl, hb1⟩
  have HB := Lib.hid hb1
  clear hb1
  go_wp2_with fail
  refine (HCU.out (w1.heap.size + 1) (some ⟨w1.heap.size, 0, none⟩) 3 3 _ ⟨rfl, reads_cells (blk_al rfl) (Nat.lt_succ_self _) rfl rfl⟩ (by simp) (by omega)).mono ?_
  rintro e w2 ⟨A, n, k, rfl, hrs, hb2⟩
  obtain rfl : 3 = n := hrs.1.symm
  have HRS := Lib.hid hrs
  have HB := Lib.hid ((HB.out.alloc HB.out.size (.cells #[.int .i64 0, .int .i64 0, .int .i64 100, .int .i64 100, .int .i64 0, .int .i64 0] 25)).trans (hb2.mono (by have := HB.out.size; simp; omega)))
  clear hrs hb2
  go_wp2_with fail
  refine (Example_any _).mono ?_
  rintro e w3 ⟨rfl, hb3⟩
  have HRS := Lib.hid ((HRS.out.below hb3 (Nat.le_refl _)).more hb3.size)
  have HB := Lib.hid (HB.out.trans (hb3.mono HB.out.size))
  clear hb3
  go_wp2_with fail
  refine (HLE.out _ A 3 k _ HRS.out (Nat.le_refl _) (by omega)).mono ?_
  rintro e w4 ⟨v, er, rfl, hq, hb4⟩
  obtain ⟨rfl, rfl⟩ := wk_least hq
  have HRS := Lib.hid ((HRS.out.below hb4 (Nat.le_refl _)).more hb4.size)
  have HB := Lib.hid (HB.out.trans (hb4.mono HB.out.size))
  clear hb4 hq
  go_wp2_with fail
  refine (HAR.out _).mono ?_
  rintro e w5 ⟨rfl, hb5⟩
  obtain ⟨ad, hA, hbl, y1, y2⟩ := (HRS.out.below hb5 (Nat.le_refl _)).at2 (k := 1) (by decide)
  have HB := Lib.hid (HB.out.trans (hb5.mono HB.out.size))
  clear hb5
  obtain rfl := hA
  have x1 : w5.cell? ⟨ad.block, ad.off + 2, none⟩ = some (.int .i64 (-200)) := y1
  have x2 : w5.cell? ⟨ad.block, ad.off + 2 + 1, none⟩ = some (.int .i64 600) := y2
  clear y1 y2
  have hq : ∀ W, Sem.run Try.prog (Op.equalIn 10000 27 (.agg #[.int .i64 (-200), .int .i64 600]) (.agg #[.int .i64 (-200), .int .i64 600])) W = .ok true W := fun _ => by kernel_rfl
  go_wp2
  go_ret
  exact ⟨rfl, HB.out⟩
end Go.Proofs.Ytaiigdbbpdkamaa
