/-
  The document's split.
-/
import Derived.Test.YtlghgehbmlgacaaQI
import Derived.Test.YtlghgehbmlgacaaUK
import Derived.Deep.RegionHeld3
namespace Go.Proofs.Ytlghgehbmlgacaa
open Go.RowKit

set_option maxRecDepth 100000 in
set_option maxHeartbeats 8000000 in
theorem refSplit_any (B : Nat) (A : Option Addr) (n c : Nat) (xs : List Smp) (w : World) (h0 : RS w B A n xs) (hB : B ≤ w.heap.size) (hn : n ≤ 4096) (hv : vss xs = true) :
    Calls Try.prog 69 #[.slice A n c] w (SplitPost w n xs) := by
  have H := Lib.hid (h0.more hB)
  have HN := Lib.hid h0.1
  have HV := Lib.hid hv
  obtain ⟨i0, hi0, hz0, hz1, hz2⟩ := info_parts info_i64
  have HI0 := Lib.hid hi0
  have HZ0 := Lib.hid hz0
  have HZ1 := Lib.hid hz1
  have HZ2 := Lib.hid hz2
  clear h0 hB hv hi0 hz0 hz1 hz2
  go_enter Try.func69, Try.ntmps69
  go_wp2_with fail
  go_loopw [4, 5, 6] (fun vx vy i wr => ∃ (j : Nat) (sx sy : Value), j ≤ n ∧ i = .int .i64 j ∧ sx = vx ∧ sy = vy ∧ Hid (TR w wr sx j (spM (xs.take j)) sy j (spD (xs.take j)))) (fun _ _ i wr => n - (intOf i).toNat)
  case atStart => exact ⟨0, _, _, Nat.zero_le _, rfl, rfl, rfl, Lib.hid (TR.start w)⟩
  case round =>
    obtain ⟨j, sx, sy, hj, rfl, rfl, rfl, HT⟩ := hrel
    by_cases hlt : j < n
    · have hjl : j < xs.length := by have := HN.out; omega
      obtain ⟨ad, hA, hbl, h1, h2⟩ := (H.out.below HT.out.b (Nat.le_refl _)).at_ (k := j) hjl
      obtain rfl := hA
      obtain ⟨Ax, cx, rfl, -⟩ := own_readsU HT.out.ox
      obtain ⟨Ay, cy, rfl, -⟩ := own_readsU HT.out.oy
      have hbd := vs_bd (vss_at HV.out hjl)
      have HSM := Lib.hid (spM_snoc hjl)
      have HSD := Lib.hid (spD_snoc hjl)
      have CX : Hid (∀ W, Below w.heap.size w W → W.cell? (ad.add (j * 2)) = some (.int .i64 xs[j].1) ∧ W.cell? ⟨(ad.add (j * 2)).block, (ad.add (j * 2)).off + 1, none⟩ = some (.int .i64 xs[j].2)) := Lib.hid (fun W hW => by
        obtain ⟨ad', hA, _, g1, g2⟩ := (H.out.below hW (Nat.le_refl _)).at_ (k := j) hjl
        cases hA
        exact ⟨g1, g2⟩)
      obtain ⟨s, hs⟩ : ∃ s, xs[j] = s := ⟨_, rfl⟩
      rw [hs] at h1 h2 hbd HSM HSD CX
      clear hs
      obtain ⟨l, r⟩ := s
      dsimp only at h1 h2 hbd HSM HSD CX
      obtain ⟨d, hd⟩ : ∃ d, l - r = d := ⟨_, rfl⟩
      obtain ⟨q, hq⟩ : ∃ q, d / 2 = q := ⟨_, rfl⟩
      rw [hd, hq] at HSM
      rw [hd] at HSD
      have e1 : IntKind.i64.wrap (l - r) = d := by rw [hd]; exact IntWalk.i64_in _ (by omega)
      have e2 : IntKind.i64.wrap (r + q) = r + q := IntWalk.i64_in _ (by omega)
      have CH := Lib.hid (fun W => by
        have h := refDown_any d 2 W (by omega) (by omega) (by omega) (by omega)
        rw [hq] at h; exact h)
      clear hd hq hbd
      have hs0 := HT.out.b.size
      obtain ⟨k1, k2⟩ := CX.out wr.drew HT.out.b.drew
      go_upto_region 5 with fail
      go_quiet (fail)
      go_upto_region 6 with fail
      obtain ⟨W1, hW1⟩ : ∃ W, wr.drewN nq = W := ⟨_, rfl⟩
      have hb1 : Below wr.heap.size wr W1 := by rw [← hW1]; exact below_drewN_ (Below.refl _ _) _
      have HT1 := Lib.hid (HT.out.below hb1)
      rw [hW1]
      clear hW1 hb1 h1 h2 k1 k2
      obtain ⟨h1, h2⟩ := CX.out _ HT1.out.b
      obtain ⟨k1, k2⟩ := CX.out _ HT1.out.b.drew
      have hs1 := HT1.out.b.size
      obtain ⟨l1, l2⟩ := CX.out _ (HT1.out.al (.cells #[.int .i64 d] 2)).b
      obtain ⟨m1, m2⟩ := CX.out _ (HT1.out.al (.cells #[.int .i64 d] 2)).b.drew
      clear l1 l2 m1 m2
      go_region_held3 (fun w' => w'.cell? ⟨(ad.add (j * 2)).block, (ad.add (j * 2)).off + 1, none⟩ = some (.int .i64 r))
        ((refine ?_ <;> (repeat (with_reducible (first | refine cell_al _ ?_ | refine cell_dr ?_))) <;> (with_reducible assumption)))
        (first | (refine step_append_any _ rfl (.tmp 25) (.tmp 34) 22 rfl w.heap.size 2 i0 _ 1 8 Try.underlying22 HI0.out HZ0.out HZ1.out HZ2.out rfl (by omega) (.slice Ax j cx) j (nums (spM (xs.take j))) rfl ((HT1.out.al (.cells #[.int .i64 (r + q)] 2)).dr).ox _ (some ⟨W1.heap.size, 0, none⟩) 1 1 [.int .i64 (r + q)] rfl (reads_cells (B := W1.heap.size + 1) (blk_dr rfl) (Nat.lt_succ_self _) rfl rfl) (by intro x hx; simp at hx; subst hx; rfl) (by unfold maxLen; omega) (by omega) ((HT1.out.al (.cells #[.int .i64 (r + q)] 2)).dr).b.size ?_; intro va w6 hoa hga hba; have hoa' : w6.ownsRow w.heap.size 2 1 va (j + 1) (nums (spM (xs.take (j + 1)))) := (by rw [HSM.out, nums_snoc]; exact hoa); have HT2 := Lib.hid (((HT1.out.al (.cells #[.int .i64 (r + q)] 2)).dr).setx hga hoa' (hba.imp id (fun h => by simpa using h))); obtain ⟨A6, c6, rfl, -⟩ := own_readsU hoa'; obtain ⟨g1, g2⟩ := CX.out _ HT2.out.b; clear hoa hoa' hga hba) | (refine step_append_any _ rfl (.tmp 25) (.tmp 34) 22 rfl w.heap.size 2 i0 _ 1 8 Try.underlying22 HI0.out HZ0.out HZ1.out HZ2.out rfl (by omega) (.slice Ax j cx) j (nums (spM (xs.take j))) rfl (((HT1.out.al (.cells #[.int .i64 (r + q)] 2)).al (.cells #[.int .i64 d] 2)).dr).ox _ (some ⟨W1.heap.size, 0, none⟩) 1 1 [.int .i64 (r + q)] rfl (reads_cells (B := W1.heap.size + 1) ((blk_al rfl).alloc _).drew (Nat.lt_succ_self _) rfl rfl) (by intro x hx; simp at hx; subst hx; rfl) (by unfold maxLen; omega) (by omega) (((HT1.out.al (.cells #[.int .i64 (r + q)] 2)).al (.cells #[.int .i64 d] 2)).dr).b.size ?_; intro va w6 hoa hga hba; have hoa' : w6.ownsRow w.heap.size 2 1 va (j + 1) (nums (spM (xs.take (j + 1)))) := (by rw [HSM.out, nums_snoc]; exact hoa); have HT2 := Lib.hid ((((HT1.out.al (.cells #[.int .i64 (r + q)] 2)).al (.cells #[.int .i64 d] 2)).dr).setx hga hoa' (hba.imp id (fun h => by simpa using h))); have HKO : Hid (Blk w6 (W1.heap.size + 1) 2 #[.int .i64 d]) := Lib.hid (Blk.grown (blk_dr (by simp)) hga (by intro e; have := (HT1.out.ox.lt _ e.symm).2; omega)); obtain ⟨A6, c6, rfl, -⟩ := own_readsU hoa'; obtain ⟨g1, g2⟩ := CX.out _ HT2.out.b; clear hoa hoa' hga hba) | (refine step_append_any _ rfl (.tmp 25) (.tmp 34) 22 rfl w.heap.size 2 i0 _ 1 8 Try.underlying22 HI0.out HZ0.out HZ1.out HZ2.out rfl (by omega) (.slice Ax j cx) j (nums (spM (xs.take j))) rfl (((HT1.out.al (.cells #[.int .i64 d] 2)).al (.cells #[.int .i64 (r + q)] 2)).dr).ox _ (some ⟨W1.heap.size + 1, 0, none⟩) 1 1 [.int .i64 (r + q)] rfl (reads_cells (B := W1.heap.size + 1 + 1) (blk_dr (by simp)) (Nat.lt_succ_self _) rfl rfl) (by intro x hx; simp at hx; subst hx; rfl) (by unfold maxLen; omega) (by omega) (((HT1.out.al (.cells #[.int .i64 d] 2)).al (.cells #[.int .i64 (r + q)] 2)).dr).b.size ?_; intro va w6 hoa hga hba; have hoa' : w6.ownsRow w.heap.size 2 1 va (j + 1) (nums (spM (xs.take (j + 1)))) := (by rw [HSM.out, nums_snoc]; exact hoa); have HT2 := Lib.hid ((((HT1.out.al (.cells #[.int .i64 d] 2)).al (.cells #[.int .i64 (r + q)] 2)).dr).setx hga hoa' (hba.imp id (fun h => by simpa using h))); have HKO : Hid (Blk w6 (W1.heap.size) 2 #[.int .i64 d]) := Lib.hid (Blk.grown ((blk_al rfl).alloc _).drew hga (by intro e; have := (HT1.out.ox.lt _ e.symm).2; omega)); obtain ⟨A6, c6, rfl, -⟩ := own_readsU hoa'; obtain ⟨g1, g2⟩ := CX.out _ HT2.out.b; clear hoa hoa' hga hba) | (refine step_append_any _ rfl (.tmp 36) (.tmp 38) 22 rfl w.heap.size 2 i0 _ 1 8 Try.underlying22 HI0.out HZ0.out HZ1.out HZ2.out rfl (by omega) (.slice Ay j cy) j (nums (spD (xs.take j))) rfl ((HT1.out.al (.cells #[.int .i64 d] 2)).dr).oy _ (some ⟨W1.heap.size, 0, none⟩) 1 1 [.int .i64 d] rfl (reads_cells (B := W1.heap.size + 1) (blk_dr rfl) (Nat.lt_succ_self _) rfl rfl) (by intro x hx; simp at hx; subst hx; rfl) (by unfold maxLen; omega) (by omega) ((HT1.out.al (.cells #[.int .i64 d] 2)).dr).b.size ?_; intro va w6 hoa hga hba; have hoa' : w6.ownsRow w.heap.size 2 1 va (j + 1) (nums (spD (xs.take (j + 1)))) := (by rw [HSD.out, nums_snoc]; exact hoa); have HT2 := Lib.hid (((HT1.out.al (.cells #[.int .i64 d] 2)).dr).sety hga hoa' (hba.imp id (fun h => by simpa using h))); obtain ⟨A6, c6, rfl, -⟩ := own_readsU hoa'; obtain ⟨g1, g2⟩ := CX.out _ HT2.out.b; clear hoa hoa' hga hba) | (refine step_append_any _ rfl (.tmp 36) (.tmp 38) 22 rfl w.heap.size 2 i0 _ 1 8 Try.underlying22 HI0.out HZ0.out HZ1.out HZ2.out rfl (by omega) (.slice Ay j cy) j (nums (spD (xs.take j))) rfl (((HT1.out.al (.cells #[.int .i64 d] 2)).al (.cells #[.int .i64 (r + q)] 2)).dr).oy _ (some ⟨W1.heap.size, 0, none⟩) 1 1 [.int .i64 d] rfl (reads_cells (B := W1.heap.size + 1) ((blk_al rfl).alloc _).drew (Nat.lt_succ_self _) rfl rfl) (by intro x hx; simp at hx; subst hx; rfl) (by unfold maxLen; omega) (by omega) (((HT1.out.al (.cells #[.int .i64 d] 2)).al (.cells #[.int .i64 (r + q)] 2)).dr).b.size ?_; intro va w6 hoa hga hba; have hoa' : w6.ownsRow w.heap.size 2 1 va (j + 1) (nums (spD (xs.take (j + 1)))) := (by rw [HSD.out, nums_snoc]; exact hoa); have HT2 := Lib.hid ((((HT1.out.al (.cells #[.int .i64 d] 2)).al (.cells #[.int .i64 (r + q)] 2)).dr).sety hga hoa' (hba.imp id (fun h => by simpa using h))); have HKO : Hid (Blk w6 (W1.heap.size + 1) 2 #[.int .i64 (r + q)]) := Lib.hid (Blk.grown (blk_dr (by simp)) hga (by intro e; have := (HT1.out.oy.lt _ e.symm).2; omega)); obtain ⟨A6, c6, rfl, -⟩ := own_readsU hoa'; obtain ⟨g1, g2⟩ := CX.out _ HT2.out.b; clear hoa hoa' hga hba) | (refine step_append_any _ rfl (.tmp 36) (.tmp 38) 22 rfl w.heap.size 2 i0 _ 1 8 Try.underlying22 HI0.out HZ0.out HZ1.out HZ2.out rfl (by omega) (.slice Ay j cy) j (nums (spD (xs.take j))) rfl (((HT1.out.al (.cells #[.int .i64 (r + q)] 2)).al (.cells #[.int .i64 d] 2)).dr).oy _ (some ⟨W1.heap.size + 1, 0, none⟩) 1 1 [.int .i64 d] rfl (reads_cells (B := W1.heap.size + 1 + 1) (blk_dr (by simp)) (Nat.lt_succ_self _) rfl rfl) (by intro x hx; simp at hx; subst hx; rfl) (by unfold maxLen; omega) (by omega) (((HT1.out.al (.cells #[.int .i64 (r + q)] 2)).al (.cells #[.int .i64 d] 2)).dr).b.size ?_; intro va w6 hoa hga hba; have hoa' : w6.ownsRow w.heap.size 2 1 va (j + 1) (nums (spD (xs.take (j + 1)))) := (by rw [HSD.out, nums_snoc]; exact hoa); have HT2 := Lib.hid ((((HT1.out.al (.cells #[.int .i64 (r + q)] 2)).al (.cells #[.int .i64 d] 2)).dr).sety hga hoa' (hba.imp id (fun h => by simpa using h))); have HKO : Hid (Blk w6 (W1.heap.size) 2 #[.int .i64 (r + q)]) := Lib.hid (Blk.grown ((blk_al rfl).alloc _).drew hga (by intro e; have := (HT1.out.oy.lt _ e.symm).2; omega)); obtain ⟨A6, c6, rfl, -⟩ := own_readsU hoa'; obtain ⟨g1, g2⟩ := CX.out _ HT2.out.b; clear hoa hoa' hga hba) | (refine step_append_any _ rfl (.tmp 36) (.tmp 38) 22 rfl w.heap.size 2 i0 _ 1 8 Try.underlying22 HI0.out HZ0.out HZ1.out HZ2.out rfl (by omega) (.slice Ay j cy) j (nums (spD (xs.take j))) rfl (HT2.out).oy _ (some ⟨_, 0, none⟩) 1 1 [.int .i64 d] rfl (reads_cells (B := w6.heap.size) HKO.out HKO.out.lt rfl rfl) (by intro x hx; simp at hx; subst hx; rfl) (by unfold maxLen; omega) (by omega) (HT2.out).b.size ?_; intro vb w7 hob hgb hbb; have hob' : w7.ownsRow w.heap.size 2 1 vb (j + 1) (nums (spD (xs.take (j + 1)))) := (by rw [HSD.out, nums_snoc]; exact hob); have HTF := Lib.hid ((HT2.out).sety hgb hob' (hbb.imp id (fun h => by simpa using h))); obtain ⟨A7, c7, rfl, -⟩ := own_readsU hob'; obtain ⟨g3, g4⟩ := CX.out _ HTF.out.b; clear hob hob' hgb hbb) | (refine step_append_any _ rfl (.tmp 36) (.tmp 38) 22 rfl w.heap.size 2 i0 _ 1 8 Try.underlying22 HI0.out HZ0.out HZ1.out HZ2.out rfl (by omega) (.slice Ay j cy) j (nums (spD (xs.take j))) rfl ((HT2.out.al (.cells #[.int .i64 d] 2))).oy _ (some ⟨w6.heap.size, 0, none⟩) 1 1 [.int .i64 d] rfl (reads_cells (B := w6.heap.size + 1) (blk_al rfl) (Nat.lt_succ_self _) rfl rfl) (by intro x hx; simp at hx; subst hx; rfl) (by unfold maxLen; omega) (by omega) ((HT2.out.al (.cells #[.int .i64 d] 2))).b.size ?_; intro vb w7 hob hgb hbb; have hob' : w7.ownsRow w.heap.size 2 1 vb (j + 1) (nums (spD (xs.take (j + 1)))) := (by rw [HSD.out, nums_snoc]; exact hob); have HTF := Lib.hid (((HT2.out.al (.cells #[.int .i64 d] 2))).sety hgb hob' (hbb.imp id (fun h => by simpa using h))); obtain ⟨A7, c7, rfl, -⟩ := own_readsU hob'; obtain ⟨g3, g4⟩ := CX.out _ HTF.out.b; clear hob hob' hgb hbb) | (refine step_append_any _ rfl (.tmp 25) (.tmp 34) 22 rfl w.heap.size 2 i0 _ 1 8 Try.underlying22 HI0.out HZ0.out HZ1.out HZ2.out rfl (by omega) (.slice Ax j cx) j (nums (spM (xs.take j))) rfl (HT2.out).ox _ (some ⟨_, 0, none⟩) 1 1 [.int .i64 (r + q)] rfl (reads_cells (B := w6.heap.size) HKO.out HKO.out.lt rfl rfl) (by intro x hx; simp at hx; subst hx; rfl) (by unfold maxLen; omega) (by omega) (HT2.out).b.size ?_; intro vb w7 hob hgb hbb; have hob' : w7.ownsRow w.heap.size 2 1 vb (j + 1) (nums (spM (xs.take (j + 1)))) := (by rw [HSM.out, nums_snoc]; exact hob); have HTF := Lib.hid ((HT2.out).setx hgb hob' (hbb.imp id (fun h => by simpa using h))); obtain ⟨A7, c7, rfl, -⟩ := own_readsU hob'; obtain ⟨g3, g4⟩ := CX.out _ HTF.out.b; clear hob hob' hgb hbb) | (refine step_append_any _ rfl (.tmp 25) (.tmp 34) 22 rfl w.heap.size 2 i0 _ 1 8 Try.underlying22 HI0.out HZ0.out HZ1.out HZ2.out rfl (by omega) (.slice Ax j cx) j (nums (spM (xs.take j))) rfl ((HT2.out.al (.cells #[.int .i64 (r + q)] 2))).ox _ (some ⟨w6.heap.size, 0, none⟩) 1 1 [.int .i64 (r + q)] rfl (reads_cells (B := w6.heap.size + 1) (blk_al rfl) (Nat.lt_succ_self _) rfl rfl) (by intro x hx; simp at hx; subst hx; rfl) (by unfold maxLen; omega) (by omega) ((HT2.out.al (.cells #[.int .i64 (r + q)] 2))).b.size ?_; intro vb w7 hob hgb hbb; have hob' : w7.ownsRow w.heap.size 2 1 vb (j + 1) (nums (spM (xs.take (j + 1)))) := (by rw [HSM.out, nums_snoc]; exact hob); have HTF := Lib.hid (((HT2.out.al (.cells #[.int .i64 (r + q)] 2))).setx hgb hob' (hbb.imp id (fun h => by simpa using h))); obtain ⟨A7, c7, rfl, -⟩ := own_readsU hob'; obtain ⟨g3, g4⟩ := CX.out _ HTF.out.b; clear hob hob' hgb hbb) | (go_at_call 93; refine (CH.out _).mono ?_; rintro e w_ ⟨rfl, rfl⟩))
      all_goals
        go_wp2
        go_roundw
        case rel => exact ⟨j + 1, _, _, by omega, by go_num, rfl, rfl, HTF⟩
        case measure => simp [intOf]; omega
    · obtain rfl : j = n := by omega
      have HT1 := HT.out
      rw [List.take_of_length_le (by have := HN.out; omega)] at HT1
      go_wp2
      go_ret2
      exact ⟨_, _, rfl, HT1⟩
end Go.Proofs.Ytlghgehbmlgacaa
