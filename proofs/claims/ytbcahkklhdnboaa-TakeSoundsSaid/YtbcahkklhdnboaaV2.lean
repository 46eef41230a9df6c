/-
  Contracts of take.Sound, where it sounds, and of the law's amount.
-/
import Derived.Test.YtbcahkklhdnboaaV1
import Derived.Test.YtbcahkklhdnboaaS2
namespace Go.Proofs.Ytbcahkklhdnboaa
open Go.RowKit

theorem lawAmount_b {x y : Int} (h1 : -9223372036854775807 ≤ x) (h2 : x ≤ 9223372036854775807) (hy : y = am x) (w : World) :
    Calls Try.prog 32 #[.int .i64 x] w fun e w' => e = .returned (.int .i64 y) ∧ w = w' := by
  have HY := Lib.hid hy
  clear hy
  go_enter Try.func32, Try.ntmps32
  go_wp2
  all_goals
    go_ret
    exact ⟨ret_i (by rw [HY.out, am]; omega), rfl⟩

/-- What Sound hands back where it sounds. -/
def SndPost (w : World) (s : Smp) (e : Ending) (w' : World) : Prop := e = .returned (.tuple #[.agg #[.int .i64 s.1, .int .i64 s.2], .int .i64 0]) ∧ Below w.heap.size w w'

set_option maxRecDepth 100000 in
set_option maxHeartbeats 8000000 in
theorem soundAll_ok (B : Nat) (A A' : Option Addr) (n c n' c' : Nat) (l : List TV) (ps : List Prt) (R : List Pl) (i : Nat) (k : Int) (w : World) (h0 : RT w B A n l) (g0 : RP w B A' n' ps) (hB : B ≤ w.heap.size)
    (hl : n ≤ 9223372036854775807) (hl' : n' ≤ 9223372036854775807) (hs : TSm l) (hc : ckP l ps = 0) (hR : placeL ps 0 0 = R) (hi : i < R.length) (hk0 : 0 ≤ k) (hk1 : k < R[i].len) :
    Calls Try.prog 22 #[.slice A n c, .slice A' n' c', .int .i64 i, .int .i64 k] w (SndPost w (sndOf l (R[i], k))) := by
  have H := Lib.hid (h0.more hB)
  have G := Lib.hid (g0.more hB)
  have HS := Lib.hid hs
  have HC := Lib.hid hc
  obtain ⟨z1, z2, z3, z4⟩ := ckP_zero l ps hc
  have HPR : Hid (∀ p ∈ ps, PrOk p) := Lib.hid (fun p hp => prOk_of l z1 p (List.all_eq_true.1 z3 p hp))
  have HOK : Hid (∀ q ∈ R, PlOk q) := Lib.hid (hR ▸ placeL_ok ps HPR.out 0 0 (by omega) (by omega))
  have hSD : SdOk l (R[i]'hi) := by
    have := sdOk_of l w _ n A h0 ps z1 z3
    rw [hR] at this
    exact this _ (List.getElem_mem hi)
  have H32 := Lib.hid z2
  have HRL : Hid (R.length = n') := Lib.hid (by rw [← hR, placeL_length]; exact g0.1.symm)
  have HR := Lib.hid hR
  have hin : (i : Int) < (n' : Int) := by have := HRL.out; omega
  have hi0 : decide ((i : Int) < 0) = false := by simp
  have hi1 : decide ((n' : Int) ≤ (i : Int)) = false := by simp; omega
  have hi2 : decide (n' ≤ i) = false := by simp; omega
  have hk0' : decide (k < 0) = false := by simp; omega
  clear h0 g0 hB hs hc z1 z2 z3 z4 hR
  obtain ⟨q, hq⟩ : ∃ q, q = R[i]'hi := ⟨_, rfl⟩
  rw [← hq] at hSD hk1 ⊢
  have hok : PlOk q := hq ▸ HOK.out _ (List.getElem_mem hi)
  obtain ⟨ln, hln⟩ : ∃ x, x = q.len := ⟨_, rfl⟩
  rw [← hln] at hk1
  have hk1' : decide (ln ≤ k) = false := by simp; omega
  have LN : Hid (∀ W, Calls Try.prog 49 #[.agg #[.int .i64 q.p.tk, .int .i64 q.p.fr, .int .i64 q.p.to, .int .i64 q.p.gp, .int .i64 q.p.fi, .int .i64 q.p.fo, .int .i64 q.p.lv, .int .i64 q.ix, .int .i64 q.st]] W fun e w' => e = .returned (.int .i64 ln) ∧ Below W.heap.size W w') := Lib.hid (fun W => by rw [hln]; exact plen_any q W hok.1)
  have HLN := Lib.hid hln
  have HQQ := Lib.hid hq
  have HSD := Lib.hid hSD
  clear hq hln hok hSD
  go_enter Try.func22, Try.ntmps22
  go_wp2_with fail
  refine (CheckProgramme_any _ _ _ _ _ _ _ l ps _ (H.out.below ((Below.refl _ _).alloc (Nat.le_refl _) _) (Nat.le_refl _)) (G.out.below ((Below.refl _ _).alloc (Nat.le_refl _) _) (Nat.le_refl _)) (by simp) hl hl' HS.out).mono ?_
  rintro e w1 ⟨rfl, hb1⟩
  rw [HC.out]
  have HBK := Lib.hid ((Blk.new w 39 #[.int .i64 0, .int .i64 0]).below hb1 (by simp))
  have HB1 : Hid (Below w.heap.size w w1) := Lib.hid (((Below.refl _ _).alloc (Nat.le_refl _) _).trans (hb1.mono (by simp)))
  clear hb1
  go_wp2_with fail
  refine (place_any _ _ _ _ ps _ (G.out.below HB1.out (Nat.le_refl _)) HB1.out.size H32.out HPR.out).mono ?_
  rintro e w2 ⟨A2, c2, rfl, hrq, hb2⟩
  rw [HR.out] at hrq ⊢
  rw [HRL.out] at hrq ⊢
  obtain ⟨ad, hA, _⟩ := (hrq.2.2 (by omega))
  obtain rfl := hA
  obtain ⟨p0, p1, p2, p3, p4, p5, p6, p7, p8⟩ := hrq.cells hi HQQ.out
  have HBK := Lib.hid (HBK.out.below hb2 HBK.out.lt)
  have HB2 : Hid (Below w.heap.size w w2) := Lib.hid (HB1.out.trans (hb2.mono HB1.out.size))
  clear hb2 hrq
  go_wp2_with fail
  refine (LN.out _).mono ?_
  rintro e w3 ⟨rfl, hb3⟩
  have hblk := (Blk.new w2 71 #[.int .i64 q.p.tk, .int .i64 q.p.fr, .int .i64 q.p.to, .int .i64 q.p.gp, .int .i64 q.p.fi, .int .i64 q.p.fo, .int .i64 q.p.lv, .int .i64 q.ix, .int .i64 q.st]).below hb3 (by simp)
  have g0 := (hblk.cell 0).trans rfl
  have g1 := (hblk.cell 1).trans rfl
  have g2 := (hblk.cell 2).trans rfl
  have g3 := (hblk.cell 3).trans rfl
  have g4 := (hblk.cell 4).trans rfl
  have g5 := (hblk.cell 5).trans rfl
  have g6 := (hblk.cell 6).trans rfl
  have g7 := (hblk.cell 7).trans rfl
  have g8 := (hblk.cell 8).trans rfl
  have HBK := Lib.hid ((HBK.out.alloc (.cells #[.int .i64 q.p.tk, .int .i64 q.p.fr, .int .i64 q.p.to, .int .i64 q.p.gp, .int .i64 q.p.fi, .int .i64 q.p.fo, .int .i64 q.p.lv, .int .i64 q.ix, .int .i64 q.st] 71)).below hb3 (by have := HBK.out.lt; simp; omega))
  have HB3 : Hid (Below w.heap.size w w3) := Lib.hid ((HB2.out.alloc HB2.out.size _).trans (hb3.mono (by have := HB2.out.size; simp; omega)))
  clear hb3 hblk p0 p1 p2 p3 p4 p5 p6 p7 p8
  -- the sound itself
  have SS : Hid (Calls Try.prog 50 #[.agg #[.int .i64 q.p.tk, .int .i64 q.p.fr, .int .i64 q.p.to, .int .i64 q.p.gp, .int .i64 q.p.fi, .int .i64 q.p.fo, .int .i64 q.p.lv, .int .i64 q.ix, .int .i64 q.st], .slice A n c, .int .i64 k] w3 fun e w' =>
      e = .returned (.agg #[.int .i64 (sndOf l (q, k)).1, .int .i64 (sndOf l (q, k)).2]) ∧ Below w3.heap.size w3 w') := by
    refine Lib.hid ?_
    have hsd := HSD.out
    have hln := HLN.out
    have hT := (H.out.below HB3.out (Nat.le_refl _)).more HB3.out.size
    obtain ⟨⟨tk, fr, to, gp, fi, fo, lv⟩, ix, st⟩ := q
    obtain ⟨ho, hf, mm, hmm, htk, hto, hn4, hnx, hxs⟩ := hsd
    simp only [Pl.len] at hln htk hto
    obtain rfl : tk = (mm : Int) := htk
    obtain ⟨ad', hA', hbl, y0, y1, hRS⟩ := hT.at_ hmm
    have hfr : 0 ≤ fr := ho.1
    obtain ⟨j, hj⟩ : ∃ j : Nat, fr + k = (j : Int) := ⟨(fr + k).toNat, by omega⟩
    have hjn : j < l[mm].n := by omega
    obtain ⟨ad2, hA2, hbl2, y2, y3⟩ := hRS.at_ (k := j) (by omega)
    rw [hA2] at y1
    have hsB := hxs _ (List.getElem_mem (show j < l[mm].xs.length by omega))
    have hmn : mm < n := by have := hT.1; omega
    have hse : sndOf l ((⟨⟨(mm : Int), fr, to, gp, fi, fo, lv⟩, ix, st⟩ : Pl), k) = snd ⟨mm, fr, to, gp, fi, fo, lv⟩ (to - fr) k (l[mm].xs[j]'(by omega)) := by
      simp only [sndOf, Int.toNat_natCast, List.getElem?_eq_getElem hmm, hj, List.getElem?_eq_getElem (show j < l[mm].xs.length by omega), Pl.len]
    obtain rfl := hA'
    rw [hse]
    exact sound_any ad' ad2 n c mm l[mm] _ fr to gp fi fo lv ix st k j w3 hbl hbl2 hmn y1 y2 y3 hj hjn hn4 hsB.1 hsB.2 ho hf hk0 (by omega)
  obtain ⟨s, hse⟩ : ∃ s, sndOf l (q, k) = s := ⟨_, rfl⟩
  rw [hse] at SS
  have HSE := Lib.hid hse
  clear hse
  go_wp2_with fail
  refine SS.out.mono ?_
  rintro e w4 ⟨rfl, hb4⟩
  have HBK := Lib.hid (HBK.out.below hb4 HBK.out.lt)
  have HB4 : Hid (Below w.heap.size w w4) := Lib.hid (HB3.out.trans (hb4.mono HB3.out.size))
  obtain ⟨t0, t1, u0, u1, tl⟩ := HBK.out.two
  clear hb4 g0 g1 g2 g3 g4 g5 g6 g7 g8
  go_wp2
  have e1 := Blk.two (a := .int .i64 s.1) (b := .int .i64 0) (HBK.out.set_ 0 (.int .i64 s.1))
  have e2 := Blk.two (a := .int .i64 s.1) (b := .int .i64 s.2) ((HBK.out.set_ 0 (.int .i64 s.1)).set_ 1 (.int .i64 s.2))
  refine bodyPost_ret (v := .tuple #[.agg #[.int .i64 s.1, .int .i64 s.2], .int .i64 0]) ?_ rfl ⟨by rw [HSE.out], ?_⟩
  · simp [results, Try.results22, go_sem, e1.1, e2.2.1]
  · exact (HB4.out.setCell (p := ⟨w.heap.size, 0, none⟩) (by simp) _).setCell (p := ⟨w.heap.size, 1, none⟩) (by simp) _
end Go.Proofs.Ytbcahkklhdnboaa
