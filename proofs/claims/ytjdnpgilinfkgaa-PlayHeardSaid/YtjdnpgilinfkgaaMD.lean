/-
  The best arm: best and Balance of package play.
-/
import Derived.Test.YtjdnpgilinfkgaaMC
namespace Go.Proofs.Ytjdnpgilinfkgaa
open Go.RowKit

def loB (l : List Smp) : Int := mnL (bdL l) (bns l.length)
def hiB (l : List Smp) : Int := -mnL (fun u => -bdL l u) (bns l.length)
/-- Hold and Skate of the best arm. -/
def baL (l : List Smp) : Int × Int := if l.length < 3 then (0, 0) else ((hiB l - loB l + 1) / 2, hiB l - (hiB l - loB l + 1) / 2)
theorem bns_ne {n : Nat} (h : 3 ≤ n) : bns n ≠ [] := List.ne_nil_of_mem (bns_mem.2 (show 1 ≤ 1 ∧ 1 + 1 < n by omega))
theorem loB_at {l : List Smp} (he : Edg l) (h : 3 ≤ l.length) : (∃ i, 1 ≤ i ∧ i + 1 < l.length ∧ loB l = bdL l i) ∧ ∀ i, 1 ≤ i → i + 1 < l.length → loB l ≤ bdL l i := by
  refine ⟨?_, fun i h1 h2 => mnL_le (bns_mem.2 ⟨h1, h2⟩)⟩
  obtain ⟨u, hu, e⟩ := mnL_at (f := bdL l) (bns_ne h) (fun u hu => by have := bdL_bd he (bns_mem.1 hu).2; omega)
  exact ⟨u, (bns_mem.1 hu).1, (bns_mem.1 hu).2, e⟩
theorem hiB_at {l : List Smp} (he : Edg l) (h : 3 ≤ l.length) : (∃ i, 1 ≤ i ∧ i + 1 < l.length ∧ hiB l = bdL l i) ∧ ∀ i, 1 ≤ i → i + 1 < l.length → bdL l i ≤ hiB l := by
  refine ⟨?_, fun i h1 h2 => ?_⟩
  · obtain ⟨u, hu, e⟩ := mnL_at (f := fun u => -bdL l u) (bns_ne h) (fun u hu => by have := bdL_bd he (bns_mem.1 hu).2; omega)
    refine ⟨u, (bns_mem.1 hu).1, (bns_mem.1 hu).2, ?_⟩
    have e : mnL (fun u => -bdL l u) (bns l.length) = -bdL l u := e
    unfold hiB; omega
  · have h3 : mnL (fun u => -bdL l u) (bns l.length) ≤ -bdL l i := mnL_le (f := fun u => -bdL l u) (bns_mem.2 ⟨h1, h2⟩)
    unfold hiB; omega
theorem loHi_bd {l : List Smp} (he : Edg l) (h : 3 ≤ l.length) : -33554432 ≤ loB l ∧ loB l ≤ hiB l ∧ hiB l ≤ 33554432 := by
  obtain ⟨i, h1, h2, e⟩ := (loB_at he h).1
  obtain ⟨j, h3, h4, e2⟩ := (hiB_at he h).1
  have := bdL_bd he h2
  have := bdL_bd he h4
  have := (loB_at he h).2 j h3 h4
  omega

set_option maxRecDepth 100000 in
set_option maxHeartbeats 2000000 in
theorem best_any (B : Nat) (A : Option Addr) (n k : Nat) (l : List Smp) (w : World) (h0 : RS w B A n l) (hB : B ≤ w.heap.size) (he : Edg l) (hn : n ≤ 4096) (h3 : 3 ≤ n) :
    Calls Try.prog 78 #[.slice A n k] w fun e w' => e = .returned (.agg #[.int .i64 (baL l).1, .int .i64 (baL l).2]) ∧ Below w.heap.size w w' := by
  have HN := Lib.hid h0.1
  have H := Lib.hid (h0.more hB)
  have HE := Lib.hid he
  have hb := loHi_bd he (by have := h0.1; omega)
  have hba : baL l = ((hiB l - loB l + 1) / 2, hiB l - (hiB l - loB l + 1) / 2) := by unfold baL; rw [if_neg (by have := h0.1; omega)]
  clear h0 hB he
  have SQ := Lib.hid (fun W (hW : Below w.heap.size w W) => bends_any A n k W)
  have SI : Hid (∀ W bl, Below w.heap.size w W → Blk W bl 32 #[.slice A n k] → w.heap.size ≤ bl → SeqB W 100 #[.pointer (some ⟨bl, 0, none⟩)] (bns l.length) (bdL l)) := Lib.hid (fun W bl hW hk hbl =>
    ⟨enters_of Try.func100 (by kernel_rfl) rfl, fun gg X hX hg => by
      rw [← HN.out]
      exact bends1_all (12 - 1) bl w.heap.size A n k l gg X (by omega) (hk.below hX hk.lt) ((H.out.below hW (Nat.le_refl _)).below hX hW.size) (Nat.le_trans hW.size hX.size) (fun h => by have := hg _ h; have := hk.lt; omega) (fun q hq => Nat.le_trans hW.size (hg q hq)) hn HE.out⟩)
  have LO : Hid (∀ W bl, Below w.heap.size w W → Blk W bl 32 #[.slice A n k] → w.heap.size ≤ bl → Calls Try.prog 103 #[.func (.func 100) #[] #[.pointer (some ⟨bl, 0, none⟩)], .func (.func 102) #[] #[]] W fun e w' => e = .returned (.int .i64 (loB l)) ∧ Below W.heap.size W w') :=
    Lib.hid (fun W bl h1 h2 h3 => leastB_any _ _ _ _ _ _ _ _ W (SI.out W bl h1 h2 h3) (best1_any _ (bdL l) W))
  have HI : Hid (∀ W bl, Below w.heap.size w W → Blk W bl 32 #[.slice A n k] → w.heap.size ≤ bl → Calls Try.prog 104 #[.func (.func 100) #[] #[.pointer (some ⟨bl, 0, none⟩)], .func (.func 102) #[] #[]] W fun e w' => e = .returned (.int .i64 (hiB l)) ∧ Below W.heap.size W w') :=
    Lib.hid (fun W bl h1 h2 h3' => greatestB_any _ _ _ _ _ _ _ _ W (SI.out W bl h1 h2 h3') (best1_any _ (bdL l) W) (bns_ne (by have := HN.out; omega)) (fun u hu => by have := bdL_bd HE.out (bns_mem.1 hu).2; omega))
  obtain ⟨lo, hlo⟩ : ∃ lo, loB l = lo := ⟨_, rfl⟩
  obtain ⟨hi, hhi⟩ : ∃ hi, hiB l = hi := ⟨_, rfl⟩
  rw [hlo] at LO hb hba
  rw [hhi] at HI hb hba
  obtain ⟨hd, hhd⟩ : ∃ hd, (hi - lo + 1) / 2 = hd := ⟨_, rfl⟩
  rw [hhd] at hba
  have HBA := Lib.hid hba
  have e1 : IntKind.i64.wrap (hi - lo) = hi - lo := IntWalk.i64_in _ (by omega)
  have e2 : IntKind.i64.wrap (hi - lo + 1) = hi - lo + 1 := IntWalk.i64_in _ (by omega)
  have e3 : IntKind.i64.wrap (hi - hd) = hi - hd := IntWalk.i64_in _ (by omega)
  have e4 : (hi - lo + 1).tdiv 2 = hd := by rw [Int.tdiv_eq_ediv_of_nonneg (by omega)]; exact hhd
  have e5 : IntKind.i64.wrap hd = hd := IntWalk.i64_in _ (by omega)
  clear hlo hhi hba SI
  go_enter Try.func78, Try.ntmps78
  go_wp2_with fail
  obtain ⟨W, hW⟩ : ∃ W, w.alloc (.cells #[.int .i64 0, .int .i64 0] 52) = W := ⟨_, rfl⟩
  have hbw : Below w.heap.size w W := by rw [← hW]; exact (Below.refl _ _).alloc (Nat.le_refl _) _
  have KA : Hid (Blk W w.heap.size 52 #[.int .i64 0, .int .i64 0]) := Lib.hid (by rw [← hW]; exact Blk.new _ _ _)
  have HB := Lib.hid hbw
  rw [hW]
  clear hW hbw
  refine (SQ.out _ HB.out).mono ?_
  rintro e W2 ⟨rfl, hW2⟩
  have hb2 : Below W.heap.size W W2 := by rw [← hW2]; exact (Below.refl _ _).alloc (Nat.le_refl _) _
  have KL : Hid (Blk W2 W.heap.size 32 #[.slice A n k]) := Lib.hid (by rw [← hW2]; exact Blk.new _ _ _)
  have hs1 := HB.out.size
  replace KA := Lib.hid (KA.out.below hb2 KA.out.lt)
  replace HB := Lib.hid (HB.out.trans (hb2.mono HB.out.size))
  clear hW2 hb2
  go_wp2_with fail
  refine (LO.out _ _ HB.out KL.out hs1).mono ?_
  rintro e w3 ⟨rfl, hb1⟩
  replace KA := Lib.hid (KA.out.below hb1 KA.out.lt)
  replace HB := Lib.hid (HB.out.trans (hb1.mono HB.out.size))
  clear hb1 KL
  go_wp2_with fail
  refine (SQ.out _ HB.out).mono ?_
  rintro e W4 ⟨rfl, hW2⟩
  have hb2 : Below w3.heap.size w3 W4 := by rw [← hW2]; exact (Below.refl _ _).alloc (Nat.le_refl _) _
  have KL : Hid (Blk W4 w3.heap.size 32 #[.slice A n k]) := Lib.hid (by rw [← hW2]; exact Blk.new _ _ _)
  have hs3 := HB.out.size
  replace KA := Lib.hid (KA.out.below hb2 KA.out.lt)
  replace HB := Lib.hid (HB.out.trans (hb2.mono HB.out.size))
  clear hW2 hb2
  go_wp2_with fail
  refine (HI.out _ _ HB.out KL.out hs3).mono ?_
  rintro e w5 ⟨rfl, hb1⟩
  replace KA := Lib.hid (KA.out.below hb1 KA.out.lt)
  replace HB := Lib.hid (HB.out.trans (hb1.mono HB.out.size))
  clear hb1 KL LO HI SQ
  obtain ⟨z0, z1, z2, z3, z4⟩ := KA.out.two
  go_wp2
  have KF := Lib.hid ((KA.out.set_ 0 (.int .i64 hd)).set_ 1 (.int .i64 (hi - hd)))
  have g0 := (KF.out.cell 0).trans rfl
  have g1 := (KF.out.cell 1).trans rfl
  refine ⟨rfl, .agg #[.int .i64 hd, .int .i64 (hi - hd)], ?_, by rw [HBA.out], (HB.out.setCell (p := ⟨w.heap.size, 0, none⟩) (Nat.le_refl _) _).setCell (p := ⟨w.heap.size, 1, none⟩) (Nat.le_refl _) _⟩
  simp [results, Try.results78, go_sem, g0, g1]
end Go.Proofs.Ytjdnpgilinfkgaa
