/-
  The document's Balance.
-/
import Derived.Test.YtjdnpgilinfkgaaND
namespace Go.Proofs.Ytjdnpgilinfkgaa
open Go.RowKit

/-- The least and the greatest bend up to a sample. -/
def lo2 (l : List Smp) : Nat → Int | 0 => bdL l 1 | i + 1 => min (lo2 l i) (bdL l (i + 1))
def hi2 (l : List Smp) : Nat → Int | 0 => bdL l 1 | i + 1 => max (hi2 l i) (bdL l (i + 1))
theorem lo2_is {l : List Smp} : ∀ m, (∀ i, 1 ≤ i → i ≤ m → lo2 l m ≤ bdL l i) ∧ ∃ i, 1 ≤ i ∧ i ≤ max m 1 ∧ lo2 l m = bdL l i
  | 0 => ⟨fun i h1 h2 => by omega, 1, by omega, by omega, rfl⟩
  | m + 1 => by
    obtain ⟨h1, i, h2, h3, h4⟩ := lo2_is (l := l) m
    have e : lo2 l (m + 1) = min (lo2 l m) (bdL l (m + 1)) := rfl
    refine ⟨fun j k1 k2 => ?_, ?_⟩
    · rcases Nat.lt_or_ge j (m + 1) with h | h
      · have := h1 j k1 (by omega); omega
      · rw [show j = m + 1 by omega]; omega
    · rcases Int.le_total (lo2 l m) (bdL l (m + 1)) with h | h
      · exact ⟨i, h2, by omega, by omega⟩
      · exact ⟨m + 1, by omega, by omega, by omega⟩
theorem hi2_is {l : List Smp} : ∀ m, (∀ i, 1 ≤ i → i ≤ m → bdL l i ≤ hi2 l m) ∧ ∃ i, 1 ≤ i ∧ i ≤ max m 1 ∧ hi2 l m = bdL l i
  | 0 => ⟨fun i h1 h2 => by omega, 1, by omega, by omega, rfl⟩
  | m + 1 => by
    obtain ⟨h1, i, h2, h3, h4⟩ := hi2_is (l := l) m
    have e : hi2 l (m + 1) = max (hi2 l m) (bdL l (m + 1)) := rfl
    refine ⟨fun j k1 k2 => ?_, ?_⟩
    · rcases Nat.lt_or_ge j (m + 1) with h | h
      · have := h1 j k1 (by omega); omega
      · rw [show j = m + 1 by omega]; omega
    · rcases Int.le_total (hi2 l m) (bdL l (m + 1)) with h | h
      · exact ⟨m + 1, by omega, by omega, by omega⟩
      · exact ⟨i, h2, by omega, by omega⟩
theorem lo2_lo {l : List Smp} (he : Edg l) (h : 3 ≤ l.length) : lo2 l (l.length - 2) = loB l ∧ hi2 l (l.length - 2) = hiB l := by
  obtain ⟨h1, i, h2, h3, h4⟩ := lo2_is (l := l) (l.length - 2)
  obtain ⟨k1, j, k2, k3, k4⟩ := hi2_is (l := l) (l.length - 2)
  obtain ⟨⟨u, a1, a2, a3⟩, a4⟩ := loB_at he h
  obtain ⟨⟨v, b1, b2, b3⟩, b4⟩ := hiB_at he h
  have := h1 u a1 (by omega)
  have := a4 i h2 (by omega)
  have := k1 v b1 (by omega)
  have := b4 j k2 (by omega)
  omega
theorem lo2_bd {l : List Smp} (he : Edg l) {m : Nat} (h : 3 ≤ l.length) (hm : m + 1 < l.length) : (-33554432 ≤ lo2 l m ∧ lo2 l m ≤ 33554432) ∧ -33554432 ≤ hi2 l m ∧ hi2 l m ≤ 33554432 := by
  obtain ⟨_, i, h2, h3, h4⟩ := lo2_is (l := l) m
  obtain ⟨_, j, k2, k3, k4⟩ := hi2_is (l := l) m
  have := bdL_bd he (i := i) (by omega)
  have := bdL_bd he (i := j) (by omega)
  omega

set_option maxRecDepth 100000 in
set_option maxHeartbeats 4000000 in
theorem refBalance_any (B : Nat) (A : Option Addr) (n c : Nat) (l : List Smp) (w : World) (h0 : RS w B A n l) (hB : B ≤ w.heap.size) (hl : n ≤ 9223372036854775807) :
    Calls Try.prog 33 #[.slice A n c] w fun e w' => e = .returned (.tuple #[.agg #[.int .i64 (if ckG l = 0 then (baL l).1 else 0), .int .i64 (if ckG l = 0 then (baL l).2 else 0)], .int .i64 (ckG l)]) ∧ Below w.heap.size w w' := by
  have HN := Lib.hid h0.1
  have H := Lib.hid (h0.more hB)
  clear h0 hB
  have CG := Lib.hid (fun W (hb : Below w.heap.size w W) => refCheckPoints_any w.heap.size A n c l W (H.out.below hb (Nat.le_refl _)) hb.size hl)
  have hbw : Below w.heap.size w (w.alloc (.cells #[.int .i64 0, .int .i64 0] 52)) := (Below.refl _ _).alloc (Nat.le_refl _) _
  have kw : Blk (w.alloc (.cells #[.int .i64 0, .int .i64 0] 52)) w.heap.size 52 #[.int .i64 0, .int .i64 0] := Blk.new _ _ _
  by_cases hz : ckG l = 0
  · obtain ⟨hl4, he⟩ := ckG_edg hz
    rw [hz] at CG
    rw [if_pos hz, if_pos hz, hz]
    have hn4 : n ≤ 4096 := by have := HN.out; omega
    clear hz hl4
    by_cases h3 : n < 3
    · have hba : baL l = (0, 0) := by unfold baL; rw [if_pos (by have := HN.out; omega)]
      rw [hba]
      have d2 : (n : Int) < 3 := by omega
      have d1 : decide ((n : Int) < 3) = true := decide_eq_true d2
      clear h3 hba he
      go_enter Try.func33, Try.ntmps33
      go_wp2_with fail
      refine (CG.out _ hbw).mono ?_
      rintro e w1 ⟨rfl, hb1⟩
      have K := Lib.hid (kw.below hb1 kw.lt)
      have HB := Lib.hid (hbw.trans (hb1.mono hbw.size))
      clear hb1 kw hbw
      obtain ⟨z0, z1, z2, z3, z4⟩ := K.out.two
      go_wp2
      have KF := Lib.hid ((K.out.set_ 0 (.int .i64 0)).set_ 1 (.int .i64 0))
      have g0 := (KF.out.cell 0).trans rfl
      have g1 := (KF.out.cell 1).trans rfl
      refine ⟨rfl, .tuple #[.agg #[.int .i64 0, .int .i64 0], .int .i64 0], ?_, rfl, (HB.out.setCell (p := ⟨w.heap.size, 0, none⟩) (Nat.le_refl _) _).setCell (p := ⟨w.heap.size, 1, none⟩) (Nat.le_refl _) _⟩
      simp [results, Try.results33, go_sem, g0, g1]
    · have h3n : 3 ≤ n := by omega
      have hll : 3 ≤ l.length := by have := HN.out; omega
      have d2 : ¬ ((n : Int) < 3) := by omega
      have d1 : decide ((n : Int) < 3) = false := decide_eq_false d2
      have HE := Lib.hid he
      have HLB := Lib.hid (lo2_lo he hll)
      have hlh := loHi_bd he hll
      have hba : baL l = ((hiB l - loB l + 1) / 2, hiB l - (hiB l - loB l + 1) / 2) := by unfold baL; rw [if_neg (by omega)]
      have HBA := Lib.hid hba
      have HLH := Lib.hid hlh
      have HBD := Lib.hid (fun m (hm : m + 1 < l.length) => lo2_bd he hll hm)
      have BN := Lib.hid (fun i W (hb : Below w.heap.size w W) (h1 : 1 ≤ i) (h2 : i + 1 < n) => refBend_any w.heap.size A n c i l W (H.out.below hb (Nat.le_refl _)) he hn4 h1 h2)
      have BN1 := Lib.hid (fun W hb => BN.out 1 W hb (Nat.le_refl _) (by omega))
      have hl0 : lo2 l 0 = bdL l 1 ∧ hi2 l 0 = bdL l 1 := ⟨rfl, rfl⟩
      have HL0 := Lib.hid hl0
      obtain ⟨b1, hb1⟩ : ∃ b, bdL l 1 = b := ⟨_, rfl⟩
      rw [hb1] at BN1 HL0
      clear h3 hba he hlh hll hb1 hl0
      go_enter Try.func33, Try.ntmps33
      go_wp2_with fail
      refine (CG.out _ hbw).mono ?_
      rintro e w1 ⟨rfl, hb1⟩
      have K := Lib.hid (kw.below hb1 kw.lt)
      have HB := Lib.hid (hbw.trans (hb1.mono hbw.size))
      clear hb1 kw hbw
      go_wp2_with fail
      refine (BN1.out _ HB.out).mono ?_
      rintro e w2 ⟨rfl, hb1⟩
      replace K := Lib.hid (K.out.below hb1 K.out.lt)
      replace HB := Lib.hid (HB.out.trans (hb1.mono HB.out.size))
      clear hb1
      go_wp2_with fail
      refine (BN1.out _ HB.out).mono ?_
      rintro e w3 ⟨rfl, hb1⟩
      replace K := Lib.hid (K.out.below hb1 K.out.lt)
      replace HB := Lib.hid (HB.out.trans (hb1.mono HB.out.size))
      clear hb1
      go_wp2_with fail
      go_loopw [5, 6, 7] (fun v5 v6 z wr => ∃ i : Nat, 1 ≤ i ∧ i + 1 ≤ n ∧ z = .int .i64 i ∧ v5 = .int .i64 (lo2 l (i - 1)) ∧ v6 = .int .i64 (hi2 l (i - 1)) ∧ Hid (Blk wr w.heap.size 52 #[.int .i64 0, .int .i64 0]) ∧ Hid (Below w.heap.size w wr)) (fun _ _ z _ => n - (intOf z).toNat)
      case atStart => exact ⟨1, Nat.le_refl _, by omega, rfl, by rw [← HL0.out.1], by rw [← HL0.out.2], K, HB⟩
      case round =>
        clear K HB
        obtain ⟨i, hi, hin, rfl, rfl, rfl, K, HB⟩ := hrel
        have e1 : IntKind.i64.wrap ((i : Int) + 1) = (i : Int) + 1 := IntWalk.i64_in _ (by omega)
        by_cases hlt : i + 1 < n
        · have g1 : (i : Int) + 1 < (n : Int) := by omega
          have BI := Lib.hid (fun W hb => BN.out i W hb hi hlt)
          have f1 : lo2 l (i + 1 - 1) = min (lo2 l (i - 1)) (bdL l i) := by rw [show i + 1 - 1 = (i - 1) + 1 by omega]; show min (lo2 l (i - 1)) (bdL l (i - 1 + 1)) = _; rw [show i - 1 + 1 = i by omega]
          have f2 : hi2 l (i + 1 - 1) = max (hi2 l (i - 1)) (bdL l i) := by rw [show i + 1 - 1 = (i - 1) + 1 by omega]; show max (hi2 l (i - 1)) (bdL l (i - 1 + 1)) = _; rw [show i - 1 + 1 = i by omega]
          obtain ⟨lo', hlo'⟩ : ∃ x, lo2 l (i + 1 - 1) = x := ⟨_, rfl⟩
          obtain ⟨hi', hhi'⟩ : ∃ x, hi2 l (i + 1 - 1) = x := ⟨_, rfl⟩
          have HLO := Lib.hid hlo'
          have HHI := Lib.hid hhi'
          rw [hlo'] at f1
          rw [hhi'] at f2
          obtain ⟨lo, hlo⟩ : ∃ x, lo2 l (i - 1) = x := ⟨_, rfl⟩
          obtain ⟨hi_, hhi⟩ : ∃ x, hi2 l (i - 1) = x := ⟨_, rfl⟩
          rw [hlo] at f1 ⊢
          rw [hhi] at f2 ⊢
          obtain ⟨b, hb⟩ : ∃ x, bdL l i = x := ⟨_, rfl⟩
          rw [hb] at f1 f2 BI
          have m1 : (if b < lo then b else lo) = lo' := by rw [f1]; split <;> omega
          have m2 : (if hi_ < b then b else hi_) = hi' := by rw [f2]; split <;> omega
          clear f1 f2 hb hlo hhi hlo' hhi'
          go_wp2_with fail
          refine (BI.out _ HB.out).mono ?_
          rintro e w4 ⟨rfl, hb1⟩
          replace K := Lib.hid (K.out.below hb1 K.out.lt)
          replace HB := Lib.hid (HB.out.trans (hb1.mono HB.out.size))
          clear hb1
          go_wp2_with fail
          refine (BI.out _ HB.out).mono ?_
          rintro e w5 ⟨rfl, hb1⟩
          replace K := Lib.hid (K.out.below hb1 K.out.lt)
          replace HB := Lib.hid (HB.out.trans (hb1.mono HB.out.size))
          clear hb1
          go_wp2
          go_roundw
          case rel => exact ⟨i + 1, by omega, by omega, by go_num, by rw [HLO.out], by rw [HHI.out], K, HB⟩
          case measure => simp [intOf]; omega
        · have g1 : ¬ ((i : Int) + 1 < (n : Int)) := by omega
          have hie : i - 1 = l.length - 2 := by have := HN.out; omega
          rw [hie, HLB.out.1, HLB.out.2]
          have hlh := HLH.out
          have hba := HBA.out
          obtain ⟨lo, hlo⟩ : ∃ lo, loB l = lo := ⟨_, rfl⟩
          obtain ⟨hi_, hhi⟩ : ∃ hi, hiB l = hi := ⟨_, rfl⟩
          rw [hlo, hhi] at hlh hba ⊢
          obtain ⟨hd, hhd⟩ : ∃ hd, (hi_ - lo + 1) / 2 = hd := ⟨_, rfl⟩
          rw [hhd] at hba
          have e2 : IntKind.i64.wrap (hi_ - lo) = hi_ - lo := IntWalk.i64_in _ (by omega)
          have e3 : IntKind.i64.wrap (hi_ - lo + 1) = hi_ - lo + 1 := IntWalk.i64_in _ (by omega)
          have e4 : IntKind.i64.wrap (hi_ - hd) = hi_ - hd := IntWalk.i64_in _ (by omega)
          have e5 : (hi_ - lo + 1).tdiv 2 = hd := by rw [Int.tdiv_eq_ediv_of_nonneg (by omega)]; exact hhd
          have e6 : IntKind.i64.wrap hd = hd := IntWalk.i64_in _ (by omega)
          have p1 : ¬ (hi_ - lo + 1 < 0) := by omega
          have HBF := Lib.hid hba
          clear hlh hba hlo hhi hhd hie
          obtain ⟨z0, z1, z2, z3, z4⟩ := K.out.two
          go_wp2
          have KF := Lib.hid ((K.out.set_ 0 (.int .i64 hd)).set_ 1 (.int .i64 (hi_ - hd)))
          have g0 := (KF.out.cell 0).trans rfl
          have g1 := (KF.out.cell 1).trans rfl
          refine ⟨rfl, .tuple #[.agg #[.int .i64 hd, .int .i64 (hi_ - hd)], .int .i64 0], ?_, by rw [HBF.out], (HB.out.setCell (p := ⟨w.heap.size, 0, none⟩) (Nat.le_refl _) _).setCell (p := ⟨w.heap.size, 1, none⟩) (Nat.le_refl _) _⟩
          simp [results, Try.results33, go_sem, g0, g1]
  · rw [if_neg hz, if_neg hz]
    obtain ⟨q, hq⟩ : ∃ q, ckG l = q := ⟨_, rfl⟩
    rw [hq] at CG hz ⊢
    have q1 : (q != 0) = true := by rw [bne_iff_ne]; exact hz
    clear hz hq
    go_enter Try.func33, Try.ntmps33
    go_wp2_with fail
    refine (CG.out _ hbw).mono ?_
    rintro e w1 ⟨rfl, hb1⟩
    have K := Lib.hid (kw.below hb1 kw.lt)
    have HB := Lib.hid (hbw.trans (hb1.mono hbw.size))
    clear hb1 kw hbw
    obtain ⟨z0, z1, z2, z3, z4⟩ := K.out.two
    go_wp2
    have KF := Lib.hid ((K.out.set_ 0 (.int .i64 0)).set_ 1 (.int .i64 0))
    have g0 := (KF.out.cell 0).trans rfl
    have g1 := (KF.out.cell 1).trans rfl
    refine ⟨rfl, .tuple #[.agg #[.int .i64 0, .int .i64 0], .int .i64 q], ?_, rfl, (HB.out.setCell (p := ⟨w.heap.size, 0, none⟩) (Nat.le_refl _) _).setCell (p := ⟨w.heap.size, 1, none⟩) (Nat.le_refl _) _⟩
    simp [results, Try.results33, go_sem, g0, g1]
end Go.Proofs.Ytjdnpgilinfkgaa
