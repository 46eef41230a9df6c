/-
  What is right of a locked groove, for the law.
-/
import Derived.Test.YtgdkcbnpgpjnbaaLZ
namespace Go.Proofs.Ytgdkcbnpgpjnbaa
open Go.RowKit

theorem lkTo_anti (b : Bk) (P : List Smp) (R : List Int) (s j : Nat) : ∀ d, lkTo b P R s (j + d) ≤ lkTo b P R s j := by
  intro d
  induction d with
  | zero => exact Int.le_refl _
  | succ d ih => rw [← Nat.add_assoc, lkTo]; omega
def rgtB (b : Bk) (P : List Smp) (R : List Int) (half x : Int) : Bool := decide (x + half ≤ lkM b P R) && decide (half ≤ x)

set_option maxRecDepth 100000 in
set_option maxHeartbeats 8000000 in
theorem right5_any (B : Nat) (A AR : Option Addr) (n c m d : Nat) (b : Bk) (P : List Smp) (R : List Int) (half x : Int) (w : World) (h0 : RS w B A n P) (h1 : LI w B AR m R) (hB : B ≤ w.heap.size) (hl : n ≤ 9223372036854775807) (hc : CutIs b P R) (hh1 : 1 ≤ half) (hh2 : half ≤ 4096) (hx1 : -16777216 ≤ x) (hx2 : x ≤ 16777217) :
    Calls Try.prog 36 #[.agg #[.int .i64 b.per, .int .i64 b.rim, .int .i64 b.core, .int .i64 b.land, .int .i64 b.slow, .int .i64 b.fast], .slice A n c, .slice AR m d, .int .i64 half, .int .i64 x] w fun e w' => e = .returned (.bool (rgtB b P R half x)) ∧ Below w.heap.size w w' := by
  have HP := Lib.hid (h0.more hB)
  have HR := Lib.hid (h1.more hB)
  have HN := Lib.hid h0.1
  have HM := Lib.hid h1.1
  clear h0 h1 hB
  go_enter Try.func36, Try.ntmps36
  go_upto_region 1 with fail
  obtain ⟨w0, hW⟩ : ∃ W, w.alloc (.cells #[.int .i64 b.per, .int .i64 b.rim, .int .i64 b.core, .int .i64 b.land, .int .i64 b.slow, .int .i64 b.fast] 23) = W := ⟨_, rfl⟩
  have hb0 : Below w.heap.size w w0 := by rw [← hW]; exact below_a _ _
  have k0 : Blk w0 w.heap.size 23 #[.int .i64 b.per, .int .i64 b.rim, .int .i64 b.core, .int .i64 b.land, .int .i64 b.slow, .int .i64 b.fast] := by rw [← hW]; exact Blk.new _ _ _
  rw [hW]
  have HB := Lib.hid hb0
  have HK := Lib.hid k0
  obtain ⟨c0, c1, c2, c3, c4, c5⟩ := k0.six
  clear hW hb0 k0
  have p1 := hc.bk.per1
  have p2 := hc.bk.per2
  have CI := Lib.hid hc
  clear hc
  obtain ⟨s, hs⟩ : ∃ s, lkS b n = s := ⟨_, rfl⟩
  have hn4 : n ≤ 4096 := by have := CI.out.n; rw [← HN.out] at this; exact this
  have hsm : IntKind.i64.wrap ((n : Int) - b.per) = (n : Int) - b.per := IntWalk.i64_in _ (by omega)
  have hsx : max (0 : Int) ((n : Int) - b.per) = (s : Int) := by rw [← hs]; unfold lkS; omega
  have hsn : s ≤ n := by rw [← hs]; unfold lkS; omega
  have HLK : Hid (lkM b P R = lkTo b P R s (n - s)) := Lib.hid (by unfold lkM; rw [← HN.out, hs])
  have hm : m = n := by rw [HM.out, CI.out.len, ← HN.out]
  subst hm
  by_cases hr : x + half > b.rim
  · have HE : Hid (rgtB b P R half x = false) := Lib.hid (by
      have := lkTo_anti b P R s 0 (m - s)
      rw [Nat.zero_add, ← HLK.out, lkTo] at this
      unfold rgtB
      simp only [Bool.and_eq_false_iff, decide_eq_false_iff_not]
      omega)
    go_wp2
    go_ret
    rw [HE.out]
    exact ⟨rfl, HB.out⟩
  · by_cases hz : x - half < 0
    · have HE : Hid (rgtB b P R half x = false) := Lib.hid (by
        unfold rgtB
        simp only [Bool.and_eq_false_iff, decide_eq_false_iff_not]
        omega)
      go_wp2
      go_ret
      rw [HE.out]
      exact ⟨rfl, HB.out⟩
    · have hrim : x + half ≤ b.rim := by omega
      go_wp2_with fail
      all_goals
        clear hsm
        go_loopw [11] (fun z wr => ∃ j : Nat, s + j ≤ m ∧ z = .int .i64 ((s + j : Nat) : Int) ∧ x + half ≤ lkTo b P R s j ∧ Hid (Below w0.heap.size w0 wr)) (fun z _ => m - (intOf z).toNat)
        case atStart => exact ⟨0, by omega, by congr 1; omega, by rw [lkTo]; exact hrim, Lib.hid (Below.refl _ _)⟩
        case round =>
          obtain ⟨j, hj, rfl, hlk, HB2⟩ := hrel
          clear c0 c1 c2 c3 c4 c5
          obtain ⟨c0, c1, c2, c3, c4, c5⟩ := (HK.out.below HB2.out HK.out.lt).six
          have HB3 := Lib.hid (HB.out.trans (HB2.out.mono HB.out.size))
          by_cases hlt : s + j < m
          · obtain ⟨v0, hv0⟩ : ∃ v0, lkTo b P R s j = v0 := ⟨_, rfl⟩
            have HV : Hid (lkTo b P R s (j + 1) = min v0 (fx R (s + j) + pin P (s + j) - b.land)) := Lib.hid (by rw [← hv0]; rfl)
            have HA : Hid (lkM b P R ≤ lkTo b P R s (j + 1)) := Lib.hid (by
              have := lkTo_anti b P R s (j + 1) (m - s - (j + 1))
              rw [show j + 1 + (m - s - (j + 1)) = m - s by omega, ← HLK.out] at this
              exact this)
            rw [hv0] at hlk
            obtain ⟨ad, hA, -, g1, g2⟩ := (HP.out.below HB3.out (Nat.le_refl _)).pt hlt
            obtain ⟨ad', hA', -, g3⟩ := (HR.out.below HB3.out (Nat.le_refl _)).fx hlt
            subst hA hA'
            obtain ⟨q5, q6⟩ := CI.out.rs.fx (s + j)
            obtain ⟨q1, q2, -, -⟩ := CI.out.ps.at_ (s + j)
            have q7 := CI.out.bk.land1
            have q8 := CI.out.bk.land2
            obtain ⟨k, hk⟩ : ∃ k, s + j = k := ⟨_, rfl⟩
            rw [hk] at hlt g1 g2 g3 HV q1 q2 q5 q6 ⊢
            have hk1 : s + (j + 1) = k + 1 := by omega
            have HJ := Lib.hid hk1
            clear hj hv0 hk hk1 hsx hsn
            by_cases hbr : x + half > fx R k + pin P k - b.land
            · have HE : Hid (rgtB b P R half x = false) := Lib.hid (by
                have h1 := HA.out
                rw [HV.out] at h1
                unfold rgtB
                simp only [Bool.and_eq_false_iff, decide_eq_false_iff_not]
                omega)
              go_wp2_with fail
              go_quiet (fail)
              go_wp2
              go_ret
              rw [HE.out]
              exact ⟨rfl, below_drewN_ HB3.out _⟩
            · have HG : Hid (x + half ≤ lkTo b P R s (j + 1)) := Lib.hid (by rw [HV.out]; omega)
              go_wp2_with fail
              go_quiet (fail)
              go_wp2
              go_roundw
              case rel => exact ⟨j + 1, by have := HJ.out; omega, by rw [HJ.out]; go_num, HG.out, Lib.hid (below_drewN_ HB2.out _)⟩
              case measure => simp [intOf]; omega
          · have HE : Hid (rgtB b P R half x = true) := Lib.hid (by
              rw [show j = m - s by omega, ← HLK.out] at hlk
              unfold rgtB
              simp only [Bool.and_eq_true, decide_eq_true_eq]
              omega)
            have hjm : s + j = m := by omega
            rw [hjm]
            go_wp2
            go_ret
            rw [HE.out]
            exact ⟨rfl, HB3.out⟩
end Go.Proofs.Ytgdkcbnpgpjnbaa
