/-
  The walk of PlayBalanced.
-/
import Derived.Test.YtjdnpgilinfkgaaNE
import Derived.Test.YtjdnpgilinfkgaaNG
import Derived.Test.YtjdnpgilinfkgaaKG
import Derived.Test.YtjdnpgilinfkgaaME
import Derived.Test.YtjdnpgilinfkgaaMF
import Derived.Deep.Cut
namespace Go.Proofs.Ytjdnpgilinfkgaa
open Go.RowKit

theorem jm_none {a : Int × Int} {l : List Smp} (h : jmEr a l = 0) (hm : jmL a l = none) : jmI a l = 0 ∧ jmT a l = 0 ∧ jmE a l = 5 := by
  unfold jmI jmT jmE
  rw [if_pos h, if_pos h, if_pos h, hm]
  exact ⟨rfl, rfl, rfl⟩
theorem jm_some {a : Int × Int} {l : List Smp} {i : Nat} {t : Int} (h : jmEr a l = 0) (hm : jmL a l = some (i, t)) : jmI a l = i ∧ jmT a l = t ∧ jmE a l = 0 := by
  unfold jmI jmT jmE
  rw [if_pos h, if_pos h, if_pos h, hm]
  exact ⟨rfl, rfl, rfl⟩

set_option maxRecDepth 100000 in
set_option maxHeartbeats 8000000 in
theorem balanced_walk (B : Nat) (A : Option Addr) (n k : Nat) (l : List Smp) (a : Int × Int) (more : Int) (w : World) (h0 : RS w B A n l) (hB : B ≤ w.heap.size) (hl : n ≤ 9223372036854775807) (hm0 : 0 ≤ more) (hm1 : more ≤ 65535) :
    Calls Try.prog 11 #[.slice A n k, .agg #[.int .i64 a.1, .int .i64 a.2], .int .u16 more] w fun e w' => e = .returned (.bool true) ∧ Below w.heap.size w w' := by
  have HN := Lib.hid h0.1
  have H := Lib.hid h0
  clear h0
  by_cases c0 : 100 < n
  · have g1 : (100 : Int) < (n : Int) := by omega
    have g2 : decide ((100 : Int) < (n : Int)) = true := decide_eq_true g1
    have g3 : decide (100 < n) = true := decide_eq_true c0
    go_enter Try.func11, Try.ntmps11
    go_upto_region 1 with fail
    obtain ⟨w1, hW⟩ : ∃ W, w.alloc (.cells #[.int .i64 a.1, .int .i64 a.2] 52) = W := ⟨_, rfl⟩
    have hb : Below w.heap.size w w1 := by rw [← hW]; exact (Below.refl _ _).alloc (Nat.le_refl _) _
    have hsz1 := hb.size
    replace H := Lib.hid (H.out.below hb (by omega))
    have HK : Hid (Blk w1 w.heap.size 52 #[.int .i64 a.1, .int .i64 a.2]) := Lib.hid (by rw [← hW]; exact Blk.new _ _ _)
    have HB := Lib.hid hb
    try rw [hW]
    clear hW hb
    obtain ⟨t0, t1, -, -, -⟩ := HK.out.two
    go_wp2_with fail
    have CALL := works6_any w1
    refine CALL.mono ?_
    rintro e w2 ⟨rfl, hb⟩
    clear CALL
    have hsz2 := hb.size
    replace H := Lib.hid (H.out.below hb (by omega))
    replace HK := Lib.hid (HK.out.below hb HK.out.lt)
    replace HB := Lib.hid (HB.out.trans (hb.mono (by omega)))
    clear hb
    obtain ⟨t0, t1, -, -, -⟩ := HK.out.two
    go_wp2
    go_ret
    exact ⟨rfl, HB.out⟩
  · have g1 : ¬ ((100 : Int) < (n : Int)) := by omega
    have g2 : decide ((100 : Int) < (n : Int)) = false := decide_eq_false g1
    have g3 : decide (100 < n) = false := decide_eq_false c0
    by_cases c1 : ckG l = 0
    · by_cases c2 : ckA a = 0
      · have HG := Lib.hid c1
        have HA : Hid (decide (ckA a = 0) = true) := Lib.hid (decide_eq_true c2)
        have HE := Lib.hid (ckG_edg c1).2
        have HAB := Lib.hid (ckA_ok c2)
        have HER := Lib.hid (jmEr_of c2 c1)
        have hbd := ba_bd HE.out
        have HCB : Hid (decide (ckA (baL l) = 0) = true) := Lib.hid (decide_eq_true (ckA_of (by omega) (by omega)))
        have HERB := Lib.hid (jmEr_of (a := baL l) (ckA_of (by omega) (by omega)) c1)
        have HJB := Lib.hid (jm_none HERB.out (ba_holds HE.out (h := (baL l).1) (Int.le_refl _)))
        obtain ⟨h2, hh2⟩ : ∃ h2, (if (baL l).1 + more < 67108864 then (baL l).1 + more else 67108864) = h2 := ⟨_, rfl⟩
        have hh3 : (baL l).1 ≤ h2 ∧ h2 ≤ 67108864 := by rw [← hh2]; split <;> omega
        have HERG := Lib.hid (jmEr_of (a := (h2, (baL l).2)) (ckA_of (by dsimp only; omega) (by dsimp only; omega)) c1)
        have HJG := Lib.hid (jm_none HERG.out (ba_holds HE.out hh3.1))
        have e1 : IntKind.i64.wrap more = more := IntWalk.i64_in _ (by omega)
        have e2 : IntKind.i64.wrap ((baL l).1 + more) = (baL l).1 + more := IntWalk.i64_in _ (by omega)
        have HLS := Lib.hid (fun h => ba_least (a := a) HE.out h HAB.out.1.1)
        have hn4 : n ≤ 4096 := by omega
        obtain ⟨x1, hx1⟩ : ∃ x, (baL l).1 = x := ⟨_, rfl⟩
        obtain ⟨x2, hx2⟩ : ∃ x, (baL l).2 = x := ⟨_, rfl⟩
        have hbb : baL l = (x1, x2) := by rw [← hx1, ← hx2]
        have HBA : Hid ((if ckG l = 0 then (baL l).1 else 0) = x1 ∧ (if ckG l = 0 then (baL l).2 else 0) = x2 ∧ ckG l = 0) := Lib.hid ⟨(if_pos c1).trans hx1, (if_pos c1).trans hx2, c1⟩
        rw [hbb] at HCB HJB
        rw [hx2] at HJG
        rw [hx1] at e2 hh2
        rw [hx1, hx2] at HLS
        clear hx1 hx2 hbb hbd hh3 HERB HERG c1 c2
        have HHH := Lib.hid hh2
        clear hh2
        cases hm : jmL a l with
        | none =>
          have HM := Lib.hid (jm_none HER.out hm)
          have HQ := Lib.hid (HLS.out hm)
          clear hm HLS
          go_enter Try.func11, Try.ntmps11
          go_upto_region 1 with fail
          obtain ⟨w1, hW⟩ : ∃ W, w.alloc (.cells #[.int .i64 a.1, .int .i64 a.2] 52) = W := ⟨_, rfl⟩
          have hb : Below w.heap.size w w1 := by rw [← hW]; exact (Below.refl _ _).alloc (Nat.le_refl _) _
          have hsz1 := hb.size
          replace H := Lib.hid (H.out.below hb (by omega))
          have HK : Hid (Blk w1 w.heap.size 52 #[.int .i64 a.1, .int .i64 a.2]) := Lib.hid (by rw [← hW]; exact Blk.new _ _ _)
          have HB := Lib.hid hb
          try rw [hW]
          clear hW hb
          obtain ⟨t0, t1, -, -, -⟩ := HK.out.two
          go_wp2_with fail
          have CALL := refCheckPoints_any w1.heap.size A n k l w1 (H.out.more (by omega)) (Nat.le_refl _) (by omega)
          rw [HG.out] at CALL
          refine CALL.mono ?_
          rintro e w2 ⟨rfl, hb⟩
          clear CALL
          have hsz2 := hb.size
          replace H := Lib.hid (H.out.below hb (by omega))
          replace HK := Lib.hid (HK.out.below hb HK.out.lt)
          replace HB := Lib.hid (HB.out.trans (hb.mono (by omega)))
          clear hb
          obtain ⟨t0, t1, -, -, -⟩ := HK.out.two
          go_wp2_with fail
          have CALL := refCheckArm_any a w2
          rw [HA.out] at CALL
          refine CALL.mono ?_
          rintro e w3 ⟨rfl, hb⟩
          clear CALL
          have hsz3 := hb.size
          replace H := Lib.hid (H.out.below hb (by omega))
          replace HK := Lib.hid (HK.out.below hb HK.out.lt)
          replace HB := Lib.hid (HB.out.trans (hb.mono (by omega)))
          clear hb
          obtain ⟨t0, t1, -, -, -⟩ := HK.out.two
          go_wp2_with fail
          have CALL := Balance_any w3.heap.size A n k l w3 (H.out.more (by omega)) (Nat.le_refl _) (by omega)
          rw [HBA.out.1, HBA.out.2.1, HBA.out.2.2] at CALL
          refine CALL.mono ?_
          rintro e w4 ⟨rfl, hb⟩
          clear CALL
          have hsz4 := hb.size
          replace H := Lib.hid (H.out.below hb (by omega))
          replace HK := Lib.hid (HK.out.below hb HK.out.lt)
          replace HB := Lib.hid (HB.out.trans (hb.mono (by omega)))
          clear hb
          obtain ⟨t0, t1, -, -, -⟩ := HK.out.two
          go_wp2_with fail
          obtain ⟨w5, hW⟩ : ∃ W, w4.alloc (.cells #[.int .i64 x1, .int .i64 x2] 52) = W := ⟨_, rfl⟩
          have hb : Below w4.heap.size w4 w5 := by rw [← hW]; exact (Below.refl _ _).alloc (Nat.le_refl _) _
          have hsz5 := hb.size
          replace H := Lib.hid (H.out.below hb (by omega))
          replace HK := Lib.hid (HK.out.below hb HK.out.lt)
          replace HB := Lib.hid (HB.out.trans (hb.mono (by omega)))
          have HK1 : Hid (Blk w5 w4.heap.size 52 #[.int .i64 x1, .int .i64 x2]) := Lib.hid (by rw [← hW]; exact Blk.new _ _ _)
          try rw [hW]
          clear hW hb
          obtain ⟨t0, t1, -, -, -⟩ := HK.out.two
          obtain ⟨s0, s1, -, -, -⟩ := HK1.out.two
          have CALL := refCheckArm_any (x1, x2) w5
          rw [HCB.out] at CALL
          refine CALL.mono ?_
          rintro e w6 ⟨rfl, hb⟩
          clear CALL
          have hsz6 := hb.size
          replace H := Lib.hid (H.out.below hb (by omega))
          replace HK := Lib.hid (HK.out.below hb HK.out.lt)
          replace HK1 := Lib.hid (HK1.out.below hb HK1.out.lt)
          replace HB := Lib.hid (HB.out.trans (hb.mono (by omega)))
          clear hb
          obtain ⟨t0, t1, -, -, -⟩ := HK.out.two
          obtain ⟨s0, s1, -, -, -⟩ := HK1.out.two
          go_wp2_with fail
          have CALL := Jump_any w6.heap.size A n k (x1, x2) l w6 (H.out.more (by omega)) (Nat.le_refl _) (by omega)
          rw [HJB.out.1, HJB.out.2.1, HJB.out.2.2] at CALL
          refine CALL.mono ?_
          rintro e w7 ⟨rfl, hb⟩
          clear CALL
          have hsz7 := hb.size
          replace H := Lib.hid (H.out.below hb (by omega))
          replace HK := Lib.hid (HK.out.below hb HK.out.lt)
          replace HK1 := Lib.hid (HK1.out.below hb HK1.out.lt)
          replace HB := Lib.hid (HB.out.trans (hb.mono (by omega)))
          clear hb
          obtain ⟨t0, t1, -, -, -⟩ := HK.out.two
          obtain ⟨s0, s1, -, -, -⟩ := HK1.out.two
          go_upto_region 8 with fail
          have hk_ := HK.out.lt
          have hk1_ := HK1.out.lt
          obtain ⟨w8, hW⟩ : ∃ W, w7.alloc (.cells #[.int .i64 x1, .int .i64 x2] 52) = W := ⟨_, rfl⟩
          have hb : Below w7.heap.size w7 w8 := by rw [← hW]; exact (Below.refl _ _).alloc (Nat.le_refl _) _
          have hsz8 := hb.size
          replace H := Lib.hid (H.out.below hb (by omega))
          replace HK := Lib.hid (HK.out.below hb HK.out.lt)
          replace HK1 := Lib.hid (HK1.out.below hb HK1.out.lt)
          replace HB := Lib.hid (HB.out.trans (hb.mono (by omega)))
          have HK2 : Hid (Blk w8 w7.heap.size 52 #[.int .i64 x1, .int .i64 x2]) := Lib.hid (by rw [← hW]; exact Blk.new _ _ _)
          try rw [hW]
          clear hW hb
          obtain ⟨t0, t1, -, -, -⟩ := HK.out.two
          obtain ⟨s0, s1, -, -, -⟩ := HK1.out.two
          obtain ⟨v0, v1, v2, v3, v4⟩ := HK2.out.two
          have hh2 := HHH.out
          go_upto_region 9 with fail
          obtain ⟨w9, hW⟩ : ∃ W, w8.setCell ⟨w7.heap.size, 0, none⟩ (.int .i64 h2) = W := ⟨_, rfl⟩
          have hb : Below w7.heap.size w8 w9 := by rw [← hW]; exact (Below.refl _ _).setCell (p := ⟨w7.heap.size, 0, none⟩) (Nat.le_refl _) _
          have hsz9 : w8.heap.size ≤ w9.heap.size := by rw [← hW]; simp [World.setCell]
          replace HK2 : Hid (Blk w9 w7.heap.size 52 #[.int .i64 h2, .int .i64 x2]) := Lib.hid (by rw [← hW]; exact HK2.out.set_ 0 _)
          clear v0 v1 v2 v3 v4
          replace H := Lib.hid (H.out.below hb (by omega))
          replace HK := Lib.hid (HK.out.below hb hk_)
          replace HK1 := Lib.hid (HK1.out.below hb hk1_)
          replace HB := Lib.hid (HB.out.trans (hb.mono (by omega)))
          clear hk_ hk1_
          rw [hW]
          clear hW hb hh2
          obtain ⟨t0, t1, -, -, -⟩ := HK.out.two
          obtain ⟨s0, s1, -, -, -⟩ := HK1.out.two
          obtain ⟨v0, v1, v2, v3, v4⟩ := HK2.out.two
          go_wp2_with fail
          have CALL := Jump_any w9.heap.size A n k (h2, x2) l w9 (H.out.more (by omega)) (Nat.le_refl _) (by omega)
          rw [HJG.out.1, HJG.out.2.1, HJG.out.2.2] at CALL
          refine CALL.mono ?_
          rintro e w10 ⟨rfl, hb⟩
          clear CALL
          have hsz10 := hb.size
          replace H := Lib.hid (H.out.below hb (by omega))
          replace HK := Lib.hid (HK.out.below hb HK.out.lt)
          replace HK1 := Lib.hid (HK1.out.below hb HK1.out.lt)
          replace HK2 := Lib.hid (HK2.out.below hb HK2.out.lt)
          replace HB := Lib.hid (HB.out.trans (hb.mono (by omega)))
          clear hb
          obtain ⟨t0, t1, -, -, -⟩ := HK.out.two
          obtain ⟨s0, s1, -, -, -⟩ := HK1.out.two
          obtain ⟨v0, v1, v2, v3, v4⟩ := HK2.out.two
          go_wp2_with fail
          have CALL := Jump_any w10.heap.size A n k a l w10 (H.out.more (by omega)) (Nat.le_refl _) (by omega)
          rw [HM.out.1, HM.out.2.1, HM.out.2.2] at CALL
          refine CALL.mono ?_
          rintro e w11 ⟨rfl, hb⟩
          clear CALL
          have hsz11 := hb.size
          replace H := Lib.hid (H.out.below hb (by omega))
          replace HK := Lib.hid (HK.out.below hb HK.out.lt)
          replace HK1 := Lib.hid (HK1.out.below hb HK1.out.lt)
          replace HK2 := Lib.hid (HK2.out.below hb HK2.out.lt)
          replace HB := Lib.hid (HB.out.trans (hb.mono (by omega)))
          clear hb
          obtain ⟨t0, t1, -, -, -⟩ := HK.out.two
          obtain ⟨s0, s1, -, -, -⟩ := HK1.out.two
          obtain ⟨v0, v1, v2, v3, v4⟩ := HK2.out.two
          rcases HQ.out with ⟨h1, h2_ | h2_ | h2_⟩
          · have u1 : decide (x1 ≤ a.1) = true := decide_eq_true h1
            have u2 : decide (x1 < a.1) = true := decide_eq_true h2_
            go_wp2_with fail
            have CALL := works6_any w11
            refine CALL.mono ?_
            rintro e w12 ⟨rfl, hb⟩
            clear CALL
            have hsz12 := hb.size
            replace H := Lib.hid (H.out.below hb (by omega))
            replace HK := Lib.hid (HK.out.below hb HK.out.lt)
            replace HK1 := Lib.hid (HK1.out.below hb HK1.out.lt)
            replace HK2 := Lib.hid (HK2.out.below hb HK2.out.lt)
            replace HB := Lib.hid (HB.out.trans (hb.mono (by omega)))
            clear hb
            obtain ⟨t0, t1, -, -, -⟩ := HK.out.two
            obtain ⟨s0, s1, -, -, -⟩ := HK1.out.two
            obtain ⟨v0, v1, v2, v3, v4⟩ := HK2.out.two
            go_wp2
            go_ret
            exact ⟨rfl, HB.out⟩
          · have u1 : decide (x1 ≤ a.1) = true := decide_eq_true h1
            by_cases c3 : x1 < a.1
            · have u2 : decide (x1 < a.1) = true := decide_eq_true c3
              go_wp2_with fail
              have CALL := works6_any w11
              refine CALL.mono ?_
              rintro e w12 ⟨rfl, hb⟩
              clear CALL
              have hsz12 := hb.size
              replace H := Lib.hid (H.out.below hb (by omega))
              replace HK := Lib.hid (HK.out.below hb HK.out.lt)
              replace HK1 := Lib.hid (HK1.out.below hb HK1.out.lt)
              replace HK2 := Lib.hid (HK2.out.below hb HK2.out.lt)
              replace HB := Lib.hid (HB.out.trans (hb.mono (by omega)))
              clear hb
              obtain ⟨t0, t1, -, -, -⟩ := HK.out.two
              obtain ⟨s0, s1, -, -, -⟩ := HK1.out.two
              obtain ⟨v0, v1, v2, v3, v4⟩ := HK2.out.two
              go_wp2
              go_ret
              exact ⟨rfl, HB.out⟩
            · have u2 : decide (x1 < a.1) = false := decide_eq_false c3
              have u3 : decide (x2 ≤ a.2) = true := decide_eq_true h2_
              go_wp2_with fail
              have CALL := works6_any w11
              refine CALL.mono ?_
              rintro e w12 ⟨rfl, hb⟩
              clear CALL
              have hsz12 := hb.size
              replace H := Lib.hid (H.out.below hb (by omega))
              replace HK := Lib.hid (HK.out.below hb HK.out.lt)
              replace HK1 := Lib.hid (HK1.out.below hb HK1.out.lt)
              replace HK2 := Lib.hid (HK2.out.below hb HK2.out.lt)
              replace HB := Lib.hid (HB.out.trans (hb.mono (by omega)))
              clear hb
              obtain ⟨t0, t1, -, -, -⟩ := HK.out.two
              obtain ⟨s0, s1, -, -, -⟩ := HK1.out.two
              obtain ⟨v0, v1, v2, v3, v4⟩ := HK2.out.two
              go_wp2
              go_ret
              exact ⟨rfl, HB.out⟩
          · have u1 : decide (x1 ≤ a.1) = true := decide_eq_true h1
            by_cases c3 : x1 < a.1
            · have u2 : decide (x1 < a.1) = true := decide_eq_true c3
              go_wp2_with fail
              have CALL := works6_any w11
              refine CALL.mono ?_
              rintro e w12 ⟨rfl, hb⟩
              clear CALL
              have hsz12 := hb.size
              replace H := Lib.hid (H.out.below hb (by omega))
              replace HK := Lib.hid (HK.out.below hb HK.out.lt)
              replace HK1 := Lib.hid (HK1.out.below hb HK1.out.lt)
              replace HK2 := Lib.hid (HK2.out.below hb HK2.out.lt)
              replace HB := Lib.hid (HB.out.trans (hb.mono (by omega)))
              clear hb
              obtain ⟨t0, t1, -, -, -⟩ := HK.out.two
              obtain ⟨s0, s1, -, -, -⟩ := HK1.out.two
              obtain ⟨v0, v1, v2, v3, v4⟩ := HK2.out.two
              go_wp2
              go_ret
              exact ⟨rfl, HB.out⟩
            · have u2 : decide (x1 < a.1) = false := decide_eq_false c3
              by_cases c4 : x2 ≤ a.2
              · have u3 : decide (x2 ≤ a.2) = true := decide_eq_true c4
                go_wp2_with fail
                have CALL := works6_any w11
                refine CALL.mono ?_
                rintro e w12 ⟨rfl, hb⟩
                clear CALL
                have hsz12 := hb.size
                replace H := Lib.hid (H.out.below hb (by omega))
                replace HK := Lib.hid (HK.out.below hb HK.out.lt)
                replace HK1 := Lib.hid (HK1.out.below hb HK1.out.lt)
                replace HK2 := Lib.hid (HK2.out.below hb HK2.out.lt)
                replace HB := Lib.hid (HB.out.trans (hb.mono (by omega)))
                clear hb
                obtain ⟨t0, t1, -, -, -⟩ := HK.out.two
                obtain ⟨s0, s1, -, -, -⟩ := HK1.out.two
                obtain ⟨v0, v1, v2, v3, v4⟩ := HK2.out.two
                go_wp2
                go_ret
                exact ⟨rfl, HB.out⟩
              · have u3 : decide (x2 ≤ a.2) = false := decide_eq_false c4
                have u4 : (n : Int) < 3 := by have := HN.out; omega
                have u5 : decide ((n : Int) < 3) = true := decide_eq_true u4
                have u6 : n < 3 := by omega
                have u7 : decide (n < 3) = true := decide_eq_true u6
                go_wp2_with fail
                have CALL := works6_any w11
                refine CALL.mono ?_
                rintro e w12 ⟨rfl, hb⟩
                clear CALL
                have hsz12 := hb.size
                replace H := Lib.hid (H.out.below hb (by omega))
                replace HK := Lib.hid (HK.out.below hb HK.out.lt)
                replace HK1 := Lib.hid (HK1.out.below hb HK1.out.lt)
                replace HK2 := Lib.hid (HK2.out.below hb HK2.out.lt)
                replace HB := Lib.hid (HB.out.trans (hb.mono (by omega)))
                clear hb
                obtain ⟨t0, t1, -, -, -⟩ := HK.out.two
                obtain ⟨s0, s1, -, -, -⟩ := HK1.out.two
                obtain ⟨v0, v1, v2, v3, v4⟩ := HK2.out.two
                go_wp2
                go_ret
                exact ⟨rfl, HB.out⟩
        | some it =>
          obtain ⟨i, t⟩ := it
          have HM := Lib.hid (jm_some HER.out hm)
          obtain ⟨hg1, hg2, hg3, hg4⟩ := jmL_get hm
          have hil : i + 1 < n := by have := HN.out; omega
          have HGT : Hid (1 ≤ i ∧ i + 1 < n) := Lib.hid ⟨hg1, hil⟩
          have bd := bdL_bd HE.out hg2
          have hjc := jmB_cases a (bdL l i)
          obtain ⟨b, hb⟩ : ∃ b, bdL l i = b := ⟨_, rfl⟩
          rw [hb] at bd hjc hg3 hg4
          have HBV := Lib.hid hb
          have ab := HAB.out
          have w1 : IntKind.i64.wrap (b - a.2) = b - a.2 := IntWalk.i64_in _ (by omega)
          have w2 : IntKind.i64.wrap (-(b - a.2)) = -(b - a.2) := IntWalk.i64_in _ (by omega)
          rcases hjc with ⟨hj, hc⟩ | ⟨hj, hc⟩ | ⟨hj, _⟩
          · rw [hj] at hg4
            subst hg4
            clear hm HLS hb bd ab hj hg1 hg2 hg3 hil
            go_enter Try.func11, Try.ntmps11
            go_upto_region 1 with fail
            obtain ⟨w1, hW⟩ : ∃ W, w.alloc (.cells #[.int .i64 a.1, .int .i64 a.2] 52) = W := ⟨_, rfl⟩
            have hb : Below w.heap.size w w1 := by rw [← hW]; exact (Below.refl _ _).alloc (Nat.le_refl _) _
            have hsz1 := hb.size
            replace H := Lib.hid (H.out.below hb (by omega))
            have HK : Hid (Blk w1 w.heap.size 52 #[.int .i64 a.1, .int .i64 a.2]) := Lib.hid (by rw [← hW]; exact Blk.new _ _ _)
            have HB := Lib.hid hb
            try rw [hW]
            clear hW hb
            obtain ⟨t0, t1, -, -, -⟩ := HK.out.two
            go_wp2_with fail
            have CALL := refCheckPoints_any w1.heap.size A n k l w1 (H.out.more (by omega)) (Nat.le_refl _) (by omega)
            rw [HG.out] at CALL
            refine CALL.mono ?_
            rintro e w2 ⟨rfl, hb⟩
            clear CALL
            have hsz2 := hb.size
            replace H := Lib.hid (H.out.below hb (by omega))
            replace HK := Lib.hid (HK.out.below hb HK.out.lt)
            replace HB := Lib.hid (HB.out.trans (hb.mono (by omega)))
            clear hb
            obtain ⟨t0, t1, -, -, -⟩ := HK.out.two
            go_wp2_with fail
            have CALL := refCheckArm_any a w2
            rw [HA.out] at CALL
            refine CALL.mono ?_
            rintro e w3 ⟨rfl, hb⟩
            clear CALL
            have hsz3 := hb.size
            replace H := Lib.hid (H.out.below hb (by omega))
            replace HK := Lib.hid (HK.out.below hb HK.out.lt)
            replace HB := Lib.hid (HB.out.trans (hb.mono (by omega)))
            clear hb
            obtain ⟨t0, t1, -, -, -⟩ := HK.out.two
            go_wp2_with fail
            have CALL := Balance_any w3.heap.size A n k l w3 (H.out.more (by omega)) (Nat.le_refl _) (by omega)
            rw [HBA.out.1, HBA.out.2.1, HBA.out.2.2] at CALL
            refine CALL.mono ?_
            rintro e w4 ⟨rfl, hb⟩
            clear CALL
            have hsz4 := hb.size
            replace H := Lib.hid (H.out.below hb (by omega))
            replace HK := Lib.hid (HK.out.below hb HK.out.lt)
            replace HB := Lib.hid (HB.out.trans (hb.mono (by omega)))
            clear hb
            obtain ⟨t0, t1, -, -, -⟩ := HK.out.two
            go_wp2_with fail
            obtain ⟨w5, hW⟩ : ∃ W, w4.alloc (.cells #[.int .i64 x1, .int .i64 x2] 52) = W := ⟨_, rfl⟩
            have hb : Below w4.heap.size w4 w5 := by rw [← hW]; exact (Below.refl _ _).alloc (Nat.le_refl _) _
            have hsz5 := hb.size
            replace H := Lib.hid (H.out.below hb (by omega))
            replace HK := Lib.hid (HK.out.below hb HK.out.lt)
            replace HB := Lib.hid (HB.out.trans (hb.mono (by omega)))
            have HK1 : Hid (Blk w5 w4.heap.size 52 #[.int .i64 x1, .int .i64 x2]) := Lib.hid (by rw [← hW]; exact Blk.new _ _ _)
            try rw [hW]
            clear hW hb
            obtain ⟨t0, t1, -, -, -⟩ := HK.out.two
            obtain ⟨s0, s1, -, -, -⟩ := HK1.out.two
            have CALL := refCheckArm_any (x1, x2) w5
            rw [HCB.out] at CALL
            refine CALL.mono ?_
            rintro e w6 ⟨rfl, hb⟩
            clear CALL
            have hsz6 := hb.size
            replace H := Lib.hid (H.out.below hb (by omega))
            replace HK := Lib.hid (HK.out.below hb HK.out.lt)
            replace HK1 := Lib.hid (HK1.out.below hb HK1.out.lt)
            replace HB := Lib.hid (HB.out.trans (hb.mono (by omega)))
            clear hb
            obtain ⟨t0, t1, -, -, -⟩ := HK.out.two
            obtain ⟨s0, s1, -, -, -⟩ := HK1.out.two
            go_wp2_with fail
            have CALL := Jump_any w6.heap.size A n k (x1, x2) l w6 (H.out.more (by omega)) (Nat.le_refl _) (by omega)
            rw [HJB.out.1, HJB.out.2.1, HJB.out.2.2] at CALL
            refine CALL.mono ?_
            rintro e w7 ⟨rfl, hb⟩
            clear CALL
            have hsz7 := hb.size
            replace H := Lib.hid (H.out.below hb (by omega))
            replace HK := Lib.hid (HK.out.below hb HK.out.lt)
            replace HK1 := Lib.hid (HK1.out.below hb HK1.out.lt)
            replace HB := Lib.hid (HB.out.trans (hb.mono (by omega)))
            clear hb
            obtain ⟨t0, t1, -, -, -⟩ := HK.out.two
            obtain ⟨s0, s1, -, -, -⟩ := HK1.out.two
            go_upto_region 8 with fail
            have hk_ := HK.out.lt
            have hk1_ := HK1.out.lt
            obtain ⟨w8, hW⟩ : ∃ W, w7.alloc (.cells #[.int .i64 x1, .int .i64 x2] 52) = W := ⟨_, rfl⟩
            have hb : Below w7.heap.size w7 w8 := by rw [← hW]; exact (Below.refl _ _).alloc (Nat.le_refl _) _
            have hsz8 := hb.size
            replace H := Lib.hid (H.out.below hb (by omega))
            replace HK := Lib.hid (HK.out.below hb HK.out.lt)
            replace HK1 := Lib.hid (HK1.out.below hb HK1.out.lt)
            replace HB := Lib.hid (HB.out.trans (hb.mono (by omega)))
            have HK2 : Hid (Blk w8 w7.heap.size 52 #[.int .i64 x1, .int .i64 x2]) := Lib.hid (by rw [← hW]; exact Blk.new _ _ _)
            try rw [hW]
            clear hW hb
            obtain ⟨t0, t1, -, -, -⟩ := HK.out.two
            obtain ⟨s0, s1, -, -, -⟩ := HK1.out.two
            obtain ⟨v0, v1, v2, v3, v4⟩ := HK2.out.two
            have hh2 := HHH.out
            go_upto_region 9 with fail
            obtain ⟨w9, hW⟩ : ∃ W, w8.setCell ⟨w7.heap.size, 0, none⟩ (.int .i64 h2) = W := ⟨_, rfl⟩
            have hb : Below w7.heap.size w8 w9 := by rw [← hW]; exact (Below.refl _ _).setCell (p := ⟨w7.heap.size, 0, none⟩) (Nat.le_refl _) _
            have hsz9 : w8.heap.size ≤ w9.heap.size := by rw [← hW]; simp [World.setCell]
            replace HK2 : Hid (Blk w9 w7.heap.size 52 #[.int .i64 h2, .int .i64 x2]) := Lib.hid (by rw [← hW]; exact HK2.out.set_ 0 _)
            clear v0 v1 v2 v3 v4
            replace H := Lib.hid (H.out.below hb (by omega))
            replace HK := Lib.hid (HK.out.below hb hk_)
            replace HK1 := Lib.hid (HK1.out.below hb hk1_)
            replace HB := Lib.hid (HB.out.trans (hb.mono (by omega)))
            clear hk_ hk1_
            rw [hW]
            clear hW hb hh2
            obtain ⟨t0, t1, -, -, -⟩ := HK.out.two
            obtain ⟨s0, s1, -, -, -⟩ := HK1.out.two
            obtain ⟨v0, v1, v2, v3, v4⟩ := HK2.out.two
            go_wp2_with fail
            have CALL := Jump_any w9.heap.size A n k (h2, x2) l w9 (H.out.more (by omega)) (Nat.le_refl _) (by omega)
            rw [HJG.out.1, HJG.out.2.1, HJG.out.2.2] at CALL
            refine CALL.mono ?_
            rintro e w10 ⟨rfl, hb⟩
            clear CALL
            have hsz10 := hb.size
            replace H := Lib.hid (H.out.below hb (by omega))
            replace HK := Lib.hid (HK.out.below hb HK.out.lt)
            replace HK1 := Lib.hid (HK1.out.below hb HK1.out.lt)
            replace HK2 := Lib.hid (HK2.out.below hb HK2.out.lt)
            replace HB := Lib.hid (HB.out.trans (hb.mono (by omega)))
            clear hb
            obtain ⟨t0, t1, -, -, -⟩ := HK.out.two
            obtain ⟨s0, s1, -, -, -⟩ := HK1.out.two
            obtain ⟨v0, v1, v2, v3, v4⟩ := HK2.out.two
            go_wp2_with fail
            have CALL := Jump_any w10.heap.size A n k a l w10 (H.out.more (by omega)) (Nat.le_refl _) (by omega)
            rw [HM.out.1, HM.out.2.1, HM.out.2.2] at CALL
            refine CALL.mono ?_
            rintro e w11 ⟨rfl, hb⟩
            clear CALL
            have hsz11 := hb.size
            replace H := Lib.hid (H.out.below hb (by omega))
            replace HK := Lib.hid (HK.out.below hb HK.out.lt)
            replace HK1 := Lib.hid (HK1.out.below hb HK1.out.lt)
            replace HK2 := Lib.hid (HK2.out.below hb HK2.out.lt)
            replace HB := Lib.hid (HB.out.trans (hb.mono (by omega)))
            clear hb
            obtain ⟨t0, t1, -, -, -⟩ := HK.out.two
            obtain ⟨s0, s1, -, -, -⟩ := HK1.out.two
            obtain ⟨v0, v1, v2, v3, v4⟩ := HK2.out.two
            have p1 : ¬ ((i : Int) < 1) := by have := HGT.out.1; omega
            have p2 : decide ((i : Int) < 1) = false := decide_eq_false p1
            have p3 : decide (i < 1) = false := decide_eq_false (by omega)
            have p4 : IntKind.i64.wrap ((i : Int) + 1) = (i : Int) + 1 := IntWalk.i64_in _ (by have := HGT.out.2; omega)
            have p5 : ¬ ((n : Int) ≤ (i : Int) + 1) := by have := HGT.out.2; omega
            have p6 : decide ((n : Int) ≤ (i : Int) + 1) = false := decide_eq_false p5
            go_upto_region 17 with fail
            have BL : Hid (∀ z : Lat w11, Calls Try.prog 45 #[.slice A n k, .int .i64 i] z.w (fun e w'' => e = .returned (.int .i64 b) ∧ ∃ y : Lat w11, w'' = y.w)) := Lib.hid (fun z => Calls.lat (by have h := refBend_any w11.heap.size A n k i l z.w ((H.out.more (by omega)).below z.below (Nat.le_refl _)) HE.out hn4 HGT.out.1 HGT.out.2; rw [HBV.out] at h; exact h))
            have z1 := Lat.cell t0
            have z2 := Lat.cell t1
            clear t0 t1 p1 p2 p3 p4 p5 p6
            try dsimp only [List.append]
            refine wp_region_lat (by kernel_rfl) (by kernel_rfl) ?_
            repeat (go_big_quiet_step ((with_reducible exact BL.out _)))
            refine wpQuiet_nil ?_
            intro w12 hw'
            have hb := lat_out hw'
            have hsz12 := hb.size
            clear BL z1 z2
            replace H := Lib.hid (H.out.below hb (by omega))
            replace HK := Lib.hid (HK.out.below hb HK.out.lt)
            replace HK1 := Lib.hid (HK1.out.below hb HK1.out.lt)
            replace HK2 := Lib.hid (HK2.out.below hb HK2.out.lt)
            replace HB := Lib.hid (HB.out.trans (hb.mono (by omega)))
            clear hb hw'
            obtain ⟨t0, t1, -, -, -⟩ := HK.out.two
            obtain ⟨s0, s1, -, -, -⟩ := HK1.out.two
            obtain ⟨v0, v1, v2, v3, v4⟩ := HK2.out.two
            have r1 : decide (a.1 < b - a.2) = true := decide_eq_true hc
            have r2 : ((1 : Int) == 1) = true := by decide
            go_wp2_with fail
            have CALL := works6_any w12
            refine CALL.mono ?_
            rintro e w13 ⟨rfl, hb⟩
            clear CALL
            have hsz13 := hb.size
            replace H := Lib.hid (H.out.below hb (by omega))
            replace HK := Lib.hid (HK.out.below hb HK.out.lt)
            replace HK1 := Lib.hid (HK1.out.below hb HK1.out.lt)
            replace HK2 := Lib.hid (HK2.out.below hb HK2.out.lt)
            replace HB := Lib.hid (HB.out.trans (hb.mono (by omega)))
            clear hb
            obtain ⟨t0, t1, -, -, -⟩ := HK.out.two
            obtain ⟨s0, s1, -, -, -⟩ := HK1.out.two
            obtain ⟨v0, v1, v2, v3, v4⟩ := HK2.out.two
            go_wp2
            go_ret
            exact ⟨rfl, HB.out⟩
          · rw [hj] at hg4
            subst hg4
            replace hc : a.1 < -(b - a.2) := by omega
            clear hm HLS hb bd ab hj hg1 hg2 hg3 hil
            go_enter Try.func11, Try.ntmps11
            go_upto_region 1 with fail
            obtain ⟨w1, hW⟩ : ∃ W, w.alloc (.cells #[.int .i64 a.1, .int .i64 a.2] 52) = W := ⟨_, rfl⟩
            have hb : Below w.heap.size w w1 := by rw [← hW]; exact (Below.refl _ _).alloc (Nat.le_refl _) _
            have hsz1 := hb.size
            replace H := Lib.hid (H.out.below hb (by omega))
            have HK : Hid (Blk w1 w.heap.size 52 #[.int .i64 a.1, .int .i64 a.2]) := Lib.hid (by rw [← hW]; exact Blk.new _ _ _)
            have HB := Lib.hid hb
            try rw [hW]
            clear hW hb
            obtain ⟨t0, t1, -, -, -⟩ := HK.out.two
            go_wp2_with fail
            have CALL := refCheckPoints_any w1.heap.size A n k l w1 (H.out.more (by omega)) (Nat.le_refl _) (by omega)
            rw [HG.out] at CALL
            refine CALL.mono ?_
            rintro e w2 ⟨rfl, hb⟩
            clear CALL
            have hsz2 := hb.size
            replace H := Lib.hid (H.out.below hb (by omega))
            replace HK := Lib.hid (HK.out.below hb HK.out.lt)
            replace HB := Lib.hid (HB.out.trans (hb.mono (by omega)))
            clear hb
            obtain ⟨t0, t1, -, -, -⟩ := HK.out.two
            go_wp2_with fail
            have CALL := refCheckArm_any a w2
            rw [HA.out] at CALL
            refine CALL.mono ?_
            rintro e w3 ⟨rfl, hb⟩
            clear CALL
            have hsz3 := hb.size
            replace H := Lib.hid (H.out.below hb (by omega))
            replace HK := Lib.hid (HK.out.below hb HK.out.lt)
            replace HB := Lib.hid (HB.out.trans (hb.mono (by omega)))
            clear hb
            obtain ⟨t0, t1, -, -, -⟩ := HK.out.two
            go_wp2_with fail
            have CALL := Balance_any w3.heap.size A n k l w3 (H.out.more (by omega)) (Nat.le_refl _) (by omega)
            rw [HBA.out.1, HBA.out.2.1, HBA.out.2.2] at CALL
            refine CALL.mono ?_
            rintro e w4 ⟨rfl, hb⟩
            clear CALL
            have hsz4 := hb.size
            replace H := Lib.hid (H.out.below hb (by omega))
            replace HK := Lib.hid (HK.out.below hb HK.out.lt)
            replace HB := Lib.hid (HB.out.trans (hb.mono (by omega)))
            clear hb
            obtain ⟨t0, t1, -, -, -⟩ := HK.out.two
            go_wp2_with fail
            obtain ⟨w5, hW⟩ : ∃ W, w4.alloc (.cells #[.int .i64 x1, .int .i64 x2] 52) = W := ⟨_, rfl⟩
            have hb : Below w4.heap.size w4 w5 := by rw [← hW]; exact (Below.refl _ _).alloc (Nat.le_refl _) _
            have hsz5 := hb.size
            replace H := Lib.hid (H.out.below hb (by omega))
            replace HK := Lib.hid (HK.out.below hb HK.out.lt)
            replace HB := Lib.hid (HB.out.trans (hb.mono (by omega)))
            have HK1 : Hid (Blk w5 w4.heap.size 52 #[.int .i64 x1, .int .i64 x2]) := Lib.hid (by rw [← hW]; exact Blk.new _ _ _)
            try rw [hW]
            clear hW hb
            obtain ⟨t0, t1, -, -, -⟩ := HK.out.two
            obtain ⟨s0, s1, -, -, -⟩ := HK1.out.two
            have CALL := refCheckArm_any (x1, x2) w5
            rw [HCB.out] at CALL
            refine CALL.mono ?_
            rintro e w6 ⟨rfl, hb⟩
            clear CALL
            have hsz6 := hb.size
            replace H := Lib.hid (H.out.below hb (by omega))
            replace HK := Lib.hid (HK.out.below hb HK.out.lt)
            replace HK1 := Lib.hid (HK1.out.below hb HK1.out.lt)
            replace HB := Lib.hid (HB.out.trans (hb.mono (by omega)))
            clear hb
            obtain ⟨t0, t1, -, -, -⟩ := HK.out.two
            obtain ⟨s0, s1, -, -, -⟩ := HK1.out.two
            go_wp2_with fail
            have CALL := Jump_any w6.heap.size A n k (x1, x2) l w6 (H.out.more (by omega)) (Nat.le_refl _) (by omega)
            rw [HJB.out.1, HJB.out.2.1, HJB.out.2.2] at CALL
            refine CALL.mono ?_
            rintro e w7 ⟨rfl, hb⟩
            clear CALL
            have hsz7 := hb.size
            replace H := Lib.hid (H.out.below hb (by omega))
            replace HK := Lib.hid (HK.out.below hb HK.out.lt)
            replace HK1 := Lib.hid (HK1.out.below hb HK1.out.lt)
            replace HB := Lib.hid (HB.out.trans (hb.mono (by omega)))
            clear hb
            obtain ⟨t0, t1, -, -, -⟩ := HK.out.two
            obtain ⟨s0, s1, -, -, -⟩ := HK1.out.two
            go_upto_region 8 with fail
            have hk_ := HK.out.lt
            have hk1_ := HK1.out.lt
            obtain ⟨w8, hW⟩ : ∃ W, w7.alloc (.cells #[.int .i64 x1, .int .i64 x2] 52) = W := ⟨_, rfl⟩
            have hb : Below w7.heap.size w7 w8 := by rw [← hW]; exact (Below.refl _ _).alloc (Nat.le_refl _) _
            have hsz8 := hb.size
            replace H := Lib.hid (H.out.below hb (by omega))
            replace HK := Lib.hid (HK.out.below hb HK.out.lt)
            replace HK1 := Lib.hid (HK1.out.below hb HK1.out.lt)
            replace HB := Lib.hid (HB.out.trans (hb.mono (by omega)))
            have HK2 : Hid (Blk w8 w7.heap.size 52 #[.int .i64 x1, .int .i64 x2]) := Lib.hid (by rw [← hW]; exact Blk.new _ _ _)
            try rw [hW]
            clear hW hb
            obtain ⟨t0, t1, -, -, -⟩ := HK.out.two
            obtain ⟨s0, s1, -, -, -⟩ := HK1.out.two
            obtain ⟨v0, v1, v2, v3, v4⟩ := HK2.out.two
            have hh2 := HHH.out
            go_upto_region 9 with fail
            obtain ⟨w9, hW⟩ : ∃ W, w8.setCell ⟨w7.heap.size, 0, none⟩ (.int .i64 h2) = W := ⟨_, rfl⟩
            have hb : Below w7.heap.size w8 w9 := by rw [← hW]; exact (Below.refl _ _).setCell (p := ⟨w7.heap.size, 0, none⟩) (Nat.le_refl _) _
            have hsz9 : w8.heap.size ≤ w9.heap.size := by rw [← hW]; simp [World.setCell]
            replace HK2 : Hid (Blk w9 w7.heap.size 52 #[.int .i64 h2, .int .i64 x2]) := Lib.hid (by rw [← hW]; exact HK2.out.set_ 0 _)
            clear v0 v1 v2 v3 v4
            replace H := Lib.hid (H.out.below hb (by omega))
            replace HK := Lib.hid (HK.out.below hb hk_)
            replace HK1 := Lib.hid (HK1.out.below hb hk1_)
            replace HB := Lib.hid (HB.out.trans (hb.mono (by omega)))
            clear hk_ hk1_
            rw [hW]
            clear hW hb hh2
            obtain ⟨t0, t1, -, -, -⟩ := HK.out.two
            obtain ⟨s0, s1, -, -, -⟩ := HK1.out.two
            obtain ⟨v0, v1, v2, v3, v4⟩ := HK2.out.two
            go_wp2_with fail
            have CALL := Jump_any w9.heap.size A n k (h2, x2) l w9 (H.out.more (by omega)) (Nat.le_refl _) (by omega)
            rw [HJG.out.1, HJG.out.2.1, HJG.out.2.2] at CALL
            refine CALL.mono ?_
            rintro e w10 ⟨rfl, hb⟩
            clear CALL
            have hsz10 := hb.size
            replace H := Lib.hid (H.out.below hb (by omega))
            replace HK := Lib.hid (HK.out.below hb HK.out.lt)
            replace HK1 := Lib.hid (HK1.out.below hb HK1.out.lt)
            replace HK2 := Lib.hid (HK2.out.below hb HK2.out.lt)
            replace HB := Lib.hid (HB.out.trans (hb.mono (by omega)))
            clear hb
            obtain ⟨t0, t1, -, -, -⟩ := HK.out.two
            obtain ⟨s0, s1, -, -, -⟩ := HK1.out.two
            obtain ⟨v0, v1, v2, v3, v4⟩ := HK2.out.two
            go_wp2_with fail
            have CALL := Jump_any w10.heap.size A n k a l w10 (H.out.more (by omega)) (Nat.le_refl _) (by omega)
            rw [HM.out.1, HM.out.2.1, HM.out.2.2] at CALL
            refine CALL.mono ?_
            rintro e w11 ⟨rfl, hb⟩
            clear CALL
            have hsz11 := hb.size
            replace H := Lib.hid (H.out.below hb (by omega))
            replace HK := Lib.hid (HK.out.below hb HK.out.lt)
            replace HK1 := Lib.hid (HK1.out.below hb HK1.out.lt)
            replace HK2 := Lib.hid (HK2.out.below hb HK2.out.lt)
            replace HB := Lib.hid (HB.out.trans (hb.mono (by omega)))
            clear hb
            obtain ⟨t0, t1, -, -, -⟩ := HK.out.two
            obtain ⟨s0, s1, -, -, -⟩ := HK1.out.two
            obtain ⟨v0, v1, v2, v3, v4⟩ := HK2.out.two
            have p1 : ¬ ((i : Int) < 1) := by have := HGT.out.1; omega
            have p2 : decide ((i : Int) < 1) = false := decide_eq_false p1
            have p3 : decide (i < 1) = false := decide_eq_false (by omega)
            have p4 : IntKind.i64.wrap ((i : Int) + 1) = (i : Int) + 1 := IntWalk.i64_in _ (by have := HGT.out.2; omega)
            have p5 : ¬ ((n : Int) ≤ (i : Int) + 1) := by have := HGT.out.2; omega
            have p6 : decide ((n : Int) ≤ (i : Int) + 1) = false := decide_eq_false p5
            go_upto_region 17 with fail
            have BL : Hid (∀ z : Lat w11, Calls Try.prog 45 #[.slice A n k, .int .i64 i] z.w (fun e w'' => e = .returned (.int .i64 b) ∧ ∃ y : Lat w11, w'' = y.w)) := Lib.hid (fun z => Calls.lat (by have h := refBend_any w11.heap.size A n k i l z.w ((H.out.more (by omega)).below z.below (Nat.le_refl _)) HE.out hn4 HGT.out.1 HGT.out.2; rw [HBV.out] at h; exact h))
            have z1 := Lat.cell t0
            have z2 := Lat.cell t1
            clear t0 t1 p1 p2 p3 p4 p5 p6
            try dsimp only [List.append]
            refine wp_region_lat (by kernel_rfl) (by kernel_rfl) ?_
            repeat (go_big_quiet_step ((with_reducible exact BL.out _)))
            refine wpQuiet_nil ?_
            intro w12 hw'
            have hb := lat_out hw'
            have hsz12 := hb.size
            clear BL z1 z2
            replace H := Lib.hid (H.out.below hb (by omega))
            replace HK := Lib.hid (HK.out.below hb HK.out.lt)
            replace HK1 := Lib.hid (HK1.out.below hb HK1.out.lt)
            replace HK2 := Lib.hid (HK2.out.below hb HK2.out.lt)
            replace HB := Lib.hid (HB.out.trans (hb.mono (by omega)))
            clear hb hw'
            obtain ⟨t0, t1, -, -, -⟩ := HK.out.two
            obtain ⟨s0, s1, -, -, -⟩ := HK1.out.two
            obtain ⟨v0, v1, v2, v3, v4⟩ := HK2.out.two
            have r1 : decide (a.1 < -(b - a.2)) = true := decide_eq_true hc
            have r2 : ((-1 : Int) == 1) = false := by decide
            have r3 : ((-1 : Int) == -1) = true := by decide
            go_wp2_with fail
            have CALL := works6_any w12
            refine CALL.mono ?_
            rintro e w13 ⟨rfl, hb⟩
            clear CALL
            have hsz13 := hb.size
            replace H := Lib.hid (H.out.below hb (by omega))
            replace HK := Lib.hid (HK.out.below hb HK.out.lt)
            replace HK1 := Lib.hid (HK1.out.below hb HK1.out.lt)
            replace HK2 := Lib.hid (HK2.out.below hb HK2.out.lt)
            replace HB := Lib.hid (HB.out.trans (hb.mono (by omega)))
            clear hb
            obtain ⟨t0, t1, -, -, -⟩ := HK.out.two
            obtain ⟨s0, s1, -, -, -⟩ := HK1.out.two
            obtain ⟨v0, v1, v2, v3, v4⟩ := HK2.out.two
            go_wp2
            go_ret
            exact ⟨rfl, HB.out⟩
          · exact absurd hj hg3
      · have HG := Lib.hid c1
        have HA : Hid (decide (ckA a = 0) = false) := Lib.hid (decide_eq_false c2)
        clear c1 c2
        go_enter Try.func11, Try.ntmps11
        go_upto_region 1 with fail
        obtain ⟨w1, hW⟩ : ∃ W, w.alloc (.cells #[.int .i64 a.1, .int .i64 a.2] 52) = W := ⟨_, rfl⟩
        have hb : Below w.heap.size w w1 := by rw [← hW]; exact (Below.refl _ _).alloc (Nat.le_refl _) _
        have hsz1 := hb.size
        replace H := Lib.hid (H.out.below hb (by omega))
        have HK : Hid (Blk w1 w.heap.size 52 #[.int .i64 a.1, .int .i64 a.2]) := Lib.hid (by rw [← hW]; exact Blk.new _ _ _)
        have HB := Lib.hid hb
        try rw [hW]
        clear hW hb
        obtain ⟨t0, t1, -, -, -⟩ := HK.out.two
        go_wp2_with fail
        have CALL := refCheckPoints_any w1.heap.size A n k l w1 (H.out.more (by omega)) (Nat.le_refl _) (by omega)
        rw [HG.out] at CALL
        refine CALL.mono ?_
        rintro e w2 ⟨rfl, hb⟩
        clear CALL
        have hsz2 := hb.size
        replace H := Lib.hid (H.out.below hb (by omega))
        replace HK := Lib.hid (HK.out.below hb HK.out.lt)
        replace HB := Lib.hid (HB.out.trans (hb.mono (by omega)))
        clear hb
        obtain ⟨t0, t1, -, -, -⟩ := HK.out.two
        go_wp2_with fail
        have CALL := refCheckArm_any a w2
        rw [HA.out] at CALL
        refine CALL.mono ?_
        rintro e w3 ⟨rfl, hb⟩
        clear CALL
        have hsz3 := hb.size
        replace H := Lib.hid (H.out.below hb (by omega))
        replace HK := Lib.hid (HK.out.below hb HK.out.lt)
        replace HB := Lib.hid (HB.out.trans (hb.mono (by omega)))
        clear hb
        obtain ⟨t0, t1, -, -, -⟩ := HK.out.two
        go_wp2_with fail
        have CALL := works6_any w3
        refine CALL.mono ?_
        rintro e w4 ⟨rfl, hb⟩
        clear CALL
        have hsz4 := hb.size
        replace H := Lib.hid (H.out.below hb (by omega))
        replace HK := Lib.hid (HK.out.below hb HK.out.lt)
        replace HB := Lib.hid (HB.out.trans (hb.mono (by omega)))
        clear hb
        obtain ⟨t0, t1, -, -, -⟩ := HK.out.two
        go_wp2
        go_ret
        exact ⟨rfl, HB.out⟩
    · obtain ⟨q, hq⟩ : ∃ q, ckG l = q := ⟨_, rfl⟩
      have HG := Lib.hid hq
      rw [hq] at c1
      have q1 : (q != 0) = true := by rw [bne_iff_ne]; exact c1
      clear hq
      go_enter Try.func11, Try.ntmps11
      go_upto_region 1 with fail
      obtain ⟨w1, hW⟩ : ∃ W, w.alloc (.cells #[.int .i64 a.1, .int .i64 a.2] 52) = W := ⟨_, rfl⟩
      have hb : Below w.heap.size w w1 := by rw [← hW]; exact (Below.refl _ _).alloc (Nat.le_refl _) _
      have hsz1 := hb.size
      replace H := Lib.hid (H.out.below hb (by omega))
      have HK : Hid (Blk w1 w.heap.size 52 #[.int .i64 a.1, .int .i64 a.2]) := Lib.hid (by rw [← hW]; exact Blk.new _ _ _)
      have HB := Lib.hid hb
      try rw [hW]
      clear hW hb
      obtain ⟨t0, t1, -, -, -⟩ := HK.out.two
      go_wp2_with fail
      have CALL := refCheckPoints_any w1.heap.size A n k l w1 (H.out.more (by omega)) (Nat.le_refl _) (by omega)
      rw [HG.out] at CALL
      refine CALL.mono ?_
      rintro e w2 ⟨rfl, hb⟩
      clear CALL
      have hsz2 := hb.size
      replace H := Lib.hid (H.out.below hb (by omega))
      replace HK := Lib.hid (HK.out.below hb HK.out.lt)
      replace HB := Lib.hid (HB.out.trans (hb.mono (by omega)))
      clear hb
      obtain ⟨t0, t1, -, -, -⟩ := HK.out.two
      go_wp2_with fail
      have CALL := works6_any w2
      refine CALL.mono ?_
      rintro e w3 ⟨rfl, hb⟩
      clear CALL
      have hsz3 := hb.size
      replace H := Lib.hid (H.out.below hb (by omega))
      replace HK := Lib.hid (HK.out.below hb HK.out.lt)
      replace HB := Lib.hid (HB.out.trans (hb.mono (by omega)))
      clear hb
      obtain ⟨t0, t1, -, -, -⟩ := HK.out.two
      go_wp2
      go_ret
      exact ⟨rfl, HB.out⟩
end Go.Proofs.Ytjdnpgilinfkgaa
