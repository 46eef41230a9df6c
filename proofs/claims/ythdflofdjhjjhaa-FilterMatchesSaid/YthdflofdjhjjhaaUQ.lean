/-
  The document's either, Apply and Undo.
-/
import Derived.Test.YthdflofdjhjjhaaUO
namespace Go.Proofs.Ythdflofdjhjjhaa
open Go.RowKit

theorem ckCs_one (c : Cur) : ckCs [c] = ckV c := by
  unfold ckCs
  rw [if_neg (by simp)]
  unfold errs
  split
  · rename_i h; rw [h]; rfl
  · rfl
theorem chEr_one (c : Cur) (xs : List Int) : chEr [c] xs = if ckV c = 0 then ckX xs else ckV c := by
  unfold chEr orL
  rw [ckCs_one]
  split
  · unfold orL
    split
    · rename_i h; rw [h]; rfl
    · rfl
  · rfl
theorem one_bad {d : Bool} {c : Cur} {xs : List Int} {e : Int} (h : chEr [c] xs = e) (h0 : e ≠ 0) : oneRes d c xs = [] ∧ oneErr d c xs = e := by
  unfold oneRes oneErr chRes chErr
  rw [h, if_neg h0, if_neg h0]
  exact ⟨rfl, rfl⟩

set_option maxRecDepth 100000 in
set_option maxHeartbeats 4000000 in
theorem refEither_forth (B : Nat) (t : CV) (Ax : Option Addr) (nx kx : Nat) (xs : List Int) (w : World) (hc : CI w B t) (hX : LI w B Ax nx xs) (hB : B ≤ w.heap.size) (hlx : nx ≤ 9223372036854775807) (hs : t.nf ≤ 9223372036854775807 ∧ t.nb ≤ 9223372036854775807) :
    Calls Try.prog 27 #[.agg #[.slice t.Af t.nf t.kf, .slice t.Ab t.nb t.kb, .int .i64 t.c.share], .slice Ax nx kx, .bool false] w (OutPost w.heap.size w (oneRes true t.c xs) (oneErr true t.c xs)) := by
  have HC := Lib.hid (hc.more hB)
  have HX := Lib.hid (hX.more hB)
  have HNX := Lib.hid hX.1
  clear hc hX hB
  have he := chEr_one t.c xs
  obtain ⟨e1, he1⟩ : ∃ e, ckV t.c = e := ⟨_, rfl⟩
  obtain ⟨e2, he2⟩ : ∃ e, ckX xs = e := ⟨_, rfl⟩
  have HV := Lib.hid he1
  have HS := Lib.hid he2
  rw [he1, he2] at he
  clear he1 he2
  by_cases h1 : e1 = 0
  · subst h1
    rw [if_pos rfl] at he
    by_cases h2 : e2 = 0
    · subst h2
      have HOK := Lib.hid (ckV_ok HV.out)
      obtain ⟨hx4', hxw⟩ := ckX_ok HS.out
      have hx4 : nx ≤ 4096 := by have := HNX.out; omega
      have HXW := Lib.hid hxw
      clear hx4' hxw
      cases hR : chain true [t.c] xs with
      | none =>
        obtain ⟨r1, r2⟩ := one_none he hR
        rw [r1, r2]
        rw [chain_one] at hR
        have HRN := Lib.hid hR
        clear he hR r1 r2
        go_enter Try.func27, Try.ntmps27
        go_upto_region 1 with fail
        obtain ⟨w1, hW⟩ : ∃ W, w.alloc (.cells #[.slice t.Af t.nf t.kf, .slice t.Ab t.nb t.kb, .int .i64 t.c.share] 24) = W := ⟨_, rfl⟩
        have hb : Below w.heap.size w w1 := by rw [← hW]; exact (Below.refl _ _).alloc (Nat.le_refl _) _
        have hsz1 := hb.size
        replace HC := Lib.hid (HC.out.below hb (by omega))
        replace HX := Lib.hid (HX.out.below hb (by omega))
        have HK : Hid (Blk w1 w.heap.size 24 #[.slice t.Af t.nf t.kf, .slice t.Ab t.nb t.kb, .int .i64 t.c.share]) := Lib.hid (by rw [← hW]; exact Blk.new _ _ _)
        have HB := Lib.hid hb
        try rw [hW]
        clear hW hb
        obtain ⟨c0, c1, c2⟩ := HK.out.three_
        go_wp2_with fail
        have CALL := refCheckCurve_any w1.heap.size t w1 (HC.out.more (by omega)) (Nat.le_refl _) hs
        rw [HV.out] at CALL
        refine CALL.mono ?_
        rintro e w2 ⟨rfl, hb⟩
        clear CALL
        have hsz2 := hb.size
        replace HC := Lib.hid (HC.out.below hb (by omega))
        replace HX := Lib.hid (HX.out.below hb (by omega))
        replace HK := Lib.hid (HK.out.below hb HK.out.lt)
        replace HB := Lib.hid (HB.out.trans (hb.mono (by omega)))

        clear hb
        obtain ⟨c0, c1, c2⟩ := HK.out.three_
        go_wp2_with fail
        have CALL := refSignal_any w2.heap.size Ax nx kx xs w2 (HX.out.more (by omega)) hlx
        rw [HS.out] at CALL
        refine CALL.mono ?_
        rintro e w_ ⟨rfl, rfl⟩
        clear CALL
        go_wp2_with fail
        have CALL := refRun_forth w2.heap.size t Ax nx kx xs 32767 w2 (HC.out.more (by omega)) (HX.out.more (by omega)) (Nat.le_refl _) hx4 HOK.out HXW.out (by omega) (by omega)
        rw [HRN.out] at CALL
        refine CALL.mono ?_
        rintro e w3 ⟨v, rfl, ho, hb⟩
        clear CALL
        have hsz3 := hb.size
        replace HC := Lib.hid (HC.out.below hb (by omega))
        replace HX := Lib.hid (HX.out.below hb (by omega))
        replace HK := Lib.hid (HK.out.below hb HK.out.lt)
        replace HB := Lib.hid (HB.out.trans (hb.mono (by omega)))
        have HO := Lib.hid ho
        have hsO := HB.out.size
        clear ho
        clear hb
        obtain ⟨c0, c1, c2⟩ := HK.out.three_
        go_wp2
        go_ret2
        exact ⟨_, rfl, World.ownsRow_nil _ _ _ _, HB.out⟩
      | some y =>
        obtain ⟨r1, r2⟩ := one_some he hR
        rw [r1, r2]
        rw [chain_one] at hR
        have HRN := Lib.hid hR
        clear he hR r1 r2
        go_enter Try.func27, Try.ntmps27
        go_upto_region 1 with fail
        obtain ⟨w1, hW⟩ : ∃ W, w.alloc (.cells #[.slice t.Af t.nf t.kf, .slice t.Ab t.nb t.kb, .int .i64 t.c.share] 24) = W := ⟨_, rfl⟩
        have hb : Below w.heap.size w w1 := by rw [← hW]; exact (Below.refl _ _).alloc (Nat.le_refl _) _
        have hsz1 := hb.size
        replace HC := Lib.hid (HC.out.below hb (by omega))
        replace HX := Lib.hid (HX.out.below hb (by omega))
        have HK : Hid (Blk w1 w.heap.size 24 #[.slice t.Af t.nf t.kf, .slice t.Ab t.nb t.kb, .int .i64 t.c.share]) := Lib.hid (by rw [← hW]; exact Blk.new _ _ _)
        have HB := Lib.hid hb
        try rw [hW]
        clear hW hb
        obtain ⟨c0, c1, c2⟩ := HK.out.three_
        go_wp2_with fail
        have CALL := refCheckCurve_any w1.heap.size t w1 (HC.out.more (by omega)) (Nat.le_refl _) hs
        rw [HV.out] at CALL
        refine CALL.mono ?_
        rintro e w2 ⟨rfl, hb⟩
        clear CALL
        have hsz2 := hb.size
        replace HC := Lib.hid (HC.out.below hb (by omega))
        replace HX := Lib.hid (HX.out.below hb (by omega))
        replace HK := Lib.hid (HK.out.below hb HK.out.lt)
        replace HB := Lib.hid (HB.out.trans (hb.mono (by omega)))

        clear hb
        obtain ⟨c0, c1, c2⟩ := HK.out.three_
        go_wp2_with fail
        have CALL := refSignal_any w2.heap.size Ax nx kx xs w2 (HX.out.more (by omega)) hlx
        rw [HS.out] at CALL
        refine CALL.mono ?_
        rintro e w_ ⟨rfl, rfl⟩
        clear CALL
        go_wp2_with fail
        have CALL := refRun_forth w2.heap.size t Ax nx kx xs 32767 w2 (HC.out.more (by omega)) (HX.out.more (by omega)) (Nat.le_refl _) hx4 HOK.out HXW.out (by omega) (by omega)
        rw [HRN.out] at CALL
        refine CALL.mono ?_
        rintro e w3 ⟨v, rfl, ho, hb⟩
        clear CALL
        have hsz3 := hb.size
        replace HC := Lib.hid (HC.out.below hb (by omega))
        replace HX := Lib.hid (HX.out.below hb (by omega))
        replace HK := Lib.hid (HK.out.below hb HK.out.lt)
        replace HB := Lib.hid (HB.out.trans (hb.mono (by omega)))
        have HO := Lib.hid ho
        have hsO := HB.out.size
        clear ho
        clear hb
        obtain ⟨c0, c1, c2⟩ := HK.out.three_
        go_wp2
        go_ret2
        exact ⟨_, rfl, own_base_ HO.out (by omega), HB.out⟩
    · obtain ⟨r1, r2⟩ := one_bad (d := true) he h2
      rw [r1, r2]
      have q1 : (e2 != 0) = true := by rw [bne_iff_ne]; exact h2
      have q2 : (e2 == 0) = false := beq_eq_false_iff_ne.2 h2
      clear he r1 r2
      go_enter Try.func27, Try.ntmps27
      go_upto_region 1 with fail
      obtain ⟨w1, hW⟩ : ∃ W, w.alloc (.cells #[.slice t.Af t.nf t.kf, .slice t.Ab t.nb t.kb, .int .i64 t.c.share] 24) = W := ⟨_, rfl⟩
      have hb : Below w.heap.size w w1 := by rw [← hW]; exact (Below.refl _ _).alloc (Nat.le_refl _) _
      have hsz1 := hb.size
      replace HC := Lib.hid (HC.out.below hb (by omega))
      replace HX := Lib.hid (HX.out.below hb (by omega))
      have HK : Hid (Blk w1 w.heap.size 24 #[.slice t.Af t.nf t.kf, .slice t.Ab t.nb t.kb, .int .i64 t.c.share]) := Lib.hid (by rw [← hW]; exact Blk.new _ _ _)
      have HB := Lib.hid hb
      try rw [hW]
      clear hW hb
      obtain ⟨c0, c1, c2⟩ := HK.out.three_
      go_wp2_with fail
      have CALL := refCheckCurve_any w1.heap.size t w1 (HC.out.more (by omega)) (Nat.le_refl _) hs
      rw [HV.out] at CALL
      refine CALL.mono ?_
      rintro e w2 ⟨rfl, hb⟩
      clear CALL
      have hsz2 := hb.size
      replace HC := Lib.hid (HC.out.below hb (by omega))
      replace HX := Lib.hid (HX.out.below hb (by omega))
      replace HK := Lib.hid (HK.out.below hb HK.out.lt)
      replace HB := Lib.hid (HB.out.trans (hb.mono (by omega)))

      clear hb
      obtain ⟨c0, c1, c2⟩ := HK.out.three_
      go_wp2_with fail
      have CALL := refSignal_any w2.heap.size Ax nx kx xs w2 (HX.out.more (by omega)) hlx
      rw [HS.out] at CALL
      refine CALL.mono ?_
      rintro e w_ ⟨rfl, rfl⟩
      clear CALL
      go_wp2
      go_ret2
      exact ⟨_, rfl, World.ownsRow_nil _ _ _ _, HB.out⟩
  · rw [if_neg h1] at he
    obtain ⟨r1, r2⟩ := one_bad (d := true) he h1
    rw [r1, r2]
    have q1 : (e1 != 0) = true := by rw [bne_iff_ne]; exact h1
    have q2 : (e1 == 0) = false := beq_eq_false_iff_ne.2 h1
    clear he r1 r2
    go_enter Try.func27, Try.ntmps27
    go_upto_region 1 with fail
    obtain ⟨w1, hW⟩ : ∃ W, w.alloc (.cells #[.slice t.Af t.nf t.kf, .slice t.Ab t.nb t.kb, .int .i64 t.c.share] 24) = W := ⟨_, rfl⟩
    have hb : Below w.heap.size w w1 := by rw [← hW]; exact (Below.refl _ _).alloc (Nat.le_refl _) _
    have hsz1 := hb.size
    replace HC := Lib.hid (HC.out.below hb (by omega))
    replace HX := Lib.hid (HX.out.below hb (by omega))
    have HK : Hid (Blk w1 w.heap.size 24 #[.slice t.Af t.nf t.kf, .slice t.Ab t.nb t.kb, .int .i64 t.c.share]) := Lib.hid (by rw [← hW]; exact Blk.new _ _ _)
    have HB := Lib.hid hb
    try rw [hW]
    clear hW hb
    obtain ⟨c0, c1, c2⟩ := HK.out.three_
    go_wp2_with fail
    have CALL := refCheckCurve_any w1.heap.size t w1 (HC.out.more (by omega)) (Nat.le_refl _) hs
    rw [HV.out] at CALL
    refine CALL.mono ?_
    rintro e w2 ⟨rfl, hb⟩
    clear CALL
    have hsz2 := hb.size
    replace HC := Lib.hid (HC.out.below hb (by omega))
    replace HX := Lib.hid (HX.out.below hb (by omega))
    replace HK := Lib.hid (HK.out.below hb HK.out.lt)
    replace HB := Lib.hid (HB.out.trans (hb.mono (by omega)))

    clear hb
    obtain ⟨c0, c1, c2⟩ := HK.out.three_
    go_wp2
    go_ret2
    exact ⟨_, rfl, World.ownsRow_nil _ _ _ _, HB.out⟩

set_option maxRecDepth 100000 in
set_option maxHeartbeats 4000000 in
theorem refEither_back (B : Nat) (t : CV) (Ax : Option Addr) (nx kx : Nat) (xs : List Int) (w : World) (hc : CI w B t) (hX : LI w B Ax nx xs) (hB : B ≤ w.heap.size) (hlx : nx ≤ 9223372036854775807) (hs : t.nf ≤ 9223372036854775807 ∧ t.nb ≤ 9223372036854775807) :
    Calls Try.prog 27 #[.agg #[.slice t.Af t.nf t.kf, .slice t.Ab t.nb t.kb, .int .i64 t.c.share], .slice Ax nx kx, .bool true] w (OutPost w.heap.size w (oneRes false t.c xs) (oneErr false t.c xs)) := by
  have HC := Lib.hid (hc.more hB)
  have HX := Lib.hid (hX.more hB)
  have HNX := Lib.hid hX.1
  clear hc hX hB
  have he := chEr_one t.c xs
  obtain ⟨e1, he1⟩ : ∃ e, ckV t.c = e := ⟨_, rfl⟩
  obtain ⟨e2, he2⟩ : ∃ e, ckX xs = e := ⟨_, rfl⟩
  have HV := Lib.hid he1
  have HS := Lib.hid he2
  rw [he1, he2] at he
  clear he1 he2
  by_cases h1 : e1 = 0
  · subst h1
    rw [if_pos rfl] at he
    by_cases h2 : e2 = 0
    · subst h2
      have HOK := Lib.hid (ckV_ok HV.out)
      obtain ⟨hx4', hxw⟩ := ckX_ok HS.out
      have hx4 : nx ≤ 4096 := by have := HNX.out; omega
      have HXW := Lib.hid hxw
      clear hx4' hxw
      cases hR : chain false [t.c] xs with
      | none =>
        obtain ⟨r1, r2⟩ := one_none he hR
        rw [r1, r2]
        rw [chain_one] at hR
        have HRN := Lib.hid hR
        clear he hR r1 r2
        go_enter Try.func27, Try.ntmps27
        go_upto_region 1 with fail
        obtain ⟨w1, hW⟩ : ∃ W, w.alloc (.cells #[.slice t.Af t.nf t.kf, .slice t.Ab t.nb t.kb, .int .i64 t.c.share] 24) = W := ⟨_, rfl⟩
        have hb : Below w.heap.size w w1 := by rw [← hW]; exact (Below.refl _ _).alloc (Nat.le_refl _) _
        have hsz1 := hb.size
        replace HC := Lib.hid (HC.out.below hb (by omega))
        replace HX := Lib.hid (HX.out.below hb (by omega))
        have HK : Hid (Blk w1 w.heap.size 24 #[.slice t.Af t.nf t.kf, .slice t.Ab t.nb t.kb, .int .i64 t.c.share]) := Lib.hid (by rw [← hW]; exact Blk.new _ _ _)
        have HB := Lib.hid hb
        try rw [hW]
        clear hW hb
        obtain ⟨c0, c1, c2⟩ := HK.out.three_
        go_wp2_with fail
        have CALL := refCheckCurve_any w1.heap.size t w1 (HC.out.more (by omega)) (Nat.le_refl _) hs
        rw [HV.out] at CALL
        refine CALL.mono ?_
        rintro e w2 ⟨rfl, hb⟩
        clear CALL
        have hsz2 := hb.size
        replace HC := Lib.hid (HC.out.below hb (by omega))
        replace HX := Lib.hid (HX.out.below hb (by omega))
        replace HK := Lib.hid (HK.out.below hb HK.out.lt)
        replace HB := Lib.hid (HB.out.trans (hb.mono (by omega)))

        clear hb
        obtain ⟨c0, c1, c2⟩ := HK.out.three_
        go_wp2_with fail
        have CALL := refSignal_any w2.heap.size Ax nx kx xs w2 (HX.out.more (by omega)) hlx
        rw [HS.out] at CALL
        refine CALL.mono ?_
        rintro e w_ ⟨rfl, rfl⟩
        clear CALL
        go_wp2_with fail
        have CALL := refRun_back w2.heap.size t Ax nx kx xs 32767 w2 (HC.out.more (by omega)) (HX.out.more (by omega)) (Nat.le_refl _) hx4 HOK.out HXW.out (by omega) (by omega)
        rw [HRN.out] at CALL
        refine CALL.mono ?_
        rintro e w3 ⟨v, rfl, ho, hb⟩
        clear CALL
        have hsz3 := hb.size
        replace HC := Lib.hid (HC.out.below hb (by omega))
        replace HX := Lib.hid (HX.out.below hb (by omega))
        replace HK := Lib.hid (HK.out.below hb HK.out.lt)
        replace HB := Lib.hid (HB.out.trans (hb.mono (by omega)))
        have HO := Lib.hid ho
        have hsO := HB.out.size
        clear ho
        clear hb
        obtain ⟨c0, c1, c2⟩ := HK.out.three_
        go_wp2
        go_ret2
        exact ⟨_, rfl, World.ownsRow_nil _ _ _ _, HB.out⟩
      | some y =>
        obtain ⟨r1, r2⟩ := one_some he hR
        rw [r1, r2]
        rw [chain_one] at hR
        have HRN := Lib.hid hR
        clear he hR r1 r2
        go_enter Try.func27, Try.ntmps27
        go_upto_region 1 with fail
        obtain ⟨w1, hW⟩ : ∃ W, w.alloc (.cells #[.slice t.Af t.nf t.kf, .slice t.Ab t.nb t.kb, .int .i64 t.c.share] 24) = W := ⟨_, rfl⟩
        have hb : Below w.heap.size w w1 := by rw [← hW]; exact (Below.refl _ _).alloc (Nat.le_refl _) _
        have hsz1 := hb.size
        replace HC := Lib.hid (HC.out.below hb (by omega))
        replace HX := Lib.hid (HX.out.below hb (by omega))
        have HK : Hid (Blk w1 w.heap.size 24 #[.slice t.Af t.nf t.kf, .slice t.Ab t.nb t.kb, .int .i64 t.c.share]) := Lib.hid (by rw [← hW]; exact Blk.new _ _ _)
        have HB := Lib.hid hb
        try rw [hW]
        clear hW hb
        obtain ⟨c0, c1, c2⟩ := HK.out.three_
        go_wp2_with fail
        have CALL := refCheckCurve_any w1.heap.size t w1 (HC.out.more (by omega)) (Nat.le_refl _) hs
        rw [HV.out] at CALL
        refine CALL.mono ?_
        rintro e w2 ⟨rfl, hb⟩
        clear CALL
        have hsz2 := hb.size
        replace HC := Lib.hid (HC.out.below hb (by omega))
        replace HX := Lib.hid (HX.out.below hb (by omega))
        replace HK := Lib.hid (HK.out.below hb HK.out.lt)
        replace HB := Lib.hid (HB.out.trans (hb.mono (by omega)))

        clear hb
        obtain ⟨c0, c1, c2⟩ := HK.out.three_
        go_wp2_with fail
        have CALL := refSignal_any w2.heap.size Ax nx kx xs w2 (HX.out.more (by omega)) hlx
        rw [HS.out] at CALL
        refine CALL.mono ?_
        rintro e w_ ⟨rfl, rfl⟩
        clear CALL
        go_wp2_with fail
        have CALL := refRun_back w2.heap.size t Ax nx kx xs 32767 w2 (HC.out.more (by omega)) (HX.out.more (by omega)) (Nat.le_refl _) hx4 HOK.out HXW.out (by omega) (by omega)
        rw [HRN.out] at CALL
        refine CALL.mono ?_
        rintro e w3 ⟨v, rfl, ho, hb⟩
        clear CALL
        have hsz3 := hb.size
        replace HC := Lib.hid (HC.out.below hb (by omega))
        replace HX := Lib.hid (HX.out.below hb (by omega))
        replace HK := Lib.hid (HK.out.below hb HK.out.lt)
        replace HB := Lib.hid (HB.out.trans (hb.mono (by omega)))
        have HO := Lib.hid ho
        have hsO := HB.out.size
        clear ho
        clear hb
        obtain ⟨c0, c1, c2⟩ := HK.out.three_
        go_wp2
        go_ret2
        exact ⟨_, rfl, own_base_ HO.out (by omega), HB.out⟩
    · obtain ⟨r1, r2⟩ := one_bad (d := false) he h2
      rw [r1, r2]
      have q1 : (e2 != 0) = true := by rw [bne_iff_ne]; exact h2
      have q2 : (e2 == 0) = false := beq_eq_false_iff_ne.2 h2
      clear he r1 r2
      go_enter Try.func27, Try.ntmps27
      go_upto_region 1 with fail
      obtain ⟨w1, hW⟩ : ∃ W, w.alloc (.cells #[.slice t.Af t.nf t.kf, .slice t.Ab t.nb t.kb, .int .i64 t.c.share] 24) = W := ⟨_, rfl⟩
      have hb : Below w.heap.size w w1 := by rw [← hW]; exact (Below.refl _ _).alloc (Nat.le_refl _) _
      have hsz1 := hb.size
      replace HC := Lib.hid (HC.out.below hb (by omega))
      replace HX := Lib.hid (HX.out.below hb (by omega))
      have HK : Hid (Blk w1 w.heap.size 24 #[.slice t.Af t.nf t.kf, .slice t.Ab t.nb t.kb, .int .i64 t.c.share]) := Lib.hid (by rw [← hW]; exact Blk.new _ _ _)
      have HB := Lib.hid hb
      try rw [hW]
      clear hW hb
      obtain ⟨c0, c1, c2⟩ := HK.out.three_
      go_wp2_with fail
      have CALL := refCheckCurve_any w1.heap.size t w1 (HC.out.more (by omega)) (Nat.le_refl _) hs
      rw [HV.out] at CALL
      refine CALL.mono ?_
      rintro e w2 ⟨rfl, hb⟩
      clear CALL
      have hsz2 := hb.size
      replace HC := Lib.hid (HC.out.below hb (by omega))
      replace HX := Lib.hid (HX.out.below hb (by omega))
      replace HK := Lib.hid (HK.out.below hb HK.out.lt)
      replace HB := Lib.hid (HB.out.trans (hb.mono (by omega)))

      clear hb
      obtain ⟨c0, c1, c2⟩ := HK.out.three_
      go_wp2_with fail
      have CALL := refSignal_any w2.heap.size Ax nx kx xs w2 (HX.out.more (by omega)) hlx
      rw [HS.out] at CALL
      refine CALL.mono ?_
      rintro e w_ ⟨rfl, rfl⟩
      clear CALL
      go_wp2
      go_ret2
      exact ⟨_, rfl, World.ownsRow_nil _ _ _ _, HB.out⟩
  · rw [if_neg h1] at he
    obtain ⟨r1, r2⟩ := one_bad (d := false) he h1
    rw [r1, r2]
    have q1 : (e1 != 0) = true := by rw [bne_iff_ne]; exact h1
    have q2 : (e1 == 0) = false := beq_eq_false_iff_ne.2 h1
    clear he r1 r2
    go_enter Try.func27, Try.ntmps27
    go_upto_region 1 with fail
    obtain ⟨w1, hW⟩ : ∃ W, w.alloc (.cells #[.slice t.Af t.nf t.kf, .slice t.Ab t.nb t.kb, .int .i64 t.c.share] 24) = W := ⟨_, rfl⟩
    have hb : Below w.heap.size w w1 := by rw [← hW]; exact (Below.refl _ _).alloc (Nat.le_refl _) _
    have hsz1 := hb.size
    replace HC := Lib.hid (HC.out.below hb (by omega))
    replace HX := Lib.hid (HX.out.below hb (by omega))
    have HK : Hid (Blk w1 w.heap.size 24 #[.slice t.Af t.nf t.kf, .slice t.Ab t.nb t.kb, .int .i64 t.c.share]) := Lib.hid (by rw [← hW]; exact Blk.new _ _ _)
    have HB := Lib.hid hb
    try rw [hW]
    clear hW hb
    obtain ⟨c0, c1, c2⟩ := HK.out.three_
    go_wp2_with fail
    have CALL := refCheckCurve_any w1.heap.size t w1 (HC.out.more (by omega)) (Nat.le_refl _) hs
    rw [HV.out] at CALL
    refine CALL.mono ?_
    rintro e w2 ⟨rfl, hb⟩
    clear CALL
    have hsz2 := hb.size
    replace HC := Lib.hid (HC.out.below hb (by omega))
    replace HX := Lib.hid (HX.out.below hb (by omega))
    replace HK := Lib.hid (HK.out.below hb HK.out.lt)
    replace HB := Lib.hid (HB.out.trans (hb.mono (by omega)))

    clear hb
    obtain ⟨c0, c1, c2⟩ := HK.out.three_
    go_wp2
    go_ret2
    exact ⟨_, rfl, World.ownsRow_nil _ _ _ _, HB.out⟩

set_option maxRecDepth 100000 in
set_option maxHeartbeats 1000000 in
theorem refApply_any (B : Nat) (t : CV) (Ax : Option Addr) (nx kx : Nat) (xs : List Int) (w : World) (hc : CI w B t) (hX : LI w B Ax nx xs) (hB : B ≤ w.heap.size) (hlx : nx ≤ 9223372036854775807) (hs : t.nf ≤ 9223372036854775807 ∧ t.nb ≤ 9223372036854775807) :
    Calls Try.prog 12 #[.agg #[.slice t.Af t.nf t.kf, .slice t.Ab t.nb t.kb, .int .i64 t.c.share], .slice Ax nx kx] w (OutPost w.heap.size w (oneRes true t.c xs) (oneErr true t.c xs)) := by
  have HC := Lib.hid (hc.more hB)
  have HX := Lib.hid (hX.more hB)
  clear hc hX hB
  obtain ⟨R, hR⟩ : ∃ R, oneRes true t.c xs = R := ⟨_, rfl⟩
  obtain ⟨E, hE⟩ : ∃ R, oneErr true t.c xs = R := ⟨_, rfl⟩
  rw [hR, hE]
  have HR := Lib.hid hR
  have HE := Lib.hid hE
  clear hR hE
  go_enter Try.func12, Try.ntmps12
  go_upto_region 1 with fail
  obtain ⟨w1, hW⟩ : ∃ W, w.alloc (.cells #[.slice t.Af t.nf t.kf, .slice t.Ab t.nb t.kb, .int .i64 t.c.share] 24) = W := ⟨_, rfl⟩
  have hb : Below w.heap.size w w1 := by rw [← hW]; exact (Below.refl _ _).alloc (Nat.le_refl _) _
  have hsz1 := hb.size
  replace HC := Lib.hid (HC.out.below hb (by omega))
  replace HX := Lib.hid (HX.out.below hb (by omega))
  have HK : Hid (Blk w1 w.heap.size 24 #[.slice t.Af t.nf t.kf, .slice t.Ab t.nb t.kb, .int .i64 t.c.share]) := Lib.hid (by rw [← hW]; exact Blk.new _ _ _)
  have HB := Lib.hid hb
  try rw [hW]
  clear hW hb
  obtain ⟨c0, c1, c2⟩ := HK.out.three_
  go_wp2_with fail
  have CALL := refEither_forth w1.heap.size t Ax nx kx xs w1 (HC.out.more (by omega)) (HX.out.more (by omega)) (Nat.le_refl _) hlx hs
  rw [HR.out, HE.out] at CALL
  refine CALL.mono ?_
  rintro e w2 ⟨v, rfl, ho, hb⟩
  clear CALL
  have hsz2 := hb.size
  replace HC := Lib.hid (HC.out.below hb (by omega))
  replace HX := Lib.hid (HX.out.below hb (by omega))
  replace HK := Lib.hid (HK.out.below hb HK.out.lt)
  replace HB := Lib.hid (HB.out.trans (hb.mono (by omega)))
  have HO := Lib.hid ho
  clear ho
  clear hb
  obtain ⟨c0, c1, c2⟩ := HK.out.three_
  go_wp2
  go_ret2
  exact ⟨_, rfl, own_base_ HO.out (by omega), HB.out⟩

set_option maxRecDepth 100000 in
set_option maxHeartbeats 1000000 in
theorem refUndo_any (B : Nat) (t : CV) (Ax : Option Addr) (nx kx : Nat) (xs : List Int) (w : World) (hc : CI w B t) (hX : LI w B Ax nx xs) (hB : B ≤ w.heap.size) (hlx : nx ≤ 9223372036854775807) (hs : t.nf ≤ 9223372036854775807 ∧ t.nb ≤ 9223372036854775807) :
    Calls Try.prog 14 #[.agg #[.slice t.Af t.nf t.kf, .slice t.Ab t.nb t.kb, .int .i64 t.c.share], .slice Ax nx kx] w (OutPost w.heap.size w (oneRes false t.c xs) (oneErr false t.c xs)) := by
  have HC := Lib.hid (hc.more hB)
  have HX := Lib.hid (hX.more hB)
  clear hc hX hB
  obtain ⟨R, hR⟩ : ∃ R, oneRes false t.c xs = R := ⟨_, rfl⟩
  obtain ⟨E, hE⟩ : ∃ R, oneErr false t.c xs = R := ⟨_, rfl⟩
  rw [hR, hE]
  have HR := Lib.hid hR
  have HE := Lib.hid hE
  clear hR hE
  go_enter Try.func14, Try.ntmps14
  go_upto_region 1 with fail
  obtain ⟨w1, hW⟩ : ∃ W, w.alloc (.cells #[.slice t.Af t.nf t.kf, .slice t.Ab t.nb t.kb, .int .i64 t.c.share] 24) = W := ⟨_, rfl⟩
  have hb : Below w.heap.size w w1 := by rw [← hW]; exact (Below.refl _ _).alloc (Nat.le_refl _) _
  have hsz1 := hb.size
  replace HC := Lib.hid (HC.out.below hb (by omega))
  replace HX := Lib.hid (HX.out.below hb (by omega))
  have HK : Hid (Blk w1 w.heap.size 24 #[.slice t.Af t.nf t.kf, .slice t.Ab t.nb t.kb, .int .i64 t.c.share]) := Lib.hid (by rw [← hW]; exact Blk.new _ _ _)
  have HB := Lib.hid hb
  try rw [hW]
  clear hW hb
  obtain ⟨c0, c1, c2⟩ := HK.out.three_
  go_wp2_with fail
  have CALL := refEither_back w1.heap.size t Ax nx kx xs w1 (HC.out.more (by omega)) (HX.out.more (by omega)) (Nat.le_refl _) hlx hs
  rw [HR.out, HE.out] at CALL
  refine CALL.mono ?_
  rintro e w2 ⟨v, rfl, ho, hb⟩
  clear CALL
  have hsz2 := hb.size
  replace HC := Lib.hid (HC.out.below hb (by omega))
  replace HX := Lib.hid (HX.out.below hb (by omega))
  replace HK := Lib.hid (HK.out.below hb HK.out.lt)
  replace HB := Lib.hid (HB.out.trans (hb.mono (by omega)))
  have HO := Lib.hid ho
  clear ho
  clear hb
  obtain ⟨c0, c1, c2⟩ := HK.out.three_
  go_wp2
  go_ret2
  exact ⟨_, rfl, own_base_ HO.out (by omega), HB.out⟩
end Go.Proofs.Ythdflofdjhjjhaa
