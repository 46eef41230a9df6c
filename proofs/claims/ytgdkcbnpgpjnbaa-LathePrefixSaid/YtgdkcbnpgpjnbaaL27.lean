/-
  The walk of LathePrefix.
-/
import Derived.Test.YtgdkcbnpgpjnbaaL16
import Derived.Test.YtgdkcbnpgpjnbaaL26
namespace Go.Proofs.Ytgdkcbnpgpjnbaa
open Go.RowKit

theorem tmodP (f : Int) (n : Nat) (h : 0 ≤ f) : ∃ a : Nat, f.tmod ((n : Int) + 1) = (a : Int) ∧ a ≤ n := by
  refine ⟨(f.tmod ((n : Int) + 1)).toNat, ?_, ?_⟩
  · have := Int.tmod_nonneg ((n : Int) + 1) h; omega
  · have h1 := Int.tmod_lt_of_pos f (show 0 < (n : Int) + 1 by omega); have := Int.tmod_nonneg ((n : Int) + 1) h; omega
theorem fitV_vld {b : Bk} {P : List Smp} (h : vldG b P = true) : fitV b P = fitN b P P.length ∧ fitE b P = 0 := by
  unfold fitV fitE; rw [if_pos (vld_er h).1]; exact ⟨rfl, (vld_er h).1⟩
theorem some_take {b : Bk} {P : List Smp} {m : Nat} {X : List Int} (h : vldG b P = true) (hm : m ≤ P.length) (hs : sol b P m = some X) : outE b (P.take m) = 0 ∧ outR b (P.take m) = X := by
  have := out_take h hm; rw [hs] at this; exact this
theorem none_take {b : Bk} {P : List Smp} {m : Nat} (h : vldG b P = true) (hm : m ≤ P.length) (hs : sol b P m = none) : outE b (P.take m) = 15 ∧ outR b (P.take m) = [] := by
  have := out_take h hm; rw [hs] at this; exact this

set_option maxRecDepth 100000 in
set_option maxHeartbeats 8000000 in
theorem prefix_walk (B : Nat) (A : Option Addr) (n c : Nat) (b : Bk) (P : List Smp) (q : Int) (w : World) (h0 : RS w B A n P) (hB : B ≤ w.heap.size) (hl : n ≤ 9223372036854775807) (hnc : n ≤ c) (q0 : 0 ≤ q) (q1 : q ≤ 255) :
    Calls Try.prog 10 #[.agg #[.int .i64 b.per, .int .i64 b.rim, .int .i64 b.core, .int .i64 b.land, .int .i64 b.slow, .int .i64 b.fast], .slice A n c, .int .u8 q] w fun e w' => e = .returned (.bool true) ∧ Below w.heap.size w w' := by
  have HP := Lib.hid (h0.more hB)
  have HN := Lib.hid h0.1
  clear h0 hB
  go_enter Try.func10, Try.ntmps10
  go_upto_region 1 with fail
  obtain ⟨w0, hW⟩ : ∃ W, w.alloc (.cells #[.int .i64 b.per, .int .i64 b.rim, .int .i64 b.core, .int .i64 b.land, .int .i64 b.slow, .int .i64 b.fast] 23) = W := ⟨_, rfl⟩
  have hb0 : Below w.heap.size w w0 := by rw [← hW]; exact below_a _ _
  have k0 : Blk w0 w.heap.size 23 #[.int .i64 b.per, .int .i64 b.rim, .int .i64 b.core, .int .i64 b.land, .int .i64 b.slow, .int .i64 b.fast] := by rw [← hW]; exact Blk.new _ _ _
  rw [hW]
  have HB := Lib.hid hb0
  have HK := Lib.hid k0
  obtain ⟨c0, c1, c2, c3, c4, c5⟩ := k0.six
  clear hW hb0 k0
  cases hv : vldG b P with
  | false =>
    have HV := Lib.hid hv
    clear hv
    go_wp2_with fail
    have CALL := valid5_any w.heap.size A n c b P w0 (HP.out.below HB.out (Nat.le_refl _)) HB.out.size hl
    refine CALL.mono ?_
    rintro e w1 ⟨rfl, hb⟩
    clear CALL
    have hsz := hb.size
    replace HK := Lib.hid (HK.out.below hb HK.out.lt)
    replace HB := Lib.hid (HB.out.trans (hb.mono HB.out.size))
    clear hb hsz c0 c1 c2 c3 c4 c5
    obtain ⟨c0, c1, c2, c3, c4, c5⟩ := HK.out.six
    rw [HV.out]
    go_wp2_with fail
    refine (works5_any _).mono ?_
    rintro e w2 ⟨rfl, hb⟩
    replace HB := Lib.hid (HB.out.trans (hb.mono HB.out.size))
    clear hb
    go_wp2
    go_ret
    exact ⟨rfl, HB.out⟩
  | true =>
    have HV := Lib.hid hv
    have hkn : n = P.length := HN.out
    obtain ⟨k, hk⟩ : ∃ k, fitN b P P.length = k := ⟨_, rfl⟩
    have hkle : k ≤ n := by rw [← hk, hkn]; exact fitN_le b P _
    obtain ⟨hf1, hf2⟩ := fitV_vld hv
    rw [hk] at hf1
    have hsk : (sol b P k).isSome = true := by rw [← hk]; exact fitN_some b P _
    have HNO : Hid (∀ j, k < j → j ≤ n → outE b (P.take j) = 15 ∧ outR b (P.take j) = []) := Lib.hid (fun j h1 h2 => none_take hv (by omega) (fitN_none b P P.length j (by rw [hk]; exact h1) (by omega)))
    obtain ⟨X, hX⟩ := Option.isSome_iff_exists.1 hsk
    obtain ⟨m, hm, hmk⟩ := tmodP q k q0
    obtain ⟨Y, hY, hYl, hXl, hYX⟩ := sol_mono (vld_er hv).2.1 hmk hX
    have HX := Lib.hid (some_take hv (by omega) hX)
    have HY := Lib.hid (some_take hv (by omega) hY)
    have HXL := Lib.hid hXl
    have HYL := Lib.hid hYl
    have HYX := Lib.hid hYX
    have HF := Lib.hid (And.intro hf1 hf2)
    have hn40 : n ≤ 40 := by rw [hkn]; exact (vld_er hv).2.2.2
    clear hv hkn hk hf1 hf2 hsk hX hY hYl hXl hYX
    have x3 : IntKind.i64.wrap ((k : Int) + 1) = (k : Int) + 1 := IntWalk.i64_in _ (by omega)
    have x4 : ((k : Int) + 1 == 0) = false := beq_eq_false_iff_ne.2 (by omega)
    have x5 : ¬ ((k : Int) + 1 = 0) := by omega
    have x6 : IntKind.i64.wrap q = q := IntWalk.i64_in _ (by omega)
    have x7 : IntKind.i64.wrap (m : Int) = m := IntWalk.i64_in _ (by omega)
    have sk := fun W => pts_to A k n c (by omega) W
    have sm := fun W => pts_to A m n c (by omega) W
    go_wp2_with fail
    have CALL := valid5_any w.heap.size A n c b P w0 (HP.out.below HB.out (Nat.le_refl _)) HB.out.size hl
    refine CALL.mono ?_
    rintro e w3 ⟨rfl, hb⟩
    clear CALL
    have hsz := hb.size
    replace HK := Lib.hid (HK.out.below hb HK.out.lt)
    replace HB := Lib.hid (HB.out.trans (hb.mono HB.out.size))
    clear hb hsz c0 c1 c2 c3 c4 c5
    obtain ⟨c0, c1, c2, c3, c4, c5⟩ := HK.out.six
    rw [HV.out]
    go_wp2_with fail
    have CALL := Fits_any w.heap.size A n c b P w3 (HP.out.below HB.out (Nat.le_refl _)) HB.out.size hl
    refine CALL.mono ?_
    rintro e w4 ⟨rfl, hb⟩
    clear CALL
    have hsz := hb.size
    replace HK := Lib.hid (HK.out.below hb HK.out.lt)
    replace HB := Lib.hid (HB.out.trans (hb.mono HB.out.size))
    clear hb hsz c0 c1 c2 c3 c4 c5
    obtain ⟨c0, c1, c2, c3, c4, c5⟩ := HK.out.six
    rw [HF.out.1, HF.out.2]
    go_wp2_with fail
    refine wp_region_held_drew (S := fun w' => w'.cell? ⟨w.heap.size, 0, none⟩ = some (.int .i64 b.per) ∧ w'.cell? ⟨w.heap.size, 1, none⟩ = some (.int .i64 b.rim) ∧ w'.cell? ⟨w.heap.size, 2, none⟩ = some (.int .i64 b.core) ∧ w'.cell? ⟨w.heap.size, 3, none⟩ = some (.int .i64 b.land) ∧ w'.cell? ⟨w.heap.size, 4, none⟩ = some (.int .i64 b.slow) ∧ w'.cell? ⟨w.heap.size, 5, none⟩ = some (.int .i64 b.fast)) (by kernel_rfl) ⟨c0, c1, c2, c3, c4, c5⟩ (fun hHeld => ?_)
    obtain ⟨w5, hwd⟩ : ∃ wd, w4.drew = wd := ⟨_, rfl⟩
    have hb : Below w4.heap.size w4 w5 := by rw [← hwd]; exact (Below.refl _ _).drew
    rw [hwd] at hHeld ⊢
    clear hwd
    have hsz := hb.size
    replace HK := Lib.hid (HK.out.below hb HK.out.lt)
    replace HB := Lib.hid (HB.out.trans (hb.mono HB.out.size))
    clear hb hsz c0 c1 c2 c3 c4 c5
    obtain ⟨c0, c1, c2, c3, c4, c5⟩ := HK.out.six
    refine wpAnyH_take (i := 0) (oi := { dst := some 39, op := Go.Op.load 23 (Go.Operand.tmp 3), type := 23, pos := "outright.go:106", after := #[], guard := none }) (v := ?vt1001) rfl (by kernel_rfl) (by kernel_rfl) (by kernel_rfl) (fun _ _ _ h => h) (Or.inl ⟨by rfl, ?ht1001⟩) hHeld ?_
    case ht1001 => intro w hSw; obtain ⟨s1, s2, s3, s4, s5, s6⟩ := hSw; go_simp; try with_reducible rfl
    simp only [Act.put, List.setIfInBounds_toArray, List.set_cons_zero, List.set_cons_succ]
    refine wpAnyH_take (i := 1) (oi := { dst := some 40, op := Go.Op.move (Go.Operand.tmp 1), type := 24, pos := "outright.go:106", after := #[], guard := none }) (v := ?vt1002) rfl (by kernel_rfl) (by kernel_rfl) (by kernel_rfl) (fun _ _ _ h => h) (Or.inl ⟨by rfl, ?ht1002⟩) hHeld ?_
    case ht1002 => intro w hSw; obtain ⟨s1, s2, s3, s4, s5, s6⟩ := hSw; go_simp; try with_reducible rfl
    simp only [Act.put, List.setIfInBounds_toArray, List.set_cons_zero, List.set_cons_succ]
    refine wpAnyH_take (i := 2) (oi := { dst := some 41, op := Go.Op.move (Go.Operand.tmp 7), type := 3, pos := "outright.go:106", after := #[], guard := none }) (v := ?vt1003) rfl (by kernel_rfl) (by kernel_rfl) (by kernel_rfl) (fun _ _ _ h => h) (Or.inl ⟨by rfl, ?ht1003⟩) hHeld ?_
    case ht1003 => intro w hSw; obtain ⟨s1, s2, s3, s4, s5, s6⟩ := hSw; go_simp; try with_reducible rfl
    simp only [Act.put, List.setIfInBounds_toArray, List.set_cons_zero, List.set_cons_succ]
    refine wpAnyH_take (i := 3) (oi := { dst := some 42, op := Go.Op.slice 24 (Go.Operand.tmp 40) none (some (Go.Operand.tmp 41)) none, type := 24, pos := "outright.go:106", after := #[{ on := 1, ground := Go.Ground.data }, { on := 2, ground := Go.Ground.data }], guard := none }) (v := ?vt1004) rfl (by kernel_rfl) (by kernel_rfl) (by kernel_rfl) (fun _ _ _ h => h) (Or.inl ⟨by rfl, ?ht1004⟩) hHeld ?_
    case ht1004 => intro w hSw; obtain ⟨s1, s2, s3, s4, s5, s6⟩ := hSw; go_simp; try with_reducible rfl
    simp only [Act.put, List.setIfInBounds_toArray, List.set_cons_zero, List.set_cons_succ]
    refine wpAnyH_ready (rs := [4]) (by kernel_rfl) (by simp) ?_
    refine AllReadyH.cons rfl (fun K hK => ?_) AllReadyH.nil
    go_simp
    have CALL := Outermost_any w.heap.size A k c b (P.take k) w5 ((HP.out.below HB.out (Nat.le_refl _)).take k hkle) HB.out.size (by omega)
    refine CALL.mono ?_
    rintro e w6 ⟨v, EX, rfl, hEX, ho, hb⟩
    clear CALL
    rw [HX.out.2, HXL.out] at ho
    rw [HX.out.1] at hEX
    subst hEX
    obtain ⟨AX, kX, rfl, hO⟩ := li_own ho
    clear ho
    have hsz := hb.size
    replace HK := Lib.hid (HK.out.below hb HK.out.lt)
    replace HB := Lib.hid (HB.out.trans (hb.mono HB.out.size))
    clear hb hsz c0 c1 c2 c3 c4 c5
    obtain ⟨c0, c1, c2, c3, c4, c5⟩ := HK.out.six
    have HX := Lib.hid hO
    clear hO
    have HSHX : Hid (w6.heap.size ≤ w6.heap.size) := Lib.hid (Nat.le_refl _)
    refine hK.out _ _ ?_ (fun hH1005 => ?_)
    · exact ⟨c0, c1, c2, c3, c4, c5⟩
    clear hK K
    refine wpAnyH_take (i := 5) (oi := { dst := some 38, op := Go.Op.move (Go.Operand.tmp 43), type := 29, pos := "outright.go:106", after := #[{ on := 4, ground := Go.Ground.data }], guard := none }) (v := ?vt1006) rfl (by kernel_rfl) (by kernel_rfl) (by kernel_rfl) (fun _ _ _ h => h) (Or.inl ⟨by rfl, ?ht1006⟩) hH1005 ?_
    case ht1006 => intro w hSw; obtain ⟨s1, s2, s3, s4, s5, s6⟩ := hSw; go_simp; try with_reducible rfl
    simp only [Act.put, List.setIfInBounds_toArray, List.set_cons_zero, List.set_cons_succ]
    refine wpAnyH_take (i := 6) (oi := { dst := some 44, op := Go.Op.extract (Go.Operand.tmp 38) 0, type := 25, pos := "outright.go:106", after := #[{ on := 5, ground := Go.Ground.data }], guard := none }) (v := ?vt1007) rfl (by kernel_rfl) (by kernel_rfl) (by kernel_rfl) (fun _ _ _ h => h) (Or.inl ⟨by rfl, ?ht1007⟩) hH1005 ?_
    case ht1007 => intro w hSw; obtain ⟨s1, s2, s3, s4, s5, s6⟩ := hSw; go_simp; try with_reducible rfl
    simp only [Act.put, List.setIfInBounds_toArray, List.set_cons_zero, List.set_cons_succ]
    refine wpAnyH_take (i := 7) (oi := { dst := some 45, op := Go.Op.extract (Go.Operand.tmp 38) 1, type := 28, pos := "outright.go:106", after := #[{ on := 5, ground := Go.Ground.data }, { on := 8, ground := Go.Ground.gcOnly Go.Departure.lateStores }], guard := none }) (v := ?vt1008) rfl (by kernel_rfl) (by kernel_rfl) (by kernel_rfl) (fun _ _ _ h => h) (Or.inl ⟨by rfl, ?ht1008⟩) hH1005 ?_
    case ht1008 => intro w hSw; obtain ⟨s1, s2, s3, s4, s5, s6⟩ := hSw; go_simp; try with_reducible rfl
    simp only [Act.put, List.setIfInBounds_toArray, List.set_cons_zero, List.set_cons_succ]
    refine wpAnyH_take (i := 8) (oi := { dst := some 9, op := Go.Op.assign (Go.Operand.tmp 44), type := 25, pos := "outright.go:106", after := #[{ on := 6, ground := Go.Ground.data }, { on := 4, ground := Go.Ground.chain }, { on := 0, ground := Go.Ground.phase }, { on := 1, ground := Go.Ground.phase }, { on := 2, ground := Go.Ground.phase }, { on := 3, ground := Go.Ground.phase }, { on := 4, ground := Go.Ground.phase }, { on := 5, ground := Go.Ground.phase }, { on := 6, ground := Go.Ground.phase }, { on := 7, ground := Go.Ground.textOnly Go.Departure.lateStores }], guard := none }) (v := ?vt1009) rfl (by kernel_rfl) (by kernel_rfl) (by kernel_rfl) (fun _ _ _ h => h) (Or.inl ⟨by rfl, ?ht1009⟩) hH1005 ?_
    case ht1009 => intro w hSw; obtain ⟨s1, s2, s3, s4, s5, s6⟩ := hSw; go_simp; try with_reducible rfl
    simp only [Act.put, List.setIfInBounds_toArray, List.set_cons_zero, List.set_cons_succ]
    refine wpAnyH_take (i := 9) (oi := { dst := some 8, op := Go.Op.assign (Go.Operand.tmp 45), type := 28, pos := "outright.go:106", after := #[{ on := 7, ground := Go.Ground.data }, { on := 8, ground := Go.Ground.chain }, { on := 0, ground := Go.Ground.phase }, { on := 1, ground := Go.Ground.phase }, { on := 2, ground := Go.Ground.phase }, { on := 3, ground := Go.Ground.phase }, { on := 4, ground := Go.Ground.phase }, { on := 5, ground := Go.Ground.phase }, { on := 6, ground := Go.Ground.phase }, { on := 7, ground := Go.Ground.phase }, { on := 8, ground := Go.Ground.phase }], guard := none }) (v := ?vt1010) rfl (by kernel_rfl) (by kernel_rfl) (by kernel_rfl) (fun _ _ _ h => h) (Or.inl ⟨by rfl, ?ht1010⟩) hH1005 ?_
    case ht1010 => intro w hSw; obtain ⟨s1, s2, s3, s4, s5, s6⟩ := hSw; go_simp; try with_reducible rfl
    simp only [Act.put, List.setIfInBounds_toArray, List.set_cons_zero, List.set_cons_succ]
    refine wpAnyH_done (by kernel_rfl) ?_ _
    go_upto_region 8 with fail
    go_wp2_with fail
    refine wp_region_held_drew (S := fun w' => w'.cell? ⟨w.heap.size, 0, none⟩ = some (.int .i64 b.per) ∧ w'.cell? ⟨w.heap.size, 1, none⟩ = some (.int .i64 b.rim) ∧ w'.cell? ⟨w.heap.size, 2, none⟩ = some (.int .i64 b.core) ∧ w'.cell? ⟨w.heap.size, 3, none⟩ = some (.int .i64 b.land) ∧ w'.cell? ⟨w.heap.size, 4, none⟩ = some (.int .i64 b.slow) ∧ w'.cell? ⟨w.heap.size, 5, none⟩ = some (.int .i64 b.fast)) (by kernel_rfl) ⟨c0, c1, c2, c3, c4, c5⟩ (fun hHeld => ?_)
    obtain ⟨w7, hwd⟩ : ∃ wd, w6.drew = wd := ⟨_, rfl⟩
    have hb : Below w6.heap.size w6 w7 := by rw [← hwd]; exact (Below.refl _ _).drew
    rw [hwd] at hHeld ⊢
    clear hwd
    have hsz := hb.size
    replace HX := Lib.hid (HX.out.below hb (Nat.le_trans HSHX.out (Nat.le_refl _)))
    replace HSHX := Lib.hid (Nat.le_trans HSHX.out hsz)
    replace HK := Lib.hid (HK.out.below hb HK.out.lt)
    replace HB := Lib.hid (HB.out.trans (hb.mono HB.out.size))
    clear hb hsz c0 c1 c2 c3 c4 c5
    obtain ⟨c0, c1, c2, c3, c4, c5⟩ := HK.out.six
    refine wpAnyH_take (i := 0) (oi := { dst := some 52, op := Go.Op.load 23 (Go.Operand.tmp 3), type := 23, pos := "outright.go:108", after := #[], guard := none }) (v := ?vt2001) rfl (by kernel_rfl) (by kernel_rfl) (by kernel_rfl) (fun _ _ _ h => h) (Or.inl ⟨by rfl, ?ht2001⟩) hHeld ?_
    case ht2001 => intro w hSw; obtain ⟨s1, s2, s3, s4, s5, s6⟩ := hSw; go_simp; try with_reducible rfl
    simp only [Act.put, List.setIfInBounds_toArray, List.set_cons_zero, List.set_cons_succ]
    refine wpAnyH_take (i := 1) (oi := { dst := some 53, op := Go.Op.move (Go.Operand.tmp 1), type := 24, pos := "outright.go:108", after := #[], guard := none }) (v := ?vt2002) rfl (by kernel_rfl) (by kernel_rfl) (by kernel_rfl) (fun _ _ _ h => h) (Or.inl ⟨by rfl, ?ht2002⟩) hHeld ?_
    case ht2002 => intro w hSw; obtain ⟨s1, s2, s3, s4, s5, s6⟩ := hSw; go_simp; try with_reducible rfl
    simp only [Act.put, List.setIfInBounds_toArray, List.set_cons_zero, List.set_cons_succ]
    refine wpAnyH_take (i := 2) (oi := { dst := some 54, op := Go.Op.move (Go.Operand.tmp 10), type := 3, pos := "outright.go:108", after := #[], guard := none }) (v := ?vt2003) rfl (by kernel_rfl) (by kernel_rfl) (by kernel_rfl) (fun _ _ _ h => h) (Or.inl ⟨by rfl, ?ht2003⟩) hHeld ?_
    case ht2003 => intro w hSw; obtain ⟨s1, s2, s3, s4, s5, s6⟩ := hSw; go_simp; try with_reducible rfl
    simp only [Act.put, List.setIfInBounds_toArray, List.set_cons_zero, List.set_cons_succ]
    refine wpAnyH_take (i := 3) (oi := { dst := some 55, op := Go.Op.slice 24 (Go.Operand.tmp 53) none (some (Go.Operand.tmp 54)) none, type := 24, pos := "outright.go:108", after := #[{ on := 1, ground := Go.Ground.data }, { on := 2, ground := Go.Ground.data }], guard := none }) (v := ?vt2004) rfl (by kernel_rfl) (by kernel_rfl) (by kernel_rfl) (fun _ _ _ h => h) (Or.inl ⟨by rfl, ?ht2004⟩) hHeld ?_
    case ht2004 => intro w hSw; obtain ⟨s1, s2, s3, s4, s5, s6⟩ := hSw; go_simp; try with_reducible rfl
    simp only [Act.put, List.setIfInBounds_toArray, List.set_cons_zero, List.set_cons_succ]
    refine wpAnyH_ready (rs := [4]) (by kernel_rfl) (by simp) ?_
    refine AllReadyH.cons rfl (fun K hK => ?_) AllReadyH.nil
    go_simp
    have CALL := Outermost_any w.heap.size A m c b (P.take m) w7 ((HP.out.below HB.out (Nat.le_refl _)).take m (by omega)) HB.out.size (by omega)
    refine CALL.mono ?_
    rintro e w8 ⟨v, EY, rfl, hEY, ho, hb⟩
    clear CALL
    rw [HY.out.2, HYL.out] at ho
    rw [HY.out.1] at hEY
    subst hEY
    obtain ⟨AY, kY, rfl, hO⟩ := li_own ho
    clear ho
    have hsz := hb.size
    replace HX := Lib.hid (HX.out.below hb (Nat.le_trans HSHX.out (Nat.le_refl _)))
    replace HSHX := Lib.hid (Nat.le_trans HSHX.out hsz)
    replace HK := Lib.hid (HK.out.below hb HK.out.lt)
    replace HB := Lib.hid (HB.out.trans (hb.mono HB.out.size))
    clear hb hsz c0 c1 c2 c3 c4 c5
    obtain ⟨c0, c1, c2, c3, c4, c5⟩ := HK.out.six
    have HY := Lib.hid hO
    clear hO
    have HSHY : Hid (w8.heap.size ≤ w8.heap.size) := Lib.hid (Nat.le_refl _)
    refine hK.out _ _ ?_ (fun hH2005 => ?_)
    · exact ⟨c0, c1, c2, c3, c4, c5⟩
    clear hK K
    refine wpAnyH_take (i := 5) (oi := { dst := some 51, op := Go.Op.move (Go.Operand.tmp 56), type := 29, pos := "outright.go:108", after := #[{ on := 4, ground := Go.Ground.data }], guard := none }) (v := ?vt2006) rfl (by kernel_rfl) (by kernel_rfl) (by kernel_rfl) (fun _ _ _ h => h) (Or.inl ⟨by rfl, ?ht2006⟩) hH2005 ?_
    case ht2006 => intro w hSw; obtain ⟨s1, s2, s3, s4, s5, s6⟩ := hSw; go_simp; try with_reducible rfl
    simp only [Act.put, List.setIfInBounds_toArray, List.set_cons_zero, List.set_cons_succ]
    refine wpAnyH_take (i := 6) (oi := { dst := some 57, op := Go.Op.extract (Go.Operand.tmp 51) 0, type := 25, pos := "outright.go:108", after := #[{ on := 5, ground := Go.Ground.data }], guard := none }) (v := ?vt2007) rfl (by kernel_rfl) (by kernel_rfl) (by kernel_rfl) (fun _ _ _ h => h) (Or.inl ⟨by rfl, ?ht2007⟩) hH2005 ?_
    case ht2007 => intro w hSw; obtain ⟨s1, s2, s3, s4, s5, s6⟩ := hSw; go_simp; try with_reducible rfl
    simp only [Act.put, List.setIfInBounds_toArray, List.set_cons_zero, List.set_cons_succ]
    refine wpAnyH_take (i := 7) (oi := { dst := some 58, op := Go.Op.extract (Go.Operand.tmp 51) 1, type := 28, pos := "outright.go:108", after := #[{ on := 5, ground := Go.Ground.data }, { on := 8, ground := Go.Ground.gcOnly Go.Departure.lateStores }], guard := none }) (v := ?vt2008) rfl (by kernel_rfl) (by kernel_rfl) (by kernel_rfl) (fun _ _ _ h => h) (Or.inl ⟨by rfl, ?ht2008⟩) hH2005 ?_
    case ht2008 => intro w hSw; obtain ⟨s1, s2, s3, s4, s5, s6⟩ := hSw; go_simp; try with_reducible rfl
    simp only [Act.put, List.setIfInBounds_toArray, List.set_cons_zero, List.set_cons_succ]
    refine wpAnyH_take (i := 8) (oi := { dst := some 11, op := Go.Op.assign (Go.Operand.tmp 57), type := 25, pos := "outright.go:108", after := #[{ on := 6, ground := Go.Ground.data }, { on := 4, ground := Go.Ground.chain }, { on := 0, ground := Go.Ground.phase }, { on := 1, ground := Go.Ground.phase }, { on := 2, ground := Go.Ground.phase }, { on := 3, ground := Go.Ground.phase }, { on := 4, ground := Go.Ground.phase }, { on := 5, ground := Go.Ground.phase }, { on := 6, ground := Go.Ground.phase }, { on := 7, ground := Go.Ground.textOnly Go.Departure.lateStores }], guard := none }) (v := ?vt2009) rfl (by kernel_rfl) (by kernel_rfl) (by kernel_rfl) (fun _ _ _ h => h) (Or.inl ⟨by rfl, ?ht2009⟩) hH2005 ?_
    case ht2009 => intro w hSw; obtain ⟨s1, s2, s3, s4, s5, s6⟩ := hSw; go_simp; try with_reducible rfl
    simp only [Act.put, List.setIfInBounds_toArray, List.set_cons_zero, List.set_cons_succ]
    refine wpAnyH_take (i := 9) (oi := { dst := some 12, op := Go.Op.assign (Go.Operand.tmp 58), type := 28, pos := "outright.go:108", after := #[{ on := 7, ground := Go.Ground.data }, { on := 8, ground := Go.Ground.chain }, { on := 0, ground := Go.Ground.phase }, { on := 1, ground := Go.Ground.phase }, { on := 2, ground := Go.Ground.phase }, { on := 3, ground := Go.Ground.phase }, { on := 4, ground := Go.Ground.phase }, { on := 5, ground := Go.Ground.phase }, { on := 6, ground := Go.Ground.phase }, { on := 7, ground := Go.Ground.phase }, { on := 8, ground := Go.Ground.phase }], guard := none }) (v := ?vt2010) rfl (by kernel_rfl) (by kernel_rfl) (by kernel_rfl) (fun _ _ _ h => h) (Or.inl ⟨by rfl, ?ht2010⟩) hH2005 ?_
    case ht2010 => intro w hSw; obtain ⟨s1, s2, s3, s4, s5, s6⟩ := hSw; go_simp; try with_reducible rfl
    simp only [Act.put, List.setIfInBounds_toArray, List.set_cons_zero, List.set_cons_succ]
    refine wpAnyH_done (by kernel_rfl) ?_ _
    go_wp2_with fail
    go_loopw [13] (fun z wr => ∃ i : Nat, i ≤ m ∧ z = .int .i64 i ∧ Hid (Below w8.heap.size w8 wr)) (fun z _ => m - (intOf z).toNat)
    case atStart => exact ⟨0, Nat.zero_le _, rfl, Lib.hid (Below.refl _ _)⟩
    case round =>
      obtain ⟨i, hi, rfl, HB2⟩ := hrel
      by_cases hlt : i < m
      · obtain ⟨ad, hA, -, g1⟩ := (HX.out.below HB2.out HSHX.out).fx (k := i) (by omega)
        obtain ⟨ad', hA', -, g2⟩ := (HY.out.below HB2.out HSHY.out).fx hlt
        subst hA hA'
        have hu := HYX.out i hlt
        obtain ⟨x, hx⟩ : ∃ x, fx X i = x := ⟨_, rfl⟩
        obtain ⟨y, hy⟩ : ∃ x, fx Y i = x := ⟨_, rfl⟩
        rw [hx] at g1 hu
        rw [hy] at g2 hu
        clear hx hy
        have hxy : ¬ y < x := by omega
        clear hu
        go_wp2_with fail
        go_quiet (fail)
        go_wp2_with fail
        go_roundw
        case rel => exact ⟨i + 1, by omega, by go_num, Lib.hid (below_drewN_ HB2.out _)⟩
        case measure => simp [intOf]; omega
      · obtain rfl : m = i := by omega
        replace HK := Lib.hid (HK.out.below HB2.out HK.out.lt)
        replace HB := Lib.hid (HB.out.trans (HB2.out.mono HB.out.size))
        clear HB2 c0 c1 c2 c3 c4 c5 HX HY HSHX HSHY
        obtain ⟨c0, c1, c2, c3, c4, c5⟩ := HK.out.six
        go_wp2_with fail
        obtain ⟨ws, hws⟩ : ∃ W, wr = W := ⟨_, rfl⟩
        rw [hws] at HK HB c0 c1 c2 c3 c4 c5 ⊢
        clear hws
        go_loopw [14] (fun z wr => ∃ j : Nat, k < j ∧ j ≤ n + 1 ∧ z = .int .i64 j ∧ Hid (Blk wr w.heap.size 23 #[.int .i64 b.per, .int .i64 b.rim, .int .i64 b.core, .int .i64 b.land, .int .i64 b.slow, .int .i64 b.fast]) ∧ Hid (Below w.heap.size w wr)) (fun z _ => n + 1 - (intOf z).toNat)
        case atStart => exact ⟨k + 1, by omega, by omega, by go_num, HK, HB⟩
        case round =>
          clear c0 c1 c2 c3 c4 c5 HK HB
          obtain ⟨j, hj1, hj2, rfl, HK, HB⟩ := hrel
          obtain ⟨c0, c1, c2, c3, c4, c5⟩ := HK.out.six
          by_cases hlt : j ≤ n
          · have HNJ := Lib.hid (HNO.out j hj1 hlt)
            have sj := fun W => pts_to A j n c (by omega) W
            go_wp2_with fail
            refine wp_region_held_drew (S := fun w' => w'.cell? ⟨w.heap.size, 0, none⟩ = some (.int .i64 b.per) ∧ w'.cell? ⟨w.heap.size, 1, none⟩ = some (.int .i64 b.rim) ∧ w'.cell? ⟨w.heap.size, 2, none⟩ = some (.int .i64 b.core) ∧ w'.cell? ⟨w.heap.size, 3, none⟩ = some (.int .i64 b.land) ∧ w'.cell? ⟨w.heap.size, 4, none⟩ = some (.int .i64 b.slow) ∧ w'.cell? ⟨w.heap.size, 5, none⟩ = some (.int .i64 b.fast)) (by kernel_rfl) ⟨c0, c1, c2, c3, c4, c5⟩ (fun hHeld => ?_)
            obtain ⟨w9, hwd⟩ : ∃ wd, wr.drew = wd := ⟨_, rfl⟩
            have hb : Below wr.heap.size wr w9 := by rw [← hwd]; exact (Below.refl _ _).drew
            rw [hwd] at hHeld ⊢
            clear hwd
            have hsz := hb.size
            replace HK := Lib.hid (HK.out.below hb HK.out.lt)
            replace HB := Lib.hid (HB.out.trans (hb.mono HB.out.size))
            clear hb hsz c0 c1 c2 c3 c4 c5
            obtain ⟨c0, c1, c2, c3, c4, c5⟩ := HK.out.six
            refine wpAnyH_take (i := 0) (oi := { dst := some 100, op := Go.Op.load 23 (Go.Operand.tmp 3), type := 23, pos := "outright.go:118", after := #[], guard := none }) (v := ?vt3001) rfl (by kernel_rfl) (by kernel_rfl) (by kernel_rfl) (fun _ _ _ h => h) (Or.inl ⟨by rfl, ?ht3001⟩) hHeld ?_
            case ht3001 => intro w hSw; obtain ⟨s1, s2, s3, s4, s5, s6⟩ := hSw; go_simp; try with_reducible rfl
            simp only [Act.put, List.setIfInBounds_toArray, List.set_cons_zero, List.set_cons_succ]
            refine wpAnyH_take (i := 1) (oi := { dst := some 101, op := Go.Op.move (Go.Operand.tmp 1), type := 24, pos := "outright.go:118", after := #[], guard := none }) (v := ?vt3002) rfl (by kernel_rfl) (by kernel_rfl) (by kernel_rfl) (fun _ _ _ h => h) (Or.inl ⟨by rfl, ?ht3002⟩) hHeld ?_
            case ht3002 => intro w hSw; obtain ⟨s1, s2, s3, s4, s5, s6⟩ := hSw; go_simp; try with_reducible rfl
            simp only [Act.put, List.setIfInBounds_toArray, List.set_cons_zero, List.set_cons_succ]
            refine wpAnyH_take (i := 2) (oi := { dst := some 102, op := Go.Op.move (Go.Operand.tmp 14), type := 3, pos := "outright.go:118", after := #[], guard := none }) (v := ?vt3003) rfl (by kernel_rfl) (by kernel_rfl) (by kernel_rfl) (fun _ _ _ h => h) (Or.inl ⟨by rfl, ?ht3003⟩) hHeld ?_
            case ht3003 => intro w hSw; obtain ⟨s1, s2, s3, s4, s5, s6⟩ := hSw; go_simp; try with_reducible rfl
            simp only [Act.put, List.setIfInBounds_toArray, List.set_cons_zero, List.set_cons_succ]
            refine wpAnyH_take (i := 3) (oi := { dst := some 103, op := Go.Op.slice 24 (Go.Operand.tmp 101) none (some (Go.Operand.tmp 102)) none, type := 24, pos := "outright.go:118", after := #[{ on := 1, ground := Go.Ground.data }, { on := 2, ground := Go.Ground.data }], guard := none }) (v := ?vt3004) rfl (by kernel_rfl) (by kernel_rfl) (by kernel_rfl) (fun _ _ _ h => h) (Or.inl ⟨by rfl, ?ht3004⟩) hHeld ?_
            case ht3004 => intro w hSw; obtain ⟨s1, s2, s3, s4, s5, s6⟩ := hSw; go_simp; try with_reducible rfl
            simp only [Act.put, List.setIfInBounds_toArray, List.set_cons_zero, List.set_cons_succ]
            refine wpAnyH_ready (rs := [4]) (by kernel_rfl) (by simp) ?_
            refine AllReadyH.cons rfl (fun K hK => ?_) AllReadyH.nil
            go_simp
            have CALL := Outermost_any w.heap.size A j c b (P.take j) w9 ((HP.out.below HB.out (Nat.le_refl _)).take j hlt) HB.out.size (by omega)
            refine CALL.mono ?_
            rintro e w10 ⟨v, EJ, rfl, hEJ, ho, hb⟩
            clear CALL
            rw [HNJ.out.2, List.length_nil] at ho
            rw [HNJ.out.1] at hEJ
            subst hEJ
            obtain ⟨AJ, kJ, rfl, hO⟩ := li_own ho
            clear ho
            have hsz := hb.size
            replace HK := Lib.hid (HK.out.below hb HK.out.lt)
            replace HB := Lib.hid (HB.out.trans (hb.mono HB.out.size))
            clear hb hsz c0 c1 c2 c3 c4 c5
            obtain ⟨c0, c1, c2, c3, c4, c5⟩ := HK.out.six
            clear hO
            refine hK.out _ _ ?_ (fun hH3005 => ?_)
            · exact ⟨c0, c1, c2, c3, c4, c5⟩
            clear hK K
            refine wpAnyH_take (i := 5) (oi := { dst := some 99, op := Go.Op.move (Go.Operand.tmp 104), type := 29, pos := "outright.go:118", after := #[{ on := 4, ground := Go.Ground.data }], guard := none }) (v := ?vt3006) rfl (by kernel_rfl) (by kernel_rfl) (by kernel_rfl) (fun _ _ _ h => h) (Or.inl ⟨by rfl, ?ht3006⟩) hH3005 ?_
            case ht3006 => intro w hSw; obtain ⟨s1, s2, s3, s4, s5, s6⟩ := hSw; go_simp; try with_reducible rfl
            simp only [Act.put, List.setIfInBounds_toArray, List.set_cons_zero, List.set_cons_succ]
            refine wpAnyH_take (i := 6) (oi := { dst := some 105, op := Go.Op.extract (Go.Operand.tmp 99) 0, type := 25, pos := "outright.go:118", after := #[{ on := 5, ground := Go.Ground.data }], guard := none }) (v := ?vt3007) rfl (by kernel_rfl) (by kernel_rfl) (by kernel_rfl) (fun _ _ _ h => h) (Or.inl ⟨by rfl, ?ht3007⟩) hH3005 ?_
            case ht3007 => intro w hSw; obtain ⟨s1, s2, s3, s4, s5, s6⟩ := hSw; go_simp; try with_reducible rfl
            simp only [Act.put, List.setIfInBounds_toArray, List.set_cons_zero, List.set_cons_succ]
            refine wpAnyH_take (i := 7) (oi := { dst := some 106, op := Go.Op.extract (Go.Operand.tmp 99) 1, type := 28, pos := "outright.go:118", after := #[{ on := 5, ground := Go.Ground.data }], guard := none }) (v := ?vt3008) rfl (by kernel_rfl) (by kernel_rfl) (by kernel_rfl) (fun _ _ _ h => h) (Or.inl ⟨by rfl, ?ht3008⟩) hH3005 ?_
            case ht3008 => intro w hSw; obtain ⟨s1, s2, s3, s4, s5, s6⟩ := hSw; go_simp; try with_reducible rfl
            simp only [Act.put, List.setIfInBounds_toArray, List.set_cons_zero, List.set_cons_succ]
            refine wpAnyH_take (i := 8) (oi := { dst := some 8, op := Go.Op.assign (Go.Operand.tmp 106), type := 28, pos := "outright.go:118", after := #[{ on := 7, ground := Go.Ground.data }, { on := 4, ground := Go.Ground.chain }, { on := 0, ground := Go.Ground.phase }, { on := 1, ground := Go.Ground.phase }, { on := 2, ground := Go.Ground.phase }, { on := 3, ground := Go.Ground.phase }, { on := 4, ground := Go.Ground.phase }, { on := 5, ground := Go.Ground.phase }, { on := 6, ground := Go.Ground.phase }, { on := 7, ground := Go.Ground.phase }], guard := none }) (v := ?vt3009) rfl (by kernel_rfl) (by kernel_rfl) (by kernel_rfl) (fun _ _ _ h => h) (Or.inl ⟨by rfl, ?ht3009⟩) hH3005 ?_
            case ht3009 => intro w hSw; obtain ⟨s1, s2, s3, s4, s5, s6⟩ := hSw; go_simp; try with_reducible rfl
            simp only [Act.put, List.setIfInBounds_toArray, List.set_cons_zero, List.set_cons_succ]
            refine wpAnyH_done (by kernel_rfl) ?_ _
            go_wp2_with fail
            go_roundw
            case rel => exact ⟨j + 1, by omega, by omega, by go_num, HK, HB⟩
            case measure => simp [intOf]; omega
          · have hj3 : ¬ ((j : Int) ≤ n) := by omega
            go_wp2_with fail
            refine (works5_any _).mono ?_
            rintro e w11 ⟨rfl, hb⟩
            replace HB := Lib.hid (HB.out.trans (hb.mono HB.out.size))
            clear hb
            go_wp2
            go_ret
            exact ⟨rfl, HB.out⟩
end Go.Proofs.Ytgdkcbnpgpjnbaa
