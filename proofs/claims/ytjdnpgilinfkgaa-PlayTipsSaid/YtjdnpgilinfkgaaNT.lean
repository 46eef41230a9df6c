/-
  The walk of PlayTips.
-/
import Derived.Test.YtjdnpgilinfkgaaNS
import Derived.Test.YtjdnpgilinfkgaaMF
import Derived.Deep.Cut
namespace Go.Proofs.Ytjdnpgilinfkgaa
open Go.RowKit

set_option maxRecDepth 100000 in
set_option maxHeartbeats 8000000 in
theorem tips_walk (B : Nat) (Af : Option Addr) (nf cf : Nat) (s : List Int) (radius arc : Int) (up : Bool) (w : World) (hL : LI w B Af nf s) (hB : B ≤ w.heap.size) (hf : nf ≤ 9223372036854775807) :
    Calls Try.prog 3 #[.agg #[.slice Af nf cf], .int .i64 radius, .int .i64 arc, .bool up] w fun e w' => e = .returned (.bool true) ∧ Below w.heap.size w w' := by
  have HL := Lib.hid hL
  clear hL
  by_cases c : 80 < nf
  · have g1 : (80 : Int) < (nf : Int) := by omega
    have d1 : decide ((80 : Int) < (nf : Int)) = true := decide_eq_true g1
    have d2 : decide (80 < nf) = true := decide_eq_true c
    go_enter Try.func3, Try.ntmps3
    go_upto_region 1 with fail
    obtain ⟨w1, hW⟩ : ∃ W, w.alloc (.cells #[.slice Af nf cf] 24) = W := ⟨_, rfl⟩
    have hb : Below w.heap.size w w1 := by rw [← hW]; exact (Below.refl _ _).alloc (Nat.le_refl _) _
    have hsz1 := hb.size
    replace HL := Lib.hid (HL.out.below hb (by omega))
    have HK : Hid (Blk w1 w.heap.size 24 #[.slice Af nf cf]) := Lib.hid (by rw [← hW]; exact Blk.new _ _ _)
    have HB := Lib.hid hb
    try rw [hW]
    clear hW hb
    have t0 := HK.out.one.1
    go_wp2_with fail
    have CALL := works6_any w1
    refine CALL.mono ?_
    rintro e w2 ⟨rfl, hb⟩
    clear CALL
    have hsz2 := hb.size
    replace HL := Lib.hid (HL.out.below hb (by omega))
    replace HK := Lib.hid (HK.out.below hb HK.out.lt)
    replace HB := Lib.hid (HB.out.trans (hb.mono (by omega)))
    clear hb
    have t0 := HK.out.one.1
    go_wp2
    go_ret
    exact ⟨rfl, HB.out⟩
  · have g1 : ¬ (80 : Int) < (nf : Int) := by omega
    have d1 : decide ((80 : Int) < (nf : Int)) = false := decide_eq_false g1
    have d2 : decide (80 < nf) = false := decide_eq_false c
    obtain ⟨q, hq⟩ : ∃ q, ckTip s = q := ⟨_, rfl⟩
    have HQ := Lib.hid hq
    obtain ⟨xs, hxs⟩ : ∃ x, rnRes radius arc up = x := ⟨_, rfl⟩
    have HXS := Lib.hid hxs
    obtain ⟨er_, her⟩ : ∃ x, ckRn radius arc = x := ⟨_, rfl⟩
    have HER := Lib.hid her
    clear hq hxs her
    go_enter Try.func3, Try.ntmps3
    go_upto_region 1 with fail
    obtain ⟨w1, hW⟩ : ∃ W, w.alloc (.cells #[.slice Af nf cf] 24) = W := ⟨_, rfl⟩
    have hb : Below w.heap.size w w1 := by rw [← hW]; exact (Below.refl _ _).alloc (Nat.le_refl _) _
    have hsz1 := hb.size
    replace HL := Lib.hid (HL.out.below hb (by omega))
    have HK : Hid (Blk w1 w.heap.size 24 #[.slice Af nf cf]) := Lib.hid (by rw [← hW]; exact Blk.new _ _ _)
    have HB := Lib.hid hb
    try rw [hW]
    clear hW hb
    have t0 := HK.out.one.1
    go_wp2_with fail
    have CALL := Round_any radius arc up w1
    rw [HXS.out, HER.out] at CALL
    refine CALL.mono ?_
    rintro e w2 ⟨A1, n1, k1, rfl, hr, hn1, hc1, hb⟩
    clear CALL
    have hsz2 := hb.size
    replace HL := Lib.hid (HL.out.below hb (by omega))
    replace HK := Lib.hid (HK.out.below hb HK.out.lt)
    replace HB := Lib.hid (HB.out.trans (hb.mono (by omega)))
    have H1 := Lib.hid hr
    clear hr
    clear hb
    have t0 := HK.out.one.1
    go_wp2_with fail
    obtain ⟨w3, hW⟩ : ∃ W, w2.alloc (.cells #[.slice A1 n1 k1] 24) = W := ⟨_, rfl⟩
    have hb : Below w2.heap.size w2 w3 := by rw [← hW]; exact (Below.refl _ _).alloc (Nat.le_refl _) _
    have hsz3 := hb.size
    replace HL := Lib.hid (HL.out.below hb (by omega))
    replace H1 := Lib.hid (H1.out.below hb (by omega))
    replace HK := Lib.hid (HK.out.below hb HK.out.lt)
    replace HB := Lib.hid (HB.out.trans (hb.mono (by omega)))
    have HK1 : Hid (Blk w3 w2.heap.size 24 #[.slice A1 n1 k1]) := Lib.hid (by rw [← hW]; exact Blk.new _ _ _)
    try rw [hW]
    clear hW hb
    have t0 := HK.out.one.1
    have s0 := HK1.out.one.1
    have CALL := refRound_any radius arc up w3
    rw [HXS.out, HER.out] at CALL
    refine CALL.mono ?_
    rintro e w4 ⟨A2, n2, k2, rfl, hr, hn2, hc2, hb⟩
    clear CALL
    have hsz4 := hb.size
    replace HL := Lib.hid (HL.out.below hb (by omega))
    replace H1 := Lib.hid (H1.out.below hb (by omega))
    replace HK := Lib.hid (HK.out.below hb HK.out.lt)
    replace HK1 := Lib.hid (HK1.out.below hb HK1.out.lt)
    replace HB := Lib.hid (HB.out.trans (hb.mono (by omega)))
    have H2 := Lib.hid hr
    clear hr
    clear hb
    have t0 := HK.out.one.1
    have s0 := HK1.out.one.1
    go_upto_region 5 with fail
    obtain ⟨w5, hW⟩ : ∃ W, w4.alloc (.cells #[.slice A2 n2 k2] 24) = W := ⟨_, rfl⟩
    have hb : Below w4.heap.size w4 w5 := by rw [← hW]; exact (Below.refl _ _).alloc (Nat.le_refl _) _
    have hsz5 := hb.size
    replace HL := Lib.hid (HL.out.below hb (by omega))
    replace H1 := Lib.hid (H1.out.below hb (by omega))
    replace H2 := Lib.hid (H2.out.below hb (by omega))
    replace HK := Lib.hid (HK.out.below hb HK.out.lt)
    replace HK1 := Lib.hid (HK1.out.below hb HK1.out.lt)
    replace HB := Lib.hid (HB.out.trans (hb.mono (by omega)))
    have HK2 : Hid (Blk w5 w4.heap.size 24 #[.slice A2 n2 k2]) := Lib.hid (by rw [← hW]; exact Blk.new _ _ _)
    try rw [hW]
    clear hW hb
    have t0 := HK.out.one.1
    have s0 := HK1.out.one.1
    have v0 := HK2.out.one.1
    have q1 : ((q : Int) == q) = true := by simp
    have q2 : ((er_ : Int) == er_) = true := by simp
    go_wp2_with fail
    refine wp_region_held_drew (S := fun w' => w'.cell? ⟨w.heap.size, 0, none⟩ = some (.slice Af nf cf) ∧ w'.cell? ⟨w2.heap.size, 0, none⟩ = some (.slice A1 n1 k1) ∧ w'.cell? ⟨w4.heap.size, 0, none⟩ = some (.slice A2 n2 k2)) (by kernel_rfl) ⟨HK.out.one.1, HK1.out.one.1, HK2.out.one.1⟩ (fun hHeld => ?_)
    obtain ⟨w6, hwd⟩ : ∃ wd, w5.drew = wd := ⟨_, rfl⟩
    have hb : Below w5.heap.size w5 w6 := by rw [← hwd]; exact (Below.refl _ _).drew
    have hsz6 := hb.size
    replace HL := Lib.hid (HL.out.below hb (by omega))
    replace H1 := Lib.hid (H1.out.below hb (by omega))
    replace H2 := Lib.hid (H2.out.below hb (by omega))
    replace HK := Lib.hid (HK.out.below hb HK.out.lt)
    replace HK1 := Lib.hid (HK1.out.below hb HK1.out.lt)
    replace HK2 := Lib.hid (HK2.out.below hb HK2.out.lt)
    replace HB := Lib.hid (HB.out.trans (hb.mono (by omega)))
    rw [hwd] at hHeld ⊢
    clear hb hwd
    have t0 := HK.out.one.1
    have s0 := HK1.out.one.1
    have v0 := HK2.out.one.1
    refine wpAnyH_take (i := 0) (oi := { dst := some 32, op := Go.Op.load 24 (Go.Operand.tmp 4), type := 24, pos := "law.go:48", after := #[], guard := none }) (v := ?vt6001) rfl (by kernel_rfl) (by kernel_rfl) (by kernel_rfl) (fun _ _ _ h => h) (Or.inl ⟨by rfl, ?ht6001⟩) hHeld ?_
    case ht6001 => intro w hSw; obtain ⟨h1, h2, h3⟩ := hSw; (try dsimp only at h1 h2 h3); go_simp; try with_reducible rfl
    simp only [Act.put, List.setIfInBounds_toArray, List.set_cons_zero, List.set_cons_succ]
    refine wpAnyH_take (i := 2) (oi := { dst := some 34, op := Go.Op.load 24 (Go.Operand.tmp 4), type := 24, pos := "law.go:48", after := #[], guard := none }) (v := ?vt6002) rfl (by kernel_rfl) (by kernel_rfl) (by kernel_rfl) (fun _ _ _ h => h) (Or.inl ⟨by rfl, ?ht6002⟩) hHeld ?_
    case ht6002 => intro w hSw; obtain ⟨h1, h2, h3⟩ := hSw; (try dsimp only at h1 h2 h3); go_simp; try with_reducible rfl
    simp only [Act.put, List.setIfInBounds_toArray, List.set_cons_zero, List.set_cons_succ]
    refine wpAnyH_ready (rs := [1]) (by kernel_rfl) (by simp) ?_
    refine AllReadyH.cons rfl (fun K hK => ?_) AllReadyH.nil
    go_simp
    have CALL := CheckTip_any w6.heap.size Af nf cf s w6 (HL.out.more (by omega)) (Nat.le_refl _) hf
    rw [HQ.out] at CALL
    refine CALL.mono ?_
    rintro e w7 ⟨rfl, hb⟩
    clear CALL
    have hsz7 := hb.size
    replace HL := Lib.hid (HL.out.below hb (by omega))
    replace H1 := Lib.hid (H1.out.below hb (by omega))
    replace H2 := Lib.hid (H2.out.below hb (by omega))
    replace HK := Lib.hid (HK.out.below hb HK.out.lt)
    replace HK1 := Lib.hid (HK1.out.below hb HK1.out.lt)
    replace HK2 := Lib.hid (HK2.out.below hb HK2.out.lt)
    replace HB := Lib.hid (HB.out.trans (hb.mono (by omega)))
    clear hb
    have t0 := HK.out.one.1
    have s0 := HK1.out.one.1
    have v0 := HK2.out.one.1
    refine hK.out _ _ ?_ (fun hH6003 => ?_)
    · exact ⟨HK.out.one.1, HK1.out.one.1, HK2.out.one.1⟩
    clear hK K
    refine wpAnyH_ready (rs := [3]) (by kernel_rfl) (by simp) ?_
    refine AllReadyH.cons rfl (fun K hK => ?_) AllReadyH.nil
    go_simp
    have CALL := refCheckTip_any w7.heap.size Af nf cf s w7 (HL.out.more (by omega)) (Nat.le_refl _) hf
    rw [HQ.out] at CALL
    refine CALL.mono ?_
    rintro e w8 ⟨rfl, hb⟩
    clear CALL
    have hsz8 := hb.size
    replace HL := Lib.hid (HL.out.below hb (by omega))
    replace H1 := Lib.hid (H1.out.below hb (by omega))
    replace H2 := Lib.hid (H2.out.below hb (by omega))
    replace HK := Lib.hid (HK.out.below hb HK.out.lt)
    replace HK1 := Lib.hid (HK1.out.below hb HK1.out.lt)
    replace HK2 := Lib.hid (HK2.out.below hb HK2.out.lt)
    replace HB := Lib.hid (HB.out.trans (hb.mono (by omega)))
    clear hb
    have t0 := HK.out.one.1
    have s0 := HK1.out.one.1
    have v0 := HK2.out.one.1
    refine hK.out _ _ ?_ (fun hH6004 => ?_)
    · exact ⟨HK.out.one.1, HK1.out.one.1, HK2.out.one.1⟩
    clear hK K
    refine wpAnyH_take (i := 4) (oi := { dst := some 36, op := Go.Op.binOp Go.BinOp.eql 26 (Go.Operand.tmp 33) (Go.Operand.tmp 35) 26, type := 4, pos := "law.go:48", after := #[{ on := 1, ground := Go.Ground.data }, { on := 3, ground := Go.Ground.data }], guard := none }) (v := ?vt6005) rfl (by kernel_rfl) (by kernel_rfl) (by kernel_rfl) (fun _ _ _ h => h) (Or.inl ⟨by rfl, ?ht6005⟩) hH6004 ?_
    case ht6005 => intro w hSw; obtain ⟨h1, h2, h3⟩ := hSw; (try dsimp only at h1 h2 h3); go_simp; try with_reducible rfl
    simp only [Act.put, List.setIfInBounds_toArray, List.set_cons_zero, List.set_cons_succ]
    refine wpAnyH_take (i := 5) (oi := { dst := some 37, op := Go.Op.move (Go.Operand.tmp 36), type := 4, pos := "law.go:48", after := #[{ on := 4, ground := Go.Ground.data }, { on := 3, ground := Go.Ground.chain }], guard := none }) (v := ?vt6006) rfl (by kernel_rfl) (by kernel_rfl) (by kernel_rfl) (fun _ _ _ h => h) (Or.inl ⟨by rfl, ?ht6006⟩) hH6004 ?_
    case ht6006 => intro w hSw; obtain ⟨h1, h2, h3⟩ := hSw; (try dsimp only at h1 h2 h3); go_simp; try with_reducible rfl
    simp only [Act.put, List.setIfInBounds_toArray, List.set_cons_zero, List.set_cons_succ]
    refine wpAnyH_take (i := 6) (oi := { dst := some 38, op := Go.Op.move (Go.Operand.tmp 10), type := 26, pos := "law.go:48", after := #[{ on := 5, ground := Go.Ground.guard }], guard := some (5, true) }) (v := ?vt6007) rfl (by kernel_rfl) (by kernel_rfl) (by kernel_rfl) (fun _ _ _ h => h) (Or.inl ⟨by rfl, ?ht6007⟩) hH6004 ?_
    case ht6007 => intro w hSw; obtain ⟨h1, h2, h3⟩ := hSw; (try dsimp only at h1 h2 h3); go_simp; try with_reducible rfl
    simp only [Act.put, List.setIfInBounds_toArray, List.set_cons_zero, List.set_cons_succ]
    refine wpAnyH_take (i := 7) (oi := { dst := some 39, op := Go.Op.move (Go.Operand.tmp 12), type := 26, pos := "law.go:48", after := #[{ on := 5, ground := Go.Ground.guard }], guard := some (5, true) }) (v := ?vt6008) rfl (by kernel_rfl) (by kernel_rfl) (by kernel_rfl) (fun _ _ _ h => h) (Or.inl ⟨by rfl, ?ht6008⟩) hH6004 ?_
    case ht6008 => intro w hSw; obtain ⟨h1, h2, h3⟩ := hSw; (try dsimp only at h1 h2 h3); go_simp; try with_reducible rfl
    simp only [Act.put, List.setIfInBounds_toArray, List.set_cons_zero, List.set_cons_succ]
    refine wpAnyH_take (i := 8) (oi := { dst := some 40, op := Go.Op.binOp Go.BinOp.eql 26 (Go.Operand.tmp 38) (Go.Operand.tmp 39) 26, type := 4, pos := "law.go:48", after := #[{ on := 6, ground := Go.Ground.data }, { on := 7, ground := Go.Ground.data }, { on := 5, ground := Go.Ground.guard }], guard := some (5, true) }) (v := ?vt6009) rfl (by kernel_rfl) (by kernel_rfl) (by kernel_rfl) (fun _ _ _ h => h) (Or.inl ⟨by rfl, ?ht6009⟩) hH6004 ?_
    case ht6009 => intro w hSw; obtain ⟨h1, h2, h3⟩ := hSw; (try dsimp only at h1 h2 h3); go_simp; try with_reducible rfl
    simp only [Act.put, List.setIfInBounds_toArray, List.set_cons_zero, List.set_cons_succ]
    refine wpAnyH_take (i := 9) (oi := { dst := some 41, op := Go.Op.pick (Go.Operand.tmp 37) (Go.Operand.tmp 40) (Go.Operand.const (Go.Value.bool false)), type := 4, pos := "law.go:48", after := #[{ on := 5, ground := Go.Ground.data }, { on := 8, ground := Go.Ground.data }], guard := none }) (v := ?vt6010) rfl (by kernel_rfl) (by kernel_rfl) (by kernel_rfl) (fun _ _ _ h => h) (Or.inl ⟨by rfl, ?ht6010⟩) hH6004 ?_
    case ht6010 => intro w hSw; obtain ⟨h1, h2, h3⟩ := hSw; (try dsimp only at h1 h2 h3); go_simp; try with_reducible rfl
    simp only [Act.put, List.setIfInBounds_toArray, List.set_cons_zero, List.set_cons_succ]
    refine wpAnyH_take (i := 10) (oi := { dst := some 42, op := Go.Op.move (Go.Operand.tmp 41), type := 4, pos := "law.go:48", after := #[{ on := 9, ground := Go.Ground.data }, { on := 5, ground := Go.Ground.chain }], guard := none }) (v := ?vt6011) rfl (by kernel_rfl) (by kernel_rfl) (by kernel_rfl) (fun _ _ _ h => h) (Or.inl ⟨by rfl, ?ht6011⟩) hH6004 ?_
    case ht6011 => intro w hSw; obtain ⟨h1, h2, h3⟩ := hSw; (try dsimp only at h1 h2 h3); go_simp; try with_reducible rfl
    simp only [Act.put, List.setIfInBounds_toArray, List.set_cons_zero, List.set_cons_succ]
    refine wpAnyH_take (i := 11) (oi := { dst := some 43, op := Go.Op.fieldAddr 24 (Go.Operand.tmp 9) 0, type := 0, pos := "law.go:48", after := #[{ on := 10, ground := Go.Ground.guard }], guard := some (10, true) }) (v := ?vt6012) rfl (by kernel_rfl) (by kernel_rfl) (by kernel_rfl) (fun _ _ _ h => h) (Or.inl ⟨by rfl, ?ht6012⟩) hH6004 ?_
    case ht6012 => intro w hSw; obtain ⟨h1, h2, h3⟩ := hSw; (try dsimp only at h1 h2 h3); go_simp; try with_reducible rfl
    simp only [Act.put, List.setIfInBounds_toArray, List.set_cons_zero, List.set_cons_succ]
    refine wpAnyH_take (i := 12) (oi := { dst := some 44, op := Go.Op.load 22 (Go.Operand.tmp 43), type := 22, pos := "law.go:48", after := #[{ on := 11, ground := Go.Ground.data }, { on := 10, ground := Go.Ground.guard }], guard := some (10, true) }) (v := ?vt6013) rfl (by kernel_rfl) (by kernel_rfl) (by kernel_rfl) (fun _ _ _ h => h) (Or.inl ⟨by rfl, ?ht6013⟩) hH6004 ?_
    case ht6013 => intro w hSw; obtain ⟨h1, h2, h3⟩ := hSw; (try dsimp only at h1 h2 h3); go_simp; try with_reducible rfl
    simp only [Act.put, List.setIfInBounds_toArray, List.set_cons_zero, List.set_cons_succ]
    refine wpAnyH_take (i := 13) (oi := { dst := some 45, op := Go.Op.fieldAddr 24 (Go.Operand.tmp 11) 0, type := 0, pos := "law.go:48", after := #[{ on := 10, ground := Go.Ground.guard }], guard := some (10, true) }) (v := ?vt6014) rfl (by kernel_rfl) (by kernel_rfl) (by kernel_rfl) (fun _ _ _ h => h) (Or.inl ⟨by rfl, ?ht6014⟩) hH6004 ?_
    case ht6014 => intro w hSw; obtain ⟨h1, h2, h3⟩ := hSw; (try dsimp only at h1 h2 h3); go_simp; try with_reducible rfl
    simp only [Act.put, List.setIfInBounds_toArray, List.set_cons_zero, List.set_cons_succ]
    refine wpAnyH_take (i := 14) (oi := { dst := some 46, op := Go.Op.load 22 (Go.Operand.tmp 45), type := 22, pos := "law.go:48", after := #[{ on := 13, ground := Go.Ground.data }, { on := 10, ground := Go.Ground.guard }], guard := some (10, true) }) (v := ?vt6015) rfl (by kernel_rfl) (by kernel_rfl) (by kernel_rfl) (fun _ _ _ h => h) (Or.inl ⟨by rfl, ?ht6015⟩) hH6004 ?_
    case ht6015 => intro w hSw; obtain ⟨h1, h2, h3⟩ := hSw; (try dsimp only at h1 h2 h3); go_simp; try with_reducible rfl
    simp only [Act.put, List.setIfInBounds_toArray, List.set_cons_zero, List.set_cons_succ]
    refine wpAnyH_ready (rs := [15]) (by kernel_rfl) (by simp) ?_
    refine AllReadyH.cons rfl (fun K hK => ?_) AllReadyH.nil
    go_simp
    have CALL := shapes_any w8.heap.size A1 A2 n1 k1 n2 k2 xs xs w8 (H1.out.more (by omega)) (H2.out.more (by omega)) (Nat.le_refl _) (by omega) (by omega)
    rw [decide_eq_true rfl] at CALL
    refine CALL.mono ?_
    rintro e w9 ⟨rfl, hb⟩
    clear CALL
    have hsz9 := hb.size
    replace HL := Lib.hid (HL.out.below hb (by omega))
    replace H1 := Lib.hid (H1.out.below hb (by omega))
    replace H2 := Lib.hid (H2.out.below hb (by omega))
    replace HK := Lib.hid (HK.out.below hb HK.out.lt)
    replace HK1 := Lib.hid (HK1.out.below hb HK1.out.lt)
    replace HK2 := Lib.hid (HK2.out.below hb HK2.out.lt)
    replace HB := Lib.hid (HB.out.trans (hb.mono (by omega)))
    clear hb
    have t0 := HK.out.one.1
    have s0 := HK1.out.one.1
    have v0 := HK2.out.one.1
    refine hK.out _ _ ?_ (fun hH6016 => ?_)
    · exact ⟨HK.out.one.1, HK1.out.one.1, HK2.out.one.1⟩
    clear hK K
    refine wpAnyH_take (i := 16) (oi := { dst := some 48, op := Go.Op.pick (Go.Operand.tmp 42) (Go.Operand.tmp 47) (Go.Operand.const (Go.Value.bool false)), type := 4, pos := "law.go:48", after := #[{ on := 10, ground := Go.Ground.data }, { on := 15, ground := Go.Ground.data }], guard := none }) (v := ?vt6017) rfl (by kernel_rfl) (by kernel_rfl) (by kernel_rfl) (fun _ _ _ h => h) (Or.inl ⟨by rfl, ?ht6017⟩) hH6016 ?_
    case ht6017 => intro w hSw; obtain ⟨h1, h2, h3⟩ := hSw; (try dsimp only at h1 h2 h3); go_simp; try with_reducible rfl
    simp only [Act.put, List.setIfInBounds_toArray, List.set_cons_zero, List.set_cons_succ]
    refine wpAnyH_take (i := 17) (oi := { dst := some 49, op := Go.Op.move (Go.Operand.tmp 48), type := 4, pos := "law.go:48", after := #[{ on := 16, ground := Go.Ground.data }, { on := 15, ground := Go.Ground.chain }], guard := none }) (v := ?vt6018) rfl (by kernel_rfl) (by kernel_rfl) (by kernel_rfl) (fun _ _ _ h => h) (Or.inl ⟨by rfl, ?ht6018⟩) hH6016 ?_
    case ht6018 => intro w hSw; obtain ⟨h1, h2, h3⟩ := hSw; (try dsimp only at h1 h2 h3); go_simp; try with_reducible rfl
    simp only [Act.put, List.setIfInBounds_toArray, List.set_cons_zero, List.set_cons_succ]
    refine wpAnyH_ready (rs := [18]) (by kernel_rfl) (by simp) ?_
    refine AllReadyH.cons rfl (fun K hK => ?_) AllReadyH.nil
    go_simp
    have CALL := works6_any w9
    refine CALL.mono ?_
    rintro e w10 ⟨rfl, hb⟩
    clear CALL
    have hsz10 := hb.size
    replace HL := Lib.hid (HL.out.below hb (by omega))
    replace H1 := Lib.hid (H1.out.below hb (by omega))
    replace H2 := Lib.hid (H2.out.below hb (by omega))
    replace HK := Lib.hid (HK.out.below hb HK.out.lt)
    replace HK1 := Lib.hid (HK1.out.below hb HK1.out.lt)
    replace HK2 := Lib.hid (HK2.out.below hb HK2.out.lt)
    replace HB := Lib.hid (HB.out.trans (hb.mono (by omega)))
    clear hb
    have t0 := HK.out.one.1
    have s0 := HK1.out.one.1
    have v0 := HK2.out.one.1
    refine hK.out _ _ ?_ (fun hH6019 => ?_)
    · exact ⟨HK.out.one.1, HK1.out.one.1, HK2.out.one.1⟩
    clear hK K
    refine wpAnyH_take (i := 19) (oi := { dst := some 51, op := Go.Op.pick (Go.Operand.tmp 49) (Go.Operand.tmp 50) (Go.Operand.const (Go.Value.bool false)), type := 4, pos := "law.go:48", after := #[{ on := 17, ground := Go.Ground.data }, { on := 18, ground := Go.Ground.data }], guard := none }) (v := ?vt6020) rfl (by kernel_rfl) (by kernel_rfl) (by kernel_rfl) (fun _ _ _ h => h) (Or.inl ⟨by rfl, ?ht6020⟩) hH6019 ?_
    case ht6020 => intro w hSw; obtain ⟨h1, h2, h3⟩ := hSw; (try dsimp only at h1 h2 h3); go_simp; try with_reducible rfl
    simp only [Act.put, List.setIfInBounds_toArray, List.set_cons_zero, List.set_cons_succ]
    refine wpAnyH_take (i := 20) (oi := { dst := some 8, op := Go.Op.assign (Go.Operand.tmp 51), type := 4, pos := "law.go:48", after := #[{ on := 19, ground := Go.Ground.data }, { on := 18, ground := Go.Ground.chain }, { on := 0, ground := Go.Ground.phase }, { on := 1, ground := Go.Ground.phase }, { on := 2, ground := Go.Ground.phase }, { on := 3, ground := Go.Ground.phase }, { on := 4, ground := Go.Ground.phase }, { on := 5, ground := Go.Ground.phase }, { on := 6, ground := Go.Ground.phase }, { on := 7, ground := Go.Ground.phase }, { on := 8, ground := Go.Ground.phase }, { on := 9, ground := Go.Ground.phase }, { on := 10, ground := Go.Ground.phase }, { on := 11, ground := Go.Ground.phase }, { on := 12, ground := Go.Ground.phase }, { on := 13, ground := Go.Ground.phase }, { on := 14, ground := Go.Ground.phase }, { on := 15, ground := Go.Ground.phase }, { on := 16, ground := Go.Ground.phase }, { on := 17, ground := Go.Ground.phase }, { on := 18, ground := Go.Ground.phase }, { on := 19, ground := Go.Ground.phase }], guard := none }) (v := ?vt6021) rfl (by kernel_rfl) (by kernel_rfl) (by kernel_rfl) (fun _ _ _ h => h) (Or.inl ⟨by rfl, ?ht6021⟩) hH6019 ?_
    case ht6021 => intro w hSw; obtain ⟨h1, h2, h3⟩ := hSw; (try dsimp only at h1 h2 h3); go_simp; try with_reducible rfl
    simp only [Act.put, List.setIfInBounds_toArray, List.set_cons_zero, List.set_cons_succ]
    refine wpAnyH_done (by kernel_rfl) ?_ _
    go_wp2
    go_ret
    exact ⟨rfl, HB.out⟩
end Go.Proofs.Ytjdnpgilinfkgaa
