/-
  The walk of PressTicks.
-/
import Derived.Test.YtomncopeekegoaaIC
import Derived.Test.YtomncopeekegoaaI3
import Derived.Deep.Cut
namespace Go.Proofs.Ytomncopeekegoaa
open Go.RowKit

set_option maxRecDepth 100000 in
set_option maxHeartbeats 4000000 in
theorem ticks_walk (m : Mac) (t v : Int) (w : World) :
    Calls Try.prog 3 #[.agg #[.int .i64 m.room, .int .i64 m.melt, .int .i64 m.cool, .int .i64 m.top, .int .i64 m.heat, .int .i64 m.chill, .int .i64 m.drift, .int .i64 m.hold, .int .i64 m.life], .int .i64 t, .int .i64 v] w fun e w' => e = .returned (.bool true) ∧ Below w.heap.size w w' := by
  obtain ⟨q, hq⟩ : ∃ y, tkT m t v = y := ⟨_, rfl⟩
  obtain ⟨er_, he⟩ : ∃ y, tkE m t v = y := ⟨_, rfl⟩
  obtain ⟨ck_, hc⟩ : ∃ y, ckM m = y := ⟨_, rfl⟩
  have HE := Lib.hid (And.intro hq he)
  have HC := Lib.hid hc
  clear hq he hc
  have HB : Hid (Below w.heap.size w w) := Lib.hid (Below.refl _ _)
  go_enter Try.func3, Try.ntmps3
  go_upto_region 1 with fail
  obtain ⟨w1, hW⟩ : ∃ W, w.alloc (.cells #[.int .i64 m.room, .int .i64 m.melt, .int .i64 m.cool, .int .i64 m.top, .int .i64 m.heat, .int .i64 m.chill, .int .i64 m.drift, .int .i64 m.hold, .int .i64 m.life] 23) = W := ⟨_, rfl⟩
  have hb : Below w.heap.size w w1 := by rw [← hW]; exact (Below.refl _ _).alloc (Nat.le_refl _) _
  have hsz1 := hb.size
  replace HB := Lib.hid (HB.out.trans (hb.mono (by omega)))
  have HM : Hid (Blk w1 w.heap.size 23 #[.int .i64 m.room, .int .i64 m.melt, .int .i64 m.cool, .int .i64 m.top, .int .i64 m.heat, .int .i64 m.chill, .int .i64 m.drift, .int .i64 m.hold, .int .i64 m.life]) := Lib.hid (by rw [← hW]; exact Blk.new _ _ _)
  try rw [hW]
  clear hW hb
  obtain ⟨c0, c1, c2, c3, c4, c5, c6, c7, c8⟩ := HM.out.nine
  go_wp2_with fail
  have CALL := Tick_any m t v w1
  rw [HE.out.1, HE.out.2] at CALL
  refine CALL.mono ?_
  rintro e w2 ⟨rfl, hb⟩
  clear CALL
  have hsz2 := hb.size
  replace HM := Lib.hid (HM.out.below hb HM.out.lt)
  replace HB := Lib.hid (HB.out.trans (hb.mono (by omega)))
  clear hb
  obtain ⟨c0, c1, c2, c3, c4, c5, c6, c7, c8⟩ := HM.out.nine
  go_wp2_with fail
  have CALL := refTick_any m t v w2
  rw [HE.out.1, HE.out.2] at CALL
  refine CALL.mono ?_
  rintro e w3 ⟨rfl, hb⟩
  clear CALL
  have hsz3 := hb.size
  replace HM := Lib.hid (HM.out.below hb HM.out.lt)
  replace HB := Lib.hid (HB.out.trans (hb.mono (by omega)))
  clear hb
  obtain ⟨c0, c1, c2, c3, c4, c5, c6, c7, c8⟩ := HM.out.nine
  have q1 : ((q : Int) == q) = true := by simp
  have q2 : ((er_ : Int) == er_) = true := by simp
  have q3 : ((ck_ : Int) == ck_) = true := by simp
  go_wp2_with fail
  refine wp_region_held_drew (S := fun w' => w'.cell? ⟨w.heap.size, 0, none⟩ = some (.int .i64 m.room) ∧ w'.cell? ⟨w.heap.size, 1, none⟩ = some (.int .i64 m.melt) ∧ w'.cell? ⟨w.heap.size, 2, none⟩ = some (.int .i64 m.cool) ∧ w'.cell? ⟨w.heap.size, 3, none⟩ = some (.int .i64 m.top) ∧ w'.cell? ⟨w.heap.size, 4, none⟩ = some (.int .i64 m.heat) ∧ w'.cell? ⟨w.heap.size, 5, none⟩ = some (.int .i64 m.chill) ∧ w'.cell? ⟨w.heap.size, 6, none⟩ = some (.int .i64 m.drift) ∧ w'.cell? ⟨w.heap.size, 7, none⟩ = some (.int .i64 m.hold) ∧ w'.cell? ⟨w.heap.size, 8, none⟩ = some (.int .i64 m.life)) (by kernel_rfl) HM.out.nine (fun hHeld => ?_)
  obtain ⟨w4, hwd⟩ : ∃ wd, w3.drew = wd := ⟨_, rfl⟩
  have hb : Below w3.heap.size w3 w4 := by rw [← hwd]; exact (Below.refl _ _).drew
  have hsz4 := hb.size
  replace HM := Lib.hid (HM.out.below hb HM.out.lt)
  replace HB := Lib.hid (HB.out.trans (hb.mono (by omega)))
  rw [hwd] at hHeld ⊢
  clear hb hwd
  obtain ⟨c0, c1, c2, c3, c4, c5, c6, c7, c8⟩ := HM.out.nine
  refine wpAnyH_take (i := 0) (oi := { dst := some 25, op := Go.Op.load 23 (Go.Operand.tmp 3), type := 23, pos := "law.go:80", after := #[], guard := none }) (v := ?vt4001) rfl (by kernel_rfl) (by kernel_rfl) (by kernel_rfl) (fun _ _ _ h => h) (Or.inl ⟨by rfl, ?ht4001⟩) hHeld ?_
  case ht4001 => intro w hSw; obtain ⟨h0, h1, h2, h3, h4, h5, h6, h7, h8⟩ := hSw; (try dsimp only at h0 h1 h2 h3 h4 h5 h6 h7 h8); go_simp; try with_reducible rfl
  simp only [Act.put, List.setIfInBounds_toArray, List.set_cons_zero, List.set_cons_succ]
  refine wpAnyH_take (i := 2) (oi := { dst := some 27, op := Go.Op.load 23 (Go.Operand.tmp 3), type := 23, pos := "law.go:80", after := #[], guard := none }) (v := ?vt4002) rfl (by kernel_rfl) (by kernel_rfl) (by kernel_rfl) (fun _ _ _ h => h) (Or.inl ⟨by rfl, ?ht4002⟩) hHeld ?_
  case ht4002 => intro w hSw; obtain ⟨h0, h1, h2, h3, h4, h5, h6, h7, h8⟩ := hSw; (try dsimp only at h0 h1 h2 h3 h4 h5 h6 h7 h8); go_simp; try with_reducible rfl
  simp only [Act.put, List.setIfInBounds_toArray, List.set_cons_zero, List.set_cons_succ]
  refine wpAnyH_ready (rs := [1]) (by kernel_rfl) (by simp) ?_
  refine AllReadyH.cons rfl (fun K hK => ?_) AllReadyH.nil
  go_simp
  have CALL := Check_any m w4
  rw [HC.out] at CALL
  refine CALL.mono ?_
  rintro e w5 ⟨rfl, hb⟩
  clear CALL
  have hsz5 := hb.size
  replace HM := Lib.hid (HM.out.below hb HM.out.lt)
  replace HB := Lib.hid (HB.out.trans (hb.mono (by omega)))
  clear hb
  obtain ⟨c0, c1, c2, c3, c4, c5, c6, c7, c8⟩ := HM.out.nine
  refine hK.out _ _ ?_ (fun hH4003 => ?_)
  · exact HM.out.nine
  clear hK K
  refine wpAnyH_ready (rs := [3]) (by kernel_rfl) (by simp) ?_
  refine AllReadyH.cons rfl (fun K hK => ?_) AllReadyH.nil
  go_simp
  have CALL := refCheck_any m w5
  rw [HC.out] at CALL
  refine CALL.mono ?_
  rintro e w6 ⟨rfl, hb⟩
  clear CALL
  have hsz6 := hb.size
  replace HM := Lib.hid (HM.out.below hb HM.out.lt)
  replace HB := Lib.hid (HB.out.trans (hb.mono (by omega)))
  clear hb
  obtain ⟨c0, c1, c2, c3, c4, c5, c6, c7, c8⟩ := HM.out.nine
  refine hK.out _ _ ?_ (fun hH4004 => ?_)
  · exact HM.out.nine
  clear hK K
  refine wpAnyH_take (i := 4) (oi := { dst := some 29, op := Go.Op.binOp Go.BinOp.eql 24 (Go.Operand.tmp 26) (Go.Operand.tmp 28) 24, type := 4, pos := "law.go:80", after := #[{ on := 1, ground := Go.Ground.data }, { on := 3, ground := Go.Ground.data }], guard := none }) (v := ?vt4005) rfl (by kernel_rfl) (by kernel_rfl) (by kernel_rfl) (fun _ _ _ h => h) (Or.inl ⟨by rfl, ?ht4005⟩) hH4004 ?_
  case ht4005 => intro w hSw; obtain ⟨h0, h1, h2, h3, h4, h5, h6, h7, h8⟩ := hSw; (try dsimp only at h0 h1 h2 h3 h4 h5 h6 h7 h8); go_simp; try with_reducible rfl
  simp only [Act.put, List.setIfInBounds_toArray, List.set_cons_zero, List.set_cons_succ]
  refine wpAnyH_take (i := 5) (oi := { dst := some 30, op := Go.Op.move (Go.Operand.tmp 29), type := 4, pos := "law.go:80", after := #[{ on := 4, ground := Go.Ground.data }, { on := 3, ground := Go.Ground.chain }], guard := none }) (v := ?vt4006) rfl (by kernel_rfl) (by kernel_rfl) (by kernel_rfl) (fun _ _ _ h => h) (Or.inl ⟨by rfl, ?ht4006⟩) hH4004 ?_
  case ht4006 => intro w hSw; obtain ⟨h0, h1, h2, h3, h4, h5, h6, h7, h8⟩ := hSw; (try dsimp only at h0 h1 h2 h3 h4 h5 h6 h7 h8); go_simp; try with_reducible rfl
  simp only [Act.put, List.setIfInBounds_toArray, List.set_cons_zero, List.set_cons_succ]
  refine wpAnyH_take (i := 6) (oi := { dst := some 31, op := Go.Op.move (Go.Operand.tmp 7), type := 2, pos := "law.go:80", after := #[{ on := 5, ground := Go.Ground.guard }], guard := some (5, true) }) (v := ?vt4007) rfl (by kernel_rfl) (by kernel_rfl) (by kernel_rfl) (fun _ _ _ h => h) (Or.inl ⟨by rfl, ?ht4007⟩) hH4004 ?_
  case ht4007 => intro w hSw; obtain ⟨h0, h1, h2, h3, h4, h5, h6, h7, h8⟩ := hSw; (try dsimp only at h0 h1 h2 h3 h4 h5 h6 h7 h8); go_simp; try with_reducible rfl
  simp only [Act.put, List.setIfInBounds_toArray, List.set_cons_zero, List.set_cons_succ]
  refine wpAnyH_take (i := 7) (oi := { dst := some 32, op := Go.Op.move (Go.Operand.tmp 9), type := 2, pos := "law.go:80", after := #[{ on := 5, ground := Go.Ground.guard }], guard := some (5, true) }) (v := ?vt4008) rfl (by kernel_rfl) (by kernel_rfl) (by kernel_rfl) (fun _ _ _ h => h) (Or.inl ⟨by rfl, ?ht4008⟩) hH4004 ?_
  case ht4008 => intro w hSw; obtain ⟨h0, h1, h2, h3, h4, h5, h6, h7, h8⟩ := hSw; (try dsimp only at h0 h1 h2 h3 h4 h5 h6 h7 h8); go_simp; try with_reducible rfl
  simp only [Act.put, List.setIfInBounds_toArray, List.set_cons_zero, List.set_cons_succ]
  refine wpAnyH_take (i := 8) (oi := { dst := some 33, op := Go.Op.binOp Go.BinOp.eql 2 (Go.Operand.tmp 31) (Go.Operand.tmp 32) 2, type := 4, pos := "law.go:80", after := #[{ on := 6, ground := Go.Ground.data }, { on := 7, ground := Go.Ground.data }, { on := 5, ground := Go.Ground.guard }], guard := some (5, true) }) (v := ?vt4009) rfl (by kernel_rfl) (by kernel_rfl) (by kernel_rfl) (fun _ _ _ h => h) (Or.inl ⟨by rfl, ?ht4009⟩) hH4004 ?_
  case ht4009 => intro w hSw; obtain ⟨h0, h1, h2, h3, h4, h5, h6, h7, h8⟩ := hSw; (try dsimp only at h0 h1 h2 h3 h4 h5 h6 h7 h8); go_simp; try with_reducible rfl
  simp only [Act.put, List.setIfInBounds_toArray, List.set_cons_zero, List.set_cons_succ]
  refine wpAnyH_take (i := 9) (oi := { dst := some 34, op := Go.Op.pick (Go.Operand.tmp 30) (Go.Operand.tmp 33) (Go.Operand.const (Go.Value.bool false)), type := 4, pos := "law.go:80", after := #[{ on := 5, ground := Go.Ground.data }, { on := 8, ground := Go.Ground.data }], guard := none }) (v := ?vt4010) rfl (by kernel_rfl) (by kernel_rfl) (by kernel_rfl) (fun _ _ _ h => h) (Or.inl ⟨by rfl, ?ht4010⟩) hH4004 ?_
  case ht4010 => intro w hSw; obtain ⟨h0, h1, h2, h3, h4, h5, h6, h7, h8⟩ := hSw; (try dsimp only at h0 h1 h2 h3 h4 h5 h6 h7 h8); go_simp; try with_reducible rfl
  simp only [Act.put, List.setIfInBounds_toArray, List.set_cons_zero, List.set_cons_succ]
  refine wpAnyH_take (i := 10) (oi := { dst := some 35, op := Go.Op.move (Go.Operand.tmp 34), type := 4, pos := "law.go:80", after := #[{ on := 9, ground := Go.Ground.data }, { on := 5, ground := Go.Ground.chain }], guard := none }) (v := ?vt4011) rfl (by kernel_rfl) (by kernel_rfl) (by kernel_rfl) (fun _ _ _ h => h) (Or.inl ⟨by rfl, ?ht4011⟩) hH4004 ?_
  case ht4011 => intro w hSw; obtain ⟨h0, h1, h2, h3, h4, h5, h6, h7, h8⟩ := hSw; (try dsimp only at h0 h1 h2 h3 h4 h5 h6 h7 h8); go_simp; try with_reducible rfl
  simp only [Act.put, List.setIfInBounds_toArray, List.set_cons_zero, List.set_cons_succ]
  refine wpAnyH_take (i := 11) (oi := { dst := some 36, op := Go.Op.move (Go.Operand.tmp 8), type := 24, pos := "law.go:80", after := #[{ on := 10, ground := Go.Ground.guard }], guard := some (10, true) }) (v := ?vt4012) rfl (by kernel_rfl) (by kernel_rfl) (by kernel_rfl) (fun _ _ _ h => h) (Or.inl ⟨by rfl, ?ht4012⟩) hH4004 ?_
  case ht4012 => intro w hSw; obtain ⟨h0, h1, h2, h3, h4, h5, h6, h7, h8⟩ := hSw; (try dsimp only at h0 h1 h2 h3 h4 h5 h6 h7 h8); go_simp; try with_reducible rfl
  simp only [Act.put, List.setIfInBounds_toArray, List.set_cons_zero, List.set_cons_succ]
  refine wpAnyH_take (i := 12) (oi := { dst := some 37, op := Go.Op.move (Go.Operand.tmp 10), type := 24, pos := "law.go:80", after := #[{ on := 10, ground := Go.Ground.guard }], guard := some (10, true) }) (v := ?vt4013) rfl (by kernel_rfl) (by kernel_rfl) (by kernel_rfl) (fun _ _ _ h => h) (Or.inl ⟨by rfl, ?ht4013⟩) hH4004 ?_
  case ht4013 => intro w hSw; obtain ⟨h0, h1, h2, h3, h4, h5, h6, h7, h8⟩ := hSw; (try dsimp only at h0 h1 h2 h3 h4 h5 h6 h7 h8); go_simp; try with_reducible rfl
  simp only [Act.put, List.setIfInBounds_toArray, List.set_cons_zero, List.set_cons_succ]
  refine wpAnyH_take (i := 13) (oi := { dst := some 38, op := Go.Op.binOp Go.BinOp.eql 24 (Go.Operand.tmp 36) (Go.Operand.tmp 37) 24, type := 4, pos := "law.go:80", after := #[{ on := 11, ground := Go.Ground.data }, { on := 12, ground := Go.Ground.data }, { on := 10, ground := Go.Ground.guard }], guard := some (10, true) }) (v := ?vt4014) rfl (by kernel_rfl) (by kernel_rfl) (by kernel_rfl) (fun _ _ _ h => h) (Or.inl ⟨by rfl, ?ht4014⟩) hH4004 ?_
  case ht4014 => intro w hSw; obtain ⟨h0, h1, h2, h3, h4, h5, h6, h7, h8⟩ := hSw; (try dsimp only at h0 h1 h2 h3 h4 h5 h6 h7 h8); go_simp; try with_reducible rfl
  simp only [Act.put, List.setIfInBounds_toArray, List.set_cons_zero, List.set_cons_succ]
  refine wpAnyH_take (i := 14) (oi := { dst := some 39, op := Go.Op.pick (Go.Operand.tmp 35) (Go.Operand.tmp 38) (Go.Operand.const (Go.Value.bool false)), type := 4, pos := "law.go:80", after := #[{ on := 10, ground := Go.Ground.data }, { on := 13, ground := Go.Ground.data }], guard := none }) (v := ?vt4015) rfl (by kernel_rfl) (by kernel_rfl) (by kernel_rfl) (fun _ _ _ h => h) (Or.inl ⟨by rfl, ?ht4015⟩) hH4004 ?_
  case ht4015 => intro w hSw; obtain ⟨h0, h1, h2, h3, h4, h5, h6, h7, h8⟩ := hSw; (try dsimp only at h0 h1 h2 h3 h4 h5 h6 h7 h8); go_simp; try with_reducible rfl
  simp only [Act.put, List.setIfInBounds_toArray, List.set_cons_zero, List.set_cons_succ]
  refine wpAnyH_take (i := 15) (oi := { dst := some 40, op := Go.Op.move (Go.Operand.tmp 39), type := 4, pos := "law.go:80", after := #[{ on := 14, ground := Go.Ground.data }, { on := 10, ground := Go.Ground.chain }], guard := none }) (v := ?vt4016) rfl (by kernel_rfl) (by kernel_rfl) (by kernel_rfl) (fun _ _ _ h => h) (Or.inl ⟨by rfl, ?ht4016⟩) hH4004 ?_
  case ht4016 => intro w hSw; obtain ⟨h0, h1, h2, h3, h4, h5, h6, h7, h8⟩ := hSw; (try dsimp only at h0 h1 h2 h3 h4 h5 h6 h7 h8); go_simp; try with_reducible rfl
  simp only [Act.put, List.setIfInBounds_toArray, List.set_cons_zero, List.set_cons_succ]
  refine wpAnyH_ready (rs := [16]) (by kernel_rfl) (by simp) ?_
  refine AllReadyH.cons rfl (fun K hK => ?_) AllReadyH.nil
  go_simp
  have CALL := works8_any w6
  refine CALL.mono ?_
  rintro e w7 ⟨rfl, hb⟩
  clear CALL
  have hsz7 := hb.size
  replace HM := Lib.hid (HM.out.below hb HM.out.lt)
  replace HB := Lib.hid (HB.out.trans (hb.mono (by omega)))
  clear hb
  obtain ⟨c0, c1, c2, c3, c4, c5, c6, c7, c8⟩ := HM.out.nine
  refine hK.out _ _ ?_ (fun hH4017 => ?_)
  · exact HM.out.nine
  clear hK K
  refine wpAnyH_take (i := 17) (oi := { dst := some 42, op := Go.Op.pick (Go.Operand.tmp 40) (Go.Operand.tmp 41) (Go.Operand.const (Go.Value.bool false)), type := 4, pos := "law.go:80", after := #[{ on := 15, ground := Go.Ground.data }, { on := 16, ground := Go.Ground.data }], guard := none }) (v := ?vt4018) rfl (by kernel_rfl) (by kernel_rfl) (by kernel_rfl) (fun _ _ _ h => h) (Or.inl ⟨by rfl, ?ht4018⟩) hH4017 ?_
  case ht4018 => intro w hSw; obtain ⟨h0, h1, h2, h3, h4, h5, h6, h7, h8⟩ := hSw; (try dsimp only at h0 h1 h2 h3 h4 h5 h6 h7 h8); go_simp; try with_reducible rfl
  simp only [Act.put, List.setIfInBounds_toArray, List.set_cons_zero, List.set_cons_succ]
  refine wpAnyH_take (i := 18) (oi := { dst := some 6, op := Go.Op.assign (Go.Operand.tmp 42), type := 4, pos := "law.go:80", after := #[{ on := 17, ground := Go.Ground.data }, { on := 16, ground := Go.Ground.chain }, { on := 0, ground := Go.Ground.phase }, { on := 1, ground := Go.Ground.phase }, { on := 2, ground := Go.Ground.phase }, { on := 3, ground := Go.Ground.phase }, { on := 4, ground := Go.Ground.phase }, { on := 5, ground := Go.Ground.phase }, { on := 6, ground := Go.Ground.phase }, { on := 7, ground := Go.Ground.phase }, { on := 8, ground := Go.Ground.phase }, { on := 9, ground := Go.Ground.phase }, { on := 10, ground := Go.Ground.phase }, { on := 11, ground := Go.Ground.phase }, { on := 12, ground := Go.Ground.phase }, { on := 13, ground := Go.Ground.phase }, { on := 14, ground := Go.Ground.phase }, { on := 15, ground := Go.Ground.phase }, { on := 16, ground := Go.Ground.phase }, { on := 17, ground := Go.Ground.phase }], guard := none }) (v := ?vt4019) rfl (by kernel_rfl) (by kernel_rfl) (by kernel_rfl) (fun _ _ _ h => h) (Or.inl ⟨by rfl, ?ht4019⟩) hH4017 ?_
  case ht4019 => intro w hSw; obtain ⟨h0, h1, h2, h3, h4, h5, h6, h7, h8⟩ := hSw; (try dsimp only at h0 h1 h2 h3 h4 h5 h6 h7 h8); go_simp; try with_reducible rfl
  simp only [Act.put, List.setIfInBounds_toArray, List.set_cons_zero, List.set_cons_succ]
  refine wpAnyH_done (by kernel_rfl) ?_ _
  go_wp2
  go_ret
  exact ⟨rfl, HB.out⟩
end Go.Proofs.Ytomncopeekegoaa
