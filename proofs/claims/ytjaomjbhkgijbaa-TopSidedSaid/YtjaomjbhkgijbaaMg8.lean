/-
  Contract of the iterator of sounding.
-/
import Derived.Test.YtjaomjbhkgijbaaMg7
import Derived.Deep.RegionHeld3

namespace Go.Proofs.Ytjaomjbhkgijbaa
open Go.RowKit Go.Shelf
attribute [local go_sem] Oper.semAt_some

set_option maxRecDepth 100000 in
set_option maxHeartbeats 60000000 in
theorem sounding1_all (n : Nat) (bq bt : Nat) (gg : Nat → Prop) (B : Nat) (A : Option Addr) (m c : Nat) (R : List Pl) (t : Int) (w : World) (hn : 1 ≤ n)
    (hq : Blk w bq 114 #[.slice A m c]) (ht : Blk w bt 3 #[.int .i64 t]) (hR : RQ w B A m R) (hB : B ≤ w.heap.size) (hbt : bt < B) (ngq : ¬ gg bq) (ngt : ¬ gg bt)
    (ngA : ∀ ad, A = some ad → ¬ gg ad.block) (hok : ∀ q ∈ R, PlOk q) (h32 : R.length ≤ 32) (ht0 : -1000000 ≤ t) (ht1 : t ≤ 1000000) :
    SeqAll Fence.wide n Try.prog 156 #[.pointer (some ⟨bq, 0, none⟩), .pointer (some ⟨bt, 0, none⟩)] encP gg (sndL R t) w := by
  intro l J W hW hJ hY h0
  have hWB : Bel gg w W := Bel.of_below hW
  have HQ := Lib.hid hq
  have HT := Lib.hid ht
  have HR := Lib.hid hR
  have HOK := Lib.hid hok
  have HN : Hid (m = R.length) := Lib.hid hR.1
  have hm32 : m ≤ 32 := by have := hR.1; omega
  have HY := Lib.hid hY
  have HJ := Lib.hid hJ
  have HA := Lib.hid ngA
  have hsz := hWB.size
  clear hq ht hR hok hY hJ ngA h32 hW
  refine callsIn_of_wp Try.func156 rfl trivial ?_ rfl
  simp only [Try.ntmps156, List.size_toArray, List.length_cons, List.length_nil, Nat.reduceAdd, Nat.reduceSub, Array.replicate_succ, Array.replicate_zero, List.push_toArray, List.append_toArray, List.nil_append, List.cons_append]
  have cq := hWB.cell HQ.out.one.1 ngq
  gi_wp2
  gi_loopw [8] (fun i wr => ∃ k : Nat, k ≤ m ∧ i = .int .i64 k ∧ Hid (J (sndL (R.take k) t) wr) ∧ Bel gg w wr) (fun i _ => m - (intOf i).toNat)
  case atStart => exact ⟨0, Nat.zero_le _, rfl, Lib.hid h0, hWB⟩
  case round =>
    clear cq hWB h0
    obtain ⟨k, hk, rfl, hj, hb⟩ := hrel
    have zz := hb.size
    by_cases hlt : k < m
    · have hkR : k < R.length := by have := HN.out; omega
      obtain ⟨ad, hA, hbl, p0, p1, p2, p3, p4, p5, p6, p7, p8⟩ := (HR.out.bel hb HA.out).at_ hkR
      have hAg := HA.out _ hA
      obtain rfl := hA
      have hoq := HOK.out _ (List.getElem_mem hkR)
      have hsn := sndL_snoc R t k hkR
      have hpre := sndL_prefix R t (k + 1)
      obtain ⟨q, hqq⟩ : ∃ q, q = R[k]'hkR := ⟨_, rfl⟩
      rw [← hqq] at p0 p1 p2 p3 p4 p5 p6 p7 p8 hoq hsn
      have HOQ := Lib.hid hoq
      have HSN := Lib.hid hsn
      have HPRE := Lib.hid hpre
      obtain ⟨_, o6, o7⟩ := hoq
      clear hqq hsn hpre
      have ct := hb.cell HT.out.one.1 ngt
      have f75 : Fence.wide.fn 97 := trivial
      have hbtw : bt < wr.heap.size := by omega
      have ct1 : ((wr.alloc (.cells #[.int .i64 q.p.tk, .int .i64 q.p.fr, .int .i64 q.p.to, .int .i64 q.p.gp, .int .i64 q.p.fi, .int .i64 q.p.fo, .int .i64 q.p.lv, .int .i64 q.ix, .int .i64 q.st] 117)).drew).cell? ⟨bt, 0, none⟩ = some (.int .i64 t) := (World.cell?_alloc_lt wr _ ⟨bt, 0, none⟩ hbtw).trans ct
      by_cases c1 : q.st ≤ t
      · by_cases c2 : t < q.end_
        · have d1 : decide (q.st ≤ t) = true := by simpa using c1
          have d2 : decide (t < q.end_) = true := by simpa using c2
          have HD : Hid (sndB t q = true) := Lib.hid (by rw [sndB, d1, d2]; rfl)
          have HPRE : Hid (sndL (R.take k) t ++ [(q, t - q.st)] <+: sndL R t) := Lib.hid (by have h1 := HPRE.out; rw [HSN.out, HD.out] at h1; simpa using h1)
          have hw1 : IntKind.i64.wrap (t - q.st) = t - q.st := IntWalk.i64_in _ (by omega)
          gi_wp2
          gi_region_with (first | (gi_at_call 97; refine (callsIn_wide.2 (pend_any q _ HOQ.out)).mono ?_; rintro e w1 ⟨rfl, hb1⟩; have HB1 := Lib.hid hb1; have hblk := ((Blk.new wr 117 #[.int .i64 q.p.tk, .int .i64 q.p.fr, .int .i64 q.p.to, .int .i64 q.p.gp, .int .i64 q.p.fi, .int .i64 q.p.fo, .int .i64 q.p.lv, .int .i64 q.ix, .int .i64 q.st]).drew).below hb1 (by simp); have g0 := (hblk.cell 0).trans rfl; have g1 := (hblk.cell 1).trans rfl; have g2 := (hblk.cell 2).trans rfl; have g3 := (hblk.cell 3).trans rfl; have g4 := (hblk.cell 4).trans rfl; have g5 := (hblk.cell 5).trans rfl; have g6 := (hblk.cell 6).trans rfl; have g7 := (hblk.cell 7).trans rfl; have g8 := (hblk.cell 8).trans rfl; have hT1 := (hb1.cell (p := ⟨bt, 0, none⟩) (by simp; omega)).trans ct1; have HBL := Lib.hid ((hb.alloc (.cells #[.int .i64 q.p.tk, .int .i64 q.p.fr, .int .i64 q.p.to, .int .i64 q.p.gp, .int .i64 q.p.fi, .int .i64 q.p.fo, .int .i64 q.p.lv, .int .i64 q.ix, .int .i64 q.st] 117)).drew.trans (Bel.of_below hb1)); have HJ1 := Lib.hid (HJ.out _ _ _ _ hj.out (grown_of_below (((Below.refl _ _).alloc (Nat.le_refl _) (.cells #[.int .i64 q.p.tk, .int .i64 q.p.fr, .int .i64 q.p.to, .int .i64 q.p.gp, .int .i64 q.p.fi, .int .i64 q.p.fo, .int .i64 q.p.lv, .int .i64 q.ix, .int .i64 q.st] 117)).drew.trans (hb1.mono (by simp)))) (by simp)); clear hblk hb1; obtain ⟨fn, tm, as_, bo, hy, hR⟩ := HY.out _ (q, t - q.st) _ HJ1.out HPRE.out; dsimp only [encP] at hy) | (refine hR.mono ?_; rintro e w2 ⟨rfl, hj2, hb2, -⟩; have HJ2 := Lib.hid hj2; have HBL2 := Lib.hid (HBL.out.trans hb2); clear hj2 hb2))
          all_goals
            gi_wp2
            go_roundw
            case rel => exact ⟨k + 1, by omega, by go_num, Lib.hid (by rw [HSN.out, HD.out]; simpa using HJ2.out), HBL2.out⟩
            case measure => simp [intOf]; omega
        · have d1 : decide (q.st ≤ t) = true := by simpa using c1
          have d2 : decide (t < q.end_) = false := by simpa using c2
          have HD : Hid (sndB t q = false) := Lib.hid (by rw [sndB, d1, d2]; rfl)
          gi_wp2
          refine wpIn_wide.2 ?_
          refine wp_region_held_drew (S := fun w' => w'.cell? ⟨wr.heap.size, 0, none⟩ = some (.int .i64 q.p.tk) ∧ w'.cell? ⟨wr.heap.size, 1, none⟩ = some (.int .i64 q.p.fr) ∧ w'.cell? ⟨wr.heap.size, 2, none⟩ = some (.int .i64 q.p.to) ∧ w'.cell? ⟨wr.heap.size, 3, none⟩ = some (.int .i64 q.p.gp) ∧ w'.cell? ⟨wr.heap.size, 4, none⟩ = some (.int .i64 q.p.fi) ∧ w'.cell? ⟨wr.heap.size, 5, none⟩ = some (.int .i64 q.p.fo) ∧ w'.cell? ⟨wr.heap.size, 6, none⟩ = some (.int .i64 q.p.lv) ∧ w'.cell? ⟨wr.heap.size, 7, none⟩ = some (.int .i64 q.ix) ∧ w'.cell? ⟨wr.heap.size, 8, none⟩ = some (.int .i64 q.st) ∧ w'.cell? ⟨bt, 0, none⟩ = some (.int .i64 t)) (by kernel_rfl) ?_ (fun hHeld => ?_)
          · go_keep
          refine wpAnyH_take (i := 0) (oi := { dst := some 12, op := Op.fieldAddr 117 (Operand.tmp 5) 2, type := 0, pos := "place.go:60", after := #[], guard := none }) (v := ?v0) rfl (by kernel_rfl) (by kernel_rfl) (by kernel_rfl) (fun _ _ _ h => h) (Or.inl ⟨by rfl, ?hy0⟩) hHeld ?_
          case hy0 => intro w hSw; (try dsimp only at hSw); go_simp; try with_reducible rfl
          simp only [Act.put, List.setIfInBounds_toArray, List.set_cons_zero, List.set_cons_succ]
          refine wpAnyH_take (i := 1) (oi := { dst := some 13, op := Op.load 3 (Operand.tmp 12), type := 3, pos := "place.go:60", after := #[{ on := 0, ground := Ground.data }], guard := none }) (v := ?v1) rfl (by kernel_rfl) (by kernel_rfl) (by kernel_rfl) (fun _ _ _ h => h) (Or.inl ⟨by rfl, ?hy1⟩) hHeld ?_
          case hy1 => intro w hSw; (try dsimp only at hSw); go_simp; try with_reducible rfl
          simp only [Act.put, List.setIfInBounds_toArray, List.set_cons_zero, List.set_cons_succ]
          refine wpAnyH_take (i := 2) (oi := { dst := some 14, op := Op.load 3 (Operand.tmp 2), type := 3, pos := "place.go:60", after := #[], guard := none }) (v := ?v2) rfl (by kernel_rfl) (by kernel_rfl) (by kernel_rfl) (fun _ _ _ h => h) (Or.inl ⟨by rfl, ?hy2⟩) hHeld ?_
          case hy2 => intro w hSw; (try dsimp only at hSw); go_simp; try with_reducible rfl
          simp only [Act.put, List.setIfInBounds_toArray, List.set_cons_zero, List.set_cons_succ]
          refine wpAnyH_take (i := 3) (oi := { dst := some 15, op := Op.binOp BinOp.leq 3 (Operand.tmp 13) (Operand.tmp 14) 3, type := 4, pos := "place.go:60", after := #[{ on := 1, ground := Ground.data }, { on := 2, ground := Ground.data }], guard := none }) (v := ?v3) rfl (by kernel_rfl) (by kernel_rfl) (by kernel_rfl) (fun _ _ _ h => h) (Or.inl ⟨by rfl, ?hy3⟩) hHeld ?_
          case hy3 => intro w hSw; (try dsimp only at hSw); go_simp; try with_reducible rfl
          simp only [Act.put, List.setIfInBounds_toArray, List.set_cons_zero, List.set_cons_succ]
          refine wpAnyH_take (i := 4) (oi := { dst := some 16, op := Op.move (Operand.tmp 15), type := 4, pos := "place.go:60", after := #[{ on := 3, ground := Ground.data }], guard := none }) (v := ?v4) rfl (by kernel_rfl) (by kernel_rfl) (by kernel_rfl) (fun _ _ _ h => h) (Or.inl ⟨by rfl, ?hy4⟩) hHeld ?_
          case hy4 => intro w hSw; (try dsimp only at hSw); go_simp; try with_reducible rfl
          simp only [Act.put, List.setIfInBounds_toArray, List.set_cons_zero, List.set_cons_succ]
          refine wpAnyH_take (i := 5) (oi := { dst := some 17, op := Op.load 3 (Operand.tmp 2), type := 3, pos := "place.go:60", after := #[{ on := 4, ground := Ground.guard }], guard := some (4, true) }) (v := ?v5) rfl (by kernel_rfl) (by kernel_rfl) (by kernel_rfl) (fun _ _ _ h => h) (Or.inl ⟨by rfl, ?hy5⟩) hHeld ?_
          case hy5 => intro w hSw; (try dsimp only at hSw); go_simp; try with_reducible rfl
          simp only [Act.put, List.setIfInBounds_toArray, List.set_cons_zero, List.set_cons_succ]
          refine wpAnyH_take (i := 6) (oi := { dst := some 18, op := Op.load 117 (Operand.tmp 5), type := 117, pos := "place.go:60", after := #[{ on := 4, ground := Ground.guard }], guard := some (4, true) }) (v := ?v6) rfl (by kernel_rfl) (by kernel_rfl) (by kernel_rfl) (fun _ _ _ h => h) (Or.inl ⟨by rfl, ?hy6⟩) hHeld ?_
          case hy6 => intro w hSw; (try dsimp only at hSw); go_simp; try with_reducible rfl
          simp only [Act.put, List.setIfInBounds_toArray, List.set_cons_zero, List.set_cons_succ]
          refine wpAnyH_ready (rs := [7]) (by kernel_rfl) (by simp) ?_
          refine AllReadyH.cons rfl (fun K hK => ?_) AllReadyH.nil
          go_simp
          go_wp2_with (go_at_call 97; refine (pend_any q _ HOQ.out).mono ?_; rintro e w1 ⟨rfl, hb1⟩; have HB1 := Lib.hid hb1; have hblk := ((Blk.new wr 117 #[.int .i64 q.p.tk, .int .i64 q.p.fr, .int .i64 q.p.to, .int .i64 q.p.gp, .int .i64 q.p.fi, .int .i64 q.p.fo, .int .i64 q.p.lv, .int .i64 q.ix, .int .i64 q.st]).drew).below hb1 (by simp); have g0 := (hblk.cell 0).trans rfl; have g1 := (hblk.cell 1).trans rfl; have g2 := (hblk.cell 2).trans rfl; have g3 := (hblk.cell 3).trans rfl; have g4 := (hblk.cell 4).trans rfl; have g5 := (hblk.cell 5).trans rfl; have g6 := (hblk.cell 6).trans rfl; have g7 := (hblk.cell 7).trans rfl; have g8 := (hblk.cell 8).trans rfl; have hT1 := (hb1.cell (p := ⟨bt, 0, none⟩) (by simp; omega)).trans ct1; have HBL := Lib.hid ((hb.alloc (.cells #[.int .i64 q.p.tk, .int .i64 q.p.fr, .int .i64 q.p.to, .int .i64 q.p.gp, .int .i64 q.p.fi, .int .i64 q.p.fo, .int .i64 q.p.lv, .int .i64 q.ix, .int .i64 q.st] 117)).drew.trans (Bel.of_below hb1)))
          refine hK.out _ _ ?_ (fun hHeld2 => ?_)
          · go_keep
          clear hK
          refine wpAnyH_take (i := 8) (oi := { dst := some 20, op := Op.binOp BinOp.lss 3 (Operand.tmp 17) (Operand.tmp 19) 3, type := 4, pos := "place.go:60", after := #[{ on := 5, ground := Ground.data }, { on := 7, ground := Ground.data }, { on := 4, ground := Ground.guard }], guard := some (4, true) }) (v := ?v8) rfl (by kernel_rfl) (by kernel_rfl) (by kernel_rfl) (fun _ _ _ h => h) (Or.inl ⟨by rfl, ?hy8⟩) hHeld2 ?_
          case hy8 => intro w hSw; (try dsimp only at hSw); go_simp; try with_reducible rfl
          simp only [Act.put, List.setIfInBounds_toArray, List.set_cons_zero, List.set_cons_succ]
          refine wpAnyH_take (i := 9) (oi := { dst := some 21, op := Op.pick (Operand.tmp 16) (Operand.tmp 20) (Operand.const (Value.bool false)), type := 4, pos := "place.go:60", after := #[{ on := 4, ground := Ground.data }, { on := 8, ground := Ground.data }], guard := none }) (v := ?v9) rfl (by kernel_rfl) (by kernel_rfl) (by kernel_rfl) (fun _ _ _ h => h) (Or.inl ⟨by rfl, ?hy9⟩) hHeld2 ?_
          case hy9 => intro w hSw; (try dsimp only at hSw); go_simp; try with_reducible rfl
          simp only [Act.put, List.setIfInBounds_toArray, List.set_cons_zero, List.set_cons_succ]
          refine wpAnyH_take (i := 10) (oi := { dst := some 22, op := Op.move (Operand.tmp 21), type := 4, pos := "place.go:60", after := #[{ on := 9, ground := Ground.data }, { on := 7, ground := Ground.chain }], guard := none }) (v := ?v10) rfl (by kernel_rfl) (by kernel_rfl) (by kernel_rfl) (fun _ _ _ h => h) (Or.inl ⟨by rfl, ?hy10⟩) hHeld2 ?_
          case hy10 => intro w hSw; (try dsimp only at hSw); go_simp; try with_reducible rfl
          simp only [Act.put, List.setIfInBounds_toArray, List.set_cons_zero, List.set_cons_succ]
          refine wpAnyH_take (i := 11) (oi := { dst := some 23, op := Op.move (Operand.tmp 0), type := 184, pos := "place.go:60", after := #[{ on := 10, ground := Ground.guard }], guard := some (10, true) }) (v := undef) rfl (by kernel_rfl) (by kernel_rfl) (by kernel_rfl) (fun _ _ _ h => h) (Or.inr ⟨by rfl, rfl⟩) hHeld2 ?_
          simp only [Act.put, List.setIfInBounds_toArray, List.set_cons_zero, List.set_cons_succ]
          refine wpAnyH_take (i := 12) (oi := { dst := some 24, op := Op.load 117 (Operand.tmp 5), type := 117, pos := "place.go:60", after := #[{ on := 10, ground := Ground.guard }], guard := some (10, true) }) (v := undef) rfl (by kernel_rfl) (by kernel_rfl) (by kernel_rfl) (fun _ _ _ h => h) (Or.inr ⟨by rfl, rfl⟩) hHeld2 ?_
          simp only [Act.put, List.setIfInBounds_toArray, List.set_cons_zero, List.set_cons_succ]
          refine wpAnyH_take (i := 13) (oi := { dst := some 25, op := Op.load 3 (Operand.tmp 2), type := 3, pos := "place.go:60", after := #[{ on := 10, ground := Ground.guard }], guard := some (10, true) }) (v := undef) rfl (by kernel_rfl) (by kernel_rfl) (by kernel_rfl) (fun _ _ _ h => h) (Or.inr ⟨by rfl, rfl⟩) hHeld2 ?_
          simp only [Act.put, List.setIfInBounds_toArray, List.set_cons_zero, List.set_cons_succ]
          refine wpAnyH_take (i := 14) (oi := { dst := some 26, op := Op.fieldAddr 117 (Operand.tmp 5) 2, type := 0, pos := "place.go:60", after := #[{ on := 10, ground := Ground.guard }], guard := some (10, true) }) (v := undef) rfl (by kernel_rfl) (by kernel_rfl) (by kernel_rfl) (fun _ _ _ h => h) (Or.inr ⟨by rfl, rfl⟩) hHeld2 ?_
          simp only [Act.put, List.setIfInBounds_toArray, List.set_cons_zero, List.set_cons_succ]
          refine wpAnyH_take (i := 15) (oi := { dst := some 27, op := Op.load 3 (Operand.tmp 26), type := 3, pos := "place.go:60", after := #[{ on := 14, ground := Ground.data }, { on := 10, ground := Ground.guard }], guard := some (10, true) }) (v := undef) rfl (by kernel_rfl) (by kernel_rfl) (by kernel_rfl) (fun _ _ _ h => h) (Or.inr ⟨by rfl, rfl⟩) hHeld2 ?_
          simp only [Act.put, List.setIfInBounds_toArray, List.set_cons_zero, List.set_cons_succ]
          refine wpAnyH_take (i := 16) (oi := { dst := some 28, op := Op.binOp BinOp.sub 3 (Operand.tmp 25) (Operand.tmp 27) 3, type := 3, pos := "place.go:60", after := #[{ on := 13, ground := Ground.data }, { on := 15, ground := Ground.data }, { on := 10, ground := Ground.guard }], guard := some (10, true) }) (v := undef) rfl (by kernel_rfl) (by kernel_rfl) (by kernel_rfl) (fun _ _ _ h => h) (Or.inr ⟨by rfl, rfl⟩) hHeld2 ?_
          simp only [Act.put, List.setIfInBounds_toArray, List.set_cons_zero, List.set_cons_succ]
          refine wpAnyH_take (i := 17) (oi := { dst := some 29, op := Op.call { callee := Callee.value (Operand.tmp 23), args := #[Operand.tmp 24, Operand.tmp 28], argTypes := #[117, 3] }, type := 4, pos := "place.go:60", after := #[{ on := 11, ground := Ground.data }, { on := 12, ground := Ground.data }, { on := 16, ground := Ground.data }, { on := 10, ground := Ground.chain }, { on := 10, ground := Ground.guard }], guard := some (10, true) }) (v := undef) rfl (by kernel_rfl) (by kernel_rfl) (by kernel_rfl) (fun _ _ _ h => h) (Or.inr ⟨by rfl, rfl⟩) hHeld2 ?_
          simp only [Act.put, List.setIfInBounds_toArray, List.set_cons_zero, List.set_cons_succ]
          refine wpAnyH_take (i := 18) (oi := { dst := some 30, op := Op.unOp UnOp.not 4 (Operand.tmp 29), type := 4, pos := "place.go:60", after := #[{ on := 17, ground := Ground.data }, { on := 10, ground := Ground.guard }], guard := some (10, true) }) (v := undef) rfl (by kernel_rfl) (by kernel_rfl) (by kernel_rfl) (fun _ _ _ h => h) (Or.inr ⟨by rfl, rfl⟩) hHeld2 ?_
          simp only [Act.put, List.setIfInBounds_toArray, List.set_cons_zero, List.set_cons_succ]
          refine wpAnyH_take (i := 19) (oi := { dst := some 31, op := Op.pick (Operand.tmp 22) (Operand.tmp 30) (Operand.const (Value.bool false)), type := 4, pos := "place.go:60", after := #[{ on := 10, ground := Ground.data }, { on := 18, ground := Ground.data }], guard := none }) (v := ?v19) rfl (by kernel_rfl) (by kernel_rfl) (by kernel_rfl) (fun _ _ _ h => h) (Or.inl ⟨by rfl, ?hy19⟩) hHeld2 ?_
          case hy19 => intro w hSw; (try dsimp only at hSw); go_simp; try with_reducible rfl
          simp only [Act.put, List.setIfInBounds_toArray, List.set_cons_zero, List.set_cons_succ]
          refine wpAnyH_done (by kernel_rfl) ?_ _
          gi_wp2
          go_roundw
          case rel =>
            refine ⟨k + 1, by omega, by go_num, Lib.hid ?_, HBL.out⟩
            rw [HSN.out, HD.out]
            have h1 := HJ.out _ _ _ _ hj.out (grown_of_below (((Below.refl _ _).alloc (Nat.le_refl _) (.cells #[.int .i64 q.p.tk, .int .i64 q.p.fr, .int .i64 q.p.to, .int .i64 q.p.gp, .int .i64 q.p.fi, .int .i64 q.p.fo, .int .i64 q.p.lv, .int .i64 q.ix, .int .i64 q.st] 117)).drew.trans (HB1.out.mono (by simp)))) (by simp)
            simpa using h1
          case measure => simp [intOf]; omega
      · have d1 : decide (q.st ≤ t) = false := by simpa using c1
        have HD : Hid (sndB t q = false) := Lib.hid (by rw [sndB, d1]; rfl)
        gi_wp2
        refine wpIn_wide.2 ?_
        go_quiet (fail)
        gi_wp2
        go_roundw
        case rel =>
          refine ⟨k + 1, by omega, by go_num, Lib.hid ?_, (hb.alloc _).drewN _⟩
          rw [HSN.out, HD.out]
          have h1 := fun nq : Nat => HJ.out _ _ _ _ hj.out (grown_of_below (below_drewN_ ((Below.refl _ _).alloc (Nat.le_refl _) (.cells #[.int .i64 q.p.tk, .int .i64 q.p.fr, .int .i64 q.p.to, .int .i64 q.p.gp, .int .i64 q.p.fi, .int .i64 q.p.fo, .int .i64 q.p.lv, .int .i64 q.ix, .int .i64 q.st] 117)) nq)) (by simp)
          simpa using h1 _
        case measure => simp [intOf]; omega
    · gi_wp2
      go_end0
      exact ⟨⟨_, rfl⟩, by have := hj.out; rwa [List.take_of_length_le (by have := HN.out; omega)] at this⟩
end Go.Proofs.Ytjaomjbhkgijbaa

