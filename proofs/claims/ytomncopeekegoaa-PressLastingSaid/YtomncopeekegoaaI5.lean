/-
  The iterator of the ends: its rounds.
-/
import Derived.Test.YtomncopeekegoaaI4
import Derived.Test.YtomncopeekegoaaLH
namespace Go.Proofs.Ytomncopeekegoaa
open Go.RowKit Go.Shelf
attribute [local go_sem] Oper.semAt_some

set_option maxRecDepth 100000 in
set_option maxHeartbeats 4000000 in
theorem ends1_all (m bs bh B p b : Nat) (st rs : Int) (A : Option Addr) (n c : Nat) (l : List Int) (gg : Nat → Prop) (W0 : World) (hm : 1 ≤ m)
    (k1 : Blk W0 bs 37 #[.slice A n c]) (k2 : Blk W0 bh 109 #[.int .i64 p, .int .i64 b, .int .i64 st, .int .i64 rs]) (k3 : LI W0 B A n l) (hB : B ≤ W0.heap.size)
    (g1 : ¬ gg bs) (g2 : ¬ gg bh) (g3 : ∀ x, x < B → ¬ gg x) (hp : 1 ≤ p ∧ p ≤ 64) (hb : 1 ≤ b ∧ b ≤ 64) (hst : 1 ≤ st ∧ st ≤ 65536) (hrs : 1 ≤ rs ∧ rs ≤ 65536) (hn : n ≤ 1099511627776) (hl : ∀ x ∈ l, 0 ≤ x ∧ x ≤ 9223372036854775807) :
    SeqAll Fence.wide m Try.prog 93 #[.pointer (some ⟨bs, 0, none⟩), .pointer (some ⟨bh, 0, none⟩)] encU gg (endU p b st rs l) W0 := fun L J W hW hJ hY h0 => by
  have c1 : W.cell? ⟨bs, 0, none⟩ = some (.slice A n c) := (hW.cell (p := ⟨bs, 0, none⟩) k1.lt).trans k1.one.1
  have c2 : W.cell? ⟨bh, 0, none⟩ = some (.int .i64 p) := (hW.cell (p := ⟨bh, 0, none⟩) k2.lt).trans ((k2.cell 0).trans rfl)
  have c3 : W.cell? ⟨bh, 1, none⟩ = some (.int .i64 b) := (hW.cell (p := ⟨bh, 1, none⟩) k2.lt).trans ((k2.cell 1).trans rfl)
  have c4 : W.cell? ⟨bh, 2, none⟩ = some (.int .i64 st) := (hW.cell (p := ⟨bh, 2, none⟩) k2.lt).trans ((k2.cell 2).trans rfl)
  have c5 : W.cell? ⟨bh, 3, none⟩ = some (.int .i64 rs) := (hW.cell (p := ⟨bh, 3, none⟩) k2.lt).trans ((k2.cell 3).trans rfl)
  have s1 : IntKind.i64.wrap (st + rs) = st + rs := IntWalk.i64_in _ (by omega)
  have s2 : IntKind.u64.wrap (st + rs) = st + rs := IntWalk.u64_in _ (by omega)
  have s3 : IntKind.u64.wrap st = st := IntWalk.u64_in _ (by omega)
  have hln : n = l.length := k3.1
  have HG := Lib.hid (And.intro g1 g2)
  have HJ := Lib.hid hJ
  have hlast : ∀ (q : Nat), 1 ≤ q → q ≤ n → ∃ (i : Nat) (ad : Addr) (x : Int), A = some ad ∧ n - q = i ∧ i < n ∧ (n : Int) - q = (i : Int) ∧ IntKind.i64.wrap ((n : Int) - q) = (i : Int) ∧ l.getD (l.length - q) 0 = x ∧ ad.block < B ∧ W.cell? (ad.add i) = some (.int .i64 x) ∧ 0 ≤ x ∧ x ≤ 9223372036854775807 := by
    intro q q1 q2
    have il : n - q < l.length := by omega
    obtain ⟨ad, hA, hbl, hx⟩ := k3.at_ il
    have hxl := hl _ (List.getElem_mem il)
    refine ⟨n - q, ad, l[n - q], hA, rfl, by omega, by omega, ?_, ?_, hbl, (hW.cell (p := ad.add (n - q)) (by rw [block_of_add]; omega)).trans hx, hxl.1, hxl.2⟩
    · rw [show (n : Int) - q = ((n - q : Nat) : Int) by omega]; exact IntWalk.i64_in _ (by omega)
    · rw [← hln]; simp [il]
  have HN := Lib.hid hln
  have HY := Lib.hid hY
  have HC := Lib.hid (And.intro c1 (And.intro c2 (And.intro c3 (And.intro c4 c5))))
  have G3 := Lib.hid g3
  have H0 : Hid (J [] W.drew) := Lib.hid (hJ [] W W.drew none h0 (grown_dr W) (by simp))
  clear hY h0 hln hl k1 k2 k3 hW g1 g2 g3 hJ
  refine callsIn_of_wp Try.func93 rfl trivial ?_ rfl
  simp only [Try.ntmps93, List.size_toArray, List.length_cons, List.length_nil, Nat.reduceAdd, Nat.reduceSub, Array.replicate_succ, Array.replicate_zero, List.push_toArray, List.append_toArray, List.nil_append, List.cons_append]
  by_cases q1 : b ≤ n
  · obtain ⟨i1, ad1, x, hA1, f1, f2, f3, f4, f5, f6, f7, f8, f9⟩ := hlast b hb.1 q1
    have t1 : IntKind.u64.wrap x = x := IntWalk.u64_in _ (by omega)
    have t2 : IntKind.u64.wrap (x + st) = x + st := IntWalk.u64_in _ (by omega)
    have pU : [x + st] <+: endU p b st rs l := by unfold endU; rw [if_pos (HN.out ▸ q1), f5]; exact List.prefix_append _ _
    obtain ⟨fn, tm, as_, bo, hy, hR⟩ := HY.out [] (x + st) W.drew H0.out pU
    have HX := Lib.hid f5
    have HR := Lib.hid hR
    have HL := Lib.hid hlast
    clear hR hlast f1 f3 f5 pU
    dsimp only [encU] at hy
    obtain rfl := hA1
    have g1 : (b : Int) ≤ (n : Int) := by omega
    have g2 : (i1 : Int) < (n : Int) := by omega
    have g3 : (0 : Int) ≤ (i1 : Int) := by omega
    gi_wp2_with fail
    --<1
    refine wpIn_region_heldIn (S := fun w' => w'.cell? ⟨bs, 0, none⟩ = some (.slice (some ad1) n c) ∧ w'.cell? ⟨bh, 0, none⟩ = some (.int .i64 p) ∧ w'.cell? ⟨bh, 1, none⟩ = some (.int .i64 b) ∧ w'.cell? ⟨bh, 2, none⟩ = some (.int .i64 st) ∧ w'.cell? ⟨bh, 3, none⟩ = some (.int .i64 rs) ∧ w'.cell? (ad1.add i1) = some (.int .i64 x)) (by kernel_rfl) ⟨c1, c2, c3, c4, c5, f7⟩ (fun hHeld => ?_)
    refine wpHeldIn_take (i := 0) (oi := { dst := some 7, op := Go.Op.move (Go.Operand.tmp 4), type := 3, pos := "boiler.go:62", after := #[], guard := none }) (v := ?vt1) rfl rfl (by kernel_rfl) (by kernel_rfl) (by kernel_rfl) (fun _ _ _ h => h) (Or.inl ⟨by rfl, ?ht1⟩) (fun _ => rfl) hHeld ?_
    case ht1 => intro w hSw; (try obtain ⟨z1, z2, z3, z4, z5, z6⟩ := hSw); go_simp; try with_reducible rfl
    simp only [Act.put, List.setIfInBounds_toArray, List.set_cons_zero, List.set_cons_succ]
    refine wpHeldIn_take (i := 1) (oi := { dst := some 8, op := Go.Op.fieldAddr 109 (Go.Operand.tmp 2) 1, type := 0, pos := "boiler.go:62", after := #[], guard := none }) (v := ?vt2) rfl rfl (by kernel_rfl) (by kernel_rfl) (by kernel_rfl) (fun _ _ _ h => h) (Or.inl ⟨by rfl, ?ht2⟩) (fun _ => rfl) hHeld ?_
    case ht2 => intro w hSw; (try obtain ⟨z1, z2, z3, z4, z5, z6⟩ := hSw); go_simp; try with_reducible rfl
    simp only [Act.put, List.setIfInBounds_toArray, List.set_cons_zero, List.set_cons_succ]
    refine wpHeldIn_take (i := 2) (oi := { dst := some 9, op := Go.Op.load 3 (Go.Operand.tmp 8), type := 3, pos := "boiler.go:62", after := #[{ on := 1, ground := Go.Ground.data }], guard := none }) (v := ?vt3) rfl rfl (by kernel_rfl) (by kernel_rfl) (by kernel_rfl) (fun _ _ _ h => h) (Or.inl ⟨by rfl, ?ht3⟩) (fun _ => rfl) hHeld ?_
    case ht3 => intro w hSw; (try obtain ⟨z1, z2, z3, z4, z5, z6⟩ := hSw); go_simp; try with_reducible rfl
    simp only [Act.put, List.setIfInBounds_toArray, List.set_cons_zero, List.set_cons_succ]
    refine wpHeldIn_take (i := 3) (oi := { dst := some 10, op := Go.Op.binOp Go.BinOp.geq 3 (Go.Operand.tmp 7) (Go.Operand.tmp 9) 3, type := 4, pos := "boiler.go:62", after := #[{ on := 0, ground := Go.Ground.data }, { on := 2, ground := Go.Ground.data }], guard := none }) (v := ?vt4) rfl rfl (by kernel_rfl) (by kernel_rfl) (by kernel_rfl) (fun _ _ _ h => h) (Or.inl ⟨by rfl, ?ht4⟩) (fun _ => rfl) hHeld ?_
    case ht4 => intro w hSw; (try obtain ⟨z1, z2, z3, z4, z5, z6⟩ := hSw); go_simp; try with_reducible rfl
    simp only [Act.put, List.setIfInBounds_toArray, List.set_cons_zero, List.set_cons_succ]
    refine wpHeldIn_take (i := 4) (oi := { dst := some 11, op := Go.Op.move (Go.Operand.tmp 10), type := 4, pos := "boiler.go:62", after := #[{ on := 3, ground := Go.Ground.data }], guard := none }) (v := ?vt5) rfl rfl (by kernel_rfl) (by kernel_rfl) (by kernel_rfl) (fun _ _ _ h => h) (Or.inl ⟨by rfl, ?ht5⟩) (fun _ => rfl) hHeld ?_
    case ht5 => intro w hSw; (try obtain ⟨z1, z2, z3, z4, z5, z6⟩ := hSw); go_simp; try with_reducible rfl
    simp only [Act.put, List.setIfInBounds_toArray, List.set_cons_zero, List.set_cons_succ]
    refine wpHeldIn_take (i := 5) (oi := { dst := some 12, op := Go.Op.move (Go.Operand.tmp 0), type := 146, pos := "boiler.go:62", after := #[{ on := 4, ground := Go.Ground.guard }], guard := some (4, true) }) (v := ?vt6) rfl rfl (by kernel_rfl) (by kernel_rfl) (by kernel_rfl) (fun _ _ _ h => h) (Or.inl ⟨by rfl, ?ht6⟩) (fun _ => rfl) hHeld ?_
    case ht6 => intro w hSw; (try obtain ⟨z1, z2, z3, z4, z5, z6⟩ := hSw); go_simp; try with_reducible rfl
    simp only [Act.put, List.setIfInBounds_toArray, List.set_cons_zero, List.set_cons_succ]
    refine wpHeldIn_take (i := 6) (oi := { dst := some 13, op := Go.Op.load 37 (Go.Operand.tmp 1), type := 37, pos := "boiler.go:62", after := #[{ on := 4, ground := Go.Ground.guard }], guard := some (4, true) }) (v := ?vt7) rfl rfl (by kernel_rfl) (by kernel_rfl) (by kernel_rfl) (fun _ _ _ h => h) (Or.inl ⟨by rfl, ?ht7⟩) (fun _ => rfl) hHeld ?_
    case ht7 => intro w hSw; (try obtain ⟨z1, z2, z3, z4, z5, z6⟩ := hSw); go_simp; try with_reducible rfl
    simp only [Act.put, List.setIfInBounds_toArray, List.set_cons_zero, List.set_cons_succ]
    refine wpHeldIn_take (i := 7) (oi := { dst := some 14, op := Go.Op.move (Go.Operand.tmp 4), type := 3, pos := "boiler.go:62", after := #[{ on := 4, ground := Go.Ground.guard }], guard := some (4, true) }) (v := ?vt8) rfl rfl (by kernel_rfl) (by kernel_rfl) (by kernel_rfl) (fun _ _ _ h => h) (Or.inl ⟨by rfl, ?ht8⟩) (fun _ => rfl) hHeld ?_
    case ht8 => intro w hSw; (try obtain ⟨z1, z2, z3, z4, z5, z6⟩ := hSw); go_simp; try with_reducible rfl
    simp only [Act.put, List.setIfInBounds_toArray, List.set_cons_zero, List.set_cons_succ]
    refine wpHeldIn_take (i := 8) (oi := { dst := some 15, op := Go.Op.fieldAddr 109 (Go.Operand.tmp 2) 1, type := 0, pos := "boiler.go:62", after := #[{ on := 4, ground := Go.Ground.guard }], guard := some (4, true) }) (v := ?vt9) rfl rfl (by kernel_rfl) (by kernel_rfl) (by kernel_rfl) (fun _ _ _ h => h) (Or.inl ⟨by rfl, ?ht9⟩) (fun _ => rfl) hHeld ?_
    case ht9 => intro w hSw; (try obtain ⟨z1, z2, z3, z4, z5, z6⟩ := hSw); go_simp; try with_reducible rfl
    simp only [Act.put, List.setIfInBounds_toArray, List.set_cons_zero, List.set_cons_succ]
    refine wpHeldIn_take (i := 9) (oi := { dst := some 16, op := Go.Op.load 3 (Go.Operand.tmp 15), type := 3, pos := "boiler.go:62", after := #[{ on := 8, ground := Go.Ground.data }, { on := 4, ground := Go.Ground.guard }], guard := some (4, true) }) (v := ?vt10) rfl rfl (by kernel_rfl) (by kernel_rfl) (by kernel_rfl) (fun _ _ _ h => h) (Or.inl ⟨by rfl, ?ht10⟩) (fun _ => rfl) hHeld ?_
    case ht10 => intro w hSw; (try obtain ⟨z1, z2, z3, z4, z5, z6⟩ := hSw); go_simp; try with_reducible rfl
    simp only [Act.put, List.setIfInBounds_toArray, List.set_cons_zero, List.set_cons_succ]
    refine wpHeldIn_take (i := 10) (oi := { dst := some 17, op := Go.Op.binOp Go.BinOp.sub 3 (Go.Operand.tmp 14) (Go.Operand.tmp 16) 3, type := 3, pos := "boiler.go:62", after := #[{ on := 7, ground := Go.Ground.data }, { on := 9, ground := Go.Ground.data }, { on := 4, ground := Go.Ground.guard }], guard := some (4, true) }) (v := ?vt11) rfl rfl (by kernel_rfl) (by kernel_rfl) (by kernel_rfl) (fun _ _ _ h => h) (Or.inl ⟨by rfl, ?ht11⟩) (fun _ => rfl) hHeld ?_
    case ht11 => intro w hSw; (try obtain ⟨z1, z2, z3, z4, z5, z6⟩ := hSw); go_simp; try with_reducible rfl
    simp only [Act.put, List.setIfInBounds_toArray, List.set_cons_zero, List.set_cons_succ]
    refine wpHeldIn_take (i := 11) (oi := { dst := some 18, op := Go.Op.indexAddr 37 (Go.Operand.tmp 13) (Go.Operand.tmp 17), type := 0, pos := "boiler.go:62", after := #[{ on := 6, ground := Go.Ground.data }, { on := 10, ground := Go.Ground.data }, { on := 4, ground := Go.Ground.guard }], guard := some (4, true) }) (v := ?vt12) rfl rfl (by kernel_rfl) (by kernel_rfl) (by kernel_rfl) (fun _ _ _ h => h) (Or.inl ⟨by rfl, ?ht12⟩) (fun _ => rfl) hHeld ?_
    case ht12 => intro w hSw; (try obtain ⟨z1, z2, z3, z4, z5, z6⟩ := hSw); go_simp; try with_reducible rfl
    simp only [Act.put, List.setIfInBounds_toArray, List.set_cons_zero, List.set_cons_succ]
    refine wpHeldIn_take (i := 12) (oi := { dst := some 19, op := Go.Op.load 2 (Go.Operand.tmp 18), type := 2, pos := "boiler.go:62", after := #[{ on := 11, ground := Go.Ground.data }, { on := 4, ground := Go.Ground.guard }], guard := some (4, true) }) (v := ?vt13) rfl rfl (by kernel_rfl) (by kernel_rfl) (by kernel_rfl) (fun _ _ _ h => h) (Or.inl ⟨by rfl, ?ht13⟩) (fun _ => rfl) hHeld ?_
    case ht13 => intro w hSw; (try obtain ⟨z1, z2, z3, z4, z5, z6⟩ := hSw); go_simp; try with_reducible rfl
    simp only [Act.put, List.setIfInBounds_toArray, List.set_cons_zero, List.set_cons_succ]
    refine wpHeldIn_take (i := 13) (oi := { dst := some 20, op := Go.Op.convert 2 111 (Go.Operand.tmp 19), type := 111, pos := "boiler.go:62", after := #[{ on := 12, ground := Go.Ground.data }, { on := 4, ground := Go.Ground.guard }], guard := some (4, true) }) (v := ?vt14) rfl rfl (by kernel_rfl) (by kernel_rfl) (by kernel_rfl) (fun _ _ _ h => h) (Or.inl ⟨by rfl, ?ht14⟩) (fun _ => rfl) hHeld ?_
    case ht14 => intro w hSw; (try obtain ⟨z1, z2, z3, z4, z5, z6⟩ := hSw); go_simp; try with_reducible rfl
    simp only [Act.put, List.setIfInBounds_toArray, List.set_cons_zero, List.set_cons_succ]
    refine wpHeldIn_take (i := 14) (oi := { dst := some 21, op := Go.Op.fieldAddr 109 (Go.Operand.tmp 2) 2, type := 0, pos := "boiler.go:62", after := #[{ on := 4, ground := Go.Ground.guard }], guard := some (4, true) }) (v := ?vt15) rfl rfl (by kernel_rfl) (by kernel_rfl) (by kernel_rfl) (fun _ _ _ h => h) (Or.inl ⟨by rfl, ?ht15⟩) (fun _ => rfl) hHeld ?_
    case ht15 => intro w hSw; (try obtain ⟨z1, z2, z3, z4, z5, z6⟩ := hSw); go_simp; try with_reducible rfl
    simp only [Act.put, List.setIfInBounds_toArray, List.set_cons_zero, List.set_cons_succ]
    refine wpHeldIn_take (i := 15) (oi := { dst := some 22, op := Go.Op.load 2 (Go.Operand.tmp 21), type := 2, pos := "boiler.go:62", after := #[{ on := 14, ground := Go.Ground.data }, { on := 4, ground := Go.Ground.guard }], guard := some (4, true) }) (v := ?vt16) rfl rfl (by kernel_rfl) (by kernel_rfl) (by kernel_rfl) (fun _ _ _ h => h) (Or.inl ⟨by rfl, ?ht16⟩) (fun _ => rfl) hHeld ?_
    case ht16 => intro w hSw; (try obtain ⟨z1, z2, z3, z4, z5, z6⟩ := hSw); go_simp; try with_reducible rfl
    simp only [Act.put, List.setIfInBounds_toArray, List.set_cons_zero, List.set_cons_succ]
    refine wpHeldIn_take (i := 16) (oi := { dst := some 23, op := Go.Op.convert 2 111 (Go.Operand.tmp 22), type := 111, pos := "boiler.go:62", after := #[{ on := 15, ground := Go.Ground.data }, { on := 4, ground := Go.Ground.guard }], guard := some (4, true) }) (v := ?vt17) rfl rfl (by kernel_rfl) (by kernel_rfl) (by kernel_rfl) (fun _ _ _ h => h) (Or.inl ⟨by rfl, ?ht17⟩) (fun _ => rfl) hHeld ?_
    case ht17 => intro w hSw; (try obtain ⟨z1, z2, z3, z4, z5, z6⟩ := hSw); go_simp; try with_reducible rfl
    simp only [Act.put, List.setIfInBounds_toArray, List.set_cons_zero, List.set_cons_succ]
    refine wpHeldIn_take (i := 17) (oi := { dst := some 24, op := Go.Op.binOp Go.BinOp.add 111 (Go.Operand.tmp 20) (Go.Operand.tmp 23) 111, type := 111, pos := "boiler.go:62", after := #[{ on := 13, ground := Go.Ground.data }, { on := 16, ground := Go.Ground.data }, { on := 4, ground := Go.Ground.guard }], guard := some (4, true) }) (v := ?vt18) rfl rfl (by kernel_rfl) (by kernel_rfl) (by kernel_rfl) (fun _ _ _ h => h) (Or.inl ⟨by rfl, ?ht18⟩) (fun _ => rfl) hHeld ?_
    case ht18 => intro w hSw; (try obtain ⟨z1, z2, z3, z4, z5, z6⟩ := hSw); go_simp; try with_reducible rfl
    simp only [Act.put, List.setIfInBounds_toArray, List.set_cons_zero, List.set_cons_succ]
    refine wpHeldIn_one (i := 18) (by kernel_rfl) rfl (fun K hK => ?_)
    go_simp
    refine HR.out.mono ?_
    rintro e w2 ⟨rfl, hj2, hb2, -⟩
    have HJ2 := Lib.hid hj2
    have HBL := Lib.hid hb2
    clear hj2 hb2
    have c1 := HBL.out.cell HC.out.1 HG.out.1
    have c2 := HBL.out.cell HC.out.2.1 HG.out.2
    have c3 := HBL.out.cell HC.out.2.2.1 HG.out.2
    have c4 := HBL.out.cell HC.out.2.2.2.1 HG.out.2
    have c5 := HBL.out.cell HC.out.2.2.2.2 HG.out.2
    have cx := HBL.out.cell f7 (G3.out _ (by rw [block_of_add]; exact f6))
    refine hK.out _ _ ?_ (fun hH19 => ?_)
    · exact ⟨c1, c2, c3, c4, c5, cx⟩
    clear hK K
    refine wpHeldIn_take (i := 19) (oi := { dst := some 26, op := Go.Op.unOp Go.UnOp.not 4 (Go.Operand.tmp 25), type := 4, pos := "boiler.go:62", after := #[{ on := 18, ground := Go.Ground.data }, { on := 4, ground := Go.Ground.guard }], guard := some (4, true) }) (v := ?vt20) rfl rfl (by kernel_rfl) (by kernel_rfl) (by kernel_rfl) (fun _ _ _ h => h) (Or.inl ⟨by rfl, ?ht20⟩) (fun _ => rfl) hH19 ?_
    case ht20 => intro w hSw; (try obtain ⟨z1, z2, z3, z4, z5, z6⟩ := hSw); go_simp; try with_reducible rfl
    simp only [Act.put, List.setIfInBounds_toArray, List.set_cons_zero, List.set_cons_succ]
    refine wpHeldIn_take (i := 20) (oi := { dst := some 27, op := Go.Op.pick (Go.Operand.tmp 11) (Go.Operand.tmp 26) (Go.Operand.const (Go.Value.bool false)), type := 4, pos := "boiler.go:62", after := #[{ on := 4, ground := Go.Ground.data }, { on := 19, ground := Go.Ground.data }], guard := none }) (v := ?vt21) rfl rfl (by kernel_rfl) (by kernel_rfl) (by kernel_rfl) (fun _ _ _ h => h) (Or.inl ⟨by rfl, ?ht21⟩) (fun _ => rfl) hH19 ?_
    case ht21 => intro w hSw; (try obtain ⟨z1, z2, z3, z4, z5, z6⟩ := hSw); go_simp; try with_reducible rfl
    simp only [Act.put, List.setIfInBounds_toArray, List.set_cons_zero, List.set_cons_succ]
    refine wpHeldIn_done (by kernel_rfl) ?_ _
    --1>
    clear hy HR
    by_cases q2 : p ≤ n
    · have r1 : (p : Int) ≤ (n : Int) := by omega
      obtain ⟨i2, ad2, y, hA2, -, j2, -, j4, j5, j6, j7, j8, j9⟩ := HL.out p hp.1 q2
      have u1 : IntKind.u64.wrap y = y := IntWalk.u64_in _ (by omega)
      have u2 : IntKind.u64.wrap (y + (st + rs)) = y + (st + rs) := IntWalk.u64_in _ (by omega)
      have hU : endU p b st rs l = [x + st] ++ [y + (st + rs)] := by unfold endU; rw [if_pos (HN.out ▸ q1), if_pos (HN.out ▸ q2), HX.out, j5]
      have HU := Lib.hid hU
      have pU : [x + st] ++ [y + (st + rs)] <+: endU p b st rs l := by rw [hU]; exact List.prefix_refl _
      obtain ⟨fn', tm', as', bo', hy', hR'⟩ := HY.out [x + st] (y + (st + rs)) w2.drew (HJ.out [x + st] w2 w2.drew none HJ2.out (grown_dr w2) (by simp)) pU
      have HR' := Lib.hid hR'
      have j7' := HBL.out.cell j7 (G3.out _ (by rw [block_of_add]; exact j6))
      have g2 : (i2 : Int) < (n : Int) := by omega
      have g3 : (0 : Int) ≤ (i2 : Int) := by omega
      clear hR' hU pU j5
      dsimp only [encU] at hy'
      cases hA2
      gi_wp2_with fail
      --<2
      refine wpIn_region_heldIn (S := fun w' => w'.cell? ⟨bs, 0, none⟩ = some (.slice (some ad1) n c) ∧ w'.cell? ⟨bh, 0, none⟩ = some (.int .i64 p) ∧ w'.cell? ⟨bh, 1, none⟩ = some (.int .i64 b) ∧ w'.cell? ⟨bh, 2, none⟩ = some (.int .i64 st) ∧ w'.cell? ⟨bh, 3, none⟩ = some (.int .i64 rs) ∧ w'.cell? (ad1.add i2) = some (.int .i64 y)) (by kernel_rfl) ⟨c1, c2, c3, c4, c5, j7'⟩ (fun hHeld => ?_)
      refine wpHeldIn_take (i := 0) (oi := { dst := some 32, op := Go.Op.move (Go.Operand.tmp 0), type := 146, pos := "boiler.go:66", after := #[], guard := none }) (v := ?vt101) rfl rfl (by kernel_rfl) (by kernel_rfl) (by kernel_rfl) (fun _ _ _ h => h) (Or.inl ⟨by rfl, ?ht101⟩) (fun _ => rfl) hHeld ?_
      case ht101 => intro w hSw; (try obtain ⟨z1, z2, z3, z4, z5, z6⟩ := hSw); go_simp; try with_reducible rfl
      simp only [Act.put, List.setIfInBounds_toArray, List.set_cons_zero, List.set_cons_succ]
      refine wpHeldIn_take (i := 1) (oi := { dst := some 33, op := Go.Op.load 37 (Go.Operand.tmp 1), type := 37, pos := "boiler.go:66", after := #[], guard := none }) (v := ?vt102) rfl rfl (by kernel_rfl) (by kernel_rfl) (by kernel_rfl) (fun _ _ _ h => h) (Or.inl ⟨by rfl, ?ht102⟩) (fun _ => rfl) hHeld ?_
      case ht102 => intro w hSw; (try obtain ⟨z1, z2, z3, z4, z5, z6⟩ := hSw); go_simp; try with_reducible rfl
      simp only [Act.put, List.setIfInBounds_toArray, List.set_cons_zero, List.set_cons_succ]
      refine wpHeldIn_take (i := 2) (oi := { dst := some 34, op := Go.Op.move (Go.Operand.tmp 4), type := 3, pos := "boiler.go:66", after := #[], guard := none }) (v := ?vt103) rfl rfl (by kernel_rfl) (by kernel_rfl) (by kernel_rfl) (fun _ _ _ h => h) (Or.inl ⟨by rfl, ?ht103⟩) (fun _ => rfl) hHeld ?_
      case ht103 => intro w hSw; (try obtain ⟨z1, z2, z3, z4, z5, z6⟩ := hSw); go_simp; try with_reducible rfl
      simp only [Act.put, List.setIfInBounds_toArray, List.set_cons_zero, List.set_cons_succ]
      refine wpHeldIn_take (i := 3) (oi := { dst := some 35, op := Go.Op.fieldAddr 109 (Go.Operand.tmp 2) 0, type := 0, pos := "boiler.go:66", after := #[], guard := none }) (v := ?vt104) rfl rfl (by kernel_rfl) (by kernel_rfl) (by kernel_rfl) (fun _ _ _ h => h) (Or.inl ⟨by rfl, ?ht104⟩) (fun _ => rfl) hHeld ?_
      case ht104 => intro w hSw; (try obtain ⟨z1, z2, z3, z4, z5, z6⟩ := hSw); go_simp; try with_reducible rfl
      simp only [Act.put, List.setIfInBounds_toArray, List.set_cons_zero, List.set_cons_succ]
      refine wpHeldIn_take (i := 4) (oi := { dst := some 36, op := Go.Op.load 3 (Go.Operand.tmp 35), type := 3, pos := "boiler.go:66", after := #[{ on := 3, ground := Go.Ground.data }], guard := none }) (v := ?vt105) rfl rfl (by kernel_rfl) (by kernel_rfl) (by kernel_rfl) (fun _ _ _ h => h) (Or.inl ⟨by rfl, ?ht105⟩) (fun _ => rfl) hHeld ?_
      case ht105 => intro w hSw; (try obtain ⟨z1, z2, z3, z4, z5, z6⟩ := hSw); go_simp; try with_reducible rfl
      simp only [Act.put, List.setIfInBounds_toArray, List.set_cons_zero, List.set_cons_succ]
      refine wpHeldIn_take (i := 5) (oi := { dst := some 37, op := Go.Op.binOp Go.BinOp.sub 3 (Go.Operand.tmp 34) (Go.Operand.tmp 36) 3, type := 3, pos := "boiler.go:66", after := #[{ on := 2, ground := Go.Ground.data }, { on := 4, ground := Go.Ground.data }], guard := none }) (v := ?vt106) rfl rfl (by kernel_rfl) (by kernel_rfl) (by kernel_rfl) (fun _ _ _ h => h) (Or.inl ⟨by rfl, ?ht106⟩) (fun _ => rfl) hHeld ?_
      case ht106 => intro w hSw; (try obtain ⟨z1, z2, z3, z4, z5, z6⟩ := hSw); go_simp; try with_reducible rfl
      simp only [Act.put, List.setIfInBounds_toArray, List.set_cons_zero, List.set_cons_succ]
      refine wpHeldIn_take (i := 6) (oi := { dst := some 38, op := Go.Op.indexAddr 37 (Go.Operand.tmp 33) (Go.Operand.tmp 37), type := 0, pos := "boiler.go:66", after := #[{ on := 1, ground := Go.Ground.data }, { on := 5, ground := Go.Ground.data }], guard := none }) (v := ?vt107) rfl rfl (by kernel_rfl) (by kernel_rfl) (by kernel_rfl) (fun _ _ _ h => h) (Or.inl ⟨by rfl, ?ht107⟩) (fun _ => rfl) hHeld ?_
      case ht107 => intro w hSw; (try obtain ⟨z1, z2, z3, z4, z5, z6⟩ := hSw); go_simp; try with_reducible rfl
      simp only [Act.put, List.setIfInBounds_toArray, List.set_cons_zero, List.set_cons_succ]
      refine wpHeldIn_take (i := 7) (oi := { dst := some 39, op := Go.Op.load 2 (Go.Operand.tmp 38), type := 2, pos := "boiler.go:66", after := #[{ on := 6, ground := Go.Ground.data }], guard := none }) (v := ?vt108) rfl rfl (by kernel_rfl) (by kernel_rfl) (by kernel_rfl) (fun _ _ _ h => h) (Or.inl ⟨by rfl, ?ht108⟩) (fun _ => rfl) hHeld ?_
      case ht108 => intro w hSw; (try obtain ⟨z1, z2, z3, z4, z5, z6⟩ := hSw); go_simp; try with_reducible rfl
      simp only [Act.put, List.setIfInBounds_toArray, List.set_cons_zero, List.set_cons_succ]
      refine wpHeldIn_take (i := 8) (oi := { dst := some 40, op := Go.Op.convert 2 111 (Go.Operand.tmp 39), type := 111, pos := "boiler.go:66", after := #[{ on := 7, ground := Go.Ground.data }], guard := none }) (v := ?vt109) rfl rfl (by kernel_rfl) (by kernel_rfl) (by kernel_rfl) (fun _ _ _ h => h) (Or.inl ⟨by rfl, ?ht109⟩) (fun _ => rfl) hHeld ?_
      case ht109 => intro w hSw; (try obtain ⟨z1, z2, z3, z4, z5, z6⟩ := hSw); go_simp; try with_reducible rfl
      simp only [Act.put, List.setIfInBounds_toArray, List.set_cons_zero, List.set_cons_succ]
      refine wpHeldIn_take (i := 9) (oi := { dst := some 41, op := Go.Op.fieldAddr 109 (Go.Operand.tmp 2) 2, type := 0, pos := "boiler.go:66", after := #[], guard := none }) (v := ?vt110) rfl rfl (by kernel_rfl) (by kernel_rfl) (by kernel_rfl) (fun _ _ _ h => h) (Or.inl ⟨by rfl, ?ht110⟩) (fun _ => rfl) hHeld ?_
      case ht110 => intro w hSw; (try obtain ⟨z1, z2, z3, z4, z5, z6⟩ := hSw); go_simp; try with_reducible rfl
      simp only [Act.put, List.setIfInBounds_toArray, List.set_cons_zero, List.set_cons_succ]
      refine wpHeldIn_take (i := 10) (oi := { dst := some 42, op := Go.Op.load 2 (Go.Operand.tmp 41), type := 2, pos := "boiler.go:66", after := #[{ on := 9, ground := Go.Ground.data }], guard := none }) (v := ?vt111) rfl rfl (by kernel_rfl) (by kernel_rfl) (by kernel_rfl) (fun _ _ _ h => h) (Or.inl ⟨by rfl, ?ht111⟩) (fun _ => rfl) hHeld ?_
      case ht111 => intro w hSw; (try obtain ⟨z1, z2, z3, z4, z5, z6⟩ := hSw); go_simp; try with_reducible rfl
      simp only [Act.put, List.setIfInBounds_toArray, List.set_cons_zero, List.set_cons_succ]
      refine wpHeldIn_take (i := 11) (oi := { dst := some 43, op := Go.Op.fieldAddr 109 (Go.Operand.tmp 2) 3, type := 0, pos := "boiler.go:66", after := #[], guard := none }) (v := ?vt112) rfl rfl (by kernel_rfl) (by kernel_rfl) (by kernel_rfl) (fun _ _ _ h => h) (Or.inl ⟨by rfl, ?ht112⟩) (fun _ => rfl) hHeld ?_
      case ht112 => intro w hSw; (try obtain ⟨z1, z2, z3, z4, z5, z6⟩ := hSw); go_simp; try with_reducible rfl
      simp only [Act.put, List.setIfInBounds_toArray, List.set_cons_zero, List.set_cons_succ]
      refine wpHeldIn_take (i := 12) (oi := { dst := some 44, op := Go.Op.load 2 (Go.Operand.tmp 43), type := 2, pos := "boiler.go:66", after := #[{ on := 11, ground := Go.Ground.data }], guard := none }) (v := ?vt113) rfl rfl (by kernel_rfl) (by kernel_rfl) (by kernel_rfl) (fun _ _ _ h => h) (Or.inl ⟨by rfl, ?ht113⟩) (fun _ => rfl) hHeld ?_
      case ht113 => intro w hSw; (try obtain ⟨z1, z2, z3, z4, z5, z6⟩ := hSw); go_simp; try with_reducible rfl
      simp only [Act.put, List.setIfInBounds_toArray, List.set_cons_zero, List.set_cons_succ]
      refine wpHeldIn_take (i := 13) (oi := { dst := some 45, op := Go.Op.binOp Go.BinOp.add 2 (Go.Operand.tmp 42) (Go.Operand.tmp 44) 2, type := 2, pos := "boiler.go:66", after := #[{ on := 10, ground := Go.Ground.data }, { on := 12, ground := Go.Ground.data }], guard := none }) (v := ?vt114) rfl rfl (by kernel_rfl) (by kernel_rfl) (by kernel_rfl) (fun _ _ _ h => h) (Or.inl ⟨by rfl, ?ht114⟩) (fun _ => rfl) hHeld ?_
      case ht114 => intro w hSw; (try obtain ⟨z1, z2, z3, z4, z5, z6⟩ := hSw); go_simp; try with_reducible rfl
      simp only [Act.put, List.setIfInBounds_toArray, List.set_cons_zero, List.set_cons_succ]
      refine wpHeldIn_take (i := 14) (oi := { dst := some 46, op := Go.Op.convert 2 111 (Go.Operand.tmp 45), type := 111, pos := "boiler.go:66", after := #[{ on := 13, ground := Go.Ground.data }], guard := none }) (v := ?vt115) rfl rfl (by kernel_rfl) (by kernel_rfl) (by kernel_rfl) (fun _ _ _ h => h) (Or.inl ⟨by rfl, ?ht115⟩) (fun _ => rfl) hHeld ?_
      case ht115 => intro w hSw; (try obtain ⟨z1, z2, z3, z4, z5, z6⟩ := hSw); go_simp; try with_reducible rfl
      simp only [Act.put, List.setIfInBounds_toArray, List.set_cons_zero, List.set_cons_succ]
      refine wpHeldIn_take (i := 15) (oi := { dst := some 47, op := Go.Op.binOp Go.BinOp.add 111 (Go.Operand.tmp 40) (Go.Operand.tmp 46) 111, type := 111, pos := "boiler.go:66", after := #[{ on := 8, ground := Go.Ground.data }, { on := 14, ground := Go.Ground.data }], guard := none }) (v := ?vt116) rfl rfl (by kernel_rfl) (by kernel_rfl) (by kernel_rfl) (fun _ _ _ h => h) (Or.inl ⟨by rfl, ?ht116⟩) (fun _ => rfl) hHeld ?_
      case ht116 => intro w hSw; (try obtain ⟨z1, z2, z3, z4, z5, z6⟩ := hSw); go_simp; try with_reducible rfl
      simp only [Act.put, List.setIfInBounds_toArray, List.set_cons_zero, List.set_cons_succ]
      refine wpHeldIn_one (i := 16) (by kernel_rfl) rfl (fun K hK => ?_)
      go_simp
      refine HR'.out.mono ?_
      rintro e w3 ⟨rfl, hj3, hb3, -⟩
      have HJ3 := Lib.hid hj3
      have HBL3 := Lib.hid (HBL.out.drew.trans hb3)
      clear hj3 hb3
      refine hK.out _ _ ?_ (fun hH117 => ?_)
      · exact ⟨HBL3.out.cell HC.out.1 HG.out.1, HBL3.out.cell HC.out.2.1 HG.out.2, HBL3.out.cell HC.out.2.2.1 HG.out.2, HBL3.out.cell HC.out.2.2.2.1 HG.out.2, HBL3.out.cell HC.out.2.2.2.2 HG.out.2, HBL3.out.cell j7 (G3.out _ (by rw [block_of_add]; exact j6))⟩
      clear hK K
      refine wpHeldIn_done (by kernel_rfl) ?_ _
      --2>
      gi_wp2
      go_end0
      exact ⟨⟨_, rfl⟩, by rw [HU.out]; exact HJ3.out⟩
    · have r1 : ¬ (p : Int) ≤ (n : Int) := by omega
      have HU : Hid (endU p b st rs l = [x + st]) := Lib.hid (by unfold endU; rw [if_pos (HN.out ▸ q1), if_neg (HN.out ▸ q2), HX.out]; rfl)
      gi_wp2
      go_end0
      exact ⟨⟨_, rfl⟩, by rw [HU.out]; exact HJ2.out⟩
  · have r0 : ¬ (b : Int) ≤ (n : Int) := by omega
    gi_wp2_with fail
    --<3
    refine wpIn_region_heldIn (S := fun w' => w'.cell? ⟨bs, 0, none⟩ = some (.slice A n c) ∧ w'.cell? ⟨bh, 0, none⟩ = some (.int .i64 p) ∧ w'.cell? ⟨bh, 1, none⟩ = some (.int .i64 b) ∧ w'.cell? ⟨bh, 2, none⟩ = some (.int .i64 st) ∧ w'.cell? ⟨bh, 3, none⟩ = some (.int .i64 rs) ∧ True) (by kernel_rfl) ⟨c1, c2, c3, c4, c5, trivial⟩ (fun hHeld => ?_)
    refine wpHeldIn_take (i := 0) (oi := { dst := some 7, op := Go.Op.move (Go.Operand.tmp 4), type := 3, pos := "boiler.go:62", after := #[], guard := none }) (v := ?vt201) rfl rfl (by kernel_rfl) (by kernel_rfl) (by kernel_rfl) (fun _ _ _ h => h) (Or.inl ⟨by rfl, ?ht201⟩) (fun _ => rfl) hHeld ?_
    case ht201 => intro w hSw; (try obtain ⟨z1, z2, z3, z4, z5, z6⟩ := hSw); go_simp; try with_reducible rfl
    simp only [Act.put, List.setIfInBounds_toArray, List.set_cons_zero, List.set_cons_succ]
    refine wpHeldIn_take (i := 1) (oi := { dst := some 8, op := Go.Op.fieldAddr 109 (Go.Operand.tmp 2) 1, type := 0, pos := "boiler.go:62", after := #[], guard := none }) (v := ?vt202) rfl rfl (by kernel_rfl) (by kernel_rfl) (by kernel_rfl) (fun _ _ _ h => h) (Or.inl ⟨by rfl, ?ht202⟩) (fun _ => rfl) hHeld ?_
    case ht202 => intro w hSw; (try obtain ⟨z1, z2, z3, z4, z5, z6⟩ := hSw); go_simp; try with_reducible rfl
    simp only [Act.put, List.setIfInBounds_toArray, List.set_cons_zero, List.set_cons_succ]
    refine wpHeldIn_take (i := 2) (oi := { dst := some 9, op := Go.Op.load 3 (Go.Operand.tmp 8), type := 3, pos := "boiler.go:62", after := #[{ on := 1, ground := Go.Ground.data }], guard := none }) (v := ?vt203) rfl rfl (by kernel_rfl) (by kernel_rfl) (by kernel_rfl) (fun _ _ _ h => h) (Or.inl ⟨by rfl, ?ht203⟩) (fun _ => rfl) hHeld ?_
    case ht203 => intro w hSw; (try obtain ⟨z1, z2, z3, z4, z5, z6⟩ := hSw); go_simp; try with_reducible rfl
    simp only [Act.put, List.setIfInBounds_toArray, List.set_cons_zero, List.set_cons_succ]
    refine wpHeldIn_take (i := 3) (oi := { dst := some 10, op := Go.Op.binOp Go.BinOp.geq 3 (Go.Operand.tmp 7) (Go.Operand.tmp 9) 3, type := 4, pos := "boiler.go:62", after := #[{ on := 0, ground := Go.Ground.data }, { on := 2, ground := Go.Ground.data }], guard := none }) (v := ?vt204) rfl rfl (by kernel_rfl) (by kernel_rfl) (by kernel_rfl) (fun _ _ _ h => h) (Or.inl ⟨by rfl, ?ht204⟩) (fun _ => rfl) hHeld ?_
    case ht204 => intro w hSw; (try obtain ⟨z1, z2, z3, z4, z5, z6⟩ := hSw); go_simp; try with_reducible rfl
    simp only [Act.put, List.setIfInBounds_toArray, List.set_cons_zero, List.set_cons_succ]
    refine wpHeldIn_take (i := 4) (oi := { dst := some 11, op := Go.Op.move (Go.Operand.tmp 10), type := 4, pos := "boiler.go:62", after := #[{ on := 3, ground := Go.Ground.data }], guard := none }) (v := ?vt205) rfl rfl (by kernel_rfl) (by kernel_rfl) (by kernel_rfl) (fun _ _ _ h => h) (Or.inl ⟨by rfl, ?ht205⟩) (fun _ => rfl) hHeld ?_
    case ht205 => intro w hSw; (try obtain ⟨z1, z2, z3, z4, z5, z6⟩ := hSw); go_simp; try with_reducible rfl
    simp only [Act.put, List.setIfInBounds_toArray, List.set_cons_zero, List.set_cons_succ]
    refine wpHeldIn_take (i := 5) (oi := { dst := some 12, op := Go.Op.move (Go.Operand.tmp 0), type := 146, pos := "boiler.go:62", after := #[{ on := 4, ground := Go.Ground.guard }], guard := some (4, true) }) (v := undef) rfl rfl (by kernel_rfl) (by kernel_rfl) (by kernel_rfl) (fun _ _ _ h => h) (Or.inr ⟨by rfl, rfl⟩) (fun _ => rfl) hHeld ?_
    simp only [Act.put, List.setIfInBounds_toArray, List.set_cons_zero, List.set_cons_succ]
    refine wpHeldIn_take (i := 6) (oi := { dst := some 13, op := Go.Op.load 37 (Go.Operand.tmp 1), type := 37, pos := "boiler.go:62", after := #[{ on := 4, ground := Go.Ground.guard }], guard := some (4, true) }) (v := undef) rfl rfl (by kernel_rfl) (by kernel_rfl) (by kernel_rfl) (fun _ _ _ h => h) (Or.inr ⟨by rfl, rfl⟩) (fun _ => rfl) hHeld ?_
    simp only [Act.put, List.setIfInBounds_toArray, List.set_cons_zero, List.set_cons_succ]
    refine wpHeldIn_take (i := 7) (oi := { dst := some 14, op := Go.Op.move (Go.Operand.tmp 4), type := 3, pos := "boiler.go:62", after := #[{ on := 4, ground := Go.Ground.guard }], guard := some (4, true) }) (v := undef) rfl rfl (by kernel_rfl) (by kernel_rfl) (by kernel_rfl) (fun _ _ _ h => h) (Or.inr ⟨by rfl, rfl⟩) (fun _ => rfl) hHeld ?_
    simp only [Act.put, List.setIfInBounds_toArray, List.set_cons_zero, List.set_cons_succ]
    refine wpHeldIn_take (i := 8) (oi := { dst := some 15, op := Go.Op.fieldAddr 109 (Go.Operand.tmp 2) 1, type := 0, pos := "boiler.go:62", after := #[{ on := 4, ground := Go.Ground.guard }], guard := some (4, true) }) (v := undef) rfl rfl (by kernel_rfl) (by kernel_rfl) (by kernel_rfl) (fun _ _ _ h => h) (Or.inr ⟨by rfl, rfl⟩) (fun _ => rfl) hHeld ?_
    simp only [Act.put, List.setIfInBounds_toArray, List.set_cons_zero, List.set_cons_succ]
    refine wpHeldIn_take (i := 9) (oi := { dst := some 16, op := Go.Op.load 3 (Go.Operand.tmp 15), type := 3, pos := "boiler.go:62", after := #[{ on := 8, ground := Go.Ground.data }, { on := 4, ground := Go.Ground.guard }], guard := some (4, true) }) (v := undef) rfl rfl (by kernel_rfl) (by kernel_rfl) (by kernel_rfl) (fun _ _ _ h => h) (Or.inr ⟨by rfl, rfl⟩) (fun _ => rfl) hHeld ?_
    simp only [Act.put, List.setIfInBounds_toArray, List.set_cons_zero, List.set_cons_succ]
    refine wpHeldIn_take (i := 10) (oi := { dst := some 17, op := Go.Op.binOp Go.BinOp.sub 3 (Go.Operand.tmp 14) (Go.Operand.tmp 16) 3, type := 3, pos := "boiler.go:62", after := #[{ on := 7, ground := Go.Ground.data }, { on := 9, ground := Go.Ground.data }, { on := 4, ground := Go.Ground.guard }], guard := some (4, true) }) (v := undef) rfl rfl (by kernel_rfl) (by kernel_rfl) (by kernel_rfl) (fun _ _ _ h => h) (Or.inr ⟨by rfl, rfl⟩) (fun _ => rfl) hHeld ?_
    simp only [Act.put, List.setIfInBounds_toArray, List.set_cons_zero, List.set_cons_succ]
    refine wpHeldIn_take (i := 11) (oi := { dst := some 18, op := Go.Op.indexAddr 37 (Go.Operand.tmp 13) (Go.Operand.tmp 17), type := 0, pos := "boiler.go:62", after := #[{ on := 6, ground := Go.Ground.data }, { on := 10, ground := Go.Ground.data }, { on := 4, ground := Go.Ground.guard }], guard := some (4, true) }) (v := undef) rfl rfl (by kernel_rfl) (by kernel_rfl) (by kernel_rfl) (fun _ _ _ h => h) (Or.inr ⟨by rfl, rfl⟩) (fun _ => rfl) hHeld ?_
    simp only [Act.put, List.setIfInBounds_toArray, List.set_cons_zero, List.set_cons_succ]
    refine wpHeldIn_take (i := 12) (oi := { dst := some 19, op := Go.Op.load 2 (Go.Operand.tmp 18), type := 2, pos := "boiler.go:62", after := #[{ on := 11, ground := Go.Ground.data }, { on := 4, ground := Go.Ground.guard }], guard := some (4, true) }) (v := undef) rfl rfl (by kernel_rfl) (by kernel_rfl) (by kernel_rfl) (fun _ _ _ h => h) (Or.inr ⟨by rfl, rfl⟩) (fun _ => rfl) hHeld ?_
    simp only [Act.put, List.setIfInBounds_toArray, List.set_cons_zero, List.set_cons_succ]
    refine wpHeldIn_take (i := 13) (oi := { dst := some 20, op := Go.Op.convert 2 111 (Go.Operand.tmp 19), type := 111, pos := "boiler.go:62", after := #[{ on := 12, ground := Go.Ground.data }, { on := 4, ground := Go.Ground.guard }], guard := some (4, true) }) (v := undef) rfl rfl (by kernel_rfl) (by kernel_rfl) (by kernel_rfl) (fun _ _ _ h => h) (Or.inr ⟨by rfl, rfl⟩) (fun _ => rfl) hHeld ?_
    simp only [Act.put, List.setIfInBounds_toArray, List.set_cons_zero, List.set_cons_succ]
    refine wpHeldIn_take (i := 14) (oi := { dst := some 21, op := Go.Op.fieldAddr 109 (Go.Operand.tmp 2) 2, type := 0, pos := "boiler.go:62", after := #[{ on := 4, ground := Go.Ground.guard }], guard := some (4, true) }) (v := undef) rfl rfl (by kernel_rfl) (by kernel_rfl) (by kernel_rfl) (fun _ _ _ h => h) (Or.inr ⟨by rfl, rfl⟩) (fun _ => rfl) hHeld ?_
    simp only [Act.put, List.setIfInBounds_toArray, List.set_cons_zero, List.set_cons_succ]
    refine wpHeldIn_take (i := 15) (oi := { dst := some 22, op := Go.Op.load 2 (Go.Operand.tmp 21), type := 2, pos := "boiler.go:62", after := #[{ on := 14, ground := Go.Ground.data }, { on := 4, ground := Go.Ground.guard }], guard := some (4, true) }) (v := undef) rfl rfl (by kernel_rfl) (by kernel_rfl) (by kernel_rfl) (fun _ _ _ h => h) (Or.inr ⟨by rfl, rfl⟩) (fun _ => rfl) hHeld ?_
    simp only [Act.put, List.setIfInBounds_toArray, List.set_cons_zero, List.set_cons_succ]
    refine wpHeldIn_take (i := 16) (oi := { dst := some 23, op := Go.Op.convert 2 111 (Go.Operand.tmp 22), type := 111, pos := "boiler.go:62", after := #[{ on := 15, ground := Go.Ground.data }, { on := 4, ground := Go.Ground.guard }], guard := some (4, true) }) (v := undef) rfl rfl (by kernel_rfl) (by kernel_rfl) (by kernel_rfl) (fun _ _ _ h => h) (Or.inr ⟨by rfl, rfl⟩) (fun _ => rfl) hHeld ?_
    simp only [Act.put, List.setIfInBounds_toArray, List.set_cons_zero, List.set_cons_succ]
    refine wpHeldIn_take (i := 17) (oi := { dst := some 24, op := Go.Op.binOp Go.BinOp.add 111 (Go.Operand.tmp 20) (Go.Operand.tmp 23) 111, type := 111, pos := "boiler.go:62", after := #[{ on := 13, ground := Go.Ground.data }, { on := 16, ground := Go.Ground.data }, { on := 4, ground := Go.Ground.guard }], guard := some (4, true) }) (v := undef) rfl rfl (by kernel_rfl) (by kernel_rfl) (by kernel_rfl) (fun _ _ _ h => h) (Or.inr ⟨by rfl, rfl⟩) (fun _ => rfl) hHeld ?_
    simp only [Act.put, List.setIfInBounds_toArray, List.set_cons_zero, List.set_cons_succ]
    refine wpHeldIn_take (i := 18) (oi := { dst := some 25, op := Go.Op.call { callee := Go.Callee.value (Go.Operand.tmp 12), args := #[Go.Operand.tmp 24], argTypes := #[111] }, type := 4, pos := "boiler.go:62", after := #[{ on := 5, ground := Go.Ground.data }, { on := 17, ground := Go.Ground.data }, { on := 4, ground := Go.Ground.chain }, { on := 4, ground := Go.Ground.guard }], guard := some (4, true) }) (v := undef) rfl rfl (by kernel_rfl) (by kernel_rfl) (by kernel_rfl) (fun _ _ _ h => h) (Or.inr ⟨by rfl, rfl⟩) (fun _ => rfl) hHeld ?_
    simp only [Act.put, List.setIfInBounds_toArray, List.set_cons_zero, List.set_cons_succ]
    refine wpHeldIn_take (i := 19) (oi := { dst := some 26, op := Go.Op.unOp Go.UnOp.not 4 (Go.Operand.tmp 25), type := 4, pos := "boiler.go:62", after := #[{ on := 18, ground := Go.Ground.data }, { on := 4, ground := Go.Ground.guard }], guard := some (4, true) }) (v := undef) rfl rfl (by kernel_rfl) (by kernel_rfl) (by kernel_rfl) (fun _ _ _ h => h) (Or.inr ⟨by rfl, rfl⟩) (fun _ => rfl) hHeld ?_
    simp only [Act.put, List.setIfInBounds_toArray, List.set_cons_zero, List.set_cons_succ]
    refine wpHeldIn_take (i := 20) (oi := { dst := some 27, op := Go.Op.pick (Go.Operand.tmp 11) (Go.Operand.tmp 26) (Go.Operand.const (Go.Value.bool false)), type := 4, pos := "boiler.go:62", after := #[{ on := 4, ground := Go.Ground.data }, { on := 19, ground := Go.Ground.data }], guard := none }) (v := ?vt221) rfl rfl (by kernel_rfl) (by kernel_rfl) (by kernel_rfl) (fun _ _ _ h => h) (Or.inl ⟨by rfl, ?ht221⟩) (fun _ => rfl) hHeld ?_
    case ht221 => intro w hSw; (try obtain ⟨z1, z2, z3, z4, z5, z6⟩ := hSw); go_simp; try with_reducible rfl
    simp only [Act.put, List.setIfInBounds_toArray, List.set_cons_zero, List.set_cons_succ]
    refine wpHeldIn_done (by kernel_rfl) ?_ _
    --3>
    by_cases q2 : p ≤ n
    · have r1 : (p : Int) ≤ (n : Int) := by omega
      obtain ⟨i2, ad2, y, hA2, -, j2, -, j4, j5, j6, j7, j8, j9⟩ := hlast p hp.1 q2
      have u1 : IntKind.u64.wrap y = y := IntWalk.u64_in _ (by omega)
      have u2 : IntKind.u64.wrap (y + (st + rs)) = y + (st + rs) := IntWalk.u64_in _ (by omega)
      have hU : endU p b st rs l = [y + (st + rs)] := by unfold endU; rw [if_neg (HN.out ▸ q1), if_pos (HN.out ▸ q2), j5]; rfl
      have HU := Lib.hid hU
      have pU : [] ++ [y + (st + rs)] <+: endU p b st rs l := by rw [hU]; exact List.prefix_refl _
      obtain ⟨fn', tm', as', bo', hy', hR'⟩ := HY.out [] (y + (st + rs)) W.drew.drew (HJ.out [] W.drew W.drew.drew none H0.out (grown_dr _) (by simp)) pU
      have HR' := Lib.hid hR'
      have g2 : (i2 : Int) < (n : Int) := by omega
      have g3 : (0 : Int) ≤ (i2 : Int) := by omega
      have c1 : W.drew.cell? ⟨bs, 0, none⟩ = some (.slice A n c) := c1
      have c2 : W.drew.cell? ⟨bh, 0, none⟩ = some (.int .i64 p) := c2
      have c3 : W.drew.cell? ⟨bh, 1, none⟩ = some (.int .i64 b) := c3
      have c4 : W.drew.cell? ⟨bh, 2, none⟩ = some (.int .i64 st) := c4
      have c5 : W.drew.cell? ⟨bh, 3, none⟩ = some (.int .i64 rs) := c5
      have j7' : W.drew.cell? (ad2.add i2) = some (.int .i64 y) := j7
      clear hR' hU pU j5 hlast
      dsimp only [encU] at hy'
      obtain rfl := hA2
      gi_wp2_with fail
      --<4
      refine wpIn_region_heldIn (S := fun w' => w'.cell? ⟨bs, 0, none⟩ = some (.slice (some ad2) n c) ∧ w'.cell? ⟨bh, 0, none⟩ = some (.int .i64 p) ∧ w'.cell? ⟨bh, 1, none⟩ = some (.int .i64 b) ∧ w'.cell? ⟨bh, 2, none⟩ = some (.int .i64 st) ∧ w'.cell? ⟨bh, 3, none⟩ = some (.int .i64 rs) ∧ w'.cell? (ad2.add i2) = some (.int .i64 y)) (by kernel_rfl) ⟨c1, c2, c3, c4, c5, j7'⟩ (fun hHeld => ?_)
      refine wpHeldIn_take (i := 0) (oi := { dst := some 32, op := Go.Op.move (Go.Operand.tmp 0), type := 146, pos := "boiler.go:66", after := #[], guard := none }) (v := ?vt301) rfl rfl (by kernel_rfl) (by kernel_rfl) (by kernel_rfl) (fun _ _ _ h => h) (Or.inl ⟨by rfl, ?ht301⟩) (fun _ => rfl) hHeld ?_
      case ht301 => intro w hSw; (try obtain ⟨z1, z2, z3, z4, z5, z6⟩ := hSw); go_simp; try with_reducible rfl
      simp only [Act.put, List.setIfInBounds_toArray, List.set_cons_zero, List.set_cons_succ]
      refine wpHeldIn_take (i := 1) (oi := { dst := some 33, op := Go.Op.load 37 (Go.Operand.tmp 1), type := 37, pos := "boiler.go:66", after := #[], guard := none }) (v := ?vt302) rfl rfl (by kernel_rfl) (by kernel_rfl) (by kernel_rfl) (fun _ _ _ h => h) (Or.inl ⟨by rfl, ?ht302⟩) (fun _ => rfl) hHeld ?_
      case ht302 => intro w hSw; (try obtain ⟨z1, z2, z3, z4, z5, z6⟩ := hSw); go_simp; try with_reducible rfl
      simp only [Act.put, List.setIfInBounds_toArray, List.set_cons_zero, List.set_cons_succ]
      refine wpHeldIn_take (i := 2) (oi := { dst := some 34, op := Go.Op.move (Go.Operand.tmp 4), type := 3, pos := "boiler.go:66", after := #[], guard := none }) (v := ?vt303) rfl rfl (by kernel_rfl) (by kernel_rfl) (by kernel_rfl) (fun _ _ _ h => h) (Or.inl ⟨by rfl, ?ht303⟩) (fun _ => rfl) hHeld ?_
      case ht303 => intro w hSw; (try obtain ⟨z1, z2, z3, z4, z5, z6⟩ := hSw); go_simp; try with_reducible rfl
      simp only [Act.put, List.setIfInBounds_toArray, List.set_cons_zero, List.set_cons_succ]
      refine wpHeldIn_take (i := 3) (oi := { dst := some 35, op := Go.Op.fieldAddr 109 (Go.Operand.tmp 2) 0, type := 0, pos := "boiler.go:66", after := #[], guard := none }) (v := ?vt304) rfl rfl (by kernel_rfl) (by kernel_rfl) (by kernel_rfl) (fun _ _ _ h => h) (Or.inl ⟨by rfl, ?ht304⟩) (fun _ => rfl) hHeld ?_
      case ht304 => intro w hSw; (try obtain ⟨z1, z2, z3, z4, z5, z6⟩ := hSw); go_simp; try with_reducible rfl
      simp only [Act.put, List.setIfInBounds_toArray, List.set_cons_zero, List.set_cons_succ]
      refine wpHeldIn_take (i := 4) (oi := { dst := some 36, op := Go.Op.load 3 (Go.Operand.tmp 35), type := 3, pos := "boiler.go:66", after := #[{ on := 3, ground := Go.Ground.data }], guard := none }) (v := ?vt305) rfl rfl (by kernel_rfl) (by kernel_rfl) (by kernel_rfl) (fun _ _ _ h => h) (Or.inl ⟨by rfl, ?ht305⟩) (fun _ => rfl) hHeld ?_
      case ht305 => intro w hSw; (try obtain ⟨z1, z2, z3, z4, z5, z6⟩ := hSw); go_simp; try with_reducible rfl
      simp only [Act.put, List.setIfInBounds_toArray, List.set_cons_zero, List.set_cons_succ]
      refine wpHeldIn_take (i := 5) (oi := { dst := some 37, op := Go.Op.binOp Go.BinOp.sub 3 (Go.Operand.tmp 34) (Go.Operand.tmp 36) 3, type := 3, pos := "boiler.go:66", after := #[{ on := 2, ground := Go.Ground.data }, { on := 4, ground := Go.Ground.data }], guard := none }) (v := ?vt306) rfl rfl (by kernel_rfl) (by kernel_rfl) (by kernel_rfl) (fun _ _ _ h => h) (Or.inl ⟨by rfl, ?ht306⟩) (fun _ => rfl) hHeld ?_
      case ht306 => intro w hSw; (try obtain ⟨z1, z2, z3, z4, z5, z6⟩ := hSw); go_simp; try with_reducible rfl
      simp only [Act.put, List.setIfInBounds_toArray, List.set_cons_zero, List.set_cons_succ]
      refine wpHeldIn_take (i := 6) (oi := { dst := some 38, op := Go.Op.indexAddr 37 (Go.Operand.tmp 33) (Go.Operand.tmp 37), type := 0, pos := "boiler.go:66", after := #[{ on := 1, ground := Go.Ground.data }, { on := 5, ground := Go.Ground.data }], guard := none }) (v := ?vt307) rfl rfl (by kernel_rfl) (by kernel_rfl) (by kernel_rfl) (fun _ _ _ h => h) (Or.inl ⟨by rfl, ?ht307⟩) (fun _ => rfl) hHeld ?_
      case ht307 => intro w hSw; (try obtain ⟨z1, z2, z3, z4, z5, z6⟩ := hSw); go_simp; try with_reducible rfl
      simp only [Act.put, List.setIfInBounds_toArray, List.set_cons_zero, List.set_cons_succ]
      refine wpHeldIn_take (i := 7) (oi := { dst := some 39, op := Go.Op.load 2 (Go.Operand.tmp 38), type := 2, pos := "boiler.go:66", after := #[{ on := 6, ground := Go.Ground.data }], guard := none }) (v := ?vt308) rfl rfl (by kernel_rfl) (by kernel_rfl) (by kernel_rfl) (fun _ _ _ h => h) (Or.inl ⟨by rfl, ?ht308⟩) (fun _ => rfl) hHeld ?_
      case ht308 => intro w hSw; (try obtain ⟨z1, z2, z3, z4, z5, z6⟩ := hSw); go_simp; try with_reducible rfl
      simp only [Act.put, List.setIfInBounds_toArray, List.set_cons_zero, List.set_cons_succ]
      refine wpHeldIn_take (i := 8) (oi := { dst := some 40, op := Go.Op.convert 2 111 (Go.Operand.tmp 39), type := 111, pos := "boiler.go:66", after := #[{ on := 7, ground := Go.Ground.data }], guard := none }) (v := ?vt309) rfl rfl (by kernel_rfl) (by kernel_rfl) (by kernel_rfl) (fun _ _ _ h => h) (Or.inl ⟨by rfl, ?ht309⟩) (fun _ => rfl) hHeld ?_
      case ht309 => intro w hSw; (try obtain ⟨z1, z2, z3, z4, z5, z6⟩ := hSw); go_simp; try with_reducible rfl
      simp only [Act.put, List.setIfInBounds_toArray, List.set_cons_zero, List.set_cons_succ]
      refine wpHeldIn_take (i := 9) (oi := { dst := some 41, op := Go.Op.fieldAddr 109 (Go.Operand.tmp 2) 2, type := 0, pos := "boiler.go:66", after := #[], guard := none }) (v := ?vt310) rfl rfl (by kernel_rfl) (by kernel_rfl) (by kernel_rfl) (fun _ _ _ h => h) (Or.inl ⟨by rfl, ?ht310⟩) (fun _ => rfl) hHeld ?_
      case ht310 => intro w hSw; (try obtain ⟨z1, z2, z3, z4, z5, z6⟩ := hSw); go_simp; try with_reducible rfl
      simp only [Act.put, List.setIfInBounds_toArray, List.set_cons_zero, List.set_cons_succ]
      refine wpHeldIn_take (i := 10) (oi := { dst := some 42, op := Go.Op.load 2 (Go.Operand.tmp 41), type := 2, pos := "boiler.go:66", after := #[{ on := 9, ground := Go.Ground.data }], guard := none }) (v := ?vt311) rfl rfl (by kernel_rfl) (by kernel_rfl) (by kernel_rfl) (fun _ _ _ h => h) (Or.inl ⟨by rfl, ?ht311⟩) (fun _ => rfl) hHeld ?_
      case ht311 => intro w hSw; (try obtain ⟨z1, z2, z3, z4, z5, z6⟩ := hSw); go_simp; try with_reducible rfl
      simp only [Act.put, List.setIfInBounds_toArray, List.set_cons_zero, List.set_cons_succ]
      refine wpHeldIn_take (i := 11) (oi := { dst := some 43, op := Go.Op.fieldAddr 109 (Go.Operand.tmp 2) 3, type := 0, pos := "boiler.go:66", after := #[], guard := none }) (v := ?vt312) rfl rfl (by kernel_rfl) (by kernel_rfl) (by kernel_rfl) (fun _ _ _ h => h) (Or.inl ⟨by rfl, ?ht312⟩) (fun _ => rfl) hHeld ?_
      case ht312 => intro w hSw; (try obtain ⟨z1, z2, z3, z4, z5, z6⟩ := hSw); go_simp; try with_reducible rfl
      simp only [Act.put, List.setIfInBounds_toArray, List.set_cons_zero, List.set_cons_succ]
      refine wpHeldIn_take (i := 12) (oi := { dst := some 44, op := Go.Op.load 2 (Go.Operand.tmp 43), type := 2, pos := "boiler.go:66", after := #[{ on := 11, ground := Go.Ground.data }], guard := none }) (v := ?vt313) rfl rfl (by kernel_rfl) (by kernel_rfl) (by kernel_rfl) (fun _ _ _ h => h) (Or.inl ⟨by rfl, ?ht313⟩) (fun _ => rfl) hHeld ?_
      case ht313 => intro w hSw; (try obtain ⟨z1, z2, z3, z4, z5, z6⟩ := hSw); go_simp; try with_reducible rfl
      simp only [Act.put, List.setIfInBounds_toArray, List.set_cons_zero, List.set_cons_succ]
      refine wpHeldIn_take (i := 13) (oi := { dst := some 45, op := Go.Op.binOp Go.BinOp.add 2 (Go.Operand.tmp 42) (Go.Operand.tmp 44) 2, type := 2, pos := "boiler.go:66", after := #[{ on := 10, ground := Go.Ground.data }, { on := 12, ground := Go.Ground.data }], guard := none }) (v := ?vt314) rfl rfl (by kernel_rfl) (by kernel_rfl) (by kernel_rfl) (fun _ _ _ h => h) (Or.inl ⟨by rfl, ?ht314⟩) (fun _ => rfl) hHeld ?_
      case ht314 => intro w hSw; (try obtain ⟨z1, z2, z3, z4, z5, z6⟩ := hSw); go_simp; try with_reducible rfl
      simp only [Act.put, List.setIfInBounds_toArray, List.set_cons_zero, List.set_cons_succ]
      refine wpHeldIn_take (i := 14) (oi := { dst := some 46, op := Go.Op.convert 2 111 (Go.Operand.tmp 45), type := 111, pos := "boiler.go:66", after := #[{ on := 13, ground := Go.Ground.data }], guard := none }) (v := ?vt315) rfl rfl (by kernel_rfl) (by kernel_rfl) (by kernel_rfl) (fun _ _ _ h => h) (Or.inl ⟨by rfl, ?ht315⟩) (fun _ => rfl) hHeld ?_
      case ht315 => intro w hSw; (try obtain ⟨z1, z2, z3, z4, z5, z6⟩ := hSw); go_simp; try with_reducible rfl
      simp only [Act.put, List.setIfInBounds_toArray, List.set_cons_zero, List.set_cons_succ]
      refine wpHeldIn_take (i := 15) (oi := { dst := some 47, op := Go.Op.binOp Go.BinOp.add 111 (Go.Operand.tmp 40) (Go.Operand.tmp 46) 111, type := 111, pos := "boiler.go:66", after := #[{ on := 8, ground := Go.Ground.data }, { on := 14, ground := Go.Ground.data }], guard := none }) (v := ?vt316) rfl rfl (by kernel_rfl) (by kernel_rfl) (by kernel_rfl) (fun _ _ _ h => h) (Or.inl ⟨by rfl, ?ht316⟩) (fun _ => rfl) hHeld ?_
      case ht316 => intro w hSw; (try obtain ⟨z1, z2, z3, z4, z5, z6⟩ := hSw); go_simp; try with_reducible rfl
      simp only [Act.put, List.setIfInBounds_toArray, List.set_cons_zero, List.set_cons_succ]
      refine wpHeldIn_one (i := 16) (by kernel_rfl) rfl (fun K hK => ?_)
      go_simp
      refine HR'.out.mono ?_
      rintro e w3 ⟨rfl, hj3, hb3, -⟩
      have HJ3 := Lib.hid hj3
      have HBL3 := Lib.hid hb3
      clear hj3 hb3
      refine hK.out _ _ ?_ (fun hH317 => ?_)
      · exact ⟨HBL3.out.cell HC.out.1 HG.out.1, HBL3.out.cell HC.out.2.1 HG.out.2, HBL3.out.cell HC.out.2.2.1 HG.out.2, HBL3.out.cell HC.out.2.2.2.1 HG.out.2, HBL3.out.cell HC.out.2.2.2.2 HG.out.2, HBL3.out.cell j7 (G3.out _ (by rw [block_of_add]; exact j6))⟩
      clear hK K
      refine wpHeldIn_done (by kernel_rfl) ?_ _
      --4>
      gi_wp2
      go_end0
      exact ⟨⟨_, rfl⟩, by rw [HU.out]; exact HJ3.out⟩
    · have r1 : ¬ (p : Int) ≤ (n : Int) := by omega
      have HU : Hid (endU p b st rs l = []) := Lib.hid (by unfold endU; rw [if_neg (HN.out ▸ q1), if_neg (HN.out ▸ q2)]; rfl)
      have c2 : W.drew.cell? ⟨bh, 0, none⟩ = some (.int .i64 p) := c2
      gi_wp2
      go_end0
      exact ⟨⟨_, rfl⟩, by rw [HU.out]; exact H0.out⟩
end Go.Proofs.Ytomncopeekegoaa
