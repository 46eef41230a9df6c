/-
  Example of the law.
-/
import Derived.Test.YtgdkcbnpgpjnbaaL7
namespace Go.Proofs.Ytgdkcbnpgpjnbaa
open Go.RowKit

def exB : Bk := ⟨2, 1000, 100, 10, 1, 100⟩
def exP : List Smp := [(-20, 20), (-20, 20), (-20, 20), (-20, 50), (-20, 20)]
def exR : List Int := [980, 979, 930, 899, 880]
def exC : List Int := [980, 979, 930, 900, 880]
theorem ex_sol : sol exB exP exP.length = some exR := by decide
theorem ex_er : erL exB exP = 0 := by decide
theorem ex_outE : outE exB exP = 0 := by unfold outE; rw [if_pos ex_er, ex_sol]
theorem ex_outR : outR exB exP = exR := by unfold outR; rw [if_pos ex_er, ex_sol]
theorem ex_erC : erC exB exP exC = 0 := by decide
theorem ex_brk : brkE exB exP exC = some (5, 3, 1, 3, -80) := by decide
theorem ex_cutE : cutE exB exP exC = 20 := by unfold cutE; rw [if_pos ex_erC, ex_brk]; rfl
theorem ex_cutI : cutI exB exP exC = 3 := by unfold cutI; rw [if_pos ex_erC, ex_brk]
theorem ex_cutQ : cutQ exB exP exC = 5 := by unfold cutQ; rw [if_pos ex_erC, ex_brk]
theorem ex_locE : locE exB exP exR 20 = 0 := by decide
theorem ex_locV : locV exB exP exR 20 = 830 := by decide
end Go.Proofs.Ytgdkcbnpgpjnbaa

namespace Go.Proofs.Ytgdkcbnpgpjnbaa
open Go.RowKit

theorem fx_ext {X Y : List Int} (hl : X.length = Y.length) (h : ∀ i, i < X.length → fx X i = fx Y i) : X = Y := by
  refine List.ext_getElem hl (fun i h1 h2 => ?_)
  have := h i h1
  rw [fx_eq h1, fx_eq h2] at this
  exact this

set_option maxRecDepth 100000 in
set_option maxHeartbeats 8000000 in
theorem Radii_any (B B' : Nat) (A A' : Option Addr) (n c m d : Nat) (X Y : List Int) (w : World) (h0 : LI w B A n X) (h1 : LI w B' A' m Y) (hB : B ≤ w.heap.size) (hB' : B' ≤ w.heap.size) (hl : n ≤ 9223372036854775807) :
    Calls Try.prog 23 #[.slice A n c, .slice A' m d] w fun e w' => e = .returned (.bool (decide (X = Y))) ∧ Below w.heap.size w w' := by
  have HX := Lib.hid (h0.more hB)
  have HY := Lib.hid (h1.more hB')
  have HN := Lib.hid h0.1
  have HM := Lib.hid h1.1
  clear h0 h1 hB hB'
  go_enter Try.func23, Try.ntmps23
  by_cases hmn : n = m
  · subst hmn
    go_wp2_with fail
    go_loopw [5] (fun z wr => ∃ i : Nat, i ≤ n ∧ z = .int .i64 i ∧ Hid (Below w.heap.size w wr) ∧ Hid (∀ j, j < i → fx X j = fx Y j)) (fun z _ => n - (intOf z).toNat)
    case atStart => exact ⟨0, Nat.zero_le _, rfl, Lib.hid (Below.refl _ _), Lib.hid (fun j hj => by omega)⟩
    case round =>
      obtain ⟨i, hi, rfl, HB2, HA⟩ := hrel
      by_cases hlt : i < n
      · obtain ⟨ad, hA, -, g1⟩ := (HX.out.below HB2.out (Nat.le_refl _)).fx hlt
        obtain ⟨ad', hA', -, g2⟩ := (HY.out.below HB2.out (Nat.le_refl _)).fx hlt
        subst hA hA'
        obtain ⟨x, hx⟩ : ∃ x, fx X i = x := ⟨_, rfl⟩
        obtain ⟨y, hy⟩ : ∃ y, fx Y i = y := ⟨_, rfl⟩
        rw [hx] at g1
        rw [hy] at g2
        have HX2 := Lib.hid hx
        have HY2 := Lib.hid hy
        clear hx hy
        by_cases hxy : x = y
        · subst hxy
          have HA2 : Hid (∀ j, j < i + 1 → fx X j = fx Y j) := Lib.hid (fun j hj => by
            rcases Nat.lt_or_ge j i with h | h
            · exact HA.out j h
            · have : j = i := by omega
              rw [this, HX2.out, HY2.out])
          go_wp2_with fail
          go_quiet (fail)
          go_wp2
          go_roundw
          case rel => exact ⟨i + 1, by omega, by go_num, Lib.hid (below_drewN_ HB2.out _), HA2⟩
          case measure => simp [intOf]; omega
        · have hne : (x != y) = true := by simpa using hxy
          have HE : Hid (decide (X = Y) = false) := Lib.hid (by simp only [decide_eq_false_iff_not]; intro e; apply hxy; rw [← HX2.out, ← HY2.out, e])
          go_wp2_with fail
          go_quiet (fail)
          go_wp2
          go_ret
          rw [HE.out]
          exact ⟨rfl, below_drewN_ HB2.out _⟩
      · obtain rfl : i = n := by omega
        have HE : Hid (decide (X = Y) = true) := Lib.hid (by simp only [decide_eq_true_eq]; exact fx_ext (by rw [← HN.out, ← HM.out]) (fun j hj => HA.out j (by rw [HN.out]; exact hj)))
        go_wp2
        go_ret
        rw [HE.out]
        exact ⟨rfl, HB2.out⟩
  · have hmn' : ((n : Int) != (m : Int)) = true := by simp; omega
    have HE : Hid (decide (X = Y) = false) := Lib.hid (by simp only [decide_eq_false_iff_not]; intro e; apply hmn; rw [HN.out, HM.out, e])
    go_wp2
    go_ret
    rw [HE.out]
    exact ⟨rfl, Below.refl _ _⟩
end Go.Proofs.Ytgdkcbnpgpjnbaa

namespace Go.Proofs.Ytgdkcbnpgpjnbaa
open Go.RowKit

theorem fin_blank {w W : World} {t : TypeId} {u0 u1 u2 u3 u4 u5 a b c d e z : Value} (hb : Below w.heap.size w W) (hk : Blk W w.heap.size t #[u0, u1, u2, u3, u4, u5]) :
    ∃ V, Blk V w.heap.size t #[a, b, c, d, e, z] ∧ Below w.heap.size w V ∧ W.heap.size = V.heap.size ∧ (∀ g, g ≠ w.heap.size → V.heap[g]? = W.heap[g]?) ∧
      V = (((((W.setCell ⟨w.heap.size, 0, none⟩ a).setCell ⟨w.heap.size, 1, none⟩ b).setCell ⟨w.heap.size, 2, none⟩ c).setCell ⟨w.heap.size, 3, none⟩ d).setCell ⟨w.heap.size, 4, none⟩ e).setCell ⟨w.heap.size, 5, none⟩ z := by
  refine ⟨_, (((((hk.set_ 0 a).set_ 1 b).set_ 2 c).set_ 3 d).set_ 4 e).set_ 5 z,
    (((((hb.setCell (by simp) _).setCell (by simp) _).setCell (by simp) _).setCell (by simp) _).setCell (by simp) _).setCell (by simp) _, ?_, fun g hg => ?_, rfl⟩
  · simp [World.setCell]
  · have h := fun (X : World) (i : Nat) (v : Value) => Below.heap_setCell X ⟨w.heap.size, i, none⟩ v g (fun e => hg e)
    rw [h, h, h, h, h, h]

set_option maxRecDepth 100000 in
set_option maxHeartbeats 8000000 in
theorem Example_any (w : World) :
    Calls Try.prog 37 #[] w fun e w' => ∃ A k, e = .returned (.tuple #[.agg #[.int .i64 exB.per, .int .i64 exB.rim, .int .i64 exB.core, .int .i64 exB.land, .int .i64 exB.slow, .int .i64 exB.fast], .slice A 5 k]) ∧ RS w' w'.heap.size A 5 exP ∧ Below w.heap.size w w' := by
  go_enter Try.func37, Try.ntmps37
  go_upto_region 2 with fail
  obtain ⟨w3, hW⟩ : ∃ W, ((w.alloc (.cells #[.int .i64 0, .int .i64 0, .int .i64 0, .int .i64 0, .int .i64 0, .int .i64 0] 23)).alloc (.cells #[.int .i64 (-20), .int .i64 20] 55)).alloc (.cells #[.int .i64 (-20), .int .i64 50] 55) = W := ⟨_, rfl⟩
  have HB : Below w.heap.size w w3 := by rw [← hW]; exact (((Below.refl _ _).alloc (Nat.le_refl _) _).alloc (by simp) _).alloc (by simp; omega) _
  have K0 : Blk w3 w.heap.size 23 #[.int .i64 0, .int .i64 0, .int .i64 0, .int .i64 0, .int .i64 0, .int .i64 0] := by rw [← hW]; exact ((Blk.new _ _ _).alloc _).alloc _
  have KA : Blk w3 (w.heap.size + 1) 55 #[.int .i64 (-20), .int .i64 20] := by rw [← hW]; exact (blk_al (by simp)).alloc _
  have KB : Blk w3 (w.heap.size + 1 + 1) 55 #[.int .i64 (-20), .int .i64 50] := by rw [← hW]; exact blk_al (by simp)
  rw [hW]
  clear hW
  refine wp_region_held_drew (S := fun w' => w'.cell? ⟨w.heap.size + 1, 0, none⟩ = some (.int .i64 (-20)) ∧ w'.cell? ⟨w.heap.size + 1, 1, none⟩ = some (.int .i64 20) ∧ w'.cell? ⟨w.heap.size + 1 + 1, 0, none⟩ = some (.int .i64 (-20)) ∧ w'.cell? ⟨w.heap.size + 1 + 1, 1, none⟩ = some (.int .i64 50)) (by kernel_rfl) ⟨(KA.cell 0).trans rfl, (KA.cell 1).trans rfl, (KB.cell 0).trans rfl, (KB.cell 1).trans rfl⟩ (fun hHeld => ?_)
  obtain ⟨w4, hwd⟩ : ∃ wd, w3.drew = wd := ⟨_, rfl⟩
  replace HB : Below w.heap.size w w4 := by rw [← hwd]; exact HB.drew
  replace K0 : Blk w4 w.heap.size 23 #[.int .i64 0, .int .i64 0, .int .i64 0, .int .i64 0, .int .i64 0, .int .i64 0] := by rw [← hwd]; exact K0
  replace KA : Blk w4 (w.heap.size + 1) 55 #[.int .i64 (-20), .int .i64 20] := by rw [← hwd]; exact KA
  replace KB : Blk w4 (w.heap.size + 1 + 1) 55 #[.int .i64 (-20), .int .i64 50] := by rw [← hwd]; exact KB
  rw [hwd] at hHeld ⊢
  clear hwd
  obtain ⟨y0, y1, y2, y3, y4, y5⟩ := K0.six
  have z0 := K0.frozen 0
  have z1 := K0.frozen 1
  have z2 := K0.frozen 2
  have z3 := K0.frozen 3
  have z4 := K0.frozen 4
  have z5 := K0.frozen 5
  have zl := K0.lt
  refine wpAnyH_take (i := 0) (oi := { dst := some 6, op := Go.Op.build 23 #[(0, Go.Operand.const (Go.Value.int Go.IntKind.i64 2)), (1, Go.Operand.const (Go.Value.int Go.IntKind.i64 1000)), (2, Go.Operand.const (Go.Value.int Go.IntKind.i64 100)), (3, Go.Operand.const (Go.Value.int Go.IntKind.i64 10)), (4, Go.Operand.const (Go.Value.int Go.IntKind.i64 1)), (5, Go.Operand.const (Go.Value.int Go.IntKind.i64 100))], type := 23, pos := "law.go:14", after := #[], guard := none }) (v := ?vt101) rfl (by kernel_rfl) (by kernel_rfl) (by kernel_rfl) (fun _ _ _ h => h) (Or.inl ⟨by rfl, ?ht101⟩) hHeld ?_
  case ht101 => intro w hSw; obtain ⟨s1, s2, s3, s4⟩ := hSw; go_simp; try with_reducible rfl
  simp only [Act.put, List.setIfInBounds_toArray, List.set_cons_zero, List.set_cons_succ]
  refine wpAnyH_take (i := 1) (oi := { dst := some 7, op := Go.Op.load 55 (Go.Operand.tmp 2), type := 55, pos := "law.go:14", after := #[{ on := 7, ground := Go.Ground.gcOnly Go.Departure.lateStores }], guard := none }) (v := ?vt102) rfl (by kernel_rfl) (by kernel_rfl) (by kernel_rfl) (fun _ _ _ h => h) (Or.inl ⟨by rfl, ?ht102⟩) hHeld ?_
  case ht102 => intro w hSw; obtain ⟨s1, s2, s3, s4⟩ := hSw; go_simp; try with_reducible rfl
  simp only [Act.put, List.setIfInBounds_toArray, List.set_cons_zero, List.set_cons_succ]
  refine wpAnyH_take (i := 2) (oi := { dst := some 8, op := Go.Op.load 55 (Go.Operand.tmp 2), type := 55, pos := "law.go:14", after := #[{ on := 7, ground := Go.Ground.gcOnly Go.Departure.lateStores }], guard := none }) (v := ?vt103) rfl (by kernel_rfl) (by kernel_rfl) (by kernel_rfl) (fun _ _ _ h => h) (Or.inl ⟨by rfl, ?ht103⟩) hHeld ?_
  case ht103 => intro w hSw; obtain ⟨s1, s2, s3, s4⟩ := hSw; go_simp; try with_reducible rfl
  simp only [Act.put, List.setIfInBounds_toArray, List.set_cons_zero, List.set_cons_succ]
  refine wpAnyH_take (i := 3) (oi := { dst := some 9, op := Go.Op.load 55 (Go.Operand.tmp 2), type := 55, pos := "law.go:14", after := #[{ on := 7, ground := Go.Ground.gcOnly Go.Departure.lateStores }], guard := none }) (v := ?vt104) rfl (by kernel_rfl) (by kernel_rfl) (by kernel_rfl) (fun _ _ _ h => h) (Or.inl ⟨by rfl, ?ht104⟩) hHeld ?_
  case ht104 => intro w hSw; obtain ⟨s1, s2, s3, s4⟩ := hSw; go_simp; try with_reducible rfl
  simp only [Act.put, List.setIfInBounds_toArray, List.set_cons_zero, List.set_cons_succ]
  refine wpAnyH_take (i := 4) (oi := { dst := some 10, op := Go.Op.load 55 (Go.Operand.tmp 3), type := 55, pos := "law.go:14", after := #[{ on := 7, ground := Go.Ground.gcOnly Go.Departure.lateStores }], guard := none }) (v := ?vt105) rfl (by kernel_rfl) (by kernel_rfl) (by kernel_rfl) (fun _ _ _ h => h) (Or.inl ⟨by rfl, ?ht105⟩) hHeld ?_
  case ht105 => intro w hSw; obtain ⟨s1, s2, s3, s4⟩ := hSw; go_simp; try with_reducible rfl
  simp only [Act.put, List.setIfInBounds_toArray, List.set_cons_zero, List.set_cons_succ]
  refine wpAnyH_take (i := 5) (oi := { dst := some 11, op := Go.Op.load 55 (Go.Operand.tmp 2), type := 55, pos := "law.go:14", after := #[{ on := 7, ground := Go.Ground.gcOnly Go.Departure.lateStores }], guard := none }) (v := ?vt106) rfl (by kernel_rfl) (by kernel_rfl) (by kernel_rfl) (fun _ _ _ h => h) (Or.inl ⟨by rfl, ?ht106⟩) hHeld ?_
  case ht106 => intro w hSw; obtain ⟨s1, s2, s3, s4⟩ := hSw; go_simp; try with_reducible rfl
  simp only [Act.put, List.setIfInBounds_toArray, List.set_cons_zero, List.set_cons_succ]
  refine wpAnyH_ready (rs := [6, 7]) (by kernel_rfl) (by simp) ?_
  refine AllReadyH.cons rfl (fun K hK => ?_) ?_
  · go_simp
    obtain ⟨w5, hW⟩ : ∃ W, w4.alloc (.cells #[.int .i64 (-20), .int .i64 20, .int .i64 (-20), .int .i64 20, .int .i64 (-20), .int .i64 20, .int .i64 (-20), .int .i64 50, .int .i64 (-20), .int .i64 20] 55) = W := ⟨_, rfl⟩
    have hb : Below w4.heap.size w4 w5 := by rw [← hW]; exact below_a _ _
    have KP : Blk w5 w4.heap.size 55 #[.int .i64 (-20), .int .i64 20, .int .i64 (-20), .int .i64 20, .int .i64 (-20), .int .i64 20, .int .i64 (-20), .int .i64 50, .int .i64 (-20), .int .i64 20] := by rw [← hW]; exact Blk.new _ _ _
    have hlt0 := K0.lt
    have hgs : w.heap.size ≤ w4.heap.size := HB.size
    replace HB := HB.trans (hb.mono HB.size)
    replace K0 := K0.below hb K0.lt
    replace KA := KA.below hb KA.lt
    replace KB := KB.below hb KB.lt
    try rw [hW]
    clear hW hb
    obtain ⟨y0, y1, y2, y3, y4, y5⟩ := K0.six
    have z0 := K0.frozen 0
    have z1 := K0.frozen 1
    have z2 := K0.frozen 2
    have z3 := K0.frozen 3
    have z4 := K0.frozen 4
    have z5 := K0.frozen 5
    have zl := K0.lt
    refine hK.out _ _ ?_ (fun hH107 => ?_)
    · exact ⟨(KA.cell 0).trans rfl, (KA.cell 1).trans rfl, (KB.cell 0).trans rfl, (KB.cell 1).trans rfl⟩
    clear hK K
    refine wpAnyH_ready (rs := [7]) (by kernel_rfl) (by simp) ?_
    refine AllReadyH.cons rfl (fun K hK => ?_) AllReadyH.nil
    go_simp
    obtain ⟨w6, v1, v2, v3, v4, hV⟩ := fin_blank (a := .int .i64 2) (b := .int .i64 1000) (c := .int .i64 100) (d := .int .i64 10) (e := .int .i64 1) (z := .int .i64 100) HB K0
    try rw [← hV]
    replace KA : Blk w6 (w.heap.size + 1) 55 #[.int .i64 (-20), .int .i64 20] := (v4 _ (by omega)).trans KA
    replace KB : Blk w6 (w.heap.size + 1 + 1) 55 #[.int .i64 (-20), .int .i64 50] := (v4 _ (by omega)).trans KB
    replace HB := v2
    replace K0 := v1
    have KP2 : Blk w6 w4.heap.size 55 #[.int .i64 (-20), .int .i64 20, .int .i64 (-20), .int .i64 20, .int .i64 (-20), .int .i64 20, .int .i64 (-20), .int .i64 50, .int .i64 (-20), .int .i64 20] := (v4 _ (by omega)).trans KP
    replace KP := KP2
    clear hV v3 v4 y0 y1 y2 y3 y4 y5 z0 z1 z2 z3 z4 z5 zl
    refine hK.out _ _ ?_ (fun hH108 => ?_)
    · exact ⟨(KA.cell 0).trans rfl, (KA.cell 1).trans rfl, (KB.cell 0).trans rfl, (KB.cell 1).trans rfl⟩
    clear hK K
    refine wpAnyH_take (i := 8) (oi := { dst := some 1, op := Go.Op.assign (Go.Operand.tmp 12), type := 24, pos := "law.go:14", after := #[{ on := 6, ground := Go.Ground.data }, { on := 7, ground := Go.Ground.chain }, { on := 0, ground := Go.Ground.phase }, { on := 1, ground := Go.Ground.phase }, { on := 2, ground := Go.Ground.phase }, { on := 3, ground := Go.Ground.phase }, { on := 4, ground := Go.Ground.phase }, { on := 5, ground := Go.Ground.phase }, { on := 6, ground := Go.Ground.phase }, { on := 7, ground := Go.Ground.phase }], guard := none }) (v := ?vt109) rfl (by kernel_rfl) (by kernel_rfl) (by kernel_rfl) (fun _ _ _ h => h) (Or.inl ⟨by rfl, ?ht109⟩) hH108 ?_
    case ht109 => intro w hSw; obtain ⟨s1, s2, s3, s4⟩ := hSw; go_simp; try with_reducible rfl
    simp only [Act.put, List.setIfInBounds_toArray, List.set_cons_zero, List.set_cons_succ]
    refine wpAnyH_done (by kernel_rfl) ?_ _
    obtain ⟨c0, c1, c2, c3, c4, c5⟩ := K0.six
    have hlen := KP.lt
    clear KA KB v1 v2 hHeld
    go_wp2
    refine bodyPost_ret (v := .tuple #[.agg #[.int .i64 2, .int .i64 1000, .int .i64 100, .int .i64 10, .int .i64 1, .int .i64 100], .slice (some ⟨w4.heap.size, 0, none⟩) 5 5]) (by simp [results, Try.results37, go_sem, c0, c1, c2, c3, c4, c5]) rfl ?_
    exact ⟨_, _, rfl, ⟨rfl, reads_cells KP hlen rfl rfl⟩, HB⟩
  refine AllReadyH.cons rfl (fun K hK => ?_) ?_
  · go_simp
    obtain ⟨w5, v1, v2, v3, v4, hV⟩ := fin_blank (a := .int .i64 2) (b := .int .i64 1000) (c := .int .i64 100) (d := .int .i64 10) (e := .int .i64 1) (z := .int .i64 100) HB K0
    try rw [← hV]
    replace KA : Blk w5 (w.heap.size + 1) 55 #[.int .i64 (-20), .int .i64 20] := (v4 _ (by omega)).trans KA
    replace KB : Blk w5 (w.heap.size + 1 + 1) 55 #[.int .i64 (-20), .int .i64 50] := (v4 _ (by omega)).trans KB
    replace HB := v2
    replace K0 := v1
    clear hV v3 v4 y0 y1 y2 y3 y4 y5 z0 z1 z2 z3 z4 z5 zl
    refine hK.out _ _ ?_ (fun hH110 => ?_)
    · exact ⟨(KA.cell 0).trans rfl, (KA.cell 1).trans rfl, (KB.cell 0).trans rfl, (KB.cell 1).trans rfl⟩
    clear hK K
    refine wpAnyH_ready (rs := [6]) (by kernel_rfl) (by simp) ?_
    refine AllReadyH.cons rfl (fun K hK => ?_) AllReadyH.nil
    go_simp
    obtain ⟨w6, hW⟩ : ∃ W, w5.alloc (.cells #[.int .i64 (-20), .int .i64 20, .int .i64 (-20), .int .i64 20, .int .i64 (-20), .int .i64 20, .int .i64 (-20), .int .i64 50, .int .i64 (-20), .int .i64 20] 55) = W := ⟨_, rfl⟩
    have hb : Below w5.heap.size w5 w6 := by rw [← hW]; exact below_a _ _
    have KP : Blk w6 w5.heap.size 55 #[.int .i64 (-20), .int .i64 20, .int .i64 (-20), .int .i64 20, .int .i64 (-20), .int .i64 20, .int .i64 (-20), .int .i64 50, .int .i64 (-20), .int .i64 20] := by rw [← hW]; exact Blk.new _ _ _
    have hlt0 := K0.lt
    have hgs : w.heap.size ≤ w5.heap.size := HB.size
    replace HB := HB.trans (hb.mono HB.size)
    replace K0 := K0.below hb K0.lt
    replace KA := KA.below hb KA.lt
    replace KB := KB.below hb KB.lt
    try rw [hW]
    clear hW hb
    obtain ⟨y0, y1, y2, y3, y4, y5⟩ := K0.six
    have z0 := K0.frozen 0
    have z1 := K0.frozen 1
    have z2 := K0.frozen 2
    have z3 := K0.frozen 3
    have z4 := K0.frozen 4
    have z5 := K0.frozen 5
    have zl := K0.lt
    refine hK.out _ _ ?_ (fun hH111 => ?_)
    · exact ⟨(KA.cell 0).trans rfl, (KA.cell 1).trans rfl, (KB.cell 0).trans rfl, (KB.cell 1).trans rfl⟩
    clear hK K
    refine wpAnyH_take (i := 8) (oi := { dst := some 1, op := Go.Op.assign (Go.Operand.tmp 12), type := 24, pos := "law.go:14", after := #[{ on := 6, ground := Go.Ground.data }, { on := 7, ground := Go.Ground.chain }, { on := 0, ground := Go.Ground.phase }, { on := 1, ground := Go.Ground.phase }, { on := 2, ground := Go.Ground.phase }, { on := 3, ground := Go.Ground.phase }, { on := 4, ground := Go.Ground.phase }, { on := 5, ground := Go.Ground.phase }, { on := 6, ground := Go.Ground.phase }, { on := 7, ground := Go.Ground.phase }], guard := none }) (v := ?vt112) rfl (by kernel_rfl) (by kernel_rfl) (by kernel_rfl) (fun _ _ _ h => h) (Or.inl ⟨by rfl, ?ht112⟩) hH111 ?_
    case ht112 => intro w hSw; obtain ⟨s1, s2, s3, s4⟩ := hSw; go_simp; try with_reducible rfl
    simp only [Act.put, List.setIfInBounds_toArray, List.set_cons_zero, List.set_cons_succ]
    refine wpAnyH_done (by kernel_rfl) ?_ _
    obtain ⟨c0, c1, c2, c3, c4, c5⟩ := K0.six
    have hlen := KP.lt
    clear KA KB v1 v2 hHeld
    go_wp2
    refine bodyPost_ret (v := .tuple #[.agg #[.int .i64 2, .int .i64 1000, .int .i64 100, .int .i64 10, .int .i64 1, .int .i64 100], .slice (some ⟨w5.heap.size, 0, none⟩) 5 5]) (by simp [results, Try.results37, go_sem, c0, c1, c2, c3, c4, c5]) rfl ?_
    exact ⟨_, _, rfl, ⟨rfl, reads_cells KP hlen rfl rfl⟩, HB⟩
  exact AllReadyH.nil
end Go.Proofs.Ytgdkcbnpgpjnbaa

