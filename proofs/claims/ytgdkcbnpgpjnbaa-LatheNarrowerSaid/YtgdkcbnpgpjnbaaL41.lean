/-
  The walk of LatheNarrower.
-/
import Derived.Test.YtgdkcbnpgpjnbaaL16
import Derived.Test.YtgdkcbnpgpjnbaaL40
namespace Go.Proofs.Ytgdkcbnpgpjnbaa
open Go.RowKit

set_option maxRecDepth 100000 in
set_option maxHeartbeats 8000000 in
theorem narrower_walk (B : Nat) (A AV : Option Addr) (n c nv kv : Nat) (b : Bk) (P V : List Smp) (w : World) (h0 : RS w B A n P) (h1 : R8 w B AV nv V) (hB : B ≤ w.heap.size) (hl : n ≤ 9223372036854775807) (hlv : nv ≤ 9223372036854775807) (hV : ∀ v ∈ V, 0 ≤ v.1 ∧ v.1 ≤ 255 ∧ 0 ≤ v.2 ∧ v.2 ≤ 255) :
    Calls Try.prog 11 #[.agg #[.int .i64 b.per, .int .i64 b.rim, .int .i64 b.core, .int .i64 b.land, .int .i64 b.slow, .int .i64 b.fast], .slice A n c, .slice AV nv kv] w fun e w' => e = .returned (.bool true) ∧ Below w.heap.size w w' := by
  have HP := Lib.hid (h0.more hB)
  have HV8 : Hid (R8 w w.heap.size AV nv V) := Lib.hid ⟨h1.1, fun hn => by obtain ⟨ad, e, hb, hc⟩ := h1.2 hn; exact ⟨ad, e, by omega, hc⟩⟩
  have HN := Lib.hid h0.1
  have HNV := Lib.hid h1.1
  have HVB := Lib.hid hV
  obtain ⟨i0, hi0, hz0, hz1, hz2⟩ := info_partsL info_pt
  have HI0 := Lib.hid hi0
  have HZ0 := Lib.hid hz0
  have HZ1 := Lib.hid hz1
  have HZ2 := Lib.hid hz2
  clear h0 h1 hB hi0 hz0 hz1 hz2 hV
  go_enter Try.func11, Try.ntmps11
  go_upto_region 1 with fail
  obtain ⟨w0, hW⟩ : ∃ W, w.alloc (.cells #[.int .i64 b.per, .int .i64 b.rim, .int .i64 b.core, .int .i64 b.land, .int .i64 b.slow, .int .i64 b.fast] 23) = W := ⟨_, rfl⟩
  have hb0 : Below w.heap.size w w0 := by rw [← hW]; exact below_a _ _
  have k0 : Blk w0 w.heap.size 23 #[.int .i64 b.per, .int .i64 b.rim, .int .i64 b.core, .int .i64 b.land, .int .i64 b.slow, .int .i64 b.fast] := by rw [← hW]; exact Blk.new _ _ _
  rw [hW]
  have HB := Lib.hid hb0
  have HK := Lib.hid k0
  obtain ⟨c0, c1, c2, c3, c4, c5⟩ := k0.six
  clear hW hb0 k0
  cases hv : vldG b P with
  | false =>
    have HV := Lib.hid hv
    clear hv
    go_wp2_with fail
    have CALL := valid5_any w.heap.size A n c b P w0 (HP.out.below HB.out (Nat.le_refl _)) HB.out.size hl
    refine CALL.mono ?_
    rintro e w1 ⟨rfl, hb⟩
    clear CALL
    replace HK := Lib.hid (HK.out.below hb HK.out.lt)
    replace HB := Lib.hid (HB.out.trans (hb.mono HB.out.size))
    clear hb c0 c1 c2 c3 c4 c5
    obtain ⟨c0, c1, c2, c3, c4, c5⟩ := HK.out.six
    rw [HV.out]
    go_wp2_with fail
    refine (works5_any _).mono ?_
    rintro e w2 ⟨rfl, hb⟩
    replace HB := Lib.hid (HB.out.trans (hb.mono HB.out.size))
    clear hb
    go_wp2
    go_ret
    exact ⟨rfl, HB.out⟩
  | true =>
    have HV := Lib.hid hv
    have HVE := Lib.hid (vld_er hv)
    have hn40 : n ≤ 40 := by rw [HN.out]; exact HVE.out.2.2.2
    have HSN := Lib.hid (fun k hk X hs => sol_nar (k := k) (X := X) hv HVB.out hk hs)
    have HVN := Lib.hid (fun k hk => vld_nar (k := k) hv HVB.out hk)
    have HON := Lib.hid (fun hs => outE_none hv hs)
    have HOS := Lib.hid (fun X hs => outE_some (X := X) hv hs)
    have HTP := Lib.hid (fun X hs => top_of (X := X) hv hs)
    clear hv
    go_wp2_with fail
    have CALL := valid5_any w.heap.size A n c b P w0 (HP.out.below HB.out (Nat.le_refl _)) HB.out.size hl
    refine CALL.mono ?_
    rintro e w3 ⟨rfl, hb⟩
    clear CALL
    replace HK := Lib.hid (HK.out.below hb HK.out.lt)
    replace HB := Lib.hid (HB.out.trans (hb.mono HB.out.size))
    clear hb c0 c1 c2 c3 c4 c5
    obtain ⟨c0, c1, c2, c3, c4, c5⟩ := HK.out.six
    rw [HV.out]
    go_wp2_with (at_builtin; refine wpList_append_any _ rfl (.tmp 19) (.tmp 20) _ rfl w3.heap.size 55 i0 _ 2 16 Try.underlying24 HI0.out HZ0.out HZ1.out HZ2.out rfl (by omega) (.slice (some ⟨w3.heap.size, 0, none⟩) 0 0) 0 [] rfl (World.ownsRow_lit (base := w3.heap.size) (e := 55) (size := 2) w3 #[] 0 (Nat.le_refl _) (by unfold maxLen; omega) rfl) w3.heap.size A n c (smpCells P) rfl ((HP.out.below (HB.out.trans ((below_a w3 _).mono HB.out.size)) (Nat.le_refl _)).more HB.out.size).2 (cells_oneN _) (by unfold maxLen; omega) (by omega) (by simp) ?_; intro v1 wA hown hgrow hblk)
    simp only [Nat.zero_add, List.nil_append] at hown
    have hb : Below w3.heap.size w3 wA := (below_a w3 _).trans (grownN hgrow (by simp) (fun k hk => by simp [Value.ownBlock] at hk; omega))
    obtain ⟨gb, hgb⟩ : ∃ g, w3.heap.size = g := ⟨_, rfl⟩
    have hgw : w.heap.size < gb := by rw [← hgb]; exact HK.out.lt
    rw [hgb] at hown hb
    have HK2 := Lib.hid (HK.out.below hb hgw)
    have HB2 := Lib.hid (HB.out.trans (hb.mono (Nat.le_of_lt hgw)))
    obtain ⟨Am, cm, rfl, -⟩ := own_reads hown
    have HOW : Hid (wA.ownsRow gb 55 2 (.slice Am n cm) n (smpCells (nar P V 0))) := Lib.hid hown
    clear hown hb hgrow hblk HB HK hgb c0 c1 c2 c3 c4 c5
    go_wp2_with fail
    go_loopw [8] (fun z wr => ∃ k : Nat, k ≤ n ∧ k ≤ nv ∧ z = .int .i64 k ∧ Hid (wr.ownsRow gb 55 2 (.slice Am n cm) n (smpCells (nar P V k))) ∧ Hid (Below gb wA wr)) (fun z _ => n - (intOf z).toNat)
    case atStart => exact ⟨0, Nat.zero_le _, Nat.zero_le _, rfl, HOW, Lib.hid (Below.refl _ _)⟩
    case round =>
      clear HOW
      obtain ⟨k, hk, hkv, rfl, HOW, HBW⟩ := hrel
      by_cases hlt : k < n ∧ k < nv
      · obtain ⟨hk1, hk2⟩ := hlt
        have hk1z : (k : Int) < (n : Int) := by omega
        have hk2z : (k : Int) < (nv : Int) := by omega
        have hln : Hid (n = (nar P V k).length) := Lib.hid (by rw [nar_len]; exact HN.out)
        have hkP : k < P.length := by rw [← HN.out]; exact hk1
        have hkV : k < V.length := by rw [← HNV.out]; exact hk2
        have HAT : Hid ((nar P V k).getD k (0, 0) = P.getD k (0, 0)) := Lib.hid (by rw [nar_at P V k k hkP, if_neg (by omega)])
        have HNX : Hid (nar P V (k + 1) = (nar P V k).set k (nar1 (P.getD k (0, 0)) (V.getD k (0, 0)))) := Lib.hid rfl
        obtain ⟨ad, hA, -, hcs⟩ := (HV8.out.below (HB2.out.trans (HBW.out.mono (Nat.le_of_lt hgw))) (Nat.le_refl _)).2 (by omega)
        subst hA
        obtain ⟨v1, v2⟩ := hcs k hkV
        have hvb := HVB.out V[k] (List.getElem_mem hkV)
        have HGV : Hid (V.getD k (0, 0) = V[k]) := Lib.hid (by rw [List.getD_eq_getElem?_getD, List.getElem?_eq_getElem hkV]; rfl)
        obtain ⟨x0, hx0⟩ : ∃ x, V[k].1 = x := ⟨_, rfl⟩
        obtain ⟨x1, hx1⟩ : ∃ x, V[k].2 = x := ⟨_, rfl⟩
        rw [hx0] at v1 hvb
        rw [hx1] at v2 hvb
        obtain ⟨b1, b2, b3, b4⟩ := hvb
        have hpb := HVE.out.2.2.1.at_ k
        unfold pin pout at hpb
        obtain ⟨p, hp⟩ : ∃ p, P.getD k (0, 0) = p := ⟨_, rfl⟩
        rw [hp] at hpb HAT HNX
        have HP0 := Lib.hid hp
        obtain ⟨pi, po⟩ := p
        dsimp only at hpb
        obtain ⟨p1, p2, p3, p4⟩ := hpb
        obtain ⟨u0, hu0⟩ : ∃ x, (if pi + x0 < 4194304 then pi + x0 else 4194304) = x := ⟨_, rfl⟩
        obtain ⟨u1, hu1⟩ : ∃ x, (if -4194304 < po - x1 then po - x1 else -4194304) = x := ⟨_, rfl⟩
        have HNX : Hid (nar P V (k + 1) = (nar P V k).set k (u0, u1)) := Lib.hid (by
          rw [HNX.out, HGV.out]
          unfold nar1
          rw [hx0, hx1, hu0, hu1])
        have e1 : IntKind.i64.wrap (pi + x0) = pi + x0 := IntWalk.i64_in _ (by omega)
        have e2 : IntKind.i64.wrap (po - x1) = po - x1 := IntWalk.i64_in _ (by omega)
        have e3 : IntKind.i64.wrap x0 = x0 := IntWalk.i64_in _ (by omega)
        have e4 : IntKind.i64.wrap x1 = x1 := IntWalk.i64_in _ (by omega)
        have HX0 := Lib.hid hx0
        have HX1 := Lib.hid hx1
        clear hx0 hx1 hp hcs
        obtain ⟨gm, hAm, hg1, hg2, m0, m1, mf0, mf1, ms0, -⟩ := own_p2 HOW.out hln.out (k := k) (by rw [← hln.out]; exact hk1)
        subst hAm
        rw [HAT.out] at m0 m1 ms0
        go_wp2_with fail
        refine wp_region_held_drew (S := fun w' => w'.cell? (ad.add (k * 2)) = some (.int .u8 x0) ∧ w'.cell? ⟨(ad.add (k * 2)).block, (ad.add (k * 2)).off + 1, none⟩ = some (.int .u8 x1)) (by kernel_rfl) ⟨v1, v2⟩ (fun hHeld => ?_)
        obtain ⟨wda, hwd⟩ : ∃ wd, wr.drew = wd := ⟨_, rfl⟩
        have hbd : Below gb wr wda := by rw [← hwd]; exact (Below.refl _ _).drew
        have hod : wda.ownsRow gb 55 2 (.slice (some ⟨gm, 0, none⟩) n cm) n (smpCells (nar P V k)) := by rw [← hwd]; exact HOW.out.drew
        rw [hwd] at hHeld ⊢
        replace HBW := Lib.hid (HBW.out.trans hbd)
        replace HOW := Lib.hid hod
        clear hwd hbd hod v1 v2 m0 m1 mf0 mf1 ms0
        obtain ⟨ad', hA', -, hcs⟩ := (HV8.out.below (HB2.out.trans (HBW.out.mono (Nat.le_of_lt hgw))) (Nat.le_refl _)).2 (by omega)
        cases hA'
        obtain ⟨v1, v2⟩ := hcs k hkV
        rw [HX0.out] at v1
        rw [HX1.out] at v2
        clear hcs
        obtain ⟨gm', hAm, -, hg2, m0, m1, mf0, mf1, ms0, ms1⟩ := own_p2 HOW.out (by exact hln.out) (k := k) (by rw [← hln.out]; exact hk1)
        cases hAm
        rw [HAT.out] at m0 m1 ms0 ms1
        refine wpAnyH_take (i := 0) (oi := { dst := some 34, op := Go.Op.move (Go.Operand.tmp 7), type := 24, pos := "outright.go:133", after := #[], guard := none }) (v := ?vt1001) rfl (by kernel_rfl) (by kernel_rfl) (by kernel_rfl) (fun _ _ _ h => h) (Or.inl ⟨by rfl, ?ht1001⟩) hHeld ?_
        case ht1001 => intro w hSw; obtain ⟨s1, s2⟩ := hSw; go_simp; try with_reducible rfl
        simp only [Act.put, List.setIfInBounds_toArray, List.set_cons_zero, List.set_cons_succ]
        refine wpAnyH_take (i := 1) (oi := { dst := some 35, op := Go.Op.move (Go.Operand.tmp 8), type := 3, pos := "outright.go:133", after := #[], guard := none }) (v := ?vt1002) rfl (by kernel_rfl) (by kernel_rfl) (by kernel_rfl) (fun _ _ _ h => h) (Or.inl ⟨by rfl, ?ht1002⟩) hHeld ?_
        case ht1002 => intro w hSw; obtain ⟨s1, s2⟩ := hSw; go_simp; try with_reducible rfl
        simp only [Act.put, List.setIfInBounds_toArray, List.set_cons_zero, List.set_cons_succ]
        refine wpAnyH_take (i := 2) (oi := { dst := some 36, op := Go.Op.move (Go.Operand.tmp 7), type := 24, pos := "outright.go:133", after := #[], guard := none }) (v := ?vt1003) rfl (by kernel_rfl) (by kernel_rfl) (by kernel_rfl) (fun _ _ _ h => h) (Or.inl ⟨by rfl, ?ht1003⟩) hHeld ?_
        case ht1003 => intro w hSw; obtain ⟨s1, s2⟩ := hSw; go_simp; try with_reducible rfl
        simp only [Act.put, List.setIfInBounds_toArray, List.set_cons_zero, List.set_cons_succ]
        refine wpAnyH_take (i := 3) (oi := { dst := some 37, op := Go.Op.move (Go.Operand.tmp 8), type := 3, pos := "outright.go:133", after := #[], guard := none }) (v := ?vt1004) rfl (by kernel_rfl) (by kernel_rfl) (by kernel_rfl) (fun _ _ _ h => h) (Or.inl ⟨by rfl, ?ht1004⟩) hHeld ?_
        case ht1004 => intro w hSw; obtain ⟨s1, s2⟩ := hSw; go_simp; try with_reducible rfl
        simp only [Act.put, List.setIfInBounds_toArray, List.set_cons_zero, List.set_cons_succ]
        refine wpAnyH_take (i := 4) (oi := { dst := some 38, op := Go.Op.indexAddr 24 (Go.Operand.tmp 36) (Go.Operand.tmp 37), type := 0, pos := "outright.go:133", after := #[{ on := 2, ground := Go.Ground.data }, { on := 3, ground := Go.Ground.data }], guard := none }) (v := ?vt1005) rfl (by kernel_rfl) (by kernel_rfl) (by kernel_rfl) (fun _ _ _ h => h) (Or.inl ⟨by rfl, ?ht1005⟩) hHeld ?_
        case ht1005 => intro w hSw; obtain ⟨s1, s2⟩ := hSw; go_simp; try with_reducible rfl
        simp only [Act.put, List.setIfInBounds_toArray, List.set_cons_zero, List.set_cons_succ]
        refine wpAnyH_take (i := 5) (oi := { dst := some 39, op := Go.Op.fieldAddr 55 (Go.Operand.tmp 38) 0, type := 0, pos := "outright.go:133", after := #[{ on := 4, ground := Go.Ground.data }], guard := none }) (v := ?vt1006) rfl (by kernel_rfl) (by kernel_rfl) (by kernel_rfl) (fun _ _ _ h => h) (Or.inl ⟨by rfl, ?ht1006⟩) hHeld ?_
        case ht1006 => intro w hSw; obtain ⟨s1, s2⟩ := hSw; go_simp; try with_reducible rfl
        simp only [Act.put, List.setIfInBounds_toArray, List.set_cons_zero, List.set_cons_succ]
        refine wpAnyH_take (i := 7) (oi := { dst := some 41, op := Go.Op.move (Go.Operand.tmp 2), type := 57, pos := "outright.go:133", after := #[], guard := none }) (v := ?vt1007) rfl (by kernel_rfl) (by kernel_rfl) (by kernel_rfl) (fun _ _ _ h => h) (Or.inl ⟨by rfl, ?ht1007⟩) hHeld ?_
        case ht1007 => intro w hSw; obtain ⟨s1, s2⟩ := hSw; go_simp; try with_reducible rfl
        simp only [Act.put, List.setIfInBounds_toArray, List.set_cons_zero, List.set_cons_succ]
        refine wpAnyH_take (i := 8) (oi := { dst := some 42, op := Go.Op.move (Go.Operand.tmp 8), type := 3, pos := "outright.go:133", after := #[], guard := none }) (v := ?vt1008) rfl (by kernel_rfl) (by kernel_rfl) (by kernel_rfl) (fun _ _ _ h => h) (Or.inl ⟨by rfl, ?ht1008⟩) hHeld ?_
        case ht1008 => intro w hSw; obtain ⟨s1, s2⟩ := hSw; go_simp; try with_reducible rfl
        simp only [Act.put, List.setIfInBounds_toArray, List.set_cons_zero, List.set_cons_succ]
        refine wpAnyH_take (i := 9) (oi := { dst := some 43, op := Go.Op.indexAddr 57 (Go.Operand.tmp 41) (Go.Operand.tmp 42), type := 0, pos := "outright.go:133", after := #[{ on := 7, ground := Go.Ground.data }, { on := 8, ground := Go.Ground.data }], guard := none }) (v := ?vt1009) rfl (by kernel_rfl) (by kernel_rfl) (by kernel_rfl) (fun _ _ _ h => h) (Or.inl ⟨by rfl, ?ht1009⟩) hHeld ?_
        case ht1009 => intro w hSw; obtain ⟨s1, s2⟩ := hSw; go_simp; try with_reducible rfl
        simp only [Act.put, List.setIfInBounds_toArray, List.set_cons_zero, List.set_cons_succ]
        refine wpAnyH_take (i := 10) (oi := { dst := some 44, op := Go.Op.indexAddr 58 (Go.Operand.tmp 43) (Go.Operand.const (Go.Value.int Go.IntKind.i64 0)), type := 0, pos := "outright.go:133", after := #[{ on := 9, ground := Go.Ground.data }], guard := none }) (v := ?vt1010) rfl (by kernel_rfl) (by kernel_rfl) (by kernel_rfl) (fun _ _ _ h => h) (Or.inl ⟨by rfl, ?ht1010⟩) hHeld ?_
        case ht1010 => intro w hSw; obtain ⟨s1, s2⟩ := hSw; go_simp; try with_reducible rfl
        simp only [Act.put, List.setIfInBounds_toArray, List.set_cons_zero, List.set_cons_succ]
        refine wpAnyH_take (i := 11) (oi := { dst := some 45, op := Go.Op.load 5 (Go.Operand.tmp 44), type := 5, pos := "outright.go:133", after := #[{ on := 10, ground := Go.Ground.data }], guard := none }) (v := ?vt1011) rfl (by kernel_rfl) (by kernel_rfl) (by kernel_rfl) (fun _ _ _ h => h) (Or.inl ⟨by rfl, ?ht1011⟩) hHeld ?_
        case ht1011 => intro w hSw; obtain ⟨s1, s2⟩ := hSw; go_simp; try with_reducible rfl
        simp only [Act.put, List.setIfInBounds_toArray, List.set_cons_zero, List.set_cons_succ]
        refine wpAnyH_take (i := 12) (oi := { dst := some 46, op := Go.Op.convert 5 2 (Go.Operand.tmp 45), type := 2, pos := "outright.go:133", after := #[{ on := 11, ground := Go.Ground.data }], guard := none }) (v := ?vt1012) rfl (by kernel_rfl) (by kernel_rfl) (by kernel_rfl) (fun _ _ _ h => h) (Or.inl ⟨by rfl, ?ht1012⟩) hHeld ?_
        case ht1012 => intro w hSw; obtain ⟨s1, s2⟩ := hSw; go_simp; try with_reducible rfl
        simp only [Act.put, List.setIfInBounds_toArray, List.set_cons_zero, List.set_cons_succ]
        refine wpAnyH_ready (rs := [6]) (by kernel_rfl) (by simp) ?_
        refine AllReadyH.cons rfl (fun K hK => ?_) AllReadyH.nil
        go_simp
        refine hK.out _ _ ?_ (fun hH1013 => ?_)
        · exact ⟨v1, v2⟩
        clear hK K
        refine wpAnyH_take (i := 13) (oi := { dst := some 47, op := Go.Op.binOp Go.BinOp.add 2 (Go.Operand.tmp 40) (Go.Operand.tmp 46) 2, type := 2, pos := "outright.go:133", after := #[{ on := 6, ground := Go.Ground.data }, { on := 12, ground := Go.Ground.data }], guard := none }) (v := ?vt1014) rfl (by kernel_rfl) (by kernel_rfl) (by kernel_rfl) (fun _ _ _ h => h) (Or.inl ⟨by rfl, ?ht1014⟩) hH1013 ?_
        case ht1014 => intro w hSw; obtain ⟨s1, s2⟩ := hSw; go_simp; try with_reducible rfl
        simp only [Act.put, List.setIfInBounds_toArray, List.set_cons_zero, List.set_cons_succ]
        refine wpAnyH_take (i := 14) (oi := { dst := some 48, op := Go.Op.call { callee := Go.Callee.builtin Go.Builtin.min, args := #[Go.Operand.const (Go.Value.int Go.IntKind.i64 4194304), Go.Operand.tmp 47], argTypes := #[2, 2] }, type := 2, pos := "outright.go:133", after := #[{ on := 13, ground := Go.Ground.data }], guard := none }) (v := ?vt1015) rfl (by kernel_rfl) (by kernel_rfl) (by kernel_rfl) (fun _ _ _ h => h) (Or.inl ⟨by rfl, ?ht1015⟩) hH1013 ?_
        case ht1015 => intro w hSw; obtain ⟨s1, s2⟩ := hSw; go_simp; try with_reducible rfl
        simp only [Act.put, List.setIfInBounds_toArray, List.set_cons_zero, List.set_cons_succ]
        refine wpAnyH_take (i := 15) (oi := { dst := some 49, op := Go.Op.indexAddr 24 (Go.Operand.tmp 34) (Go.Operand.tmp 35), type := 0, pos := "outright.go:133", after := #[{ on := 0, ground := Go.Ground.data }, { on := 1, ground := Go.Ground.data }, { on := 0, ground := Go.Ground.phase }, { on := 1, ground := Go.Ground.phase }, { on := 2, ground := Go.Ground.phase }, { on := 3, ground := Go.Ground.phase }, { on := 4, ground := Go.Ground.phase }, { on := 5, ground := Go.Ground.phase }, { on := 6, ground := Go.Ground.phase }, { on := 7, ground := Go.Ground.phase }, { on := 8, ground := Go.Ground.phase }, { on := 9, ground := Go.Ground.phase }, { on := 10, ground := Go.Ground.phase }, { on := 11, ground := Go.Ground.phase }, { on := 12, ground := Go.Ground.phase }, { on := 13, ground := Go.Ground.phase }, { on := 14, ground := Go.Ground.phase }], guard := none }) (v := ?vt1016) rfl (by kernel_rfl) (by kernel_rfl) (by kernel_rfl) (fun _ _ _ h => h) (Or.inl ⟨by rfl, ?ht1016⟩) hH1013 ?_
        case ht1016 => intro w hSw; obtain ⟨s1, s2⟩ := hSw; go_simp; try with_reducible rfl
        simp only [Act.put, List.setIfInBounds_toArray, List.set_cons_zero, List.set_cons_succ]
        refine wpAnyH_take (i := 16) (oi := { dst := some 50, op := Go.Op.fieldAddr 55 (Go.Operand.tmp 49) 0, type := 0, pos := "outright.go:133", after := #[{ on := 15, ground := Go.Ground.data }, { on := 0, ground := Go.Ground.phase }, { on := 1, ground := Go.Ground.phase }, { on := 2, ground := Go.Ground.phase }, { on := 3, ground := Go.Ground.phase }, { on := 4, ground := Go.Ground.phase }, { on := 5, ground := Go.Ground.phase }, { on := 6, ground := Go.Ground.phase }, { on := 7, ground := Go.Ground.phase }, { on := 8, ground := Go.Ground.phase }, { on := 9, ground := Go.Ground.phase }, { on := 10, ground := Go.Ground.phase }, { on := 11, ground := Go.Ground.phase }, { on := 12, ground := Go.Ground.phase }, { on := 13, ground := Go.Ground.phase }, { on := 14, ground := Go.Ground.phase }], guard := none }) (v := ?vt1017) rfl (by kernel_rfl) (by kernel_rfl) (by kernel_rfl) (fun _ _ _ h => h) (Or.inl ⟨by rfl, ?ht1017⟩) hH1013 ?_
        case ht1017 => intro w hSw; obtain ⟨s1, s2⟩ := hSw; go_simp; try with_reducible rfl
        simp only [Act.put, List.setIfInBounds_toArray, List.set_cons_zero, List.set_cons_succ]
        refine wpAnyH_ready (rs := [17]) (by kernel_rfl) (by simp) ?_
        refine AllReadyH.cons rfl (fun K hK => ?_) AllReadyH.nil
        go_simp
        have hos := ms0 u0
        have hbs : Below gb wda (wda.setCell ⟨gm, k * 2, none⟩ (.int .i64 u0)) := (Below.refl _ _).setCell (p := ⟨gm, k * 2, none⟩) hg1 _
        obtain ⟨wsa, hws⟩ : ∃ W, wda.setCell ⟨gm, k * 2, none⟩ (.int .i64 u0) = W := ⟨_, rfl⟩
        rw [hws] at hos hbs ⊢
        replace HBW := Lib.hid (HBW.out.trans hbs)
        replace HOW := Lib.hid hos
        clear hws hos hbs v1 v2 m0 m1 mf0 mf1 ms0 ms1
        obtain ⟨ad', hA', -, hcs⟩ := (HV8.out.below (HB2.out.trans (HBW.out.mono (Nat.le_of_lt hgw))) (Nat.le_refl _)).2 (by omega)
        cases hA'
        obtain ⟨v1, v2⟩ := hcs k hkV
        rw [HX0.out] at v1
        rw [HX1.out] at v2
        clear hcs
        refine hK.out _ _ ?_ (fun hH1018 => ?_)
        · exact ⟨v1, v2⟩
        clear hK K
        refine wpAnyH_done (by kernel_rfl) ?_ _
        have HL2 : Hid (((nar P V k).set k (u0, po)).length = (nar P V k).length) := Lib.hid (by rw [List.length_set])
        have HA2 : Hid (((nar P V k).set k (u0, po)).getD k (0, 0) = (u0, po)) := Lib.hid (by rw [List.getD_eq_getElem?_getD, List.getElem?_set_self (by rw [nar_len]; exact hkP)]; rfl)
        have HS2 : Hid (((nar P V k).set k (u0, po)).set k (u0, u1) = (nar P V k).set k (u0, u1)) := Lib.hid (by rw [List.set_set])
        obtain ⟨gm', hAm, -, hg2, m0, m1, mf0, mf1, ms0, ms1⟩ := own_p2 HOW.out (by rw [HL2.out]; exact hln.out) (k := k) (by rw [HL2.out, ← hln.out]; exact hk1)
        cases hAm
        rw [HA2.out] at m0 m1 ms0 ms1
        clear ms1
        go_wp2_with fail
        refine wp_region_held_drew (S := fun w' => w'.cell? (ad.add (k * 2)) = some (.int .u8 x0) ∧ w'.cell? ⟨(ad.add (k * 2)).block, (ad.add (k * 2)).off + 1, none⟩ = some (.int .u8 x1)) (by kernel_rfl) ⟨v1, v2⟩ (fun hHeld => ?_)
        obtain ⟨wdb, hwd⟩ : ∃ wd, wsa.drew = wd := ⟨_, rfl⟩
        have hbd : Below gb wsa wdb := by rw [← hwd]; exact (Below.refl _ _).drew
        have hod : wdb.ownsRow gb 55 2 (.slice (some ⟨gm, 0, none⟩) n cm) n (smpCells ((nar P V k).set k (u0, po))) := by rw [← hwd]; exact HOW.out.drew
        rw [hwd] at hHeld ⊢
        replace HBW := Lib.hid (HBW.out.trans hbd)
        replace HOW := Lib.hid hod
        clear hwd hbd hod v1 v2 m0 m1 mf0 mf1 ms0
        obtain ⟨ad', hA', -, hcs⟩ := (HV8.out.below (HB2.out.trans (HBW.out.mono (Nat.le_of_lt hgw))) (Nat.le_refl _)).2 (by omega)
        cases hA'
        obtain ⟨v1, v2⟩ := hcs k hkV
        rw [HX0.out] at v1
        rw [HX1.out] at v2
        clear hcs
        obtain ⟨gm', hAm, -, hg2, m0, m1, mf0, mf1, ms0, ms1⟩ := own_p2 HOW.out (by rw [HL2.out]; exact hln.out) (k := k) (by rw [HL2.out, ← hln.out]; exact hk1)
        cases hAm
        rw [HA2.out] at m0 m1 ms0 ms1
        refine wpAnyH_take (i := 0) (oi := { dst := some 51, op := Go.Op.move (Go.Operand.tmp 7), type := 24, pos := "outright.go:134", after := #[], guard := none }) (v := ?vt2001) rfl (by kernel_rfl) (by kernel_rfl) (by kernel_rfl) (fun _ _ _ h => h) (Or.inl ⟨by rfl, ?ht2001⟩) hHeld ?_
        case ht2001 => intro w hSw; obtain ⟨s1, s2⟩ := hSw; go_simp; try with_reducible rfl
        simp only [Act.put, List.setIfInBounds_toArray, List.set_cons_zero, List.set_cons_succ]
        refine wpAnyH_take (i := 1) (oi := { dst := some 52, op := Go.Op.move (Go.Operand.tmp 8), type := 3, pos := "outright.go:134", after := #[], guard := none }) (v := ?vt2002) rfl (by kernel_rfl) (by kernel_rfl) (by kernel_rfl) (fun _ _ _ h => h) (Or.inl ⟨by rfl, ?ht2002⟩) hHeld ?_
        case ht2002 => intro w hSw; obtain ⟨s1, s2⟩ := hSw; go_simp; try with_reducible rfl
        simp only [Act.put, List.setIfInBounds_toArray, List.set_cons_zero, List.set_cons_succ]
        refine wpAnyH_take (i := 2) (oi := { dst := some 53, op := Go.Op.move (Go.Operand.tmp 7), type := 24, pos := "outright.go:134", after := #[], guard := none }) (v := ?vt2003) rfl (by kernel_rfl) (by kernel_rfl) (by kernel_rfl) (fun _ _ _ h => h) (Or.inl ⟨by rfl, ?ht2003⟩) hHeld ?_
        case ht2003 => intro w hSw; obtain ⟨s1, s2⟩ := hSw; go_simp; try with_reducible rfl
        simp only [Act.put, List.setIfInBounds_toArray, List.set_cons_zero, List.set_cons_succ]
        refine wpAnyH_take (i := 3) (oi := { dst := some 54, op := Go.Op.move (Go.Operand.tmp 8), type := 3, pos := "outright.go:134", after := #[], guard := none }) (v := ?vt2004) rfl (by kernel_rfl) (by kernel_rfl) (by kernel_rfl) (fun _ _ _ h => h) (Or.inl ⟨by rfl, ?ht2004⟩) hHeld ?_
        case ht2004 => intro w hSw; obtain ⟨s1, s2⟩ := hSw; go_simp; try with_reducible rfl
        simp only [Act.put, List.setIfInBounds_toArray, List.set_cons_zero, List.set_cons_succ]
        refine wpAnyH_take (i := 4) (oi := { dst := some 55, op := Go.Op.indexAddr 24 (Go.Operand.tmp 53) (Go.Operand.tmp 54), type := 0, pos := "outright.go:134", after := #[{ on := 2, ground := Go.Ground.data }, { on := 3, ground := Go.Ground.data }], guard := none }) (v := ?vt2005) rfl (by kernel_rfl) (by kernel_rfl) (by kernel_rfl) (fun _ _ _ h => h) (Or.inl ⟨by rfl, ?ht2005⟩) hHeld ?_
        case ht2005 => intro w hSw; obtain ⟨s1, s2⟩ := hSw; go_simp; try with_reducible rfl
        simp only [Act.put, List.setIfInBounds_toArray, List.set_cons_zero, List.set_cons_succ]
        refine wpAnyH_take (i := 5) (oi := { dst := some 56, op := Go.Op.fieldAddr 55 (Go.Operand.tmp 55) 1, type := 0, pos := "outright.go:134", after := #[{ on := 4, ground := Go.Ground.data }], guard := none }) (v := ?vt2006) rfl (by kernel_rfl) (by kernel_rfl) (by kernel_rfl) (fun _ _ _ h => h) (Or.inl ⟨by rfl, ?ht2006⟩) hHeld ?_
        case ht2006 => intro w hSw; obtain ⟨s1, s2⟩ := hSw; go_simp; try with_reducible rfl
        simp only [Act.put, List.setIfInBounds_toArray, List.set_cons_zero, List.set_cons_succ]
        refine wpAnyH_take (i := 7) (oi := { dst := some 58, op := Go.Op.move (Go.Operand.tmp 2), type := 57, pos := "outright.go:134", after := #[], guard := none }) (v := ?vt2007) rfl (by kernel_rfl) (by kernel_rfl) (by kernel_rfl) (fun _ _ _ h => h) (Or.inl ⟨by rfl, ?ht2007⟩) hHeld ?_
        case ht2007 => intro w hSw; obtain ⟨s1, s2⟩ := hSw; go_simp; try with_reducible rfl
        simp only [Act.put, List.setIfInBounds_toArray, List.set_cons_zero, List.set_cons_succ]
        refine wpAnyH_take (i := 8) (oi := { dst := some 59, op := Go.Op.move (Go.Operand.tmp 8), type := 3, pos := "outright.go:134", after := #[], guard := none }) (v := ?vt2008) rfl (by kernel_rfl) (by kernel_rfl) (by kernel_rfl) (fun _ _ _ h => h) (Or.inl ⟨by rfl, ?ht2008⟩) hHeld ?_
        case ht2008 => intro w hSw; obtain ⟨s1, s2⟩ := hSw; go_simp; try with_reducible rfl
        simp only [Act.put, List.setIfInBounds_toArray, List.set_cons_zero, List.set_cons_succ]
        refine wpAnyH_take (i := 9) (oi := { dst := some 60, op := Go.Op.indexAddr 57 (Go.Operand.tmp 58) (Go.Operand.tmp 59), type := 0, pos := "outright.go:134", after := #[{ on := 7, ground := Go.Ground.data }, { on := 8, ground := Go.Ground.data }], guard := none }) (v := ?vt2009) rfl (by kernel_rfl) (by kernel_rfl) (by kernel_rfl) (fun _ _ _ h => h) (Or.inl ⟨by rfl, ?ht2009⟩) hHeld ?_
        case ht2009 => intro w hSw; obtain ⟨s1, s2⟩ := hSw; go_simp; try with_reducible rfl
        simp only [Act.put, List.setIfInBounds_toArray, List.set_cons_zero, List.set_cons_succ]
        refine wpAnyH_take (i := 10) (oi := { dst := some 61, op := Go.Op.indexAddr 58 (Go.Operand.tmp 60) (Go.Operand.const (Go.Value.int Go.IntKind.i64 1)), type := 0, pos := "outright.go:134", after := #[{ on := 9, ground := Go.Ground.data }], guard := none }) (v := ?vt2010) rfl (by kernel_rfl) (by kernel_rfl) (by kernel_rfl) (fun _ _ _ h => h) (Or.inl ⟨by rfl, ?ht2010⟩) hHeld ?_
        case ht2010 => intro w hSw; obtain ⟨s1, s2⟩ := hSw; go_simp; try with_reducible rfl
        simp only [Act.put, List.setIfInBounds_toArray, List.set_cons_zero, List.set_cons_succ]
        refine wpAnyH_take (i := 11) (oi := { dst := some 62, op := Go.Op.load 5 (Go.Operand.tmp 61), type := 5, pos := "outright.go:134", after := #[{ on := 10, ground := Go.Ground.data }], guard := none }) (v := ?vt2011) rfl (by kernel_rfl) (by kernel_rfl) (by kernel_rfl) (fun _ _ _ h => h) (Or.inl ⟨by rfl, ?ht2011⟩) hHeld ?_
        case ht2011 => intro w hSw; obtain ⟨s1, s2⟩ := hSw; go_simp; try with_reducible rfl
        simp only [Act.put, List.setIfInBounds_toArray, List.set_cons_zero, List.set_cons_succ]
        refine wpAnyH_take (i := 12) (oi := { dst := some 63, op := Go.Op.convert 5 2 (Go.Operand.tmp 62), type := 2, pos := "outright.go:134", after := #[{ on := 11, ground := Go.Ground.data }], guard := none }) (v := ?vt2012) rfl (by kernel_rfl) (by kernel_rfl) (by kernel_rfl) (fun _ _ _ h => h) (Or.inl ⟨by rfl, ?ht2012⟩) hHeld ?_
        case ht2012 => intro w hSw; obtain ⟨s1, s2⟩ := hSw; go_simp; try with_reducible rfl
        simp only [Act.put, List.setIfInBounds_toArray, List.set_cons_zero, List.set_cons_succ]
        refine wpAnyH_ready (rs := [6]) (by kernel_rfl) (by simp) ?_
        refine AllReadyH.cons rfl (fun K hK => ?_) AllReadyH.nil
        go_simp
        refine hK.out _ _ ?_ (fun hH2013 => ?_)
        · exact ⟨v1, v2⟩
        clear hK K
        refine wpAnyH_take (i := 13) (oi := { dst := some 64, op := Go.Op.binOp Go.BinOp.sub 2 (Go.Operand.tmp 57) (Go.Operand.tmp 63) 2, type := 2, pos := "outright.go:134", after := #[{ on := 6, ground := Go.Ground.data }, { on := 12, ground := Go.Ground.data }], guard := none }) (v := ?vt2014) rfl (by kernel_rfl) (by kernel_rfl) (by kernel_rfl) (fun _ _ _ h => h) (Or.inl ⟨by rfl, ?ht2014⟩) hH2013 ?_
        case ht2014 => intro w hSw; obtain ⟨s1, s2⟩ := hSw; go_simp; try with_reducible rfl
        simp only [Act.put, List.setIfInBounds_toArray, List.set_cons_zero, List.set_cons_succ]
        refine wpAnyH_take (i := 14) (oi := { dst := some 65, op := Go.Op.call { callee := Go.Callee.builtin Go.Builtin.max, args := #[Go.Operand.const (Go.Value.int Go.IntKind.i64 (-4194304)), Go.Operand.tmp 64], argTypes := #[2, 2] }, type := 2, pos := "outright.go:134", after := #[{ on := 13, ground := Go.Ground.data }], guard := none }) (v := ?vt2015) rfl (by kernel_rfl) (by kernel_rfl) (by kernel_rfl) (fun _ _ _ h => h) (Or.inl ⟨by rfl, ?ht2015⟩) hH2013 ?_
        case ht2015 => intro w hSw; obtain ⟨s1, s2⟩ := hSw; go_simp; try with_reducible rfl
        simp only [Act.put, List.setIfInBounds_toArray, List.set_cons_zero, List.set_cons_succ]
        refine wpAnyH_take (i := 15) (oi := { dst := some 66, op := Go.Op.indexAddr 24 (Go.Operand.tmp 51) (Go.Operand.tmp 52), type := 0, pos := "outright.go:134", after := #[{ on := 0, ground := Go.Ground.data }, { on := 1, ground := Go.Ground.data }, { on := 0, ground := Go.Ground.phase }, { on := 1, ground := Go.Ground.phase }, { on := 2, ground := Go.Ground.phase }, { on := 3, ground := Go.Ground.phase }, { on := 4, ground := Go.Ground.phase }, { on := 5, ground := Go.Ground.phase }, { on := 6, ground := Go.Ground.phase }, { on := 7, ground := Go.Ground.phase }, { on := 8, ground := Go.Ground.phase }, { on := 9, ground := Go.Ground.phase }, { on := 10, ground := Go.Ground.phase }, { on := 11, ground := Go.Ground.phase }, { on := 12, ground := Go.Ground.phase }, { on := 13, ground := Go.Ground.phase }, { on := 14, ground := Go.Ground.phase }], guard := none }) (v := ?vt2016) rfl (by kernel_rfl) (by kernel_rfl) (by kernel_rfl) (fun _ _ _ h => h) (Or.inl ⟨by rfl, ?ht2016⟩) hH2013 ?_
        case ht2016 => intro w hSw; obtain ⟨s1, s2⟩ := hSw; go_simp; try with_reducible rfl
        simp only [Act.put, List.setIfInBounds_toArray, List.set_cons_zero, List.set_cons_succ]
        refine wpAnyH_take (i := 16) (oi := { dst := some 67, op := Go.Op.fieldAddr 55 (Go.Operand.tmp 66) 1, type := 0, pos := "outright.go:134", after := #[{ on := 15, ground := Go.Ground.data }, { on := 0, ground := Go.Ground.phase }, { on := 1, ground := Go.Ground.phase }, { on := 2, ground := Go.Ground.phase }, { on := 3, ground := Go.Ground.phase }, { on := 4, ground := Go.Ground.phase }, { on := 5, ground := Go.Ground.phase }, { on := 6, ground := Go.Ground.phase }, { on := 7, ground := Go.Ground.phase }, { on := 8, ground := Go.Ground.phase }, { on := 9, ground := Go.Ground.phase }, { on := 10, ground := Go.Ground.phase }, { on := 11, ground := Go.Ground.phase }, { on := 12, ground := Go.Ground.phase }, { on := 13, ground := Go.Ground.phase }, { on := 14, ground := Go.Ground.phase }], guard := none }) (v := ?vt2017) rfl (by kernel_rfl) (by kernel_rfl) (by kernel_rfl) (fun _ _ _ h => h) (Or.inl ⟨by rfl, ?ht2017⟩) hH2013 ?_
        case ht2017 => intro w hSw; obtain ⟨s1, s2⟩ := hSw; go_simp; try with_reducible rfl
        simp only [Act.put, List.setIfInBounds_toArray, List.set_cons_zero, List.set_cons_succ]
        refine wpAnyH_ready (rs := [17]) (by kernel_rfl) (by simp) ?_
        refine AllReadyH.cons rfl (fun K hK => ?_) AllReadyH.nil
        go_simp
        have hos := ms1 u1
        have hbs : Below gb wdb (wdb.setCell ⟨gm, k * 2 + 1, none⟩ (.int .i64 u1)) := (Below.refl _ _).setCell (p := ⟨gm, k * 2 + 1, none⟩) hg1 _
        obtain ⟨wsb, hws⟩ : ∃ W, wdb.setCell ⟨gm, k * 2 + 1, none⟩ (.int .i64 u1) = W := ⟨_, rfl⟩
        rw [hws] at hos hbs ⊢
        replace HBW := Lib.hid (HBW.out.trans hbs)
        replace HOW := Lib.hid hos
        clear hws hos hbs v1 v2 m0 m1 mf0 mf1 ms0 ms1
        obtain ⟨ad', hA', -, hcs⟩ := (HV8.out.below (HB2.out.trans (HBW.out.mono (Nat.le_of_lt hgw))) (Nat.le_refl _)).2 (by omega)
        cases hA'
        obtain ⟨v1, v2⟩ := hcs k hkV
        rw [HX0.out] at v1
        rw [HX1.out] at v2
        clear hcs
        refine hK.out _ _ ?_ (fun hH2018 => ?_)
        · exact ⟨v1, v2⟩
        clear hK K
        refine wpAnyH_done (by kernel_rfl) ?_ _
        have HOW2 : Hid (wsb.ownsRow gb 55 2 (.slice (some ⟨gm, 0, none⟩) n cm) n (smpCells (nar P V (k + 1)))) := Lib.hid (by rw [HNX.out, ← HS2.out]; exact HOW.out)
        go_wp2_with fail
        go_roundw
        case rel => exact ⟨k + 1, by omega, by omega, by go_num, HOW2, HBW⟩
        case measure => simp [intOf]; omega
      · have HKV : Hid (k ≤ V.length) := Lib.hid (by rw [← HNV.out]; exact hkv)
        have HK := Lib.hid (HK2.out.below HBW.out hgw)
        have HB := Lib.hid (HB2.out.trans (HBW.out.mono (Nat.le_of_lt hgw)))
        obtain ⟨Am', cm', e, hr⟩ := own_reads HOW.out
        cases e
        have HMR : Hid (RS wr wr.heap.size Am n (nar P V k)) := Lib.hid ⟨by rw [nar_len]; exact HN.out, hr⟩
        have HNL := Lib.hid (nar_len P V k)
        clear hr HOW HBW HK2 HB2
        obtain ⟨c0, c1, c2, c3, c4, c5⟩ := HK.out.six
        by_cases hkn : k < n
        · have hj : ¬ (k : Int) < (nv : Int) := by omega
          have hj2 : (k : Int) < (n : Int) := by omega
          cases hs : sol b P P.length with
          | none =>
            have HS := Lib.hid (HON.out hs)
            clear hs
            go_wp2_with fail
            have CALL := Outermost_any w.heap.size A n c b P wr (HP.out.below HB.out (Nat.le_refl _)) HB.out.size hl
            refine CALL.mono ?_
            rintro e w4 ⟨v, E, rfl, hE, ho, hb⟩
            clear CALL
            rw [HS.out.1] at hE
            subst hE
            clear ho
            replace HK := Lib.hid (HK.out.below hb HK.out.lt)
            replace HMR := Lib.hid ((HMR.out.below hb (Nat.le_refl _)).more hb.size)
            replace HB := Lib.hid (HB.out.trans (hb.mono HB.out.size))
            clear hb c0 c1 c2 c3 c4 c5
            obtain ⟨c0, c1, c2, c3, c4, c5⟩ := HK.out.six
            go_wp2_with fail
            have CALL := Outermost_any w4.heap.size Am n cm b (nar P V k) w4 HMR.out (Nat.le_refl _) hl
            refine CALL.mono ?_
            rintro e w5 ⟨v2, E2, rfl, hE2, ho2, hb⟩
            clear CALL
            clear hE2 ho2
            replace HK := Lib.hid (HK.out.below hb HK.out.lt)
            replace HMR := Lib.hid ((HMR.out.below hb (Nat.le_refl _)).more hb.size)
            replace HB := Lib.hid (HB.out.trans (hb.mono HB.out.size))
            clear hb c0 c1 c2 c3 c4 c5
            obtain ⟨c0, c1, c2, c3, c4, c5⟩ := HK.out.six
            go_wp2_with fail
            refine (works5_any _).mono ?_
            rintro e w6 ⟨rfl, hb⟩
            replace HB := Lib.hid (HB.out.trans (hb.mono HB.out.size))
            clear hb
            go_wp2
            go_ret
            exact ⟨rfl, HB.out⟩
          | some X =>
            have HS := Lib.hid (HOS.out X hs)
            have HT := Lib.hid (HTP.out X hs)
            obtain ⟨Y, y1, y2, y3, y4⟩ := HSN.out k HKV.out X hs
            have HY := Lib.hid (And.intro y1 y2)
            have HYL := Lib.hid y3
            have HYX := Lib.hid y4
            clear hs y1 y2 y3 y4
            go_wp2_with fail
            have CALL := Outermost_any w.heap.size A n c b P wr (HP.out.below HB.out (Nat.le_refl _)) HB.out.size hl
            refine CALL.mono ?_
            rintro e w7 ⟨v, E, rfl, hE, ho, hb⟩
            clear CALL
            rw [HS.out.1] at hE
            subst hE
            rw [HS.out.2, HT.out.len, ← HN.out] at ho
            obtain ⟨AO, kO, rfl, hO⟩ := li_own ho
            have HO := Lib.hid hO
            clear ho hO
            replace HK := Lib.hid (HK.out.below hb HK.out.lt)
            replace HMR := Lib.hid ((HMR.out.below hb (Nat.le_refl _)).more hb.size)
            replace HB := Lib.hid (HB.out.trans (hb.mono HB.out.size))
            clear hb c0 c1 c2 c3 c4 c5
            obtain ⟨c0, c1, c2, c3, c4, c5⟩ := HK.out.six
            go_wp2_with fail
            have CALL := Outermost_any w7.heap.size Am n cm b (nar P V k) w7 HMR.out (Nat.le_refl _) hl
            refine CALL.mono ?_
            rintro e w8 ⟨v2, E2, rfl, hE2, ho2, hb⟩
            clear CALL
            rw [HY.out.1] at hE2
            subst hE2
            rw [HY.out.2, HYL.out, ← HN.out] at ho2
            obtain ⟨AY, kY, rfl, hYr⟩ := li_own ho2
            have HYR := Lib.hid hYr
            clear ho2 hYr
            replace HO := Lib.hid ((HO.out.below hb (by first | exact Nat.le_refl _ | exact HSO.out)).more hb.size)
            replace HK := Lib.hid (HK.out.below hb HK.out.lt)
            replace HMR := Lib.hid ((HMR.out.below hb (Nat.le_refl _)).more hb.size)
            replace HB := Lib.hid (HB.out.trans (hb.mono HB.out.size))
            clear hb c0 c1 c2 c3 c4 c5
            obtain ⟨c0, c1, c2, c3, c4, c5⟩ := HK.out.six
            go_wp2_with fail
            go_loopw [13] (fun z wr => ∃ i : Nat, i ≤ n ∧ z = .int .i64 i ∧ Hid (Below w8.heap.size w8 wr)) (fun z _ => n - (intOf z).toNat)
            case atStart => exact ⟨0, Nat.zero_le _, rfl, Lib.hid (Below.refl _ _)⟩
            case round =>
              obtain ⟨i, hi, rfl, HB2⟩ := hrel
              by_cases hlt : i < n
              · obtain ⟨ad, hA, -, g1⟩ := (HO.out.below HB2.out (Nat.le_refl _)).fx hlt
                obtain ⟨ad', hA', -, g2⟩ := (HYR.out.below HB2.out (Nat.le_refl _)).fx hlt
                subst hA hA'
                have hu := HYX.out i (by rw [← HN.out]; exact hlt)
                obtain ⟨x, hx⟩ : ∃ x, fx X i = x := ⟨_, rfl⟩
                obtain ⟨y, hy⟩ : ∃ x, fx Y i = x := ⟨_, rfl⟩
                rw [hx] at g1 hu
                rw [hy] at g2 hu
                clear hx hy
                have hxy : ¬ y < x := by omega
                clear hu
                go_wp2_with fail
                go_quiet (fail)
                go_wp2_with fail
                go_roundw
                case rel => exact ⟨i + 1, by omega, by go_num, Lib.hid (below_drewN_ HB2.out _)⟩
                case measure => simp [intOf]; omega
              · obtain rfl : n = i := by omega
                replace HB := Lib.hid (HB.out.trans (HB2.out.mono HB.out.size))
                go_wp2_with fail
                refine (works5_any _).mono ?_
                rintro e w9 ⟨rfl, hb⟩
                replace HB := Lib.hid (HB.out.trans (hb.mono HB.out.size))
                clear hb
                go_wp2
                go_ret
                exact ⟨rfl, HB.out⟩
        · have hj : ¬ (k : Int) < (n : Int) := by omega
          cases hs : sol b P P.length with
          | none =>
            have HS := Lib.hid (HON.out hs)
            clear hs
            go_wp2_with fail
            have CALL := Outermost_any w.heap.size A n c b P wr (HP.out.below HB.out (Nat.le_refl _)) HB.out.size hl
            refine CALL.mono ?_
            rintro e w10 ⟨v, E, rfl, hE, ho, hb⟩
            clear CALL
            rw [HS.out.1] at hE
            subst hE
            clear ho
            replace HK := Lib.hid (HK.out.below hb HK.out.lt)
            replace HMR := Lib.hid ((HMR.out.below hb (Nat.le_refl _)).more hb.size)
            replace HB := Lib.hid (HB.out.trans (hb.mono HB.out.size))
            clear hb c0 c1 c2 c3 c4 c5
            obtain ⟨c0, c1, c2, c3, c4, c5⟩ := HK.out.six
            go_wp2_with fail
            have CALL := Outermost_any w10.heap.size Am n cm b (nar P V k) w10 HMR.out (Nat.le_refl _) hl
            refine CALL.mono ?_
            rintro e w11 ⟨v2, E2, rfl, hE2, ho2, hb⟩
            clear CALL
            clear hE2 ho2
            replace HK := Lib.hid (HK.out.below hb HK.out.lt)
            replace HMR := Lib.hid ((HMR.out.below hb (Nat.le_refl _)).more hb.size)
            replace HB := Lib.hid (HB.out.trans (hb.mono HB.out.size))
            clear hb c0 c1 c2 c3 c4 c5
            obtain ⟨c0, c1, c2, c3, c4, c5⟩ := HK.out.six
            go_wp2_with fail
            refine (works5_any _).mono ?_
            rintro e w12 ⟨rfl, hb⟩
            replace HB := Lib.hid (HB.out.trans (hb.mono HB.out.size))
            clear hb
            go_wp2
            go_ret
            exact ⟨rfl, HB.out⟩
          | some X =>
            have HS := Lib.hid (HOS.out X hs)
            have HT := Lib.hid (HTP.out X hs)
            obtain ⟨Y, y1, y2, y3, y4⟩ := HSN.out k HKV.out X hs
            have HY := Lib.hid (And.intro y1 y2)
            have HYL := Lib.hid y3
            have HYX := Lib.hid y4
            clear hs y1 y2 y3 y4
            go_wp2_with fail
            have CALL := Outermost_any w.heap.size A n c b P wr (HP.out.below HB.out (Nat.le_refl _)) HB.out.size hl
            refine CALL.mono ?_
            rintro e w13 ⟨v, E, rfl, hE, ho, hb⟩
            clear CALL
            rw [HS.out.1] at hE
            subst hE
            rw [HS.out.2, HT.out.len, ← HN.out] at ho
            obtain ⟨AO, kO, rfl, hO⟩ := li_own ho
            have HO := Lib.hid hO
            clear ho hO
            replace HK := Lib.hid (HK.out.below hb HK.out.lt)
            replace HMR := Lib.hid ((HMR.out.below hb (Nat.le_refl _)).more hb.size)
            replace HB := Lib.hid (HB.out.trans (hb.mono HB.out.size))
            clear hb c0 c1 c2 c3 c4 c5
            obtain ⟨c0, c1, c2, c3, c4, c5⟩ := HK.out.six
            go_wp2_with fail
            have CALL := Outermost_any w13.heap.size Am n cm b (nar P V k) w13 HMR.out (Nat.le_refl _) hl
            refine CALL.mono ?_
            rintro e w14 ⟨v2, E2, rfl, hE2, ho2, hb⟩
            clear CALL
            rw [HY.out.1] at hE2
            subst hE2
            rw [HY.out.2, HYL.out, ← HN.out] at ho2
            obtain ⟨AY, kY, rfl, hYr⟩ := li_own ho2
            have HYR := Lib.hid hYr
            clear ho2 hYr
            replace HO := Lib.hid ((HO.out.below hb (by first | exact Nat.le_refl _ | exact HSO.out)).more hb.size)
            replace HK := Lib.hid (HK.out.below hb HK.out.lt)
            replace HMR := Lib.hid ((HMR.out.below hb (Nat.le_refl _)).more hb.size)
            replace HB := Lib.hid (HB.out.trans (hb.mono HB.out.size))
            clear hb c0 c1 c2 c3 c4 c5
            obtain ⟨c0, c1, c2, c3, c4, c5⟩ := HK.out.six
            go_wp2_with fail
            go_loopw [13] (fun z wr => ∃ i : Nat, i ≤ n ∧ z = .int .i64 i ∧ Hid (Below w14.heap.size w14 wr)) (fun z _ => n - (intOf z).toNat)
            case atStart => exact ⟨0, Nat.zero_le _, rfl, Lib.hid (Below.refl _ _)⟩
            case round =>
              obtain ⟨i, hi, rfl, HB2⟩ := hrel
              by_cases hlt : i < n
              · obtain ⟨ad, hA, -, g1⟩ := (HO.out.below HB2.out (Nat.le_refl _)).fx hlt
                obtain ⟨ad', hA', -, g2⟩ := (HYR.out.below HB2.out (Nat.le_refl _)).fx hlt
                subst hA hA'
                have hu := HYX.out i (by rw [← HN.out]; exact hlt)
                obtain ⟨x, hx⟩ : ∃ x, fx X i = x := ⟨_, rfl⟩
                obtain ⟨y, hy⟩ : ∃ x, fx Y i = x := ⟨_, rfl⟩
                rw [hx] at g1 hu
                rw [hy] at g2 hu
                clear hx hy
                have hxy : ¬ y < x := by omega
                clear hu
                go_wp2_with fail
                go_quiet (fail)
                go_wp2_with fail
                go_roundw
                case rel => exact ⟨i + 1, by omega, by go_num, Lib.hid (below_drewN_ HB2.out _)⟩
                case measure => simp [intOf]; omega
              · obtain rfl : n = i := by omega
                replace HB := Lib.hid (HB.out.trans (HB2.out.mono HB.out.size))
                go_wp2_with fail
                refine (works5_any _).mono ?_
                rintro e w15 ⟨rfl, hb⟩
                replace HB := Lib.hid (HB.out.trans (hb.mono HB.out.size))
                clear hb
                go_wp2
                go_ret
                exact ⟨rfl, HB.out⟩
end Go.Proofs.Ytgdkcbnpgpjnbaa
