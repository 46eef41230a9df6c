/-
  Contracts of proves and CheckRefusal.
-/
import Derived.Test.YtgdkcbnpgpjnbaaL34
import Derived.Test.YtgdkcbnpgpjnbaaLX
namespace Go.Proofs.Ytgdkcbnpgpjnbaa
open Go.RowKit

theorem edg5 (r i : Int) (o : Option (Int × Int × Int)) : ∃ x0 x1 x2 x3 x4 : Int, edgV r i o = .agg #[.int .i64 x0, .int .i64 x1, .int .i64 x2, .int .i64 x3, .int .i64 x4] ∧ x2 = (match o with | none => 0 | some e => e.1) ∧ (∀ e, o = some e → x3 = e.2.1 ∧ x4 = e.2.2) := by
  cases o with
  | none => exact ⟨0, 0, 0, 0, 0, rfl, rfl, fun e h => by cases h⟩
  | some e => exact ⟨r, i, e.1, e.2.1, e.2.2, rfl, rfl, fun e' h => by cases h; exact ⟨rfl, rfl⟩⟩
theorem set5 {W : World} {g : Nat} {t : TypeId} {u0 u1 u2 u3 u4 a b c d e : Value} (hk : Blk W g t #[u0, u1, u2, u3, u4]) :
    ∃ V, Blk V g t #[a, b, c, d, e] ∧ Below g W V ∧ V = ((((W.setCell ⟨g, 0, none⟩ a).setCell ⟨g, 1, none⟩ b).setCell ⟨g, 2, none⟩ c).setCell ⟨g, 3, none⟩ d).setCell ⟨g, 4, none⟩ e := by
  refine ⟨_, ((((hk.set_ 0 a).set_ 1 b).set_ 2 c).set_ 3 d).set_ 4 e, ?_, rfl⟩
  exact (((((Below.refl _ _).setCell (p := ⟨g, 0, none⟩) (Nat.le_refl _) _).setCell (p := ⟨g, 1, none⟩) (Nat.le_refl _) _).setCell (p := ⟨g, 2, none⟩) (Nat.le_refl _) _).setCell (p := ⟨g, 3, none⟩) (Nat.le_refl _) _).setCell (p := ⟨g, 4, none⟩) (Nat.le_refl _) _

set_option maxRecDepth 100000 in
set_option maxHeartbeats 8000000 in
theorem proves_any (B : Nat) (A AS : Option Addr) (n c m d : Nat) (b : Bk) (P S : List Smp) (w : World) (h0 : RS w B A n P) (h1 : RS w B AS m S) (hB : B ≤ w.heap.size) (hn : n ≤ 4096) (hm : m ≤ 16384) (hb : BkOk b) (hP : PsOk P) :
    Calls Try.prog 52 #[.agg #[.int .i64 b.per, .int .i64 b.rim, .int .i64 b.core, .int .i64 b.land, .int .i64 b.slow, .int .i64 b.fast, .slice A n c], .slice AS m d] w fun e w' => e = .returned (.bool (prv b P S)) ∧ Below w.heap.size w w' := by
  have HP := Lib.hid (h0.more hB)
  have HS := Lib.hid (h1.more hB)
  have HN := Lib.hid h0.1
  have HM := Lib.hid h1.1
  have HOK := Lib.hid (And.intro hb hP)
  have CE := Lib.hid (fun (r i : Int) (W : World) (h : Below w.heap.size w W) => edge_any w.heap.size A n c b P r i W (HP.out.below h (Nat.le_refl _)) h.size (by omega) hb hP)
  clear h0 h1 hB hb hP
  go_enter Try.func52, Try.ntmps52
  go_upto_region 1 with fail
  obtain ⟨w1, hW⟩ : ∃ W, w.alloc (.cells #[.int .i64 b.per, .int .i64 b.rim, .int .i64 b.core, .int .i64 b.land, .int .i64 b.slow, .int .i64 b.fast, .slice A n c] 69) = W := ⟨_, rfl⟩
  have hb0 : Below w.heap.size w w1 := by rw [← hW]; exact below_a _ _
  have k0 : Blk w1 w.heap.size 69 #[.int .i64 b.per, .int .i64 b.rim, .int .i64 b.core, .int .i64 b.land, .int .i64 b.slow, .int .i64 b.fast, .slice A n c] := by rw [← hW]; exact Blk.new _ _ _
  rw [hW]
  have HB := Lib.hid hb0
  have HK := Lib.hid k0
  clear hW hb0 k0
  by_cases hm0 : m = 0
  · subst hm0
    have HV : Hid (prv b P S = false) := Lib.hid (by rw [prv_stp, ← HM.out]; simp)
    go_wp2_with fail
    go_ret
    rw [HV.out]
    exact ⟨rfl, HB.out⟩
  · have hm1 : ((m : Int) == 0) = false := by simp; omega
    have hmp : 0 < m := by omega
    have h0S : 0 < S.length := by rw [← HM.out]; exact hmp
    obtain ⟨ad, hA, hbl, g1, g2⟩ := (HS.out.below HB.out (Nat.le_refl _)).hx hmp
    subst hA
    obtain ⟨st, hst⟩ : ∃ x, hx S 0 = x := ⟨_, rfl⟩
    have HX0 := Lib.hid hst
    have HAD : Hid (ad.add (0 * 2) = ad) := Lib.hid (by simp [Addr.add])
    rw [hst, HAD.out] at g1
    rw [hst, HAD.out] at g2
    obtain ⟨r, i⟩ := st
    obtain ⟨x0, x1, x2, x3, x4, hx5, hx2, -⟩ := edg5 r i (edgO b P (r, i))
    obtain ⟨ok, hok⟩ : ∃ x, (edgO b P (r, i)).isSome = x := ⟨_, rfl⟩
    have HX2 : Hid (x2 = bgnL b P S) := Lib.hid (by
      have h := hx_eq h0S
      rw [hst] at h
      have : bgnL b P S = bgn b P (r, i) := by
        rw [h]
        cases S with
        | nil => simp at h0S
        | cons x S => rfl
      rw [this, hx2]
      unfold bgn
      cases edgO b P (r, i) <;> rfl)
    have CE0 := Lib.hid (fun W h => CE.out r i W h)
    rw [hx5, hok] at CE0
    have CE0 := Lib.hid CE0.out
    clear hst hx5 hx2 hok h0S
    obtain ⟨s0, s1, s2, s3, s4, s5, s6⟩ := HK.out.seven
    go_wp2_with fail
    refine wp_region_held_drew (S := fun w' => w'.cell? ⟨w.heap.size, 0, none⟩ = some (.int .i64 b.per) ∧ w'.cell? ⟨w.heap.size, 1, none⟩ = some (.int .i64 b.rim) ∧ w'.cell? ⟨w.heap.size, 2, none⟩ = some (.int .i64 b.core) ∧ w'.cell? ⟨w.heap.size, 3, none⟩ = some (.int .i64 b.land) ∧ w'.cell? ⟨w.heap.size, 4, none⟩ = some (.int .i64 b.slow) ∧ w'.cell? ⟨w.heap.size, 5, none⟩ = some (.int .i64 b.fast) ∧ w'.cell? ⟨w.heap.size, 6, none⟩ = some (.slice A n c) ∧ w'.cell? ad = some (.int .i64 r) ∧ w'.cell? ⟨ad.block, ad.off + 1, none⟩ = some (.int .i64 i)) (by kernel_rfl) ⟨s0, s1, s2, s3, s4, s5, s6, g1, g2⟩ (fun hHeld => ?_)
    obtain ⟨w2, hwd⟩ : ∃ wd, w1.drew = wd := ⟨_, rfl⟩
    have hb : Below w1.heap.size w1 w2 := by rw [← hwd]; exact (Below.refl _ _).drew
    rw [hwd] at hHeld ⊢
    clear hwd
    clear s0 s1 s2 s3 s4 s5 s6 g1 g2
    replace HK := Lib.hid (HK.out.below hb HK.out.lt)
    replace HB := Lib.hid (HB.out.trans (hb.mono HB.out.size))
    clear hb
    obtain ⟨s0, s1, s2, s3, s4, s5, s6⟩ := HK.out.seven
    obtain ⟨ad', hA', -, g1, g2⟩ := (HS.out.below HB.out (Nat.le_refl _)).hx hmp
    cases hA'
    rw [HX0.out, HAD.out] at g1
    rw [HX0.out, HAD.out] at g2
    refine wpAnyH_take (i := 0) (oi := { dst := some 18, op := Go.Op.load 69 (Go.Operand.tmp 2), type := 69, pos := "side.go:86", after := #[], guard := none }) (v := ?vt1001) rfl (by kernel_rfl) (by kernel_rfl) (by kernel_rfl) (fun _ _ _ h => h) (Or.inl ⟨by rfl, ?ht1001⟩) hHeld ?_
    case ht1001 => intro w hSw; obtain ⟨e0, e1, e2, e3, e4, e5, e6, e7, e8⟩ := hSw; go_simp; try with_reducible rfl
    simp only [Act.put, List.setIfInBounds_toArray, List.set_cons_zero, List.set_cons_succ]
    refine wpAnyH_take (i := 1) (oi := { dst := some 19, op := Go.Op.move (Go.Operand.tmp 1), type := 36, pos := "side.go:86", after := #[], guard := none }) (v := ?vt1002) rfl (by kernel_rfl) (by kernel_rfl) (by kernel_rfl) (fun _ _ _ h => h) (Or.inl ⟨by rfl, ?ht1002⟩) hHeld ?_
    case ht1002 => intro w hSw; obtain ⟨e0, e1, e2, e3, e4, e5, e6, e7, e8⟩ := hSw; go_simp; try with_reducible rfl
    simp only [Act.put, List.setIfInBounds_toArray, List.set_cons_zero, List.set_cons_succ]
    refine wpAnyH_take (i := 2) (oi := { dst := some 20, op := Go.Op.indexAddr 36 (Go.Operand.tmp 19) (Go.Operand.const (Go.Value.int Go.IntKind.i64 0)), type := 0, pos := "side.go:86", after := #[{ on := 1, ground := Go.Ground.data }], guard := none }) (v := ?vt1003) rfl (by kernel_rfl) (by kernel_rfl) (by kernel_rfl) (fun _ _ _ h => h) (Or.inl ⟨by rfl, ?ht1003⟩) hHeld ?_
    case ht1003 => intro w hSw; obtain ⟨e0, e1, e2, e3, e4, e5, e6, e7, e8⟩ := hSw; go_simp; try with_reducible rfl
    simp only [Act.put, List.setIfInBounds_toArray, List.set_cons_zero, List.set_cons_succ]
    refine wpAnyH_take (i := 3) (oi := { dst := some 21, op := Go.Op.load 52 (Go.Operand.tmp 20), type := 52, pos := "side.go:86", after := #[{ on := 2, ground := Go.Ground.data }], guard := none }) (v := ?vt1004) rfl (by kernel_rfl) (by kernel_rfl) (by kernel_rfl) (fun _ _ _ h => h) (Or.inl ⟨by rfl, ?ht1004⟩) hHeld ?_
    case ht1004 => intro w hSw; obtain ⟨e0, e1, e2, e3, e4, e5, e6, e7, e8⟩ := hSw; go_simp; try with_reducible rfl
    simp only [Act.put, List.setIfInBounds_toArray, List.set_cons_zero, List.set_cons_succ]
    refine wpAnyH_ready (rs := [4, 8]) (by kernel_rfl) (by simp) ?_
    refine AllReadyH.cons rfl (fun K hK => ?_) ?_
    · go_simp
      refine (CE0.out w2 HB.out).mono ?_
      rintro e w3 ⟨rfl, hb⟩
      clear s0 s1 s2 s3 s4 s5 s6 g1 g2
      replace HK := Lib.hid (HK.out.below hb HK.out.lt)
      replace HB := Lib.hid (HB.out.trans (hb.mono HB.out.size))
      clear hb
      obtain ⟨s0, s1, s2, s3, s4, s5, s6⟩ := HK.out.seven
      obtain ⟨ad', hA', -, g1, g2⟩ := (HS.out.below HB.out (Nat.le_refl _)).hx hmp
      cases hA'
      rw [HX0.out, HAD.out] at g1
      rw [HX0.out, HAD.out] at g2
      refine hK.out _ _ ?_ (fun hH1005 => ?_)
      · exact ⟨s0, s1, s2, s3, s4, s5, s6, g1, g2⟩
      clear hK K
      refine wpAnyH_take (i := 5) (oi := { dst := some 17, op := Go.Op.move (Go.Operand.tmp 22), type := 79, pos := "side.go:86", after := #[{ on := 4, ground := Go.Ground.data }], guard := none }) (v := ?vt1006) rfl (by kernel_rfl) (by kernel_rfl) (by kernel_rfl) (fun _ _ _ h => h) (Or.inl ⟨by rfl, ?ht1006⟩) hH1005 ?_
      case ht1006 => intro w hSw; obtain ⟨e0, e1, e2, e3, e4, e5, e6, e7, e8⟩ := hSw; go_simp; try with_reducible rfl
      simp only [Act.put, List.setIfInBounds_toArray, List.set_cons_zero, List.set_cons_succ]
      refine wpAnyH_take (i := 6) (oi := { dst := some 23, op := Go.Op.extract (Go.Operand.tmp 17) 0, type := 78, pos := "side.go:86", after := #[{ on := 5, ground := Go.Ground.data }], guard := none }) (v := ?vt1007) rfl (by kernel_rfl) (by kernel_rfl) (by kernel_rfl) (fun _ _ _ h => h) (Or.inl ⟨by rfl, ?ht1007⟩) hH1005 ?_
      case ht1007 => intro w hSw; obtain ⟨e0, e1, e2, e3, e4, e5, e6, e7, e8⟩ := hSw; go_simp; try with_reducible rfl
      simp only [Act.put, List.setIfInBounds_toArray, List.set_cons_zero, List.set_cons_succ]
      refine wpAnyH_take (i := 7) (oi := { dst := some 24, op := Go.Op.extract (Go.Operand.tmp 17) 1, type := 4, pos := "side.go:86", after := #[{ on := 5, ground := Go.Ground.data }, { on := 9, ground := Go.Ground.gcOnly Go.Departure.lateStores }], guard := none }) (v := ?vt1008) rfl (by kernel_rfl) (by kernel_rfl) (by kernel_rfl) (fun _ _ _ h => h) (Or.inl ⟨by rfl, ?ht1008⟩) hH1005 ?_
      case ht1008 => intro w hSw; obtain ⟨e0, e1, e2, e3, e4, e5, e6, e7, e8⟩ := hSw; go_simp; try with_reducible rfl
      simp only [Act.put, List.setIfInBounds_toArray, List.set_cons_zero, List.set_cons_succ]
      refine wpAnyH_ready (rs := [8]) (by kernel_rfl) (by simp) ?_
      refine AllReadyH.cons rfl (fun K hK => ?_) AllReadyH.nil
      go_simp
      obtain ⟨w4, hW⟩ : ∃ W, w3.alloc (.cells #[.int .i64 0, .int .i64 0, .int .i64 0, .int .i64 0, .int .i64 0] 78) = W := ⟨_, rfl⟩
      have hb : Below w3.heap.size w3 w4 := by rw [← hW]; exact below_a _ _
      have ke : Blk w4 w3.heap.size 78 #[.int .i64 0, .int .i64 0, .int .i64 0, .int .i64 0, .int .i64 0] := by rw [← hW]; exact Blk.new _ _ _
      have hlt0 := HK.out.lt
      obtain ⟨ge, hge⟩ : ∃ g, w3.heap.size = g := ⟨_, rfl⟩
      rw [hW]
      try rw [hge] at ke
      try rw [hge]
      have HGE : Hid (w.heap.size < ge) := Lib.hid (by rw [← hge]; exact hlt0)
      have HE := Lib.hid ke
      clear s0 s1 s2 s3 s4 s5 s6 g1 g2
      replace HK := Lib.hid (HK.out.below hb HK.out.lt)
      replace HB := Lib.hid (HB.out.trans (hb.mono HB.out.size))
      clear hb hW hge ke hlt0
      obtain ⟨s0, s1, s2, s3, s4, s5, s6⟩ := HK.out.seven
      obtain ⟨ad', hA', -, g1, g2⟩ := (HS.out.below HB.out (Nat.le_refl _)).hx hmp
      cases hA'
      rw [HX0.out, HAD.out] at g1
      rw [HX0.out, HAD.out] at g2
      refine hK.out _ _ ?_ (fun hH1009 => ?_)
      · exact ⟨s0, s1, s2, s3, s4, s5, s6, g1, g2⟩
      clear hK K
      refine wpAnyH_ready (rs := [9]) (by kernel_rfl) (by simp) ?_
      refine AllReadyH.cons rfl (fun K hK => ?_) AllReadyH.nil
      go_simp
      have f0 := HE.out.frozen 0
      have f1 := HE.out.frozen 1
      have f2 := HE.out.frozen 2
      have f3 := HE.out.frozen 3
      have f4 := HE.out.frozen 4
      obtain ⟨u0, u1, u2, u3, u4, -⟩ := HE.out.five
      obtain ⟨w5, ke, hb, hV⟩ := set5 (a := .int .i64 x0) (b := .int .i64 x1) (c := .int .i64 x2) (d := .int .i64 x3) (e := .int .i64 x4) HE.out
      have hlt0 := HE.out.lt
      try go_simp
      try rw [← hV]
      replace HE := Lib.hid ke
      clear u0 u1 u2 u3 u4 f0 f1 f2 f3 f4 hlt0
      clear s0 s1 s2 s3 s4 s5 s6 g1 g2
      replace HK := Lib.hid (HK.out.below hb HGE.out)
      replace HB := Lib.hid (HB.out.trans (hb.mono (Nat.le_of_lt HGE.out)))
      clear hb hV ke
      obtain ⟨s0, s1, s2, s3, s4, s5, s6⟩ := HK.out.seven
      obtain ⟨ad', hA', -, g1, g2⟩ := (HS.out.below HB.out (Nat.le_refl _)).hx hmp
      cases hA'
      rw [HX0.out, HAD.out] at g1
      rw [HX0.out, HAD.out] at g2
      refine hK.out _ _ ?_ (fun hH1010 => ?_)
      · exact ⟨s0, s1, s2, s3, s4, s5, s6, g1, g2⟩
      clear hK K
      refine wpAnyH_take (i := 10) (oi := { dst := some 6, op := Go.Op.assign (Go.Operand.tmp 24), type := 4, pos := "side.go:86", after := #[{ on := 7, ground := Go.Ground.data }, { on := 9, ground := Go.Ground.chain }, { on := 0, ground := Go.Ground.phase }, { on := 1, ground := Go.Ground.phase }, { on := 2, ground := Go.Ground.phase }, { on := 3, ground := Go.Ground.phase }, { on := 4, ground := Go.Ground.phase }, { on := 5, ground := Go.Ground.phase }, { on := 6, ground := Go.Ground.phase }, { on := 7, ground := Go.Ground.phase }, { on := 8, ground := Go.Ground.phase }, { on := 9, ground := Go.Ground.phase }], guard := none }) (v := ?vt1011) rfl (by kernel_rfl) (by kernel_rfl) (by kernel_rfl) (fun _ _ _ h => h) (Or.inl ⟨by rfl, ?ht1011⟩) hH1010 ?_
      case ht1011 => intro w hSw; obtain ⟨e0, e1, e2, e3, e4, e5, e6, e7, e8⟩ := hSw; go_simp; try with_reducible rfl
      simp only [Act.put, List.setIfInBounds_toArray, List.set_cons_zero, List.set_cons_succ]
      refine wpAnyH_done (by kernel_rfl) ?_ _
      obtain ⟨ws, hws⟩ : ∃ W, w5 = W := ⟨_, rfl⟩
      rw [hws] at HK HB HE ⊢
      clear hws hHeld
      clear s0 s1 s2 s3 s4 s5 s6 g1 g2
      have HST0 : Hid (stp b P S 0 = some (x2, 0)) := Lib.hid (by rw [stp_zero, HX2.out])
      obtain ⟨-, -, t2, -, -, -⟩ := HE.out.five
      go_wp2_with fail
      go_loopw [7, 8, 29] (fun lv sv z wr => ∃ (k : Nat) (s l : Int), k ≤ m ∧ sv = .int .i64 s ∧ lv = .int .i64 l ∧ z = .int .i64 k ∧ -(16777216 * (k : Int)) ≤ s ∧ s ≤ 16777216 * (k : Int) ∧ Hid (stp b P S k = some (l, s)) ∧ Hid (Blk wr w.heap.size 69 #[.int .i64 b.per, .int .i64 b.rim, .int .i64 b.core, .int .i64 b.land, .int .i64 b.slow, .int .i64 b.fast, .slice A n c]) ∧ Hid (Blk wr ge 78 #[.int .i64 x0, .int .i64 x1, .int .i64 x2, .int .i64 x3, .int .i64 x4]) ∧ Hid (Below w.heap.size w wr)) (fun _ _ z _ => m - (intOf z).toNat)
      case atStart => exact ⟨0, 0, x2, Nat.zero_le _, rfl, rfl, rfl, by omega, by omega, HST0, HK, HE, HB⟩
      case round =>
        clear HK HB HE t2 HST0
        obtain ⟨k, s, l, hk, rfl, rfl, rfl, hs1, hs2, HST, HK, HE, HB⟩ := hrel
        by_cases hlt : k < m
        · obtain ⟨ad', hA', -, g1, g2⟩ := (HS.out.below HB.out (Nat.le_refl _)).hx hlt
          cases hA'
          have hkS : k < S.length := by rw [← HM.out]; exact hlt
          have HXE : Hid (S[k] = hx S k) := Lib.hid (hx_eq hkS).symm
          obtain ⟨st, hst⟩ : ∃ x, hx S k = x := ⟨_, rfl⟩
          rw [hst] at g1 g2 HXE
          obtain ⟨r', i'⟩ := st
          have HNX := Lib.hid (stp_succ b P hkS)
          rw [HST.out, HXE.out] at HNX
          have HNX : Hid (stp b P S (k + 1) = match edgO b P (r', i') with | none => none | some e => if e.1 ≠ l ∨ (0 < k ∧ l = -1) then none else some (e.2.1, s + e.2.2)) := Lib.hid HNX.out
          obtain ⟨z0, z1, z2, z3, z4, hz5, hz2, hz3⟩ := edg5 r' i' (edgO b P (r', i'))
          obtain ⟨ok', hok⟩ : ∃ x, (edgO b P (r', i')).isSome = x := ⟨_, rfl⟩
          have CE1 := Lib.hid (fun W h => CE.out r' i' W h)
          rw [hz5, hok] at CE1
          have CE1 := Lib.hid CE1.out
          have HZ2 := Lib.hid hz2
          have HZ3 := Lib.hid hz3
          have HOK2 := Lib.hid hok
          clear hst hz5 hz2 hz3 hok
          go_upto_region 8 with fail
          obtain ⟨wx, hW⟩ : ∃ W, wr.alloc (.cells #[.int .i64 r', .int .i64 i'] 52) = W := ⟨_, rfl⟩
          have hb : Below wr.heap.size wr wx := by rw [← hW]; exact below_a _ _
          have kx : Blk wx wr.heap.size 52 #[.int .i64 r', .int .i64 i'] := by rw [← hW]; exact Blk.new _ _ _
          rw [hW]
          replace HK := Lib.hid (HK.out.below hb HK.out.lt)
          replace HE := Lib.hid (HE.out.below hb HE.out.lt)
          replace HB := Lib.hid (HB.out.trans (hb.mono HB.out.size))
          clear hb hW g1 g2
          obtain ⟨s0, s1, s2, s3, s4, s5, s6⟩ := HK.out.seven
          have q0 := kx.two.1
          have q1 := kx.two.2.1
          go_wp2_with fail
          refine (CE1.out wx HB.out).mono ?_
          rintro e wy ⟨rfl, hb⟩
          clear s0 s1 s2 s3 s4 s5 s6 q0 q1 kx
          replace HK := Lib.hid (HK.out.below hb HK.out.lt)
          replace HE := Lib.hid (HE.out.below hb HE.out.lt)
          replace HB := Lib.hid (HB.out.trans (hb.mono HB.out.size))
          clear hb
          go_upto_region 9 with fail
          obtain ⟨wz, hW⟩ : ∃ W, wy.alloc (.cells #[.int .i64 z0, .int .i64 z1, .int .i64 z2, .int .i64 z3, .int .i64 z4] 78) = W := ⟨_, rfl⟩
          have hb : Below wy.heap.size wy wz := by rw [← hW]; exact below_a _ _
          have kz : Blk wz wy.heap.size 78 #[.int .i64 z0, .int .i64 z1, .int .i64 z2, .int .i64 z3, .int .i64 z4] := by rw [← hW]; exact Blk.new _ _ _
          rw [hW]
          replace HK := Lib.hid (HK.out.below hb HK.out.lt)
          replace HE := Lib.hid (HE.out.below hb HE.out.lt)
          replace HB := Lib.hid (HB.out.trans (hb.mono HB.out.size))
          clear hb hW
          obtain ⟨q0, q1, q2, q3, q4, -⟩ := kz.five
          cases hE : edgO b P (r', i') with
          | none =>
            have hok := HOK2.out
            rw [hE] at HNX hok
            have hok : ok' = false := hok.symm
            subst hok
            have HV : Hid (prv b P S = false) := Lib.hid (prv_none (show k + 1 ≤ S.length by omega) HNX.out)
            clear hE HZ2 HZ3 HOK2 CE1
            by_cases hk0 : k = 0
            · subst hk0
              go_wp2_with fail
              go_ret
              rw [HV.out]
              exact ⟨rfl, HB.out⟩
            · have hk1 : (k : Int) > 0 := by omega
              by_cases hl1 : l = -1
              · subst hl1
                go_wp2_with fail
                go_ret
                rw [HV.out]
                exact ⟨rfl, HB.out⟩
              · have hl2 : (l == -1) = false := beq_eq_false_iff_ne.2 hl1
                go_wp2_with fail
                go_ret
                rw [HV.out]
                exact ⟨rfl, HB.out⟩
          | some e =>
            have hok := HOK2.out
            have hz2 := HZ2.out
            have hz3 := HZ3.out
            rw [hE] at HNX hok hz2
            have hok : ok' = true := hok.symm
            subst hok
            obtain ⟨hz3, hz4⟩ := hz3 e hE
            have hgb := edgO_bd HOK.out.1 HOK.out.2 hE
            have HNX : Hid (stp b P S (k + 1) = if z2 ≠ l ∨ (0 < k ∧ l = -1) then none else some (z3, s + z4)) := Lib.hid (by rw [HNX.out, hz3, hz4, show z2 = e.1 from hz2])
            rw [← hz4] at hgb
            obtain ⟨hgb1, hgb2⟩ := hgb
            have e1 : IntKind.i64.wrap (s + z4) = s + z4 := IntWalk.i64_in _ (by omega)
            clear hE hz2 hz3 hz4 HZ2 HZ3 HOK2 CE1
            by_cases hfl : z2 = l
            · subst hfl
              by_cases hk0 : k = 0
              · subst hk0
                have HST2 : Hid (stp b P S (0 + 1) = some (z3, s + z4)) := Lib.hid (by rw [HNX.out, if_neg (by intro h; rcases h with h | h; exact h rfl; exact absurd h.1 (by omega))])
                go_wp2_with fail
                go_roundw
                case rel => exact ⟨1, s + z4, z3, by omega, rfl, rfl, by go_num, by omega, by omega, HST2, HK, HE, HB⟩
                case measure => simp [intOf]; omega
              · have hk1 : (k : Int) > 0 := by omega
                by_cases hl1 : z2 = -1
                · subst hl1
                  have HV : Hid (prv b P S = false) := Lib.hid (prv_none (show k + 1 ≤ S.length by omega) (by rw [HNX.out, if_pos (.inr ⟨by omega, rfl⟩)]))
                  go_wp2_with fail
                  go_ret
                  rw [HV.out]
                  exact ⟨rfl, HB.out⟩
                · have hl2 : (z2 == -1) = false := beq_eq_false_iff_ne.2 hl1
                  have HST2 : Hid (stp b P S (k + 1) = some (z3, s + z4)) := Lib.hid (by rw [HNX.out, if_neg (by intro h; rcases h with h | h; exact h rfl; exact hl1 h.2)])
                  go_wp2_with fail
                  go_roundw
                  case rel => exact ⟨k + 1, s + z4, z3, by omega, rfl, rfl, by go_num, by omega, by omega, HST2, HK, HE, HB⟩
                  case measure => simp [intOf]; omega
            · have hf2 : (z2 != l) = true := by simpa using hfl
              have HV : Hid (prv b P S = false) := Lib.hid (prv_none (show k + 1 ≤ S.length by omega) (by rw [HNX.out, if_pos (.inl hfl)]))
              by_cases hk0 : k = 0
              · subst hk0
                go_wp2_with fail
                go_ret
                rw [HV.out]
                exact ⟨rfl, HB.out⟩
              · have hk1 : (k : Int) > 0 := by omega
                by_cases hl1 : l = -1
                · subst hl1
                  go_wp2_with fail
                  go_ret
                  rw [HV.out]
                  exact ⟨rfl, HB.out⟩
                · have hl2 : (l == -1) = false := beq_eq_false_iff_ne.2 hl1
                  go_wp2_with fail
                  go_ret
                  rw [HV.out]
                  exact ⟨rfl, HB.out⟩
        · obtain rfl : m = k := by omega
          have HV : Hid (prv b P S = (decide (l = x2) && decide (s < 0))) := Lib.hid (by rw [prv_stp, ← HM.out, HST.out, decide_eq_true hmp, Bool.true_and, HX2.out])
          obtain ⟨-, -, t2, -, -, -⟩ := HE.out.five
          by_cases c1 : l = x2
          · subst c1
            have c2 : (l == l) = true := by simp
            go_wp2_with fail
            go_ret
            rw [HV.out]
            exact ⟨ret_b (by simp), HB.out⟩
          · have c2 : (l == x2) = false := beq_eq_false_iff_ne.2 c1
            go_wp2_with fail
            go_ret
            rw [HV.out]
            exact ⟨ret_b (by simp [c1]), HB.out⟩
    refine AllReadyH.cons rfl (fun K hK => ?_) ?_
    · go_simp
      obtain ⟨w3, hW⟩ : ∃ W, w2.alloc (.cells #[.int .i64 0, .int .i64 0, .int .i64 0, .int .i64 0, .int .i64 0] 78) = W := ⟨_, rfl⟩
      have hb : Below w2.heap.size w2 w3 := by rw [← hW]; exact below_a _ _
      have ke : Blk w3 w2.heap.size 78 #[.int .i64 0, .int .i64 0, .int .i64 0, .int .i64 0, .int .i64 0] := by rw [← hW]; exact Blk.new _ _ _
      have hlt0 := HK.out.lt
      obtain ⟨ge, hge⟩ : ∃ g, w2.heap.size = g := ⟨_, rfl⟩
      rw [hW]
      try rw [hge] at ke
      try rw [hge]
      have HGE : Hid (w.heap.size < ge) := Lib.hid (by rw [← hge]; exact hlt0)
      have HE := Lib.hid ke
      clear s0 s1 s2 s3 s4 s5 s6 g1 g2
      replace HK := Lib.hid (HK.out.below hb HK.out.lt)
      replace HB := Lib.hid (HB.out.trans (hb.mono HB.out.size))
      clear hb hW hge ke hlt0
      obtain ⟨s0, s1, s2, s3, s4, s5, s6⟩ := HK.out.seven
      obtain ⟨ad', hA', -, g1, g2⟩ := (HS.out.below HB.out (Nat.le_refl _)).hx hmp
      cases hA'
      rw [HX0.out, HAD.out] at g1
      rw [HX0.out, HAD.out] at g2
      refine hK.out _ _ ?_ (fun hH1012 => ?_)
      · exact ⟨s0, s1, s2, s3, s4, s5, s6, g1, g2⟩
      clear hK K
      refine wpAnyH_ready (rs := [4]) (by kernel_rfl) (by simp) ?_
      refine AllReadyH.cons rfl (fun K hK => ?_) AllReadyH.nil
      go_simp
      refine (CE0.out w3 HB.out).mono ?_
      rintro e w4 ⟨rfl, hb⟩
      clear s0 s1 s2 s3 s4 s5 s6 g1 g2
      replace HK := Lib.hid (HK.out.below hb HK.out.lt)
      replace HE := Lib.hid (HE.out.below hb HE.out.lt)
      replace HB := Lib.hid (HB.out.trans (hb.mono HB.out.size))
      clear hb
      obtain ⟨s0, s1, s2, s3, s4, s5, s6⟩ := HK.out.seven
      obtain ⟨ad', hA', -, g1, g2⟩ := (HS.out.below HB.out (Nat.le_refl _)).hx hmp
      cases hA'
      rw [HX0.out, HAD.out] at g1
      rw [HX0.out, HAD.out] at g2
      refine hK.out _ _ ?_ (fun hH1013 => ?_)
      · exact ⟨s0, s1, s2, s3, s4, s5, s6, g1, g2⟩
      clear hK K
      refine wpAnyH_take (i := 5) (oi := { dst := some 17, op := Go.Op.move (Go.Operand.tmp 22), type := 79, pos := "side.go:86", after := #[{ on := 4, ground := Go.Ground.data }], guard := none }) (v := ?vt1014) rfl (by kernel_rfl) (by kernel_rfl) (by kernel_rfl) (fun _ _ _ h => h) (Or.inl ⟨by rfl, ?ht1014⟩) hH1013 ?_
      case ht1014 => intro w hSw; obtain ⟨e0, e1, e2, e3, e4, e5, e6, e7, e8⟩ := hSw; go_simp; try with_reducible rfl
      simp only [Act.put, List.setIfInBounds_toArray, List.set_cons_zero, List.set_cons_succ]
      refine wpAnyH_take (i := 6) (oi := { dst := some 23, op := Go.Op.extract (Go.Operand.tmp 17) 0, type := 78, pos := "side.go:86", after := #[{ on := 5, ground := Go.Ground.data }], guard := none }) (v := ?vt1015) rfl (by kernel_rfl) (by kernel_rfl) (by kernel_rfl) (fun _ _ _ h => h) (Or.inl ⟨by rfl, ?ht1015⟩) hH1013 ?_
      case ht1015 => intro w hSw; obtain ⟨e0, e1, e2, e3, e4, e5, e6, e7, e8⟩ := hSw; go_simp; try with_reducible rfl
      simp only [Act.put, List.setIfInBounds_toArray, List.set_cons_zero, List.set_cons_succ]
      refine wpAnyH_take (i := 7) (oi := { dst := some 24, op := Go.Op.extract (Go.Operand.tmp 17) 1, type := 4, pos := "side.go:86", after := #[{ on := 5, ground := Go.Ground.data }, { on := 9, ground := Go.Ground.gcOnly Go.Departure.lateStores }], guard := none }) (v := ?vt1016) rfl (by kernel_rfl) (by kernel_rfl) (by kernel_rfl) (fun _ _ _ h => h) (Or.inl ⟨by rfl, ?ht1016⟩) hH1013 ?_
      case ht1016 => intro w hSw; obtain ⟨e0, e1, e2, e3, e4, e5, e6, e7, e8⟩ := hSw; go_simp; try with_reducible rfl
      simp only [Act.put, List.setIfInBounds_toArray, List.set_cons_zero, List.set_cons_succ]
      refine wpAnyH_ready (rs := [9]) (by kernel_rfl) (by simp) ?_
      refine AllReadyH.cons rfl (fun K hK => ?_) AllReadyH.nil
      go_simp
      have f0 := HE.out.frozen 0
      have f1 := HE.out.frozen 1
      have f2 := HE.out.frozen 2
      have f3 := HE.out.frozen 3
      have f4 := HE.out.frozen 4
      obtain ⟨u0, u1, u2, u3, u4, -⟩ := HE.out.five
      obtain ⟨w5, ke, hb, hV⟩ := set5 (a := .int .i64 x0) (b := .int .i64 x1) (c := .int .i64 x2) (d := .int .i64 x3) (e := .int .i64 x4) HE.out
      have hlt0 := HE.out.lt
      try go_simp
      try rw [← hV]
      replace HE := Lib.hid ke
      clear u0 u1 u2 u3 u4 f0 f1 f2 f3 f4 hlt0
      clear s0 s1 s2 s3 s4 s5 s6 g1 g2
      replace HK := Lib.hid (HK.out.below hb HGE.out)
      replace HB := Lib.hid (HB.out.trans (hb.mono (Nat.le_of_lt HGE.out)))
      clear hb hV ke
      obtain ⟨s0, s1, s2, s3, s4, s5, s6⟩ := HK.out.seven
      obtain ⟨ad', hA', -, g1, g2⟩ := (HS.out.below HB.out (Nat.le_refl _)).hx hmp
      cases hA'
      rw [HX0.out, HAD.out] at g1
      rw [HX0.out, HAD.out] at g2
      refine hK.out _ _ ?_ (fun hH1017 => ?_)
      · exact ⟨s0, s1, s2, s3, s4, s5, s6, g1, g2⟩
      clear hK K
      refine wpAnyH_take (i := 10) (oi := { dst := some 6, op := Go.Op.assign (Go.Operand.tmp 24), type := 4, pos := "side.go:86", after := #[{ on := 7, ground := Go.Ground.data }, { on := 9, ground := Go.Ground.chain }, { on := 0, ground := Go.Ground.phase }, { on := 1, ground := Go.Ground.phase }, { on := 2, ground := Go.Ground.phase }, { on := 3, ground := Go.Ground.phase }, { on := 4, ground := Go.Ground.phase }, { on := 5, ground := Go.Ground.phase }, { on := 6, ground := Go.Ground.phase }, { on := 7, ground := Go.Ground.phase }, { on := 8, ground := Go.Ground.phase }, { on := 9, ground := Go.Ground.phase }], guard := none }) (v := ?vt1018) rfl (by kernel_rfl) (by kernel_rfl) (by kernel_rfl) (fun _ _ _ h => h) (Or.inl ⟨by rfl, ?ht1018⟩) hH1017 ?_
      case ht1018 => intro w hSw; obtain ⟨e0, e1, e2, e3, e4, e5, e6, e7, e8⟩ := hSw; go_simp; try with_reducible rfl
      simp only [Act.put, List.setIfInBounds_toArray, List.set_cons_zero, List.set_cons_succ]
      refine wpAnyH_done (by kernel_rfl) ?_ _
      obtain ⟨ws, hws⟩ : ∃ W, w5 = W := ⟨_, rfl⟩
      rw [hws] at HK HB HE ⊢
      clear hws hHeld
      clear s0 s1 s2 s3 s4 s5 s6 g1 g2
      have HST0 : Hid (stp b P S 0 = some (x2, 0)) := Lib.hid (by rw [stp_zero, HX2.out])
      obtain ⟨-, -, t2, -, -, -⟩ := HE.out.five
      go_wp2_with fail
      go_loopw [7, 8, 29] (fun lv sv z wr => ∃ (k : Nat) (s l : Int), k ≤ m ∧ sv = .int .i64 s ∧ lv = .int .i64 l ∧ z = .int .i64 k ∧ -(16777216 * (k : Int)) ≤ s ∧ s ≤ 16777216 * (k : Int) ∧ Hid (stp b P S k = some (l, s)) ∧ Hid (Blk wr w.heap.size 69 #[.int .i64 b.per, .int .i64 b.rim, .int .i64 b.core, .int .i64 b.land, .int .i64 b.slow, .int .i64 b.fast, .slice A n c]) ∧ Hid (Blk wr ge 78 #[.int .i64 x0, .int .i64 x1, .int .i64 x2, .int .i64 x3, .int .i64 x4]) ∧ Hid (Below w.heap.size w wr)) (fun _ _ z _ => m - (intOf z).toNat)
      case atStart => exact ⟨0, 0, x2, Nat.zero_le _, rfl, rfl, rfl, by omega, by omega, HST0, HK, HE, HB⟩
      case round =>
        clear HK HB HE t2 HST0
        obtain ⟨k, s, l, hk, rfl, rfl, rfl, hs1, hs2, HST, HK, HE, HB⟩ := hrel
        by_cases hlt : k < m
        · obtain ⟨ad', hA', -, g1, g2⟩ := (HS.out.below HB.out (Nat.le_refl _)).hx hlt
          cases hA'
          have hkS : k < S.length := by rw [← HM.out]; exact hlt
          have HXE : Hid (S[k] = hx S k) := Lib.hid (hx_eq hkS).symm
          obtain ⟨st, hst⟩ : ∃ x, hx S k = x := ⟨_, rfl⟩
          rw [hst] at g1 g2 HXE
          obtain ⟨r', i'⟩ := st
          have HNX := Lib.hid (stp_succ b P hkS)
          rw [HST.out, HXE.out] at HNX
          have HNX : Hid (stp b P S (k + 1) = match edgO b P (r', i') with | none => none | some e => if e.1 ≠ l ∨ (0 < k ∧ l = -1) then none else some (e.2.1, s + e.2.2)) := Lib.hid HNX.out
          obtain ⟨z0, z1, z2, z3, z4, hz5, hz2, hz3⟩ := edg5 r' i' (edgO b P (r', i'))
          obtain ⟨ok', hok⟩ : ∃ x, (edgO b P (r', i')).isSome = x := ⟨_, rfl⟩
          have CE1 := Lib.hid (fun W h => CE.out r' i' W h)
          rw [hz5, hok] at CE1
          have CE1 := Lib.hid CE1.out
          have HZ2 := Lib.hid hz2
          have HZ3 := Lib.hid hz3
          have HOK2 := Lib.hid hok
          clear hst hz5 hz2 hz3 hok
          go_upto_region 8 with fail
          obtain ⟨wx, hW⟩ : ∃ W, wr.alloc (.cells #[.int .i64 r', .int .i64 i'] 52) = W := ⟨_, rfl⟩
          have hb : Below wr.heap.size wr wx := by rw [← hW]; exact below_a _ _
          have kx : Blk wx wr.heap.size 52 #[.int .i64 r', .int .i64 i'] := by rw [← hW]; exact Blk.new _ _ _
          rw [hW]
          replace HK := Lib.hid (HK.out.below hb HK.out.lt)
          replace HE := Lib.hid (HE.out.below hb HE.out.lt)
          replace HB := Lib.hid (HB.out.trans (hb.mono HB.out.size))
          clear hb hW g1 g2
          obtain ⟨s0, s1, s2, s3, s4, s5, s6⟩ := HK.out.seven
          have q0 := kx.two.1
          have q1 := kx.two.2.1
          go_wp2_with fail
          refine (CE1.out wx HB.out).mono ?_
          rintro e wy ⟨rfl, hb⟩
          clear s0 s1 s2 s3 s4 s5 s6 q0 q1 kx
          replace HK := Lib.hid (HK.out.below hb HK.out.lt)
          replace HE := Lib.hid (HE.out.below hb HE.out.lt)
          replace HB := Lib.hid (HB.out.trans (hb.mono HB.out.size))
          clear hb
          go_upto_region 9 with fail
          obtain ⟨wz, hW⟩ : ∃ W, wy.alloc (.cells #[.int .i64 z0, .int .i64 z1, .int .i64 z2, .int .i64 z3, .int .i64 z4] 78) = W := ⟨_, rfl⟩
          have hb : Below wy.heap.size wy wz := by rw [← hW]; exact below_a _ _
          have kz : Blk wz wy.heap.size 78 #[.int .i64 z0, .int .i64 z1, .int .i64 z2, .int .i64 z3, .int .i64 z4] := by rw [← hW]; exact Blk.new _ _ _
          rw [hW]
          replace HK := Lib.hid (HK.out.below hb HK.out.lt)
          replace HE := Lib.hid (HE.out.below hb HE.out.lt)
          replace HB := Lib.hid (HB.out.trans (hb.mono HB.out.size))
          clear hb hW
          obtain ⟨q0, q1, q2, q3, q4, -⟩ := kz.five
          cases hE : edgO b P (r', i') with
          | none =>
            have hok := HOK2.out
            rw [hE] at HNX hok
            have hok : ok' = false := hok.symm
            subst hok
            have HV : Hid (prv b P S = false) := Lib.hid (prv_none (show k + 1 ≤ S.length by omega) HNX.out)
            clear hE HZ2 HZ3 HOK2 CE1
            by_cases hk0 : k = 0
            · subst hk0
              go_wp2_with fail
              go_ret
              rw [HV.out]
              exact ⟨rfl, HB.out⟩
            · have hk1 : (k : Int) > 0 := by omega
              by_cases hl1 : l = -1
              · subst hl1
                go_wp2_with fail
                go_ret
                rw [HV.out]
                exact ⟨rfl, HB.out⟩
              · have hl2 : (l == -1) = false := beq_eq_false_iff_ne.2 hl1
                go_wp2_with fail
                go_ret
                rw [HV.out]
                exact ⟨rfl, HB.out⟩
          | some e =>
            have hok := HOK2.out
            have hz2 := HZ2.out
            have hz3 := HZ3.out
            rw [hE] at HNX hok hz2
            have hok : ok' = true := hok.symm
            subst hok
            obtain ⟨hz3, hz4⟩ := hz3 e hE
            have hgb := edgO_bd HOK.out.1 HOK.out.2 hE
            have HNX : Hid (stp b P S (k + 1) = if z2 ≠ l ∨ (0 < k ∧ l = -1) then none else some (z3, s + z4)) := Lib.hid (by rw [HNX.out, hz3, hz4, show z2 = e.1 from hz2])
            rw [← hz4] at hgb
            obtain ⟨hgb1, hgb2⟩ := hgb
            have e1 : IntKind.i64.wrap (s + z4) = s + z4 := IntWalk.i64_in _ (by omega)
            clear hE hz2 hz3 hz4 HZ2 HZ3 HOK2 CE1
            by_cases hfl : z2 = l
            · subst hfl
              by_cases hk0 : k = 0
              · subst hk0
                have HST2 : Hid (stp b P S (0 + 1) = some (z3, s + z4)) := Lib.hid (by rw [HNX.out, if_neg (by intro h; rcases h with h | h; exact h rfl; exact absurd h.1 (by omega))])
                go_wp2_with fail
                go_roundw
                case rel => exact ⟨1, s + z4, z3, by omega, rfl, rfl, by go_num, by omega, by omega, HST2, HK, HE, HB⟩
                case measure => simp [intOf]; omega
              · have hk1 : (k : Int) > 0 := by omega
                by_cases hl1 : z2 = -1
                · subst hl1
                  have HV : Hid (prv b P S = false) := Lib.hid (prv_none (show k + 1 ≤ S.length by omega) (by rw [HNX.out, if_pos (.inr ⟨by omega, rfl⟩)]))
                  go_wp2_with fail
                  go_ret
                  rw [HV.out]
                  exact ⟨rfl, HB.out⟩
                · have hl2 : (z2 == -1) = false := beq_eq_false_iff_ne.2 hl1
                  have HST2 : Hid (stp b P S (k + 1) = some (z3, s + z4)) := Lib.hid (by rw [HNX.out, if_neg (by intro h; rcases h with h | h; exact h rfl; exact hl1 h.2)])
                  go_wp2_with fail
                  go_roundw
                  case rel => exact ⟨k + 1, s + z4, z3, by omega, rfl, rfl, by go_num, by omega, by omega, HST2, HK, HE, HB⟩
                  case measure => simp [intOf]; omega
            · have hf2 : (z2 != l) = true := by simpa using hfl
              have HV : Hid (prv b P S = false) := Lib.hid (prv_none (show k + 1 ≤ S.length by omega) (by rw [HNX.out, if_pos (.inl hfl)]))
              by_cases hk0 : k = 0
              · subst hk0
                go_wp2_with fail
                go_ret
                rw [HV.out]
                exact ⟨rfl, HB.out⟩
              · have hk1 : (k : Int) > 0 := by omega
                by_cases hl1 : l = -1
                · subst hl1
                  go_wp2_with fail
                  go_ret
                  rw [HV.out]
                  exact ⟨rfl, HB.out⟩
                · have hl2 : (l == -1) = false := beq_eq_false_iff_ne.2 hl1
                  go_wp2_with fail
                  go_ret
                  rw [HV.out]
                  exact ⟨rfl, HB.out⟩
        · obtain rfl : m = k := by omega
          have HV : Hid (prv b P S = (decide (l = x2) && decide (s < 0))) := Lib.hid (by rw [prv_stp, ← HM.out, HST.out, decide_eq_true hmp, Bool.true_and, HX2.out])
          obtain ⟨-, -, t2, -, -, -⟩ := HE.out.five
          by_cases c1 : l = x2
          · subst c1
            have c2 : (l == l) = true := by simp
            go_wp2_with fail
            go_ret
            rw [HV.out]
            exact ⟨ret_b (by simp), HB.out⟩
          · have c2 : (l == x2) = false := beq_eq_false_iff_ne.2 c1
            go_wp2_with fail
            go_ret
            rw [HV.out]
            exact ⟨ret_b (by simp [c1]), HB.out⟩
    exact AllReadyH.nil

set_option maxRecDepth 100000 in
set_option maxHeartbeats 8000000 in
theorem CheckRefusal_any (B : Nat) (A AS : Option Addr) (n c m d : Nat) (b : Bk) (P S : List Smp) (w : World) (h0 : RS w B A n P) (h1 : RS w B AS m S) (hB : B ≤ w.heap.size) (hl : n ≤ 9223372036854775807) (hl' : m ≤ 9223372036854775807) :
    Calls Try.prog 25 #[.agg #[.int .i64 b.per, .int .i64 b.rim, .int .i64 b.core, .int .i64 b.land, .int .i64 b.slow, .int .i64 b.fast], .slice A n c, .slice AS m d] w fun e w' => e = .returned (.int .i64 (crfE b P S)) ∧ Below w.heap.size w w' := by
  have HP := Lib.hid (h0.more hB)
  have HS := Lib.hid (h1.more hB)
  have HN : Hid (n = P.length) := Lib.hid h0.1
  have HM : Hid (m = S.length) := Lib.hid h1.1
  have C1 := Lib.hid (fun W => CheckL_any b W)
  have C2 := Lib.hid (fun (W : World) (h : Below w.heap.size w W) => CheckPoints_any w.heap.size A n c P W (HP.out.below h (Nat.le_refl _)) h.size hl)
  clear h0 h1 hB
  go_enter Try.func25, Try.ntmps25
  go_upto_region 1 with fail
  obtain ⟨W, hW⟩ : ∃ W, w.alloc (.cells #[.int .i64 b.per, .int .i64 b.rim, .int .i64 b.core, .int .i64 b.land, .int .i64 b.slow, .int .i64 b.fast] 23) = W := ⟨_, rfl⟩
  have hb0 : Below w.heap.size w W := by rw [← hW]; exact below_a _ _
  have k0 : Blk W w.heap.size 23 #[.int .i64 b.per, .int .i64 b.rim, .int .i64 b.core, .int .i64 b.land, .int .i64 b.slow, .int .i64 b.fast] := by rw [← hW]; exact Blk.new _ _ _
  rw [hW]
  have HBW := Lib.hid hb0
  have HK := Lib.hid k0
  obtain ⟨c0, c1, c2, c3, c4, c5⟩ := k0.six
  clear hW hb0 k0
  go_wp2_with fail
  refine (C1.out _).mono ?_
  rintro e w1 ⟨rfl, hb1⟩
  replace HK := Lib.hid (HK.out.below hb1 HK.out.lt)
  replace HBW := Lib.hid (HBW.out.trans (hb1.mono HBW.out.size))
  clear hb1 c0 c1 c2 c3 c4 c5
  go_wp2_with fail
  refine (C2.out _ HBW.out).mono ?_
  rintro e w2 ⟨rfl, hb2⟩
  replace HK := Lib.hid (HK.out.below hb2 HK.out.lt)
  replace HBW := Lib.hid (HBW.out.trans (hb2.mono HBW.out.size))
  clear hb2
  go_wp2_with fail
  refine (cmpOr_any (w2.heap.size + 1) _ 2 2 [ckB b, ckG P] _ rfl (reads_cells (Blk.new _ _ _) (by omega) rfl rfl) (by simp) (by omega)).mono ?_
  rintro e w' ⟨rfl, hw'⟩
  obtain ⟨w3, hw3⟩ : ∃ w3, w' = w3 := ⟨_, rfl⟩
  have hb3 : Below w2.heap.size w2 w3 := by rw [← hw3, ← hw']; exact below_a _ _
  replace HK := Lib.hid (HK.out.below hb3 HK.out.lt)
  replace HBW := Lib.hid (HBW.out.trans (hb3.mono HBW.out.size))
  rw [hw3]
  clear hb3 hw' hw3 C1 C2
  obtain ⟨q, hq⟩ : ∃ q, orL [ckB b, ckG P] = q := ⟨_, rfl⟩
  have HQ : Hid (erL b P = q) := Lib.hid hq
  rw [hq]
  clear hq
  obtain ⟨c0, c1, c2, c3, c4, c5⟩ := HK.out.six
  by_cases h0 : q = 0
  · subst h0
    obtain ⟨hb, hOk, hn⟩ := erL_ok HQ.out
    have HX := Lib.hid (And.intro hb hOk)
    have hn' : n ≤ 4096 := by rw [HN.out]; exact hn
    clear hb hOk hn
    by_cases hm : 16384 < m
    · have hm1 : (m : Int) > 16384 := by omega
      have HE : Hid (crfE b P S = 6) := Lib.hid (by unfold crfE; rw [if_pos HQ.out, if_pos (by rw [← HM.out]; exact hm)])
      go_wp2
      go_ret
      rw [HE.out]
      exact ⟨rfl, HBW.out⟩
    · have hm1 : ¬ (m : Int) > 16384 := by omega
      have HE : Hid (crfE b P S = if prv b P S = true then 0 else 16) := Lib.hid (by unfold crfE; rw [if_pos HQ.out, if_neg (by rw [← HM.out]; exact hm)])
      go_wp2_with fail
      have CALL := proves_any w.heap.size A AS n c m d b P S w3 (HP.out.below HBW.out (Nat.le_refl _)) (HS.out.below HBW.out (Nat.le_refl _)) HBW.out.size hn' (by omega) HX.out.1 HX.out.2
      refine CALL.mono ?_
      rintro e w4 ⟨rfl, hb⟩
      clear CALL
      replace HBW := Lib.hid (HBW.out.trans (hb.mono HBW.out.size))
      clear hb
      cases hv : prv b P S with
      | false =>
        have HE : Hid (crfE b P S = 16) := Lib.hid (by rw [HE.out, if_neg (by rw [hv]; simp)])
        clear hv
        go_wp2
        go_ret
        rw [HE.out]
        exact ⟨rfl, HBW.out⟩
      | true =>
        have HE : Hid (crfE b P S = 0) := Lib.hid (by rw [HE.out, if_pos hv])
        clear hv
        go_wp2
        go_ret
        rw [HE.out]
        exact ⟨rfl, HBW.out⟩
  · have h1 : (q != 0) = true := by simpa using h0
    have HE : Hid (crfE b P S = q) := Lib.hid (by unfold crfE; rw [if_neg (by rw [HQ.out]; exact h0)]; exact HQ.out)
    clear h0
    go_wp2
    go_ret
    rw [HE.out]
    exact ⟨rfl, HBW.out⟩
end Go.Proofs.Ytgdkcbnpgpjnbaa
