/-
  Contract of the document's search for the greatest radii.
-/
import Derived.Test.YtgdkcbnpgpjnbaaLG
import Derived.Test.YtgdkcbnpgpjnbaaLO
import Derived.Test.YtgdkcbnpgpjnbaaW2
import Derived.Test.YtgdkcbnpgpjnbaaLt
import Derived.Deep.RegionHeld3
import Derived.Test.YtgdkcbnpgpjnbaaLJ
namespace Go.Proofs.Ytgdkcbnpgpjnbaa
open Go.RowKit

/-- A row of the call's own at an index: what lies there, and what a store leaves. -/
theorem own_at3 {w : World} {base n c : Nat} {A : Option Addr} {x : List Int} (h : w.ownsRow base 2 1 (.slice A n c) n (nums x)) {j : Nat} (hj : j < x.length) :
    ∃ g, A = some ⟨g, 0, none⟩ ∧ base ≤ g ∧ g < w.heap.size ∧ w.cell? ⟨g, j, none⟩ = some (.int .i64 (fx x j)) ∧ w.frozen? ⟨g, j, none⟩ = false ∧
      ∀ u : Int, (w.setCell ⟨g, j, none⟩ (.int .i64 u)).ownsRow base 2 1 (.slice (some ⟨g, 0, none⟩) n c) n (nums (x.set j u)) := by
  have hln : n = x.length := by have := h.1; simpa using this.symm
  rcases h.2 with ⟨-, hn⟩ | ⟨g, cap, cur, hv, hb, hg, hnc, hcm, hcs, htk⟩
  · omega
  simp only [Value.slice.injEq, true_and] at hv
  obtain ⟨rfl, rfl⟩ := hv
  have hlt : g < w.heap.size := (Array.getElem?_eq_some_iff.1 hg).1
  have hcur : cur[j]? = some (.int .i64 (fx x j)) := by
    have h1 : (cur.toList.take (n * 1))[j]? = (nums x)[j]? := by rw [htk]
    rw [List.getElem?_take_of_lt (by omega)] at h1
    rw [← Array.getElem?_toList, h1, List.getElem?_map, List.getElem?_eq_getElem hj, fx_eq hj]
    rfl
  refine ⟨g, rfl, hb, hlt, (Blk.cell (w := w) (g := g) (t := 2) (cs := cur) hg j).trans hcur, Blk.frozen (w := w) (g := g) (t := 2) (cs := cur) hg j, fun u => ⟨by simp [hln], .inr ⟨g, c, cur.setIfInBounds j (.int .i64 u), rfl, hb, Blk.set_ (w := w) (g := g) (t := 2) (cs := cur) hg j _, hnc, hcm, by simp [hcs], ?_⟩⟩⟩
  rw [Array.toList_setIfInBounds, List.take_set, htk]
  exact List.map_set.symm
theorem relax_st {b : Bk} {P : List Smp} {n i : Nat} {S : List Int} {v1 v2 v3 : Int}
    (h1 : v1 = if 0 < i then (if fx S (i - 1) - b.slow < fx S i then fx S (i - 1) - b.slow else fx S i) else fx S i)
    (h2 : v2 = if b.per.toNat ≤ i then (if fx S (i - b.per.toNat) + wLand b P i < v1 then fx S (i - b.per.toNat) + wLand b P i else v1) else v1)
    (h3 : v3 = if i + 1 < n then (if fx S (i + 1) + b.fast < v2 then fx S (i + 1) + b.fast else v2) else v2) : relax b P n S i = v3 := by
  subst h1 h2 h3
  unfold relax
  by_cases c1 : 0 < i <;> by_cases c2 : b.per.toNat ≤ i <;> by_cases c3 : i + 1 < n <;> simp only [c1, c2, c3, true_and, false_and, if_true, if_false]
/-- How far the radii of a search can be. -/
def GBd (n q : Nat) (S : List Int) : Prop := ∀ j, j < n → -(16777216 * ((q : Int) + 1)) ≤ fx S j ∧ fx S j ≤ 16777216
theorem gbd_rim {b : Bk} {P : List Smp} (hb : BkOk b) (hP : PsOk P) (n : Nat) : GBd n 0 (rim0 b P n) := fun j hj => by
  rw [rim0_at b P n hj]
  have := hP.at_ j
  have := hb.rim
  have := hb.core
  have := hb.corim
  omega
theorem relax_ge_bd {b : Bk} {P : List Smp} {n i q : Nat} {S : List Int} (hb : BkOk b) (hP : PsOk P) (hi : i < n) (h : GBd n q S) : -(16777216 * (((q + 1 : Nat) : Int) + 1)) ≤ relax b P n S i := by
  have h0 := (h i hi).1
  have h1 := fun (_ : 0 < i) => (h (i - 1) (by omega)).1
  have h2 := fun (_ : b.per.toNat ≤ i) => (h (i - b.per.toNat) (by omega)).1
  have h3 := fun (_ : i + 1 < n) => (h (i + 1) (by omega)).1
  have := hb.slow
  have := hb.slowfast
  have := hb.fast
  have := hb.land1
  have := hb.land2
  have := hP.at_ i
  have := hP.at_ (i - b.per.toNat)
  unfold relax wLand
  simp only
  split <;> split <;> split <;> rename_i c1 c2 c3 <;> first | omega | (have := h1 c1.1; omega) | (have := h2 c2.1; omega) | (have := h3 c3.1; omega)
theorem gbd_set {b : Bk} {P : List Smp} {n i q : Nat} {S : List Int} (hb : BkOk b) (hP : PsOk P) (hl : S.length = n) (hi : i < n) (h : GBd n q S) : GBd n (q + 1) (S.set i (relax b P n S i)) := fun j hj => by
  rw [fx_set (by omega)]
  split
  · have := relax_ge_bd hb hP hi h
    have := relax_self b P n S i
    have := h i hi
    omega
  · have := h j hj
    omega
theorem gbd_swp {b : Bk} {P : List Smp} {n q : Nat} {R : List Int} (hb : BkOk b) (hP : PsOk P) (hl : R.length = n) (h : GBd n q R) : ∀ i, i ≤ n → GBd n (q + i) (swp b P n R i)
  | 0, _ => h
  | i + 1, hi => by
    have := gbd_set hb hP (by rw [swp_len]; exact hl) (show i < n by omega) (gbd_swp hb hP hl h i (by omega))
    exact this
theorem own_c3 {w : World} {base n c g : Nat} {x : List Int} (h : w.ownsRow base 2 1 (.slice (some ⟨g, 0, none⟩) n c) n (nums x)) {j : Nat} (hj : j < x.length) : w.cell? ⟨g, j, none⟩ = some (.int .i64 (fx x j)) := by
  obtain ⟨g', e, -, -, h1, -⟩ := own_at3 h hj
  cases e
  exact h1
theorem drewN_cell (w : World) (k : Nat) (p : Addr) : (w.drewN k).cell? p = w.cell? p := rfl
theorem drewN_froz (w : World) (k : Nat) (p : Addr) : (w.drewN k).frozen? p = w.frozen? p := rfl
theorem drewN_own {w : World} {base n size : Nat} {t : TypeId} {v : Value} {xs : List Value} (h : w.ownsRow base t size v n xs) (k : Nat) : (w.drewN k).ownsRow base t size v n xs := h
/-- What the document's search finds. -/
def grtO (b : Bk) (P : List Smp) (n : Nat) : Option (List Int) := grt b P n (n + 2) (rim0 b P n)
theorem rim0_snoc (b : Bk) (P : List Smp) (j : Nat) : nums (rim0 b P (j + 1)) = nums (rim0 b P j) ++ [.int .i64 (b.rim - pout P j)] := by
  unfold rim0
  rw [List.range_succ, List.map_append]
  show List.map _ (_ ++ _) = _
  rw [List.map_append]
  rfl
end Go.Proofs.Ytgdkcbnpgpjnbaa

namespace Go.Proofs.Ytgdkcbnpgpjnbaa
open Go.RowKit

set_option maxRecDepth 100000 in
set_option maxHeartbeats 16000000 in
theorem greatest_any (B : Nat) (A : Option Addr) (n c : Nat) (b : Bk) (P : List Smp) (w : World) (h0 : RS w B A n P) (hB : B ≤ w.heap.size) (hn : n ≤ 4096) (hb : BkOk b) (hP : PsOk P) :
    Calls Try.prog 65 #[.agg #[.int .i64 b.per, .int .i64 b.rim, .int .i64 b.core, .int .i64 b.land, .int .i64 b.slow, .int .i64 b.fast], .slice A n c] w fun e w' => ∃ v, e = .returned (.tuple #[v, .bool (grtO b P n).isSome]) ∧ w'.ownsRow w.heap.size 2 1 v ((grtO b P n).getD []).length (nums ((grtO b P n).getD [])) ∧ Below w.heap.size w w' := by
  have HP := Lib.hid (h0.more hB)
  have HN := Lib.hid h0.1
  have HOK := Lib.hid (And.intro hb hP)
  have p1 := hb.per1
  have p2 := hb.per2
  have r1 := hb.core
  have r2 := hb.corim
  have r3 := hb.rim
  have r4 := hb.land1
  have r5 := hb.land2
  have r6 := hb.slow
  have r7 := hb.slowfast
  have r8 := hb.fast
  clear h0 hB hb hP
  obtain ⟨i0, hi0, hz0, hz1, hz2⟩ := info_partsL info_i64
  have HI0 := Lib.hid hi0
  have HZ0 := Lib.hid hz0
  have HZ1 := Lib.hid hz1
  have HZ2 := Lib.hid hz2
  clear hi0 hz0 hz1 hz2
  go_enter Try.func65, Try.ntmps65
  go_upto_region 1 with fail
  obtain ⟨w0, hW⟩ : ∃ W, w.alloc (.cells #[.int .i64 b.per, .int .i64 b.rim, .int .i64 b.core, .int .i64 b.land, .int .i64 b.slow, .int .i64 b.fast] 23) = W := ⟨_, rfl⟩
  have hb0 : Below w.heap.size w w0 := by rw [← hW]; exact below_a _ _
  have k0 : Blk w0 w.heap.size 23 #[.int .i64 b.per, .int .i64 b.rim, .int .i64 b.core, .int .i64 b.land, .int .i64 b.slow, .int .i64 b.fast] := by rw [← hW]; exact Blk.new _ _ _
  have hs0 : w0.heap.size = w.heap.size + 1 := by rw [← hW]; simp
  rw [hW]
  have HB0 := Lib.hid hb0
  have HK0 := Lib.hid k0
  have HS0 := Lib.hid hs0
  obtain ⟨c0, c1, c2, c3, c4, c5⟩ := k0.six
  clear hW hb0 k0 hs0
  go_wp2_with fail
  go_loopw [7, 8] (fun vp z wr => ∃ (j : Nat) (sp : Value), j ≤ n ∧ z = .int .i64 j ∧ sp = vp ∧ Hid (wr.ownsRow w0.heap.size 2 1 sp j (nums (rim0 b P j))) ∧ Hid (Below w0.heap.size w0 wr)) (fun _ z _ => n - (intOf z).toNat)
  case atStart => exact ⟨0, _, Nat.zero_le _, rfl, rfl, Lib.hid (World.ownsRow_nil _ _ _ _), Lib.hid (Below.refl _ _)⟩
  case round =>
    obtain ⟨j, sp, hj, rfl, rfl, HO, HB⟩ := hrel
    clear c0 c1 c2 c3 c4 c5
    obtain ⟨c0, c1, c2, c3, c4, c5⟩ := (HK0.out.below HB.out HK0.out.lt).six
    have HB3 := Lib.hid (HB0.out.trans (HB.out.mono HB0.out.size))
    by_cases hlt : j < n
    · obtain ⟨ad, hA, -, g1, g2⟩ := (HP.out.below HB3.out (Nat.le_refl _)).pt hlt
      subst hA
      obtain ⟨Ap, cp, rfl, -⟩ := own_reads HO.out
      have HSN := Lib.hid (rim0_snoc b P j)
      have y3 := HOK.out.2.at_ j
      obtain ⟨po, hpo⟩ : ∃ x, pout P j = x := ⟨_, rfl⟩
      rw [hpo] at g2 HSN y3
      obtain ⟨-, -, y7, y8⟩ := y3
      have e1 : IntKind.i64.wrap (b.rim - po) = b.rim - po := IntWalk.i64_in _ (by omega)
      have HPO := Lib.hid hpo
      have hs1 := HB.out.size
      clear hpo
      go_wp2_with fail
      go_region_held3 (fun w' => w'.cell? ⟨w.heap.size, 1, none⟩ = some (.int .i64 b.rim) ∧ w'.cell? ⟨(ad.add (j * 2)).block, (ad.add (j * 2)).off + 1, none⟩ = some (.int .i64 po))
        ((refine ⟨?_, ?_⟩ <;> (repeat (with_reducible (first | refine cell_al _ ?_ | refine cell_dr ?_))) <;> (with_reducible assumption)))
        (first | (refine step_append_any _ rfl (.tmp 21) (.tmp 30) _ rfl w0.heap.size 2 i0 _ 1 8 Try.underlying25 HI0.out HZ0.out HZ1.out HZ2.out rfl (by omega) (.slice Ap j cp) j _ rfl (by first | exact (own_below HO.out (below_ad _ _)) | exact (own_below HO.out (below_da _ _)) | exact (own_below HO.out (below_a _ _))) _ _ 1 _ _ rfl (reads_cells (by first | exact blk_al rfl | exact blk_dr rfl) (Nat.lt_succ_self _) (by rfl) (by rfl)) (by intro u hu; simp at hu; rcases hu with rfl; rfl) (by unfold maxLen; omega) (by omega) (by simp; omega) ?_; intro vp w3 hop hgp hbp; have HO3 : Hid (w3.ownsRow w0.heap.size 2 1 vp (j + 1) (nums (rim0 b P (j + 1)))) := Lib.hid (by rw [HSN.out]; exact hop); have HB3 : Hid (Below w0.heap.size w0 w3) := Lib.hid (by first | exact ((HB.out.alloc hs1 _).drew).grown hgp (by simp; omega) (fun k hk => (HO.out.lt k hk).1) | exact (HB.out.drew.alloc (by simpa using hs1) _).grown hgp (by simp; omega) (fun k hk => (HO.out.lt k hk).1) | exact (HB.out.alloc hs1 _).grown hgp (by simp; omega) (fun k hk => (HO.out.lt k hk).1)); have q1 : w3.cell? ⟨w.heap.size, 1, none⟩ = some (.int .i64 b.rim) := (HK0.out.below HB3.out HK0.out.lt).six.2.1; have q2 : w3.cell? ⟨(ad.add (j * 2)).block, (ad.add (j * 2)).off + 1, none⟩ = some (.int .i64 po) := (by obtain ⟨a', e, -, -, q⟩ := (HP.out.below (HB0.out.trans (HB3.out.mono HB0.out.size)) (Nat.le_refl _)).pt hlt; cases e; rw [HPO.out] at q; exact q); clear hop hgp hbp))
      all_goals
        go_wp2
        go_roundw
        case rel => exact ⟨j + 1, vp, by omega, by go_num, rfl, HO3, HB3⟩
        case measure => simp [intOf]; omega
    · obtain rfl : n = j := by omega
      obtain ⟨Ap, cp, rfl, -⟩ := own_reads HO.out
      have HK := Lib.hid (HK0.out.below HB.out HK0.out.lt)
      have HGR : Hid (grt b P n (n + 2 - 0) (rim0 b P n) = grtO b P n) := Lib.hid rfl
      have HRL := Lib.hid (rim0_len b P n)
      have HGB : Hid (GBd n (0 * n) (rim0 b P n)) := Lib.hid (by rw [Nat.zero_mul]; exact gbd_rim HOK.out.1 HOK.out.2 n)
      have en1 : IntKind.i64.wrap ((n : Int) + 1) = (n : Int) + 1 := IntWalk.i64_in _ (by omega)
      go_wp2_with fail
      go_loopw [9] (fun z wr => ∃ (t : Nat) (R : List Int), t ≤ n + 2 ∧ z = .int .i64 t ∧ Hid (wr.ownsRow w0.heap.size 2 1 (.slice Ap n cp) n (nums R)) ∧ Hid (Below w0.heap.size w0 wr) ∧ Hid (grt b P n (n + 2 - t) R = grtO b P n) ∧ Hid (R.length = n) ∧ Hid (GBd n (t * n) R)) (fun z _ => n + 2 - (intOf z).toNat)
      case atStart => exact ⟨0, _, by omega, rfl, HO, HB, HGR, HRL, HGB⟩
      case round =>
        clear HO HB HGR HRL HGB HK HB3 c0 c1 c2 c3 c4 c5
        obtain ⟨t, R, ht, rfl, HO, HB, HGR, HRL, HGB⟩ := hrel
        by_cases htn : t < n + 2
        · have ht1 : (t : Int) ≤ (n : Int) + 1 := by omega
          have htm : t * n ≤ 4098 * 4096 := Nat.mul_le_mul (by omega) hn
          obtain ⟨tn, htn2⟩ : ∃ x, t * n = x := ⟨_, rfl⟩
          have HTN := Lib.hid htn2
          rw [htn2] at HGB htm
          clear htn2
          go_wp2_with fail
          go_loopw [10, 11] (fun cv z wr => ∃ i : Nat, i ≤ n ∧ cv = .bool (chg b P n R i) ∧ z = .int .i64 i ∧ Hid (wr.ownsRow w0.heap.size 2 1 (.slice Ap n cp) n (nums (swp b P n R i))) ∧ Hid (Below w0.heap.size w0 wr)) (fun _ z _ => n - (intOf z).toNat)
          case atStart => exact ⟨0, Nat.zero_le _, rfl, rfl, HO, HB⟩
          case round =>
            clear HO HB
            obtain ⟨i, hi, rfl, rfl, HO, HB⟩ := hrel
            by_cases hlt : i < n
            · have HSL : Hid ((swp b P n R i).length = n) := Lib.hid (by rw [swp_len]; exact HRL.out)
              have HBD := Lib.hid (gbd_swp HOK.out.1 HOK.out.2 HRL.out HGB.out i hi)
              have HNX : Hid (swp b P n R (i + 1) = (swp b P n R i).set i (relax b P n (swp b P n R i) i)) := Lib.hid rfl
              have HNC : Hid (chg b P n R (i + 1) = (chg b P n R i || decide (relax b P n (swp b P n R i) i < fx (swp b P n R i) i))) := Lib.hid rfl
              obtain ⟨S, hS⟩ : ∃ S, swp b P n R i = S := ⟨_, rfl⟩
              obtain ⟨cb, hcb⟩ : ∃ x, chg b P n R i = x := ⟨_, rfl⟩
              rw [hS] at HO HSL HBD HNX HNC
              rw [hcb] at HNC ⊢
              clear hS hcb
              obtain ⟨g, hA, hg1, hg2, gi, gf, -⟩ := own_at3 HO.out (j := i) (by rw [HSL.out]; exact hlt)
              subst hA
              obtain ⟨ad, hA, -, a1, a2⟩ := (HP.out.below (HB0.out.trans (HB.out.mono HB0.out.size)) (Nat.le_refl _)).pt hlt
              subst hA
              obtain ⟨c0, c1, c2, c3, c4, c5⟩ := (HK0.out.below HB.out HK0.out.lt).six
              obtain ⟨m0, hm0⟩ : ∃ x, fx S i = x := ⟨_, rfl⟩
              obtain ⟨po, hpo⟩ : ∃ x, pout P i = x := ⟨_, rfl⟩
              have y3 := HOK.out.2.at_ i
              have y4 := HBD.out i hlt
              rw [hm0] at gi y4 HNC
              rw [hpo] at a2 y3
              obtain ⟨-, -, y7, y8⟩ := y3
              obtain ⟨y9, y10⟩ := y4
              have HM0 := Lib.hid hm0
              have HPO := Lib.hid hpo
              clear hm0 hpo a1
              by_cases hc1 : 0 < i
              · have hc1z : (i : Int) > 0 := by omega
                by_cases hc2 : b.per ≤ (i : Int)
                · by_cases hc3 : i + 1 < n
                  · skip
                    obtain ⟨i1, hi1⟩ : ∃ x, i - 1 = x := ⟨_, rfl⟩
                    have hi1n : i1 < n := by omega
                    have hi1z : (i : Int) - 1 = (i1 : Int) := by omega
                    have f1 : IntKind.i64.wrap ((i : Int) - 1) = (i1 : Int) := by rw [hi1z]; exact IntWalk.i64_in _ (by omega)
                    have g1 := own_c3 HO.out (j := i1) (by rw [HSL.out]; exact hi1n)
                    obtain ⟨x1, hx1⟩ : ∃ x, fx S i1 = x := ⟨_, rfl⟩
                    have z1 := HBD.out i1 hi1n
                    rw [hx1] at g1 z1
                    obtain ⟨z1a, z1b⟩ := z1
                    have e1 : IntKind.i64.wrap (x1 - b.slow) = x1 - b.slow := IntWalk.i64_in _ (by omega)
                    obtain ⟨v1, hv1⟩ : ∃ x, (if x1 - b.slow < m0 then x1 - b.slow else m0) = x := ⟨_, rfl⟩
                    have HV1 : Hid (v1 = if 0 < i then (if fx S (i - 1) - b.slow < fx S i then fx S (i - 1) - b.slow else fx S i) else fx S i) := Lib.hid (by rw [if_pos hc1, hi1, hx1, HM0.out, hv1])
                    clear hi1 hx1 hi1z
                    obtain ⟨i2, hi2⟩ : ∃ x, i - b.per.toNat = x := ⟨_, rfl⟩
                    have hi2n : i2 < n := by omega
                    have hi2z : (i : Int) - b.per = (i2 : Int) := by omega
                    have f2 : IntKind.i64.wrap ((i : Int) - b.per) = (i2 : Int) := by rw [hi2z]; exact IntWalk.i64_in _ (by omega)
                    have g2 := own_c3 HO.out (j := i2) (by rw [HSL.out]; exact hi2n)
                    obtain ⟨ad2, hA2, -, a3, -⟩ := (HP.out.below (HB0.out.trans (HB.out.mono HB0.out.size)) (Nat.le_refl _)).pt hi2n
                    cases hA2
                    obtain ⟨x2, hx2⟩ : ∃ x, fx S i2 = x := ⟨_, rfl⟩
                    obtain ⟨pa, hpa⟩ : ∃ x, pin P i2 = x := ⟨_, rfl⟩
                    have z2 := HBD.out i2 hi2n
                    have z3 := HOK.out.2.at_ i2
                    rw [hx2] at g2 z2
                    rw [hpa] at a3 z3
                    obtain ⟨z2a, z2b⟩ := z2
                    obtain ⟨z3a, z3b, -, -⟩ := z3
                    have e2 : IntKind.i64.wrap (x2 + pa) = x2 + pa := IntWalk.i64_in _ (by omega)
                    have e3 : IntKind.i64.wrap (x2 + pa - po) = x2 + pa - po := IntWalk.i64_in _ (by omega)
                    have e4 : IntKind.i64.wrap (x2 + pa - po - b.land) = x2 + pa - po - b.land := IntWalk.i64_in _ (by omega)
                    obtain ⟨v2, hv2⟩ : ∃ x, (if x2 + pa - po - b.land < v1 then x2 + pa - po - b.land else v1) = x := ⟨_, rfl⟩
                    have HV2 : Hid (v2 = if b.per.toNat ≤ i then (if fx S (i - b.per.toNat) + wLand b P i < v1 then fx S (i - b.per.toNat) + wLand b P i else v1) else v1) := Lib.hid (by
                      have hw : fx S (i - b.per.toNat) + wLand b P i = x2 + pa - po - b.land := by unfold wLand; rw [hi2, hx2, hpa, HPO.out]; omega
                      rw [if_pos (by omega), hw, hv2])
                    clear hi2 hx2 hpa hi2z
                    obtain ⟨i3, hi3⟩ : ∃ x, i + 1 = x := ⟨_, rfl⟩
                    have HI3 := Lib.hid hi3
                    have hi3n : i3 < n := by omega
                    have hi3z : (i : Int) + 1 = (i3 : Int) := by omega
                    have f3 : IntKind.i64.wrap ((i : Int) + 1) = (i3 : Int) := by rw [hi3z]; exact IntWalk.i64_in _ (by omega)
                    have hi3m : (i3 : Int) < (n : Int) := by omega
                    have hi3o : (i : Int) + 1 < (n : Int) := by omega
                    have g3 := own_c3 HO.out (j := i3) (by rw [HSL.out]; exact hi3n)
                    obtain ⟨x3, hx3⟩ : ∃ x, fx S i3 = x := ⟨_, rfl⟩
                    have z4 := HBD.out i3 hi3n
                    rw [hx3] at g3 z4
                    obtain ⟨z4a, z4b⟩ := z4
                    have e5 : IntKind.i64.wrap (x3 + b.fast) = x3 + b.fast := IntWalk.i64_in _ (by omega)
                    obtain ⟨v3, hv3⟩ : ∃ x, (if x3 + b.fast < v2 then x3 + b.fast else v2) = x := ⟨_, rfl⟩
                    have HV3 : Hid (v3 = if i + 1 < n then (if fx S (i + 1) + b.fast < v2 then fx S (i + 1) + b.fast else v2) else v2) := Lib.hid (by rw [if_pos hc3, hi3, hx3, hv3])
                    clear hi3 hx3 hi3z
                    have HRX := Lib.hid (relax_st HV1.out HV2.out HV3.out)
                    rw [HRX.out] at HNX HNC
                    clear HV1 HV2 HV3
                    go_wp2_with fail
                    go_quiet (fail)
                    have hbq : Below w0.heap.size w0 (wr.drewN nq) := below_drewN_ HB.out nq
                    have hoq := drewN_own HO.out nq
                    obtain ⟨wq1, hwk⟩ : ∃ W, wr.drewN nq = W := ⟨_, rfl⟩
                    rw [← drewN_cell wr nq] at c0 c1 c2 c3 c4 c5 gi a2 g1 g2 a3 g3
                    rw [← drewN_froz wr nq] at gf
                    rw [hwk] at hbq hoq c0 c1 c2 c3 c4 c5 gi a2 g1 g2 a3 g3 gf ⊢
                    replace HB := Lib.hid hbq
                    replace HO := Lib.hid hoq
                    clear hbq hoq hwk nq
                    go_wp2_with fail
                    go_quiet (fail)
                    have hbq : Below w0.heap.size w0 (wq1.drewN nq) := below_drewN_ HB.out nq
                    have hoq := drewN_own HO.out nq
                    obtain ⟨wq2, hwk⟩ : ∃ W, wq1.drewN nq = W := ⟨_, rfl⟩
                    rw [← drewN_cell wq1 nq] at c0 c1 c2 c3 c4 c5 gi a2 g1 g2 a3 g3
                    rw [← drewN_froz wq1 nq] at gf
                    rw [hwk] at hbq hoq c0 c1 c2 c3 c4 c5 gi a2 g1 g2 a3 g3 gf ⊢
                    replace HB := Lib.hid hbq
                    replace HO := Lib.hid hoq
                    clear hbq hoq hwk nq
                    go_wp2_with fail
                    go_quiet (fail)
                    have hbq : Below w0.heap.size w0 (wq2.drewN nq) := below_drewN_ HB.out nq
                    have hoq := drewN_own HO.out nq
                    obtain ⟨wq3, hwk⟩ : ∃ W, wq2.drewN nq = W := ⟨_, rfl⟩
                    rw [← drewN_cell wq2 nq] at c0 c1 c2 c3 c4 c5 gi a2 g1 g2 a3 g3
                    rw [← drewN_froz wq2 nq] at gf
                    rw [hwk] at hbq hoq c0 c1 c2 c3 c4 c5 gi a2 g1 g2 a3 g3 gf ⊢
                    replace HB := Lib.hid hbq
                    replace HO := Lib.hid hoq
                    clear hbq hoq hwk nq
                    have hi3 := HI3.out
                    subst hi3
                    clear f3 HI3
                    have gset := (own_at3 HO.out (j := i) (by rw [HSL.out]; exact hlt))
                    obtain ⟨g', hA', -, -, -, -, gset⟩ := gset
                    cases hA'
                    have hos := gset v3
                    have hbs : Below w0.heap.size w0 (wq3.setCell ⟨g, i, none⟩ (.int .i64 v3)) := HB.out.setCell (p := ⟨g, i, none⟩) hg1 _
                    have HOS := Lib.hid hos
                    have HBS := Lib.hid hbs
                    clear hos hbs gset
                    cases cb
                    · simp only [Bool.false_or] at HNC
                      go_wp2_with fail
                      go_roundw
                      case rel => exact ⟨i + 1, by omega, by rw [HNC.out], by go_num, by rw [HNX.out]; exact HOS, HBS⟩
                      case measure => simp [intOf]; omega
                    · simp only [Bool.true_or] at HNC
                      go_wp2_with fail
                      go_roundw
                      case rel => exact ⟨i + 1, by omega, by rw [HNC.out], by go_num, by rw [HNX.out]; exact HOS, HBS⟩
                      case measure => simp [intOf]; omega
                  · skip
                    obtain ⟨i1, hi1⟩ : ∃ x, i - 1 = x := ⟨_, rfl⟩
                    have hi1n : i1 < n := by omega
                    have hi1z : (i : Int) - 1 = (i1 : Int) := by omega
                    have f1 : IntKind.i64.wrap ((i : Int) - 1) = (i1 : Int) := by rw [hi1z]; exact IntWalk.i64_in _ (by omega)
                    have g1 := own_c3 HO.out (j := i1) (by rw [HSL.out]; exact hi1n)
                    obtain ⟨x1, hx1⟩ : ∃ x, fx S i1 = x := ⟨_, rfl⟩
                    have z1 := HBD.out i1 hi1n
                    rw [hx1] at g1 z1
                    obtain ⟨z1a, z1b⟩ := z1
                    have e1 : IntKind.i64.wrap (x1 - b.slow) = x1 - b.slow := IntWalk.i64_in _ (by omega)
                    obtain ⟨v1, hv1⟩ : ∃ x, (if x1 - b.slow < m0 then x1 - b.slow else m0) = x := ⟨_, rfl⟩
                    have HV1 : Hid (v1 = if 0 < i then (if fx S (i - 1) - b.slow < fx S i then fx S (i - 1) - b.slow else fx S i) else fx S i) := Lib.hid (by rw [if_pos hc1, hi1, hx1, HM0.out, hv1])
                    clear hi1 hx1 hi1z
                    obtain ⟨i2, hi2⟩ : ∃ x, i - b.per.toNat = x := ⟨_, rfl⟩
                    have hi2n : i2 < n := by omega
                    have hi2z : (i : Int) - b.per = (i2 : Int) := by omega
                    have f2 : IntKind.i64.wrap ((i : Int) - b.per) = (i2 : Int) := by rw [hi2z]; exact IntWalk.i64_in _ (by omega)
                    have g2 := own_c3 HO.out (j := i2) (by rw [HSL.out]; exact hi2n)
                    obtain ⟨ad2, hA2, -, a3, -⟩ := (HP.out.below (HB0.out.trans (HB.out.mono HB0.out.size)) (Nat.le_refl _)).pt hi2n
                    cases hA2
                    obtain ⟨x2, hx2⟩ : ∃ x, fx S i2 = x := ⟨_, rfl⟩
                    obtain ⟨pa, hpa⟩ : ∃ x, pin P i2 = x := ⟨_, rfl⟩
                    have z2 := HBD.out i2 hi2n
                    have z3 := HOK.out.2.at_ i2
                    rw [hx2] at g2 z2
                    rw [hpa] at a3 z3
                    obtain ⟨z2a, z2b⟩ := z2
                    obtain ⟨z3a, z3b, -, -⟩ := z3
                    have e2 : IntKind.i64.wrap (x2 + pa) = x2 + pa := IntWalk.i64_in _ (by omega)
                    have e3 : IntKind.i64.wrap (x2 + pa - po) = x2 + pa - po := IntWalk.i64_in _ (by omega)
                    have e4 : IntKind.i64.wrap (x2 + pa - po - b.land) = x2 + pa - po - b.land := IntWalk.i64_in _ (by omega)
                    obtain ⟨v2, hv2⟩ : ∃ x, (if x2 + pa - po - b.land < v1 then x2 + pa - po - b.land else v1) = x := ⟨_, rfl⟩
                    have HV2 : Hid (v2 = if b.per.toNat ≤ i then (if fx S (i - b.per.toNat) + wLand b P i < v1 then fx S (i - b.per.toNat) + wLand b P i else v1) else v1) := Lib.hid (by
                      have hw : fx S (i - b.per.toNat) + wLand b P i = x2 + pa - po - b.land := by unfold wLand; rw [hi2, hx2, hpa, HPO.out]; omega
                      rw [if_pos (by omega), hw, hv2])
                    clear hi2 hx2 hpa hi2z
                    have hi3o : ¬ (i : Int) + 1 < (n : Int) := by omega
                    have HV3 : Hid (v2 = if i + 1 < n then (if fx S (i + 1) + b.fast < v2 then fx S (i + 1) + b.fast else v2) else v2) := Lib.hid (by rw [if_neg hc3])
                    have HRX := Lib.hid (relax_st HV1.out HV2.out HV3.out)
                    rw [HRX.out] at HNX HNC
                    clear HV1 HV2 HV3
                    go_wp2_with fail
                    go_quiet (fail)
                    have hbq : Below w0.heap.size w0 (wr.drewN nq) := below_drewN_ HB.out nq
                    have hoq := drewN_own HO.out nq
                    obtain ⟨wq1, hwk⟩ : ∃ W, wr.drewN nq = W := ⟨_, rfl⟩
                    rw [← drewN_cell wr nq] at c0 c1 c2 c3 c4 c5 gi a2 g1 g2 a3
                    rw [← drewN_froz wr nq] at gf
                    rw [hwk] at hbq hoq c0 c1 c2 c3 c4 c5 gi a2 g1 g2 a3 gf ⊢
                    replace HB := Lib.hid hbq
                    replace HO := Lib.hid hoq
                    clear hbq hoq hwk nq
                    go_wp2_with fail
                    go_quiet (fail)
                    have hbq : Below w0.heap.size w0 (wq1.drewN nq) := below_drewN_ HB.out nq
                    have hoq := drewN_own HO.out nq
                    obtain ⟨wq2, hwk⟩ : ∃ W, wq1.drewN nq = W := ⟨_, rfl⟩
                    rw [← drewN_cell wq1 nq] at c0 c1 c2 c3 c4 c5 gi a2 g1 g2 a3
                    rw [← drewN_froz wq1 nq] at gf
                    rw [hwk] at hbq hoq c0 c1 c2 c3 c4 c5 gi a2 g1 g2 a3 gf ⊢
                    replace HB := Lib.hid hbq
                    replace HO := Lib.hid hoq
                    clear hbq hoq hwk nq
                    have gset := (own_at3 HO.out (j := i) (by rw [HSL.out]; exact hlt))
                    obtain ⟨g', hA', -, -, -, -, gset⟩ := gset
                    cases hA'
                    have hos := gset v2
                    have hbs : Below w0.heap.size w0 (wq2.setCell ⟨g, i, none⟩ (.int .i64 v2)) := HB.out.setCell (p := ⟨g, i, none⟩) hg1 _
                    have HOS := Lib.hid hos
                    have HBS := Lib.hid hbs
                    clear hos hbs gset
                    cases cb
                    · simp only [Bool.false_or] at HNC
                      go_wp2_with fail
                      go_roundw
                      case rel => exact ⟨i + 1, by omega, by rw [HNC.out], by go_num, by rw [HNX.out]; exact HOS, HBS⟩
                      case measure => simp [intOf]; omega
                    · simp only [Bool.true_or] at HNC
                      go_wp2_with fail
                      go_roundw
                      case rel => exact ⟨i + 1, by omega, by rw [HNC.out], by go_num, by rw [HNX.out]; exact HOS, HBS⟩
                      case measure => simp [intOf]; omega
                · by_cases hc3 : i + 1 < n
                  · skip
                    obtain ⟨i1, hi1⟩ : ∃ x, i - 1 = x := ⟨_, rfl⟩
                    have hi1n : i1 < n := by omega
                    have hi1z : (i : Int) - 1 = (i1 : Int) := by omega
                    have f1 : IntKind.i64.wrap ((i : Int) - 1) = (i1 : Int) := by rw [hi1z]; exact IntWalk.i64_in _ (by omega)
                    have g1 := own_c3 HO.out (j := i1) (by rw [HSL.out]; exact hi1n)
                    obtain ⟨x1, hx1⟩ : ∃ x, fx S i1 = x := ⟨_, rfl⟩
                    have z1 := HBD.out i1 hi1n
                    rw [hx1] at g1 z1
                    obtain ⟨z1a, z1b⟩ := z1
                    have e1 : IntKind.i64.wrap (x1 - b.slow) = x1 - b.slow := IntWalk.i64_in _ (by omega)
                    obtain ⟨v1, hv1⟩ : ∃ x, (if x1 - b.slow < m0 then x1 - b.slow else m0) = x := ⟨_, rfl⟩
                    have HV1 : Hid (v1 = if 0 < i then (if fx S (i - 1) - b.slow < fx S i then fx S (i - 1) - b.slow else fx S i) else fx S i) := Lib.hid (by rw [if_pos hc1, hi1, hx1, HM0.out, hv1])
                    clear hi1 hx1 hi1z
                    have HV2 : Hid (v1 = if b.per.toNat ≤ i then (if fx S (i - b.per.toNat) + wLand b P i < v1 then fx S (i - b.per.toNat) + wLand b P i else v1) else v1) := Lib.hid (by rw [if_neg (by omega)])
                    obtain ⟨i3, hi3⟩ : ∃ x, i + 1 = x := ⟨_, rfl⟩
                    have HI3 := Lib.hid hi3
                    have hi3n : i3 < n := by omega
                    have hi3z : (i : Int) + 1 = (i3 : Int) := by omega
                    have f3 : IntKind.i64.wrap ((i : Int) + 1) = (i3 : Int) := by rw [hi3z]; exact IntWalk.i64_in _ (by omega)
                    have hi3m : (i3 : Int) < (n : Int) := by omega
                    have hi3o : (i : Int) + 1 < (n : Int) := by omega
                    have g3 := own_c3 HO.out (j := i3) (by rw [HSL.out]; exact hi3n)
                    obtain ⟨x3, hx3⟩ : ∃ x, fx S i3 = x := ⟨_, rfl⟩
                    have z4 := HBD.out i3 hi3n
                    rw [hx3] at g3 z4
                    obtain ⟨z4a, z4b⟩ := z4
                    have e5 : IntKind.i64.wrap (x3 + b.fast) = x3 + b.fast := IntWalk.i64_in _ (by omega)
                    obtain ⟨v3, hv3⟩ : ∃ x, (if x3 + b.fast < v1 then x3 + b.fast else v1) = x := ⟨_, rfl⟩
                    have HV3 : Hid (v3 = if i + 1 < n then (if fx S (i + 1) + b.fast < v1 then fx S (i + 1) + b.fast else v1) else v1) := Lib.hid (by rw [if_pos hc3, hi3, hx3, hv3])
                    clear hi3 hx3 hi3z
                    have HRX := Lib.hid (relax_st HV1.out HV2.out HV3.out)
                    rw [HRX.out] at HNX HNC
                    clear HV1 HV2 HV3
                    go_wp2_with fail
                    go_quiet (fail)
                    have hbq : Below w0.heap.size w0 (wr.drewN nq) := below_drewN_ HB.out nq
                    have hoq := drewN_own HO.out nq
                    obtain ⟨wq1, hwk⟩ : ∃ W, wr.drewN nq = W := ⟨_, rfl⟩
                    rw [← drewN_cell wr nq] at c0 c1 c2 c3 c4 c5 gi a2 g1 g3
                    rw [← drewN_froz wr nq] at gf
                    rw [hwk] at hbq hoq c0 c1 c2 c3 c4 c5 gi a2 g1 g3 gf ⊢
                    replace HB := Lib.hid hbq
                    replace HO := Lib.hid hoq
                    clear hbq hoq hwk nq
                    go_wp2_with fail
                    go_quiet (fail)
                    have hbq : Below w0.heap.size w0 (wq1.drewN nq) := below_drewN_ HB.out nq
                    have hoq := drewN_own HO.out nq
                    obtain ⟨wq2, hwk⟩ : ∃ W, wq1.drewN nq = W := ⟨_, rfl⟩
                    rw [← drewN_cell wq1 nq] at c0 c1 c2 c3 c4 c5 gi a2 g1 g3
                    rw [← drewN_froz wq1 nq] at gf
                    rw [hwk] at hbq hoq c0 c1 c2 c3 c4 c5 gi a2 g1 g3 gf ⊢
                    replace HB := Lib.hid hbq
                    replace HO := Lib.hid hoq
                    clear hbq hoq hwk nq
                    have hi3 := HI3.out
                    subst hi3
                    clear f3 HI3
                    have gset := (own_at3 HO.out (j := i) (by rw [HSL.out]; exact hlt))
                    obtain ⟨g', hA', -, -, -, -, gset⟩ := gset
                    cases hA'
                    have hos := gset v3
                    have hbs : Below w0.heap.size w0 (wq2.setCell ⟨g, i, none⟩ (.int .i64 v3)) := HB.out.setCell (p := ⟨g, i, none⟩) hg1 _
                    have HOS := Lib.hid hos
                    have HBS := Lib.hid hbs
                    clear hos hbs gset
                    cases cb
                    · simp only [Bool.false_or] at HNC
                      go_wp2_with fail
                      go_roundw
                      case rel => exact ⟨i + 1, by omega, by rw [HNC.out], by go_num, by rw [HNX.out]; exact HOS, HBS⟩
                      case measure => simp [intOf]; omega
                    · simp only [Bool.true_or] at HNC
                      go_wp2_with fail
                      go_roundw
                      case rel => exact ⟨i + 1, by omega, by rw [HNC.out], by go_num, by rw [HNX.out]; exact HOS, HBS⟩
                      case measure => simp [intOf]; omega
                  · skip
                    obtain ⟨i1, hi1⟩ : ∃ x, i - 1 = x := ⟨_, rfl⟩
                    have hi1n : i1 < n := by omega
                    have hi1z : (i : Int) - 1 = (i1 : Int) := by omega
                    have f1 : IntKind.i64.wrap ((i : Int) - 1) = (i1 : Int) := by rw [hi1z]; exact IntWalk.i64_in _ (by omega)
                    have g1 := own_c3 HO.out (j := i1) (by rw [HSL.out]; exact hi1n)
                    obtain ⟨x1, hx1⟩ : ∃ x, fx S i1 = x := ⟨_, rfl⟩
                    have z1 := HBD.out i1 hi1n
                    rw [hx1] at g1 z1
                    obtain ⟨z1a, z1b⟩ := z1
                    have e1 : IntKind.i64.wrap (x1 - b.slow) = x1 - b.slow := IntWalk.i64_in _ (by omega)
                    obtain ⟨v1, hv1⟩ : ∃ x, (if x1 - b.slow < m0 then x1 - b.slow else m0) = x := ⟨_, rfl⟩
                    have HV1 : Hid (v1 = if 0 < i then (if fx S (i - 1) - b.slow < fx S i then fx S (i - 1) - b.slow else fx S i) else fx S i) := Lib.hid (by rw [if_pos hc1, hi1, hx1, HM0.out, hv1])
                    clear hi1 hx1 hi1z
                    have HV2 : Hid (v1 = if b.per.toNat ≤ i then (if fx S (i - b.per.toNat) + wLand b P i < v1 then fx S (i - b.per.toNat) + wLand b P i else v1) else v1) := Lib.hid (by rw [if_neg (by omega)])
                    have hi3o : ¬ (i : Int) + 1 < (n : Int) := by omega
                    have HV3 : Hid (v1 = if i + 1 < n then (if fx S (i + 1) + b.fast < v1 then fx S (i + 1) + b.fast else v1) else v1) := Lib.hid (by rw [if_neg hc3])
                    have HRX := Lib.hid (relax_st HV1.out HV2.out HV3.out)
                    rw [HRX.out] at HNX HNC
                    clear HV1 HV2 HV3
                    go_wp2_with fail
                    go_quiet (fail)
                    have hbq : Below w0.heap.size w0 (wr.drewN nq) := below_drewN_ HB.out nq
                    have hoq := drewN_own HO.out nq
                    obtain ⟨wq1, hwk⟩ : ∃ W, wr.drewN nq = W := ⟨_, rfl⟩
                    rw [← drewN_cell wr nq] at c0 c1 c2 c3 c4 c5 gi a2 g1
                    rw [← drewN_froz wr nq] at gf
                    rw [hwk] at hbq hoq c0 c1 c2 c3 c4 c5 gi a2 g1 gf ⊢
                    replace HB := Lib.hid hbq
                    replace HO := Lib.hid hoq
                    clear hbq hoq hwk nq
                    have gset := (own_at3 HO.out (j := i) (by rw [HSL.out]; exact hlt))
                    obtain ⟨g', hA', -, -, -, -, gset⟩ := gset
                    cases hA'
                    have hos := gset v1
                    have hbs : Below w0.heap.size w0 (wq1.setCell ⟨g, i, none⟩ (.int .i64 v1)) := HB.out.setCell (p := ⟨g, i, none⟩) hg1 _
                    have HOS := Lib.hid hos
                    have HBS := Lib.hid hbs
                    clear hos hbs gset
                    cases cb
                    · simp only [Bool.false_or] at HNC
                      go_wp2_with fail
                      go_roundw
                      case rel => exact ⟨i + 1, by omega, by rw [HNC.out], by go_num, by rw [HNX.out]; exact HOS, HBS⟩
                      case measure => simp [intOf]; omega
                    · simp only [Bool.true_or] at HNC
                      go_wp2_with fail
                      go_roundw
                      case rel => exact ⟨i + 1, by omega, by rw [HNC.out], by go_num, by rw [HNX.out]; exact HOS, HBS⟩
                      case measure => simp [intOf]; omega
              · have hc1z : ¬ (i : Int) > 0 := by omega
                have hc2 : ¬ b.per ≤ (i : Int) := by omega
                by_cases hc3 : i + 1 < n
                · skip
                  have HV1 : Hid (m0 = if 0 < i then (if fx S (i - 1) - b.slow < fx S i then fx S (i - 1) - b.slow else fx S i) else fx S i) := Lib.hid (by rw [if_neg hc1, HM0.out])
                  have HV2 : Hid (m0 = if b.per.toNat ≤ i then (if fx S (i - b.per.toNat) + wLand b P i < m0 then fx S (i - b.per.toNat) + wLand b P i else m0) else m0) := Lib.hid (by rw [if_neg (by omega)])
                  obtain ⟨i3, hi3⟩ : ∃ x, i + 1 = x := ⟨_, rfl⟩
                  have HI3 := Lib.hid hi3
                  have hi3n : i3 < n := by omega
                  have hi3z : (i : Int) + 1 = (i3 : Int) := by omega
                  have f3 : IntKind.i64.wrap ((i : Int) + 1) = (i3 : Int) := by rw [hi3z]; exact IntWalk.i64_in _ (by omega)
                  have hi3m : (i3 : Int) < (n : Int) := by omega
                  have hi3o : (i : Int) + 1 < (n : Int) := by omega
                  have g3 := own_c3 HO.out (j := i3) (by rw [HSL.out]; exact hi3n)
                  obtain ⟨x3, hx3⟩ : ∃ x, fx S i3 = x := ⟨_, rfl⟩
                  have z4 := HBD.out i3 hi3n
                  rw [hx3] at g3 z4
                  obtain ⟨z4a, z4b⟩ := z4
                  have e5 : IntKind.i64.wrap (x3 + b.fast) = x3 + b.fast := IntWalk.i64_in _ (by omega)
                  obtain ⟨v3, hv3⟩ : ∃ x, (if x3 + b.fast < m0 then x3 + b.fast else m0) = x := ⟨_, rfl⟩
                  have HV3 : Hid (v3 = if i + 1 < n then (if fx S (i + 1) + b.fast < m0 then fx S (i + 1) + b.fast else m0) else m0) := Lib.hid (by rw [if_pos hc3, hi3, hx3, hv3])
                  clear hi3 hx3 hi3z
                  have HRX := Lib.hid (relax_st HV1.out HV2.out HV3.out)
                  rw [HRX.out] at HNX HNC
                  clear HV1 HV2 HV3
                  go_wp2_with fail
                  go_quiet (fail)
                  have hbq : Below w0.heap.size w0 (wr.drewN nq) := below_drewN_ HB.out nq
                  have hoq := drewN_own HO.out nq
                  obtain ⟨wq1, hwk⟩ : ∃ W, wr.drewN nq = W := ⟨_, rfl⟩
                  rw [← drewN_cell wr nq] at c0 c1 c2 c3 c4 c5 gi a2 g3
                  rw [← drewN_froz wr nq] at gf
                  rw [hwk] at hbq hoq c0 c1 c2 c3 c4 c5 gi a2 g3 gf ⊢
                  replace HB := Lib.hid hbq
                  replace HO := Lib.hid hoq
                  clear hbq hoq hwk nq
                  have hi3 := HI3.out
                  subst hi3
                  clear f3 HI3
                  have gset := (own_at3 HO.out (j := i) (by rw [HSL.out]; exact hlt))
                  obtain ⟨g', hA', -, -, -, -, gset⟩ := gset
                  cases hA'
                  have hos := gset v3
                  have hbs : Below w0.heap.size w0 (wq1.setCell ⟨g, i, none⟩ (.int .i64 v3)) := HB.out.setCell (p := ⟨g, i, none⟩) hg1 _
                  have HOS := Lib.hid hos
                  have HBS := Lib.hid hbs
                  clear hos hbs gset
                  cases cb
                  · simp only [Bool.false_or] at HNC
                    go_wp2_with fail
                    go_roundw
                    case rel => exact ⟨i + 1, by omega, by rw [HNC.out], by go_num, by rw [HNX.out]; exact HOS, HBS⟩
                    case measure => simp [intOf]; omega
                  · simp only [Bool.true_or] at HNC
                    go_wp2_with fail
                    go_roundw
                    case rel => exact ⟨i + 1, by omega, by rw [HNC.out], by go_num, by rw [HNX.out]; exact HOS, HBS⟩
                    case measure => simp [intOf]; omega
                · skip
                  have HV1 : Hid (m0 = if 0 < i then (if fx S (i - 1) - b.slow < fx S i then fx S (i - 1) - b.slow else fx S i) else fx S i) := Lib.hid (by rw [if_neg hc1, HM0.out])
                  have HV2 : Hid (m0 = if b.per.toNat ≤ i then (if fx S (i - b.per.toNat) + wLand b P i < m0 then fx S (i - b.per.toNat) + wLand b P i else m0) else m0) := Lib.hid (by rw [if_neg (by omega)])
                  have hi3o : ¬ (i : Int) + 1 < (n : Int) := by omega
                  have HV3 : Hid (m0 = if i + 1 < n then (if fx S (i + 1) + b.fast < m0 then fx S (i + 1) + b.fast else m0) else m0) := Lib.hid (by rw [if_neg hc3])
                  have HRX := Lib.hid (relax_st HV1.out HV2.out HV3.out)
                  rw [HRX.out] at HNX HNC
                  clear HV1 HV2 HV3
                  have gset := (own_at3 HO.out (j := i) (by rw [HSL.out]; exact hlt))
                  obtain ⟨g', hA', -, -, -, -, gset⟩ := gset
                  cases hA'
                  have hos := gset m0
                  have hbs : Below w0.heap.size w0 (wr.setCell ⟨g, i, none⟩ (.int .i64 m0)) := HB.out.setCell (p := ⟨g, i, none⟩) hg1 _
                  have HOS := Lib.hid hos
                  have HBS := Lib.hid hbs
                  clear hos hbs gset
                  cases cb
                  · simp only [Bool.false_or] at HNC
                    go_wp2_with fail
                    go_roundw
                    case rel => exact ⟨i + 1, by omega, by rw [HNC.out]; simp, by go_num, by rw [HNX.out]; exact HOS, HBS⟩
                    case measure => simp [intOf]; omega
                  · simp only [Bool.true_or] at HNC
                    go_wp2_with fail
                    go_roundw
                    case rel => exact ⟨i + 1, by omega, by rw [HNC.out], by go_num, by rw [HNX.out]; exact HOS, HBS⟩
                    case measure => simp [intOf]; omega
            · obtain rfl : n = i := by omega
              have hgr := HGR.out
              rw [show n + 2 - t = (n + 1 - t) + 1 by omega, grt] at hgr
              have HSL : Hid ((swp b P n R n).length = n) := Lib.hid (by rw [swp_len]; exact HRL.out)
              have HBD : Hid (GBd n ((t + 1) * n) (swp b P n R n)) := Lib.hid (by rw [Nat.succ_mul, HTN.out]; exact gbd_swp HOK.out.1 HOK.out.2 HRL.out HGB.out n (Nat.le_refl _))
              cases hch : chg b P n R n with
              | false =>
                rw [hch] at hgr
                simp only [Bool.false_eq_true, if_false] at hgr
                have HG := Lib.hid hgr
                clear hgr hch
                go_wp2_with fail
                go_ret2
                rw [← HG.out]
                exact ⟨_, rfl, by rw [show ((some (swp b P n R n)).getD []).length = n from HSL.out]; exact own_base_ HO.out (by have := HS0.out; omega), HB0.out.trans (HB.out.mono HB0.out.size)⟩
              | true =>
                rw [hch] at hgr
                simp only [if_true] at hgr
                have HG : Hid (grt b P n (n + 2 - (t + 1)) (swp b P n R n) = grtO b P n) := Lib.hid (by rw [show n + 2 - (t + 1) = n + 1 - t by omega]; exact hgr)
                clear hgr hch
                go_wp2_with fail
                go_roundw
                case rel => exact ⟨t + 1, _, by omega, by go_num, HO, HB, HG, HSL, HBD⟩
                case measure => simp [intOf]; omega
        · obtain rfl : t = n + 2 := by omega
          have hgr := HGR.out
          rw [Nat.sub_self, grt] at hgr
          have HG := Lib.hid hgr
          have ht1 : ¬ (((n + 2 : Nat) : Int) ≤ (n : Int) + 1) := by omega
          clear hgr
          go_wp2_with fail
          go_ret2
          rw [← HG.out]
          exact ⟨_, rfl, World.ownsRow_nil _ _ _ _, HB0.out.trans (HB.out.mono HB0.out.size)⟩
end Go.Proofs.Ytgdkcbnpgpjnbaa

