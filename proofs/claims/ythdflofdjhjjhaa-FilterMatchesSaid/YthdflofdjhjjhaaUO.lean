/-
  The document's run: one curve, forwards or back.
-/
import Derived.Test.YthdflofdjhjjhaaUL
namespace Go.Proofs.Ythdflofdjhjjhaa
open Go.RowKit

/-- What is left of a run, when the first j numbers are done. -/
def runR (d : Bool) (most : Int) (c : Cur) (xs ys given : List Int) (j : Nat) : Option (List Int) := (run1 d most c (mts xs ys) (given.drop j)).map ((if d then ys else xs) ++ ·)
section
variable {d : Bool} {most : Int} {c : Cur} {xs ys given : List Int} {j : Nat}
theorem runR_zero : runR d most c [] [] given 0 = run1 d most c [] given := by unfold runR; cases d <;> simp [mts]
theorem runR_go (h : xs.length = ys.length) (hj : j < given.length) (hw : wib (outM d (mom d c (mts xs ys) given[j])) most = true) :
    runR d most c (xs ++ [(mom d c (mts xs ys) given[j]).1]) (ys ++ [(mom d c (mts xs ys) given[j]).2]) given (j + 1) = runR d most c xs ys given j := by
  unfold runR
  rw [mts_snoc _ _ h, List.drop_eq_getElem_cons hj]
  conv => rhs; unfold run1
  rw [if_pos hw]
  rw [show ((mom d c (mts xs ys) given[j]).1, (mom d c (mts xs ys) given[j]).2) = mom d c (mts xs ys) given[j] from rfl]
  cases d <;> cases run1 _ most c (mom _ c (mts xs ys) given[j] :: mts xs ys) (given.drop (j + 1)) <;> simp [outM]
theorem runR_over (hj : j < given.length) (hw : wib (outM d (mom d c (mts xs ys) given[j])) most = false) : runR d most c xs ys given j = none := by
  unfold runR
  have e : run1 d most c (mts xs ys) (given[j] :: given.drop (j + 1)) = none := by
    unfold run1
    rw [if_neg (by simp [hw])]
  rw [List.drop_eq_getElem_cons hj, e]; rfl
theorem runR_end (hj : j = given.length) : runR d most c xs ys given j = some (if d then ys else xs) := by
  unfold runR
  rw [List.drop_of_length_le (by omega)]
  simp [run1]
end
/-- What a call leaves that returns a list and whether it is fine. -/
def RunO (w : World) (R : Option (List Int)) (e : Ending) (w' : World) : Prop :=
  ∃ v, e = .returned (.tuple #[v, .bool R.isSome]) ∧ w'.ownsRow w.heap.size 2 1 v (R.getD []).length (nums (R.getD [])) ∧ Below w.heap.size w w'
theorem small_mts {d : Bool} {most : Int} {c : Cur} {h : List (Int × Int)} {v : Int} (hh : Small h) (hv : wib v most = true) (hw : wib (outM d (mom d c h v)) most = true) (hm : most ≤ 1099511627776) : Small (mom d c h v :: h) := mom_small hh hv hw hm

set_option maxRecDepth 100000 in
set_option maxHeartbeats 8000000 in
theorem refRun_forth (B : Nat) (t : CV) (Ag : Option Addr) (n kg : Nat) (given : List Int) (most : Int) (w : World) (hc : CI w B t) (hG : LI w B Ag n given) (hB : B ≤ w.heap.size) (hn4 : n ≤ 4096) (hok : CurOk t.c) (hw : ∀ x ∈ given, wib x most = true) (hm0 : 0 ≤ most) (hm : most ≤ 1099511627776) :
    Calls Try.prog 47 #[.agg #[.slice t.Af t.nf t.kf, .slice t.Ab t.nb t.kb, .int .i64 t.c.share], .slice Ag n kg, .bool false, .int .i64 most] w (RunO w (run1 true most t.c [] given)) := by
  have HOK := Lib.hid hok
  have HW := Lib.hid hw
  have HGN := Lib.hid hG.1
  obtain ⟨R, hR⟩ : ∃ R, run1 true most t.c [] given = R := ⟨_, rfl⟩
  rw [hR]
  have HR := Lib.hid hR
  obtain ⟨W, hW⟩ : ∃ W, w.alloc (.cells #[.slice t.Af t.nf t.kf, .slice t.Ab t.nb t.kb, .int .i64 t.c.share] 24) = W := ⟨_, rfl⟩
  have hb : Below w.heap.size w W := by rw [← hW]; exact (Below.refl _ _).alloc (Nat.le_refl _) _
  have HK : Hid (Blk W w.heap.size 24 #[.slice t.Af t.nf t.kf, .slice t.Ab t.nb t.kb, .int .i64 t.c.share]) := Lib.hid (by rw [← hW]; exact Blk.new _ _ _)
  have HC := Lib.hid ((hc.below hb hB).more (Nat.le_trans hB hb.size))
  have HG := Lib.hid ((hG.below hb hB).more (Nat.le_trans hB hb.size))
  have HB := Lib.hid hb
  have hsW := hb.size
  have e0 : IntKind.i64.wrap (-most) = -most := IntWalk.i64_in _ (by omega)
  obtain ⟨i0, hi0, hz0, hz1, hz2⟩ := info_parts info_i64
  have HI0 := Lib.hid hi0
  have HZ0 := Lib.hid hz0
  have HZ1 := Lib.hid hz1
  have HZ2 := Lib.hid hz2
  clear hc hG hB hb hok hw hR hi0 hz0 hz1 hz2
  go_enter Try.func47, Try.ntmps47
  go_upto_region 1 with fail
  try rw [hW]
  clear hW
  go_wp2
  go_loopw [10, 11, 12] (fun vx vy i wr => ∃ (j : Nat) (xs ys : List Int) (sx sy : Value), j ≤ n ∧ i = .int .i64 j ∧ sx = vx ∧ sy = vy ∧ Hid (xs.length = j) ∧ Hid (ys.length = j) ∧ Hid (wr.ownsRow W.heap.size 2 1 sx j (nums xs)) ∧ Hid (wr.ownsRow W.heap.size 2 1 sy j (nums ys)) ∧ Hid (∀ g, sx.ownBlock = some g → sy.ownBlock ≠ some g) ∧ Hid (Small (mts xs ys)) ∧ Hid (Below W.heap.size W wr) ∧ Hid (runR true most t.c xs ys given j = R)) (fun _ _ i wr => n - (intOf i).toNat)
  case atStart => exact ⟨0, [], [], _, _, Nat.zero_le _, rfl, rfl, rfl, Lib.hid rfl, Lib.hid rfl, Lib.hid (World.ownsRow_nil _ _ _ _), Lib.hid (World.ownsRow_nil _ _ _ _), Lib.hid (fun g h => by simp [Value.ownBlock] at h), Lib.hid (fun m h => by cases h), Lib.hid (Below.refl _ _), Lib.hid (by rw [runR_zero]; exact HR.out)⟩
  case round =>
    clear HR
    obtain ⟨j, xs, ys, sx, sy, hj, rfl, rfl, rfl, HXL, HYL, HOX, HOY, HNE, HSM, HBR, HR⟩ := hrel
    have hsR : W.heap.size ≤ wr.heap.size := HBR.out.size
    obtain ⟨c0, c1, c2⟩ := (HK.out.below HBR.out HK.out.lt).three_
    by_cases hlt : j < n
    · have hjl : j < given.length := by have := HGN.out; omega
      obtain ⟨ad, hA, hbl, h1⟩ := (HG.out.below HBR.out (Nat.le_refl _)).at_ (k := j) hjl
      obtain rfl := hA
      obtain ⟨Ax, cx, rfl, hLX⟩ := li_own HOX.out
      obtain ⟨Ay, cy, rfl, hLY⟩ := li_own HOY.out
      have hwj := HW.out _ (List.getElem_mem hjl)
      have GO := Lib.hid (fun h => runR_go (d := true) (most := most) (c := t.c) (xs := xs) (ys := ys) (given := given) (j := j) (by rw [HXL.out, HYL.out]) hjl h)
      have OV := Lib.hid (fun h => runR_over (d := true) (most := most) (c := t.c) (xs := xs) (ys := ys) (given := given) (j := j) hjl h)
      have CR := Correction_any wr.heap.size t Ax Ay j cx cy xs ys wr ((HC.out.below HBR.out (Nat.le_refl _)).more hsR) hLX hLY (Nat.le_refl _) (by omega) HOK.out HSM.out
      have hcb := cor_bd HOK.out HSM.out
      have SMN := Lib.hid (fun (h : wib (outM true (mom true t.c (mts xs ys) (given[j]'hjl))) most = true) => small_mts (d := true) (most := most) (c := t.c) (v := given[j]'hjl) HSM.out hwj h hm)
      obtain ⟨g0, hg0⟩ : ∃ x, given[j] = x := ⟨_, rfl⟩
      rw [hg0] at h1 hwj GO OV SMN
      obtain ⟨q, hq⟩ : ∃ x, cor t.c (mts xs ys) = x := ⟨_, rfl⟩
      rw [hq] at CR hcb
      have hmm : mom true t.c (mts xs ys) g0 = (g0, g0 + q) := by rw [← hq]; rfl
      rw [hmm] at GO OV SMN
      have hoo : outM true (g0, g0 + q) = g0 + q := rfl
      rw [hoo] at GO OV SMN
      obtain ⟨g1, g2⟩ := wib_bd hwj
      have hn0 : decide (g0 < -most) = false := decide_eq_false (by omega)
      have hn1 : decide (most < g0) = false := decide_eq_false (by omega)
      have e1 : IntKind.i64.wrap (g0 + q) = g0 + q := IntWalk.i64_in _ (by omega)
      have CR := Lib.hid CR
      have GO : Hid (wib (g0 + q) most = true → runR true most t.c (xs ++ [g0]) (ys ++ [g0 + q]) given (j + 1) = R) := Lib.hid (fun h => (GO.out h).trans HR.out)
      have OV : Hid (wib (g0 + q) most = false → R = none) := Lib.hid (fun h => HR.out.symm.trans (OV.out h))
      clear hg0 hq hmm hoo HR hLX hLY
      go_wp2_with fail
      refine CR.out.mono ?_
      rintro e w2 ⟨rfl, hb2⟩
      have HOX := Lib.hid (own_below HOX.out hb2)
      have HOY := Lib.hid (own_below HOY.out hb2)
      have HBR := Lib.hid (HBR.out.trans (hb2.mono hsR))
      have hs2 : W.heap.size ≤ w2.heap.size := HBR.out.size
      obtain ⟨c0, c1, c2⟩ := (HK.out.below HBR.out HK.out.lt).three_
      have h1 := (hb2.cell (p := ad.add j) (by rw [block_of_add]; omega)).trans h1
      clear hb2 CR
      go_wp2_with fail
      go_quiet (fail)
      by_cases k1 : g0 + q < -most
      · obtain rfl := OV.out (wib_lo k1)
        go_wp2
        go_ret2
        exact ⟨_, rfl, World.ownsRow_nil _ _ _ _, HB.out.trans (below_drewN_ (HBR.out.mono hsW) _)⟩
      · by_cases k2 : most < g0 + q
        · obtain rfl := OV.out (wib_hi k2)
          go_wp2
          go_ret2
          exact ⟨_, rfl, World.ownsRow_nil _ _ _ _, HB.out.trans (below_drewN_ (HBR.out.mono hsW) _)⟩
        · have hwo := wib_in (x := g0 + q) (m := most) (by omega) (by omega)
          have HGO := Lib.hid (GO.out hwo)
          have HSN := Lib.hid (SMN.out hwo)
          clear GO OV SMN hwo
          have hn2 : decide (g0 + q < -most) = false := decide_eq_false k1
          have hn3 : decide (most < g0 + q) = false := decide_eq_false k2
          obtain ⟨W5, hW5⟩ : ∃ W5, w2.drewN nq = W5 := ⟨_, rfl⟩
          have hb5 : Below w2.heap.size w2 W5 := by rw [← hW5]; exact below_drewN_ (Below.refl _ _) _
          have HOX := Lib.hid (own_below HOX.out hb5)
          have HOY := Lib.hid (own_below HOY.out hb5)
          have HBR := Lib.hid (HBR.out.trans (hb5.mono hs2))
          have hs5 : W.heap.size ≤ W5.heap.size := HBR.out.size
          rw [hW5]
          clear hW5 hb5 h1 c0 c1 c2
          go_wp2_with (at_builtin; refine wpList_append_any _ rfl (.tmp 62) (.tmp 64) _ rfl W.heap.size 2 i0 _ 1 8 Try.underlying22 HI0.out HZ0.out HZ1.out HZ2.out rfl (by omega) _ j (nums xs) rfl (HOX.out.alloc _) (W5.heap.size + 1) (some ⟨W5.heap.size, 0, none⟩) 1 1 [.int .i64 (g0)] rfl ⟨rfl, fun _ => ⟨_, rfl, Nat.lt_succ_self _, nine_new _ _ _⟩⟩ (by intro x hx; simp at hx; subst hx; rfl) (by simp only [maxLen]; omega) (by omega) (by first | omega | (simp; omega)) ?_)
          intro vx w6 hox hgx hbx
          have hox' : w6.ownsRow W.heap.size 2 1 vx (j + 1) (nums (xs ++ [g0])) := by simpa [nums] using hox
          have hoy6 : w6.ownsRow W.heap.size 2 1 (.slice Ay j cy) j (nums ys) := (HOY.out.alloc _).kept hgx (by
            rcases h : (Value.slice Ay j cy).ownBlock with _ | g
            · exact .inl rfl
            · exact .inr (fun e => HNE.out g e.symm h))
          have HNE6 : Hid (∀ g, vx.ownBlock = some g → (Value.slice Ay j cy).ownBlock ≠ some g) := Lib.hid (fun g hg => by
            rcases hbx with hbx | hbx
            · exact HNE.out g (hbx ▸ hg)
            · intro hy
              have := (HOY.out.lt g hy).2
              rw [hbx] at hg
              simp at hg; omega)
          have hb6 : Below W.heap.size W w6 := (HBR.out.alloc hs5 _).grown hgx (by simp; omega) fun j hj => (HOX.out.lt j hj).1
          obtain ⟨Ax6, cx6, rfl, -⟩ := own_reads hox'
          have HOX6 := Lib.hid hox'
          have HOY6 := Lib.hid hoy6
          have HB6 := Lib.hid hb6
          have hs6 := hb6.size
          clear hox hox' hoy6 hgx hbx hb6 HOX HOY HNE HBR
          go_wp2_with (at_builtin; refine wpList_append_any _ rfl (.tmp 66) (.tmp 68) _ rfl W.heap.size 2 i0 _ 1 8 Try.underlying22 HI0.out HZ0.out HZ1.out HZ2.out rfl (by omega) _ j (nums ys) rfl (HOY6.out.alloc _) (w6.heap.size + 1) (some ⟨w6.heap.size, 0, none⟩) 1 1 [.int .i64 (g0 + q)] rfl ⟨rfl, fun _ => ⟨_, rfl, Nat.lt_succ_self _, nine_new _ _ _⟩⟩ (by intro x hx; simp at hx; subst hx; rfl) (by simp only [maxLen]; omega) (by omega) (by first | omega | (simp; omega)) ?_)
          intro vy w7 hoy hgy hby
          have HOY7 : Hid (w7.ownsRow W.heap.size 2 1 vy (j + 1) (nums (ys ++ [g0 + q]))) := Lib.hid (by simpa [nums] using hoy)
          have HOX7 : Hid (w7.ownsRow W.heap.size 2 1 (.slice Ax6 (j + 1) cx6) (j + 1) (nums (xs ++ [g0]))) := Lib.hid ((HOX6.out.alloc _).kept hgy (by
            rcases h : (Value.slice Ax6 (j + 1) cx6).ownBlock with _ | g
            · exact .inl rfl
            · exact .inr (fun e => HNE6.out g h e.symm)))
          have HNE7 : Hid (∀ g, (Value.slice Ax6 (j + 1) cx6).ownBlock = some g → vy.ownBlock ≠ some g) := Lib.hid (fun g hg hy => by
            rcases hby with hby | hby
            · exact HNE6.out g hg (hby ▸ hy)
            · have := (HOX6.out.lt g hg).2
              rw [hby] at hy
              simp at hy; omega)
          have HB7 : Hid (Below W.heap.size W w7) := Lib.hid ((HB6.out.alloc hs6 _).grown hgy (by simp; omega) fun j hj => (HOY6.out.lt j hj).1)
          clear hoy hgy hby HOX6 HOY6 HNE6 HB6
          go_wp2
          go_roundw
          case rel => exact ⟨j + 1, xs ++ [g0], ys ++ [g0 + q], _, vy, by omega, by go_num, rfl, rfl, Lib.hid (by simp [HXL.out]), Lib.hid (by simp [HYL.out]), HOX7, HOY7, HNE7, Lib.hid (by rw [mts_snoc _ _ (by rw [HXL.out, HYL.out])]; exact HSN.out), HB7, HGO⟩
          case measure => simp [intOf]; omega
    · obtain rfl : j = n := by omega
      have hre : R = some ys := by rw [← HR.out]; exact (runR_end HGN.out).trans rfl
      subst hre
      go_wp2
      go_ret2
      refine ⟨_, rfl, ?_, HB.out.trans (HBR.out.mono hsW)⟩
      have h := own_base_ HOY.out hsW
      simp only [Option.getD_some]
      rw [HYL.out]
      exact h

set_option maxRecDepth 100000 in
set_option maxHeartbeats 8000000 in
theorem refRun_back (B : Nat) (t : CV) (Ag : Option Addr) (n kg : Nat) (given : List Int) (most : Int) (w : World) (hc : CI w B t) (hG : LI w B Ag n given) (hB : B ≤ w.heap.size) (hn4 : n ≤ 4096) (hok : CurOk t.c) (hw : ∀ x ∈ given, wib x most = true) (hm0 : 0 ≤ most) (hm : most ≤ 1099511627776) :
    Calls Try.prog 47 #[.agg #[.slice t.Af t.nf t.kf, .slice t.Ab t.nb t.kb, .int .i64 t.c.share], .slice Ag n kg, .bool true, .int .i64 most] w (RunO w (run1 false most t.c [] given)) := by
  have HOK := Lib.hid hok
  have HW := Lib.hid hw
  have HGN := Lib.hid hG.1
  obtain ⟨R, hR⟩ : ∃ R, run1 false most t.c [] given = R := ⟨_, rfl⟩
  rw [hR]
  have HR := Lib.hid hR
  obtain ⟨W, hW⟩ : ∃ W, w.alloc (.cells #[.slice t.Af t.nf t.kf, .slice t.Ab t.nb t.kb, .int .i64 t.c.share] 24) = W := ⟨_, rfl⟩
  have hb : Below w.heap.size w W := by rw [← hW]; exact (Below.refl _ _).alloc (Nat.le_refl _) _
  have HK : Hid (Blk W w.heap.size 24 #[.slice t.Af t.nf t.kf, .slice t.Ab t.nb t.kb, .int .i64 t.c.share]) := Lib.hid (by rw [← hW]; exact Blk.new _ _ _)
  have HC := Lib.hid ((hc.below hb hB).more (Nat.le_trans hB hb.size))
  have HG := Lib.hid ((hG.below hb hB).more (Nat.le_trans hB hb.size))
  have HB := Lib.hid hb
  have hsW := hb.size
  have e0 : IntKind.i64.wrap (-most) = -most := IntWalk.i64_in _ (by omega)
  obtain ⟨i0, hi0, hz0, hz1, hz2⟩ := info_parts info_i64
  have HI0 := Lib.hid hi0
  have HZ0 := Lib.hid hz0
  have HZ1 := Lib.hid hz1
  have HZ2 := Lib.hid hz2
  clear hc hG hB hb hok hw hR hi0 hz0 hz1 hz2
  go_enter Try.func47, Try.ntmps47
  go_upto_region 1 with fail
  try rw [hW]
  clear hW
  go_wp2
  go_loopw [10, 11, 12] (fun vx vy i wr => ∃ (j : Nat) (xs ys : List Int) (sx sy : Value), j ≤ n ∧ i = .int .i64 j ∧ sx = vx ∧ sy = vy ∧ Hid (xs.length = j) ∧ Hid (ys.length = j) ∧ Hid (wr.ownsRow W.heap.size 2 1 sx j (nums xs)) ∧ Hid (wr.ownsRow W.heap.size 2 1 sy j (nums ys)) ∧ Hid (∀ g, sx.ownBlock = some g → sy.ownBlock ≠ some g) ∧ Hid (Small (mts xs ys)) ∧ Hid (Below W.heap.size W wr) ∧ Hid (runR false most t.c xs ys given j = R)) (fun _ _ i wr => n - (intOf i).toNat)
  case atStart => exact ⟨0, [], [], _, _, Nat.zero_le _, rfl, rfl, rfl, Lib.hid rfl, Lib.hid rfl, Lib.hid (World.ownsRow_nil _ _ _ _), Lib.hid (World.ownsRow_nil _ _ _ _), Lib.hid (fun g h => by simp [Value.ownBlock] at h), Lib.hid (fun m h => by cases h), Lib.hid (Below.refl _ _), Lib.hid (by rw [runR_zero]; exact HR.out)⟩
  case round =>
    clear HR
    obtain ⟨j, xs, ys, sx, sy, hj, rfl, rfl, rfl, HXL, HYL, HOX, HOY, HNE, HSM, HBR, HR⟩ := hrel
    have hsR : W.heap.size ≤ wr.heap.size := HBR.out.size
    obtain ⟨c0, c1, c2⟩ := (HK.out.below HBR.out HK.out.lt).three_
    by_cases hlt : j < n
    · have hjl : j < given.length := by have := HGN.out; omega
      obtain ⟨ad, hA, hbl, h1⟩ := (HG.out.below HBR.out (Nat.le_refl _)).at_ (k := j) hjl
      obtain rfl := hA
      obtain ⟨Ax, cx, rfl, hLX⟩ := li_own HOX.out
      obtain ⟨Ay, cy, rfl, hLY⟩ := li_own HOY.out
      have hwj := HW.out _ (List.getElem_mem hjl)
      have GO := Lib.hid (fun h => runR_go (d := false) (most := most) (c := t.c) (xs := xs) (ys := ys) (given := given) (j := j) (by rw [HXL.out, HYL.out]) hjl h)
      have OV := Lib.hid (fun h => runR_over (d := false) (most := most) (c := t.c) (xs := xs) (ys := ys) (given := given) (j := j) hjl h)
      have CR := Correction_any wr.heap.size t Ax Ay j cx cy xs ys wr ((HC.out.below HBR.out (Nat.le_refl _)).more hsR) hLX hLY (Nat.le_refl _) (by omega) HOK.out HSM.out
      have hcb := cor_bd HOK.out HSM.out
      have SMN := Lib.hid (fun (h : wib (outM false (mom false t.c (mts xs ys) (given[j]'hjl))) most = true) => small_mts (d := false) (most := most) (c := t.c) (v := given[j]'hjl) HSM.out hwj h hm)
      obtain ⟨g0, hg0⟩ : ∃ x, given[j] = x := ⟨_, rfl⟩
      rw [hg0] at h1 hwj GO OV SMN
      obtain ⟨q, hq⟩ : ∃ x, cor t.c (mts xs ys) = x := ⟨_, rfl⟩
      rw [hq] at CR hcb
      have hmm : mom false t.c (mts xs ys) g0 = (g0 - q, g0) := by rw [← hq]; rfl
      rw [hmm] at GO OV SMN
      have hoo : outM false (g0 - q, g0) = g0 - q := rfl
      rw [hoo] at GO OV SMN
      obtain ⟨g1, g2⟩ := wib_bd hwj
      have hn0 : decide (g0 < -most) = false := decide_eq_false (by omega)
      have hn1 : decide (most < g0) = false := decide_eq_false (by omega)
      have e1 : IntKind.i64.wrap (g0 - q) = g0 - q := IntWalk.i64_in _ (by omega)
      have CR := Lib.hid CR
      have GO : Hid (wib (g0 - q) most = true → runR false most t.c (xs ++ [g0 - q]) (ys ++ [g0]) given (j + 1) = R) := Lib.hid (fun h => (GO.out h).trans HR.out)
      have OV : Hid (wib (g0 - q) most = false → R = none) := Lib.hid (fun h => HR.out.symm.trans (OV.out h))
      clear hg0 hq hmm hoo HR hLX hLY
      go_wp2_with fail
      refine CR.out.mono ?_
      rintro e w2 ⟨rfl, hb2⟩
      have HOX := Lib.hid (own_below HOX.out hb2)
      have HOY := Lib.hid (own_below HOY.out hb2)
      have HBR := Lib.hid (HBR.out.trans (hb2.mono hsR))
      have hs2 : W.heap.size ≤ w2.heap.size := HBR.out.size
      obtain ⟨c0, c1, c2⟩ := (HK.out.below HBR.out HK.out.lt).three_
      have h1 := (hb2.cell (p := ad.add j) (by rw [block_of_add]; omega)).trans h1
      clear hb2 CR
      go_wp2_with fail
      go_quiet (fail)
      by_cases k1 : g0 - q < -most
      · obtain rfl := OV.out (wib_lo k1)
        go_wp2
        go_ret2
        exact ⟨_, rfl, World.ownsRow_nil _ _ _ _, HB.out.trans (below_drewN_ (HBR.out.mono hsW) _)⟩
      · by_cases k2 : most < g0 - q
        · obtain rfl := OV.out (wib_hi k2)
          go_wp2
          go_ret2
          exact ⟨_, rfl, World.ownsRow_nil _ _ _ _, HB.out.trans (below_drewN_ (HBR.out.mono hsW) _)⟩
        · have hwo := wib_in (x := g0 - q) (m := most) (by omega) (by omega)
          have HGO := Lib.hid (GO.out hwo)
          have HSN := Lib.hid (SMN.out hwo)
          clear GO OV SMN hwo
          have hn2 : decide (g0 - q < -most) = false := decide_eq_false k1
          have hn3 : decide (most < g0 - q) = false := decide_eq_false k2
          obtain ⟨W5, hW5⟩ : ∃ W5, w2.drewN nq = W5 := ⟨_, rfl⟩
          have hb5 : Below w2.heap.size w2 W5 := by rw [← hW5]; exact below_drewN_ (Below.refl _ _) _
          have HOX := Lib.hid (own_below HOX.out hb5)
          have HOY := Lib.hid (own_below HOY.out hb5)
          have HBR := Lib.hid (HBR.out.trans (hb5.mono hs2))
          have hs5 : W.heap.size ≤ W5.heap.size := HBR.out.size
          rw [hW5]
          clear hW5 hb5 h1 c0 c1 c2
          go_wp2_with (at_builtin; refine wpList_append_any _ rfl (.tmp 62) (.tmp 64) _ rfl W.heap.size 2 i0 _ 1 8 Try.underlying22 HI0.out HZ0.out HZ1.out HZ2.out rfl (by omega) _ j (nums xs) rfl (HOX.out.alloc _) (W5.heap.size + 1) (some ⟨W5.heap.size, 0, none⟩) 1 1 [.int .i64 (g0 - q)] rfl ⟨rfl, fun _ => ⟨_, rfl, Nat.lt_succ_self _, nine_new _ _ _⟩⟩ (by intro x hx; simp at hx; subst hx; rfl) (by simp only [maxLen]; omega) (by omega) (by first | omega | (simp; omega)) ?_)
          intro vx w6 hox hgx hbx
          have hox' : w6.ownsRow W.heap.size 2 1 vx (j + 1) (nums (xs ++ [g0 - q])) := by simpa [nums] using hox
          have hoy6 : w6.ownsRow W.heap.size 2 1 (.slice Ay j cy) j (nums ys) := (HOY.out.alloc _).kept hgx (by
            rcases h : (Value.slice Ay j cy).ownBlock with _ | g
            · exact .inl rfl
            · exact .inr (fun e => HNE.out g e.symm h))
          have HNE6 : Hid (∀ g, vx.ownBlock = some g → (Value.slice Ay j cy).ownBlock ≠ some g) := Lib.hid (fun g hg => by
            rcases hbx with hbx | hbx
            · exact HNE.out g (hbx ▸ hg)
            · intro hy
              have := (HOY.out.lt g hy).2
              rw [hbx] at hg
              simp at hg; omega)
          have hb6 : Below W.heap.size W w6 := (HBR.out.alloc hs5 _).grown hgx (by simp; omega) fun j hj => (HOX.out.lt j hj).1
          obtain ⟨Ax6, cx6, rfl, -⟩ := own_reads hox'
          have HOX6 := Lib.hid hox'
          have HOY6 := Lib.hid hoy6
          have HB6 := Lib.hid hb6
          have hs6 := hb6.size
          clear hox hox' hoy6 hgx hbx hb6 HOX HOY HNE HBR
          go_wp2_with (at_builtin; refine wpList_append_any _ rfl (.tmp 66) (.tmp 68) _ rfl W.heap.size 2 i0 _ 1 8 Try.underlying22 HI0.out HZ0.out HZ1.out HZ2.out rfl (by omega) _ j (nums ys) rfl (HOY6.out.alloc _) (w6.heap.size + 1) (some ⟨w6.heap.size, 0, none⟩) 1 1 [.int .i64 (g0)] rfl ⟨rfl, fun _ => ⟨_, rfl, Nat.lt_succ_self _, nine_new _ _ _⟩⟩ (by intro x hx; simp at hx; subst hx; rfl) (by simp only [maxLen]; omega) (by omega) (by first | omega | (simp; omega)) ?_)
          intro vy w7 hoy hgy hby
          have HOY7 : Hid (w7.ownsRow W.heap.size 2 1 vy (j + 1) (nums (ys ++ [g0]))) := Lib.hid (by simpa [nums] using hoy)
          have HOX7 : Hid (w7.ownsRow W.heap.size 2 1 (.slice Ax6 (j + 1) cx6) (j + 1) (nums (xs ++ [g0 - q]))) := Lib.hid ((HOX6.out.alloc _).kept hgy (by
            rcases h : (Value.slice Ax6 (j + 1) cx6).ownBlock with _ | g
            · exact .inl rfl
            · exact .inr (fun e => HNE6.out g h e.symm)))
          have HNE7 : Hid (∀ g, (Value.slice Ax6 (j + 1) cx6).ownBlock = some g → vy.ownBlock ≠ some g) := Lib.hid (fun g hg hy => by
            rcases hby with hby | hby
            · exact HNE6.out g hg (hby ▸ hy)
            · have := (HOX6.out.lt g hg).2
              rw [hby] at hy
              simp at hy; omega)
          have HB7 : Hid (Below W.heap.size W w7) := Lib.hid ((HB6.out.alloc hs6 _).grown hgy (by simp; omega) fun j hj => (HOY6.out.lt j hj).1)
          clear hoy hgy hby HOX6 HOY6 HNE6 HB6
          go_wp2
          go_roundw
          case rel => exact ⟨j + 1, xs ++ [g0 - q], ys ++ [g0], _, vy, by omega, by go_num, rfl, rfl, Lib.hid (by simp [HXL.out]), Lib.hid (by simp [HYL.out]), HOX7, HOY7, HNE7, Lib.hid (by rw [mts_snoc _ _ (by rw [HXL.out, HYL.out])]; exact HSN.out), HB7, HGO⟩
          case measure => simp [intOf]; omega
    · obtain rfl : j = n := by omega
      have hre : R = some xs := by rw [← HR.out]; exact (runR_end HGN.out).trans rfl
      subst hre
      go_wp2
      go_ret2
      refine ⟨_, rfl, ?_, HB.out.trans (HBR.out.mono hsW)⟩
      have h := own_base_ HOX.out hsW
      simp only [Option.getD_some]
      rw [HXL.out]
      exact h

end Go.Proofs.Ythdflofdjhjjhaa
