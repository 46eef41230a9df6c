/-
  Middles and sides: their checks; the document's Programme and SamePrograms.
-/
import Derived.Test.YtjaomjbhkgijbaaMg25
import Derived.Test.YtjaomjbhkgijbaaMg27
import Derived.Test.YtjaomjbhkgijbaaMg28
import Derived.Test.YtjaomjbhkgijbaaMg29
import Derived.Test.YtjaomjbhkgijbaaMg14
import Derived.Test.YtjaomjbhkgijbaaMg12
import Derived.Deep.RegionLaw
import Derived.Sort.AtCall

namespace Go.Proofs.Ytjaomjbhkgijbaa
open Go.RowKit

set_option maxHeartbeats 400000 in
theorem fhalf_any (x : Int) (w : World) (h0 : -1152921504606846976 ≤ x) (h1 : x ≤ 1152921504606846976) :
    Calls Try.prog 164 #[.int .i64 x] w fun e w' => e = .returned (.int .i64 (x / 2)) ∧ w = w' := by
  go_enter Try.func164, Try.ntmps164
  go_wp2_with ((with_reducible refine (fquotient_any x 2 _ (by omega) (by omega) h0 h1).mono ?_); rintro e w' ⟨rfl, rfl⟩)
  go_ret
  exact ⟨rfl, rfl⟩
/-- 0: fine · 6: too many · 17: not as many · 3: out of range. -/
def ckSd (m d : List Int) : Int := if 4096 < m.length ∨ 4096 < d.length then 6 else if m.length ≠ d.length then 17 else if wibs m 32767 = false ∨ wibs d 65534 = false then 3 else 0
set_option maxHeartbeats 1000000 in
theorem checkSides_any (B : Nat) (Am Ad : Option Addr) (nm km nd kd : Nat) (m d : List Int) (w : World) (hm : LI w B Am nm m) (hd : LI w B Ad nd d) (hB : B ≤ w.heap.size) (h1 : nm ≤ 9223372036854775807) (h2 : nd ≤ 9223372036854775807) :
    Calls Try.prog 110 #[.slice Am nm km, .slice Ad nd kd] w fun e w' => e = .returned (.int .i64 (ckSd m d)) ∧ Below w.heap.size w w' := by
  have HM := Lib.hid (hm.more hB)
  have HD := Lib.hid (hd.more hB)
  have e1 := hm.1
  have e2 := hd.1
  clear hm hd hB
  by_cases a1 : 4096 < nm
  · have HV : Hid (ckSd m d = 6) := Lib.hid (by unfold ckSd; rw [if_pos (by omega)])
    clear e1 e2
    go_enter Try.func110, Try.ntmps110
    go_wp2
    go_ret
    exact ⟨ret_i HV.out.symm, Below.refl _ _⟩
  by_cases a2 : 4096 < nd
  · have HV : Hid (ckSd m d = 6) := Lib.hid (by unfold ckSd; rw [if_pos (by omega)])
    clear e1 e2
    go_enter Try.func110, Try.ntmps110
    go_wp2
    go_ret
    exact ⟨ret_i HV.out.symm, Below.refl _ _⟩
  by_cases a3 : nm = nd
  case neg =>
    have HV : Hid (ckSd m d = 17) := Lib.hid (by unfold ckSd; rw [if_neg (by omega), if_pos (by omega)])
    have q1 : ((nm : Int) != (nd : Int)) = true := by rw [bne_iff_ne]; omega
    have q2 : ((nm : Int) == (nd : Int)) = false := beq_eq_false_iff_ne.2 (by omega)
    clear e1 e2
    go_enter Try.func110, Try.ntmps110
    go_wp2
    go_ret
    exact ⟨ret_i HV.out.symm, Below.refl _ _⟩
  subst a3
  have HV : Hid (ckSd m d = if wibs m 32767 = false ∨ wibs d 65534 = false then 3 else 0) := Lib.hid (by unfold ckSd; rw [if_neg (by omega), if_neg (by omega)])
  have q1 : ((nm : Int) != (nm : Int)) = false := by simp
  have CM := Lib.hid (fun W (h : Below w.heap.size w W) => allWithin_any w.heap.size Am nm km m 32767 W (HM.out.below h (Nat.le_refl _)) h.size h1 (by omega) (by omega))
  have CD := Lib.hid (fun W (h : Below w.heap.size w W) => allWithin_any w.heap.size Ad nm kd d 65534 W (HD.out.below h (Nat.le_refl _)) h.size h1 (by omega) (by omega))
  clear e1 e2
  cases hv1 : wibs m 32767
  · rw [hv1] at CM HV
    go_enter Try.func110, Try.ntmps110
    go_wp2_with fail
    refine (CM.out _ (Below.refl _ _)).mono ?_
    rintro e w1 ⟨rfl, hb⟩
    have HB := Lib.hid hb
    clear hb
    go_wp2
    go_ret
    exact ⟨ret_i (by rw [HV.out]; rfl), HB.out⟩
  · cases hv2 : wibs d 65534
    all_goals
      rw [hv1] at CM HV
      rw [hv2] at CD HV
      go_enter Try.func110, Try.ntmps110
      go_wp2_with fail
      refine (CM.out _ (Below.refl _ _)).mono ?_
      rintro e w1 ⟨rfl, hb⟩
      have HB := Lib.hid hb
      clear hb
      go_wp2_with fail
      refine (CD.out _ HB.out).mono ?_
      rintro e w2 ⟨rfl, hb⟩
      replace HB := Lib.hid (HB.out.trans (hb.mono HB.out.size))
      clear hb
      go_wp2
      go_ret
      exact ⟨ret_i (by rw [HV.out]; rfl), HB.out⟩

theorem vs_lo {l r : Int} (h : l < -32767) : vs l r = false := by unfold vs win; rw [decide_eq_false (by omega)]; rfl
theorem vs_hi {l r : Int} (h : 32767 < l) : vs l r = false := by unfold vs win; rw [decide_eq_false (p := l ≤ 32767) (by omega)]; simp
theorem vs_rlo {l r : Int} (h : r < -32767) : vs l r = false := by unfold vs win; rw [decide_eq_false (p := -32767 ≤ r) (by omega)]; simp
theorem vs_rhi {l r : Int} (h : 32767 < r) : vs l r = false := by unfold vs win; rw [decide_eq_false (p := r ≤ 32767) (by omega)]; simp
theorem vs_in {l r : Int} (h1 : ¬ l < -32767) (h2 : ¬ 32767 < l) (h3 : ¬ r < -32767) (h4 : ¬ 32767 < r) : vs l r = true := by
  unfold vs win; simp; omega
set_option maxHeartbeats 2000000 in
theorem refProgramme_any (B : Nat) (A : Option Addr) (n c : Nat) (xs : List Smp) (w : World) (h0 : RS w B A n xs) (hl : n ≤ 9223372036854775807) :
    Calls Try.prog 74 #[.slice A n c] w fun e w' => e = .returned (.int .i64 (ckQ xs)) ∧ w = w' := by
  have H := Lib.hid h0
  have HN := Lib.hid h0.1
  clear h0
  by_cases hl4 : 4096 < n
  · go_enter Try.func74, Try.ntmps74
    go_wp2
    go_ret
    exact ⟨ret_i (by unfold ckQ; rw [if_pos (by have := HN.out; omega)]), rfl⟩
  · have HCK : Hid (ckQ xs = if vss xs then 0 else 3) := Lib.hid (by unfold ckQ; rw [if_neg (by have := HN.out; omega)])
    go_enter Try.func74, Try.ntmps74
    go_wp2
    go_loop [3] (fun i => ∃ k : Nat, k ≤ n ∧ i = .int .i64 k ∧ Hid (vss (xs.take k) = true)) (fun i => n - (intOf i).toNat)
    case atStart => exact ⟨0, Nat.zero_le _, rfl, Lib.hid rfl⟩
    case round =>
      obtain ⟨k, hk, rfl, HV⟩ := hrel
      by_cases hlt : k < n
      · have hx : k < xs.length := by have := HN.out; omega
        obtain ⟨ad, hA, _, p1, p2⟩ := H.out.at_ hx
        obtain rfl := hA
        have HT := Lib.hid (vss_take xs k hx)
        have HF := Lib.hid (vss_false xs k hx)
        obtain ⟨s, hxx⟩ : ∃ x, xs[k] = x := ⟨_, rfl⟩
        rw [hxx] at p1 p2 HT HF
        clear hxx
        obtain ⟨l, r⟩ := s
        dsimp only at p1 p2 HT HF
        by_cases h1 : l < -32767
        · have h2 : ¬ 32767 < l := by omega
          go_wp2
          go_ret
          exact ⟨ret_i (by rw [HCK.out, HF.out (vs_lo h1)]; rfl), rfl⟩
        by_cases h2 : 32767 < l
        · go_wp2
          go_ret
          exact ⟨ret_i (by rw [HCK.out, HF.out (vs_hi h2)]; rfl), rfl⟩
        by_cases h3 : r < -32767
        · have h4 : ¬ 32767 < r := by omega
          go_wp2
          go_ret
          exact ⟨ret_i (by rw [HCK.out, HF.out (vs_rlo h3)]; rfl), rfl⟩
        by_cases h4 : 32767 < r
        · go_wp2
          go_ret
          exact ⟨ret_i (by rw [HCK.out, HF.out (vs_rhi h4)]; rfl), rfl⟩
        go_wp2
        go_round
        case rel => exact ⟨k + 1, by omega, by go_num, Lib.hid (by rw [HT.out, HV.out, vs_in h1 h2 h3 h4]; rfl)⟩
        case measure => simp [intOf]; omega
      · go_wp2
        go_ret
        have h := HV.out
        rw [List.take_of_length_le (by have := HN.out; omega)] at h
        exact ⟨ret_i (by rw [HCK.out, h]; rfl), rfl⟩

theorem eq_smpl (a b : Int) (w : World) : Sem.run Try.prog (Op.equalIn 10000 75 (.agg #[.int .i64 a, .int .i64 b]) (.agg #[.int .i64 a, .int .i64 b])) w = .ok true w := by
  simp [go_sem, Op.eqFields]
set_option maxRecDepth 100000 in
set_option maxHeartbeats 2000000 in
theorem SamePrograms_any (B : Nat) (A A' : Option Addr) (n k n' k' : Nat) (l : List Smp) (w : World) (h0 : RS w B A n l) (g0 : RS w B A' n' l) (hB : B ≤ w.heap.size) (hl : n ≤ 9223372036854775807) :
    Calls Try.prog 46 #[.slice A n k, .slice A' n' k'] w fun e w' => e = .returned (.bool true) ∧ Below w.heap.size w w' := by
  have HN := Lib.hid h0.1
  have hnn : n = n' := h0.1.trans g0.1.symm
  subst hnn
  have H := Lib.hid (h0.more hB)
  have G := Lib.hid (g0.more hB)
  clear h0 g0 hB
  go_enter Try.func46, Try.ntmps46
  go_wp2_with fail
  go_loopw [5] (fun z wr => ∃ j : Nat, j ≤ n ∧ z = .int .i64 j ∧ Hid (Below w.heap.size w wr)) (fun i wr => n - (intOf i).toNat)
  case atStart => exact ⟨0, Nat.zero_le _, rfl, Lib.hid (Below.refl _ _)⟩
  case round =>
    obtain ⟨j, hj, rfl, HB⟩ := hrel
    by_cases hlt : j < n
    · have hjl : j < l.length := by have := HN.out; omega
      obtain ⟨a1, hA1, -, y1, y2⟩ := (H.out.below HB.out (Nat.le_refl _)).at_ hjl
      obtain ⟨a2, hA2, -, y3, y4⟩ := (G.out.below HB.out (Nat.le_refl _)).at_ hjl
      obtain rfl := hA1
      obtain rfl := hA2
      obtain ⟨x, hx⟩ : ∃ x, l[j] = x := ⟨_, rfl⟩
      rw [hx] at y1 y2 y3 y4
      clear hx
      have z1 := Lat.cell y1
      have z2 := Lat.cell y2
      have z3 := Lat.cell y3
      have z4 := Lat.cell y4
      clear y1 y2 y3 y4
      have eqp := fun W : World => eq_smpl x.1 x.2 W
      go_wp2_with fail
      try dsimp only [List.append]
      refine wp_region_lat (by kernel_rfl) (by kernel_rfl) ?_
      repeat (go_big_quiet_step (fail))
      refine wpQuiet_nil ?_
      intro W2 hw'
      have hb1 := lat_out hw'
      replace HB := Lib.hid (HB.out.trans (hb1.mono HB.out.size))
      clear hb1 hw' z1 z2 z3 z4 eqp
      go_wp2
      go_roundw
      case rel => exact ⟨j + 1, by omega, by go_num, HB⟩
      case measure => simp [intOf]; omega
    · go_wp2
      go_ret
      exact ⟨rfl, HB.out⟩
end Go.Proofs.Ytjaomjbhkgijbaa

/-
  Slices of numbers; the first numbers of a run, and zeros before a signal.
-/
namespace Go.Proofs.Ytjaomjbhkgijbaa
open Go.RowKit

/-- The first outputs are the outputs of the first inputs. -/
theorem run1_take {d : Bool} {m : Int} {c : Cur} : ∀ {x : List Int} {h : List (Int × Int)} {y : List Int} (k : Nat), run1 d m c h x = some y → run1 d m c h (x.take k) = some (y.take k)
  | [], h, y, k, e => by unfold run1 at e; cases e; simp [run1]
  | v :: vs, h, y, 0, e => by simp [run1]
  | v :: vs, h, y, k + 1, e => by
    unfold run1 at e
    by_cases hw : wib (outM d (mom d c h v)) m = true
    · rw [if_pos hw] at e
      cases hr : run1 d m c (mom d c h v :: h) vs with
      | none => rw [hr] at e; cases e
      | some z =>
        rw [hr] at e
        simp only [Option.map_some, Option.some.injEq] at e
        obtain rfl := e
        rw [List.take_succ_cons, List.take_succ_cons]
        unfold run1
        rw [if_pos hw, run1_take k hr]; rfl
    · rw [if_neg hw] at e; cases e
theorem hAt_zeros (h : List (Int × Int)) (z : Nat) : hAt (h ++ List.replicate z (0, 0)) = hAt h := by
  funext i
  unfold hAt
  rw [List.getElem?_append]
  split
  · rfl
  · rw [List.getElem?_replicate, List.getElem?_eq_none (l := h) (by omega)]
    split <;> rfl
theorem cor_zeros (c : Cur) (h : List (Int × Int)) (z : Nat) : cor c (h ++ List.replicate z (0, 0)) = cor c h := by unfold cor corS; rw [hAt_zeros]
theorem sumTo_zero (ws : List Int) (f : Nat → Int) (hf : ∀ i, f i = 0) : ∀ k, sumTo ws f k = 0
  | 0 => rfl
  | k + 1 => by unfold sumTo; rw [sumTo_zero ws f hf k, hf]; simp
theorem cor_none (c : Cur) : cor c [] = 0 := by
  unfold cor corS
  rw [sumTo_zero _ _ (fun i => by simp [hAt]), sumTo_zero _ _ (fun i => by simp [hAt])]; simp
theorem run1_zeros {d : Bool} {m : Int} {c : Cur} (z : Nat) : ∀ (x : List Int) (h : List (Int × Int)), run1 d m c (h ++ List.replicate z (0, 0)) x = run1 d m c h x
  | [], h => by simp [run1]
  | v :: vs, h => by
    unfold run1
    have e : mom d c (h ++ List.replicate z (0, 0)) v = mom d c h v := by unfold mom; rw [cor_zeros]
    rw [e, ← List.cons_append, run1_zeros z vs]
/-- Zeros before a signal are zeros before its output. -/
theorem run1_lead {m : Int} {c : Cur} (hm : 0 ≤ m) (x : List Int) : ∀ (z j : Nat), run1 true m c (List.replicate j (0, 0)) (List.replicate z 0 ++ x) = (run1 true m c [] x).map (List.replicate z 0 ++ ·)
  | 0, j => by
    have := run1_zeros (d := true) (m := m) (c := c) j x []
    simp only [List.nil_append] at this
    simp only [List.replicate_zero, List.nil_append, this]
    cases run1 true m c [] x <;> rfl
  | z + 1, j => by
    have e : mom true c (List.replicate j (0, 0)) 0 = (0, 0) := by
      have := cor_zeros c [] j
      rw [List.nil_append, cor_none] at this
      simp [mom, this]
    have ih := run1_lead (c := c) hm x z (j + 1)
    obtain ⟨R, hR⟩ : ∃ R, run1 true m c [] x = R := ⟨_, rfl⟩
    rw [hR] at ih ⊢
    rw [List.replicate_succ, List.cons_append]
    unfold run1
    rw [e]
    have hw : wib (outM true ((0, 0) : Int × Int)) m = true := by unfold wib outM; simp; omega
    rw [if_pos hw, ← List.replicate_succ, ih]
    cases R <;> rfl
theorem chain_take {d : Bool} {c : Cur} {x y : List Int} (k : Nat) (h : chain d [c] x = some y) : chain d [c] (x.take k) = some (y.take k) := by
  rw [chain_one] at h ⊢; exact run1_take k h
theorem chain_lead (c : Cur) (x : List Int) (z : Nat) : chain true [c] (List.replicate z 0 ++ x) = (chain true [c] x).map (List.replicate z 0 ++ ·) := by
  rw [chain_one, chain_one]; exact run1_lead (by omega) x z 0
theorem ckX_take {x : List Int} (k : Nat) (h : ckX x = 0) : ckX (x.take k) = 0 := by
  obtain ⟨h1, h2⟩ := ckX_ok h
  exact ckX_mk (by rw [List.length_take]; omega) (fun v hv => h2 v (List.mem_of_mem_take hv))
theorem ckX_lead {x : List Int} (z : Nat) (h : ckX x = 0) (hz : z + x.length ≤ 4096) : ckX (List.replicate z 0 ++ x) = 0 := by
  obtain ⟨h1, h2⟩ := ckX_ok h
  refine ckX_mk (by simp; omega) (fun v hv => ?_)
  rcases List.mem_append.1 hv with hv | hv
  · rw [List.eq_of_mem_replicate hv]; decide
  · exact h2 v hv
theorem nums_zeros (z : Nat) : (madeCells #[.int .i64 0] z).toList = nums (List.replicate z 0) := by
  rw [toList_madeCells_one, nums, List.map_replicate]
end Go.Proofs.Ytjaomjbhkgijbaa

/-
  Middles and sides: filter.split.
-/
namespace Go.Proofs.Ytjaomjbhkgijbaa
open Go.RowKit

/-- Two rows of numbers that a call has made, apart from each other. -/
structure TR (V W : World) (sx : Value) (nx : Nat) (xs : List Int) (sy : Value) (ny : Nat) (ys : List Int) : Prop where
  ox : W.ownsRow V.heap.size 2 1 sx nx (nums xs)
  oy : W.ownsRow V.heap.size 2 1 sy ny (nums ys)
  ne : ∀ g, sx.ownBlock = some g → sy.ownBlock ≠ some g
  b : Below V.heap.size V W
section
variable {V W W' : World} {sx sy sx' sy' : Value} {nx ny n' : Nat} {xs ys zs : List Int}
theorem TR.start (V : World) : TR V V (.slice none 0 0) 0 [] (.slice none 0 0) 0 [] := ⟨World.ownsRow_nil _ _ _ _, World.ownsRow_nil _ _ _ _, fun g h => by simp [Value.ownBlock] at h, Below.refl _ _⟩
theorem TR.al (h : TR V W sx nx xs sy ny ys) (o : Obj) : TR V (W.alloc o) sx nx xs sy ny ys := ⟨h.ox.alloc _, h.oy.alloc _, h.ne, h.b.alloc h.b.size _⟩
theorem TR.dr (h : TR V W sx nx xs sy ny ys) : TR V W.drew sx nx xs sy ny ys := ⟨h.ox.drew, h.oy.drew, h.ne, h.b.drew⟩
theorem TR.below (h : TR V W sx nx xs sy ny ys) (hb : Below W.heap.size W W') : TR V W' sx nx xs sy ny ys := ⟨own_below h.ox hb, own_below h.oy hb, h.ne, h.b.trans (hb.mono h.b.size)⟩
theorem TR.setx (h : TR V W sx nx xs sy ny ys) (hg : W.grownBy W' sx.ownBlock) (ho : W'.ownsRow V.heap.size 2 1 sx' n' (nums zs)) (hb : sx'.ownBlock = sx.ownBlock ∨ sx'.ownBlock = some W.heap.size) : TR V W' sx' n' zs sy ny ys :=
  ⟨ho, h.oy.kept hg (by
      rcases e : sy.ownBlock with _ | g
      · exact .inl rfl
      · exact .inr (fun e2 => h.ne g e2.symm e)),
    fun g hg2 hy => by
      rcases hb with hb | hb
      · exact h.ne g (hb ▸ hg2) hy
      · have := (h.oy.lt g hy).2
        rw [hb] at hg2
        simp at hg2; omega,
    h.b.grown hg h.b.size fun j hj => (h.ox.lt j hj).1⟩
theorem TR.sety (h : TR V W sx nx xs sy ny ys) (hg : W.grownBy W' sy.ownBlock) (ho : W'.ownsRow V.heap.size 2 1 sy' n' (nums zs)) (hb : sy'.ownBlock = sy.ownBlock ∨ sy'.ownBlock = some W.heap.size) : TR V W' sx nx xs sy' n' zs :=
  ⟨h.ox.kept hg (by
      rcases e : sx.ownBlock with _ | g
      · exact .inl rfl
      · exact .inr (fun e2 => h.ne g e e2.symm)), ho,
    fun g hg2 hy => by
      rcases hb with hb | hb
      · exact h.ne g hg2 (hb ▸ hy)
      · have := (h.ox.lt g hg2).2
        rw [hb] at hy
        simp at hy; omega,
    h.b.grown hg h.b.size fun j hj => (h.oy.lt j hj).1⟩
end
/-- Middles and sides. -/
def spM (xs : List Smp) : List Int := xs.map fun s => s.2 + (s.1 - s.2) / 2
def spD (xs : List Smp) : List Int := xs.map fun s => s.1 - s.2
theorem spM_snoc {xs : List Smp} {j : Nat} (h : j < xs.length) : spM (xs.take (j + 1)) = spM (xs.take j) ++ [xs[j].2 + (xs[j].1 - xs[j].2) / 2] := by
  unfold spM; rw [List.take_succ_eq_append_getElem h, List.map_append]; rfl
theorem spD_snoc {xs : List Smp} {j : Nat} (h : j < xs.length) : spD (xs.take (j + 1)) = spD (xs.take j) ++ [xs[j].1 - xs[j].2] := by
  unfold spD; rw [List.take_succ_eq_append_getElem h, List.map_append]; rfl
theorem vs_bdQ {l r : Int} (h : vs l r = true) : (-32767 ≤ l ∧ l ≤ 32767) ∧ (-32767 ≤ r ∧ r ≤ 32767) := by
  unfold vs win at h; simp at h; omega
def SplitPost (w : World) (n : Nat) (xs : List Smp) (e : Ending) (w' : World) : Prop :=
  ∃ sx sy, e = .returned (.tuple #[sx, sy]) ∧ TR w w' sx n (spM xs) sy n (spD xs)

set_option maxRecDepth 100000 in
set_option maxHeartbeats 4000000 in
theorem fsplit_any (B : Nat) (A : Option Addr) (n c : Nat) (xs : List Smp) (w : World) (h0 : RS w B A n xs) (hB : B ≤ w.heap.size) (hn : n ≤ 4096) (hv : vss xs = true) :
    Calls Try.prog 108 #[.slice A n c] w (SplitPost w n xs) := by
  have H := Lib.hid (h0.more hB)
  have HN := Lib.hid h0.1
  have HV := Lib.hid hv
  obtain ⟨i0, hi0, hz0, hz1, hz2⟩ := info_parts info_i64
  have HI0 := Lib.hid hi0
  have HZ0 := Lib.hid hz0
  have HZ1 := Lib.hid hz1
  have HZ2 := Lib.hid hz2
  clear h0 hB hv hi0 hz0 hz1 hz2
  go_enter Try.func108, Try.ntmps108
  go_wp2_with fail
  go_loopw [2, 3, 9] (fun vx vy i wr => ∃ (j : Nat) (sx sy : Value), j ≤ n ∧ i = .int .i64 j ∧ sx = vx ∧ sy = vy ∧ Hid (TR w wr sx j (spM (xs.take j)) sy j (spD (xs.take j)))) (fun _ _ i wr => n - (intOf i).toNat)
  case atStart => exact ⟨0, _, _, Nat.zero_le _, rfl, rfl, rfl, Lib.hid (TR.start w)⟩
  case round =>
    obtain ⟨j, sx, sy, hj, rfl, rfl, rfl, HT⟩ := hrel
    by_cases hlt : j < n
    · have hjl : j < xs.length := by have := HN.out; omega
      obtain ⟨ad, hA, hbl, h1, h2⟩ := (H.out.below HT.out.b (Nat.le_refl _)).at_ (k := j) hjl
      obtain rfl := hA
      obtain ⟨Ax, cx, rfl, -⟩ := own_readsU HT.out.ox
      obtain ⟨Ay, cy, rfl, -⟩ := own_readsU HT.out.oy
      have hbd := vs_bdQ (vss_at HV.out hjl)
      have HSM := Lib.hid (spM_snoc hjl)
      have HSD := Lib.hid (spD_snoc hjl)
      obtain ⟨s, hs⟩ : ∃ s, xs[j] = s := ⟨_, rfl⟩
      rw [hs] at h1 h2 hbd HSM HSD
      clear hs
      obtain ⟨l, r⟩ := s
      dsimp only at h1 h2 hbd HSM HSD
      obtain ⟨d, hd⟩ : ∃ d, l - r = d := ⟨_, rfl⟩
      obtain ⟨q, hq⟩ : ∃ q, d / 2 = q := ⟨_, rfl⟩
      rw [hd, hq] at HSM
      rw [hd] at HSD
      have e1 : IntKind.i64.wrap (l - r) = d := by rw [hd]; exact IntWalk.i64_in _ (by omega)
      have e2 : IntKind.i64.wrap (r + q) = r + q := IntWalk.i64_in _ (by omega)
      have CH := Lib.hid (fun W => by
        have h := fhalf_any d W (by omega) (by omega)
        rw [hq] at h; exact h)
      clear hd hq hbd
      have hs0 := HT.out.b.size
      obtain ⟨W1, hW1⟩ : ∃ W, wr.alloc (.cells #[.int .i64 l, .int .i64 r] 75) = W := ⟨_, rfl⟩
      have HT1 : Hid (TR w W1 (.slice Ax j cx) j (spM (xs.take j)) (.slice Ay j cy) j (spD (xs.take j))) := Lib.hid (by rw [← hW1]; exact HT.out.al _)
      have HP : Hid (Blk W1 wr.heap.size 75 #[.int .i64 l, .int .i64 r]) := Lib.hid (by rw [← hW1]; exact Blk.new _ _ _)
      go_upto_region 4 with fail
      try rw [hW1]
      clear hW1 h1 h2
      obtain ⟨gp, hgp⟩ : ∃ g, wr.heap.size = g := ⟨_, rfl⟩
      rw [hgp] at HP ⊢
      clear hgp
      have p0 : W1.cell? ⟨gp, 0, none⟩ = some (.int .i64 l) := (HP.out.cell 0).trans rfl
      have p1 : W1.cell? ⟨gp, 1, none⟩ = some (.int .i64 r) := (HP.out.cell 1).trans rfl
      have d1 : W1.drew.cell? ⟨gp, 1, none⟩ = some (.int .i64 r) := p1
      have hs1 := HT1.out.b.size
      go_wp2_with fail
      go_region_law (first | (refine step_append_any _ rfl (.tmp 18) (.tmp 24) 41 rfl w.heap.size 2 i0 _ 1 8 Try.underlying41 HI0.out HZ0.out HZ1.out HZ2.out rfl (by omega) (.slice Ax j cx) j (nums (spM (xs.take j))) rfl (HT1.out.dr.al _).ox (W1.heap.size + 1) (some ⟨W1.heap.size, 0, none⟩) 1 1 [.int .i64 (r + q)] rfl ⟨rfl, fun _ => ⟨_, rfl, Nat.lt_succ_self _, nine_new _ _ _⟩⟩ (by intro x hx; simp at hx; subst hx; rfl) (by unfold maxLen; omega) (by omega) (HT1.out.dr.al _).b.size ?_; intro vx w6 hox hgx hbx; have hox' : w6.ownsRow w.heap.size 2 1 vx (j + 1) (nums (spM (xs.take (j + 1)))) := (by rw [HSM.out, nums_snoc]; exact hox); have HT2 := Lib.hid ((HT1.out.dr.al (.cells #[.int .i64 (r + q)] 2)).setx hgx hox' hbx); obtain ⟨Ax6, cx6, rfl, -⟩ := own_readsU hox'; clear hox hox' hgx hbx) | (go_simp; go_at_call 164; refine (CH.out _).mono ?_; rintro e w_ ⟨rfl, rfl⟩))
      all_goals
        have hs2 := HT2.out.b.size
        go_wp2_with (at_builtin; refine wpList_append_any _ rfl (.tmp 26) (.tmp 28) _ rfl w.heap.size 2 i0 _ 1 8 Try.underlying41 HI0.out HZ0.out HZ1.out HZ2.out rfl (by omega) (.slice Ay j cy) j (nums (spD (xs.take j))) rfl (HT2.out.al _).oy (w6.heap.size + 1) (some ⟨w6.heap.size, 0, none⟩) 1 1 [.int .i64 d] rfl ⟨rfl, fun _ => ⟨_, rfl, Nat.lt_succ_self _, nine_new _ _ _⟩⟩ (by intro x hx; simp at hx; subst hx; rfl) (by simp only [maxLen]; omega) (by omega) (HT2.out.al _).b.size ?_)
        intro vy w7 hoy hgy hby
        have hoy' : w7.ownsRow w.heap.size 2 1 vy (j + 1) (nums (spD (xs.take (j + 1)))) := by rw [HSD.out, nums_snoc]; exact hoy
        have HT3 := Lib.hid ((HT2.out.al (.cells #[.int .i64 d] 2)).sety hgy hoy' (hby.imp id (fun h => by simpa using h)))
        clear hoy hoy' hgy hby
        go_wp2
        go_roundw
        case rel => exact ⟨j + 1, _, vy, by omega, by go_num, rfl, rfl, HT3⟩
        case measure => simp [intOf]; omega
    · obtain rfl : j = n := by omega
      have HT1 := HT.out
      rw [List.take_of_length_le (by have := HN.out; omega)] at HT1
      go_wp2
      go_ret2
      exact ⟨_, _, rfl, HT1⟩
end Go.Proofs.Ytjaomjbhkgijbaa

