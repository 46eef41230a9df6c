/-
  The values of a slice of radii, the first that is too far, and checkCut.
-/
import Derived.Test.YtgdkcbnpgpjnbaaLM
import Derived.Test.YtgdkcbnpgpjnbaaLC
namespace Go.Proofs.Ytgdkcbnpgpjnbaa
open Go.RowKit Go.Shelf
attribute [local go_sem] Oper.semAt_some

abbrev IndL (n : Nat) := { i : Nat // i < n }
abbrev encR (R : List Int) (n : Nat) (x : IndL n) : Array Value := #[.int .i64 (R.getD x.1 0)]
theorem rangeL_snoc (j : Nat) : List.range (j + 1) = List.range j ++ [j] := List.range_succ
theorem rangeL_pre (j n : Nat) (h : j ≤ n) : List.range j <+: List.range n := by
  obtain ⟨d, rfl⟩ : ∃ d, n = j + d := ⟨n - j, by omega⟩
  rw [List.range_add]
  exact List.prefix_append _ _
theorem LI.getD {w : World} {B : Nat} {A : Option Addr} {n : Nat} {R : List Int} (h : LI w B A n R) {k : Nat} (hk : k < n) :
    ∃ ad, A = some ad ∧ ad.block < B ∧ w.cell? (ad.add k) = some (.int .i64 (R.getD k 0)) := by
  have hk' : k < R.length := h.1 ▸ hk
  obtain ⟨ad, h1, h2, h3⟩ := h.at_ hk'
  exact ⟨ad, h1, h2, by rw [List.getD_eq_getElem?_getD, List.getElem?_eq_getElem hk']; exact h3⟩

set_option maxHeartbeats 400000 in
theorem valuesR_any (A : Option Addr) (n k : Nat) (w : World) :
    Calls Try.prog 67 #[.slice A n k] w fun e w' => e = .returned (.func (.func 76) #[] #[.pointer (some ⟨w.heap.size, 0, none⟩)]) ∧ w.alloc (.cells #[.slice A n k] 25) = w' := by
  go_enter Try.func67, Try.ntmps67
  go_wp2
  go_ret
  exact ⟨rfl, rfl⟩

set_option maxRecDepth 100000 in
set_option maxHeartbeats 2000000 in
theorem valuesR1_stops (m bl n₀ : Nat) (A : Option Addr) (n k : Nat) (R : List Int) (W0 : World) (hm : 1 ≤ m) (hb : Blk W0 bl 25 #[.slice A n k]) (hR : LI W0 n₀ A n R) (hbl : bl < n₀) (hn₀ : n₀ ≤ W0.heap.size) (hl : n ≤ 9223372036854775807) :
    SeqStopsK Fence.wide m Try.prog 76 #[.pointer (some ⟨bl, 0, none⟩)] (encR R n) (Below n₀) (fun xs => xs.map (·.1) = List.range n) (fun pre => pre.map (·.1) <+: List.range n) n W0 := fun l J Jx W hW hJ hJx hY h0 => by
  have hc := (hW.cell (p := ⟨bl, 0, none⟩) (Nat.lt_of_lt_of_le hbl hn₀)).trans hb.one.1
  have HL := Lib.hid (hR.below (B' := n₀) (hW.mono hn₀) (Nat.le_refl _))
  clear hR
  refine callsIn_of_wp Try.func76 rfl trivial ?_ rfl
  simp only [Try.ntmps76, List.size_toArray, List.length_cons, List.length_nil, Nat.reduceAdd, Nat.reduceSub, Array.replicate_succ, Array.replicate_zero, List.push_toArray, List.append_toArray, List.nil_append, List.cons_append]
  gi_wp2
  gi_loopw [7] (fun z wr => ∃ (j : Nat) (pre : List (IndL n)), j ≤ n ∧ z = .int .i64 j ∧ Hid (pre.map (·.1) = List.range j) ∧ Hid (J pre wr) ∧ Below n₀ W wr) (fun z _ => n - (intOf z).toNat)
  case atStart => exact ⟨0, [], Nat.zero_le _, rfl, Lib.hid rfl, Lib.hid h0, Below.refl _ _⟩
  case round =>
    obtain ⟨j, pre, hj, rfl, HP, HJ, hnx⟩ := hrel
    by_cases hlt : j < n
    · have hlen : pre.length < n := by have := congrArg List.length HP.out; simp at this; omega
      obtain ⟨fn, tmps, assign, body, hy, hR⟩ := hY _ (⟨j, hlt⟩ : IndL n) wr HJ.out hlen
      dsimp only [encR] at hy
      have hcx := (hnx.cell (p := ⟨bl, 0, none⟩) hbl).trans hc
      obtain ⟨ad, rfl, _, hcell⟩ := (HL.out.below hnx (Nat.le_refl _)).getD hlt
      obtain ⟨rv, hrv⟩ : ∃ rv, R.getD j 0 = rv := ⟨_, rfl⟩
      rw [hrv] at hcell hy
      clear hc hrv
      gi_wp2
      refine hR.mono ?_
      rintro e W3 (⟨rfl, hJ3, hk3⟩ | ⟨rfl, hJx3⟩)
      · gi_wp2
        go_roundw
        case rel => exact ⟨j + 1, pre ++ [⟨j, hlt⟩], by omega, by simp, Lib.hid (by rw [List.map_append, HP.out, rangeL_snoc]; rfl), Lib.hid hJ3, hnx.trans hk3⟩
        case measure => simp [intOf]; omega
      · gi_wp2
        refine bodyPost_ret (results_none rfl _ _ _) rfl ?_
        exact ⟨⟨_, rfl⟩, .inr ⟨_, by rw [List.map_append, HP.out]; exact (rangeL_snoc j) ▸ rangeL_pre (j + 1) n (by omega), hJx3⟩⟩
    · obtain rfl : j = n := by omega
      gi_wp2
      go_end0
      exact ⟨⟨_, rfl⟩, .inl ⟨_, HP.out, HJ.out⟩⟩

/-- The first of m radii that is too far. -/
def farAt (R : List Int) (n : Nat) : Option Nat := (List.range n).find? (fun i => far (R.getD i 0))
def farV (R : List Int) (n : Nat) : Value := .tuple (match farAt R n with | some j => #[.int .i64 (R.getD j 0), .bool true] | none => #[.int .i64 0, .bool false])
theorem farAt_none {R : List Int} {n : Nat} (h : ∀ i, i < n → far (R.getD i 0) = false) : farAt R n = none := by
  unfold farAt
  rw [List.find?_eq_none]
  intro i hi
  simp only [h i (List.mem_range.1 hi), Bool.false_eq_true, not_false_eq_true]
theorem farAt_some {R : List Int} {n j : Nat} (hj : j < n) (h : ∀ i, i < j → far (R.getD i 0) = false) (hb : far (R.getD j 0) = true) : farAt R n = some j := by
  unfold farAt
  rw [List.find?_range_eq_some]
  exact ⟨hb, by simpa using hj, fun i hi => by simp only [h i hi, Bool.not_false]⟩

set_option maxRecDepth 100000 in
set_option maxHeartbeats 4000000 in
theorem firstR_any (bl : Nat) (A : Option Addr) (n k : Nat) (R : List Int) (w : World) (hb : Blk w bl 25 #[.slice A n k]) (hR : LI w w.heap.size A n R) (hl : n ≤ 9223372036854775807) :
    Calls Try.prog 66 #[.func (.func 76) #[] #[.pointer (some ⟨bl, 0, none⟩)], .func (.func 68) #[] #[]] w fun e w' => e = .returned (farV R n) ∧ Below w.heap.size w w' := by
  have HB := Lib.hid hb
  have HR := Lib.hid hR
  clear hb hR
  refine (callsIn_wide (n := 12)).1 ?_
  refine callsIn_of_wp_marks Try.func66 rfl trivial ?_ rfl
  simp only [Try.ntmps66, List.size_toArray, List.length_cons, List.length_nil, Nat.reduceAdd, Nat.reduceSub, Array.replicate_succ, Array.replicate_zero, List.push_toArray, List.append_toArray, List.nil_append, List.cons_append]
  gi_wp2_with fail
  obtain ⟨W1, hW1⟩ : ∃ W1, ((w.alloc (.cells #[.func (.func 68) #[] #[]] 104)).alloc (.cells #[.int .i64 0] 2)).alloc (.cells #[.bool false] 4) = W1 := ⟨_, rfl⟩
  have hb1 : Below w.heap.size w W1 := by rw [← hW1]; exact (((Below.refl _ _).alloc (Nat.le_refl _) _).alloc (by simp) _).alloc (by simp; omega) _
  have k1 : Blk W1 w.heap.size 104 #[.func (.func 68) #[] #[]] := by rw [← hW1]; exact ((Blk.new _ _ _).alloc _).alloc _
  have k2 : Blk W1 (w.heap.size + 1) 2 #[.int .i64 0] := by rw [← hW1]; exact (blk_al (by simp)).alloc _
  have k3 : Blk W1 (w.heap.size + 1 + 1) 4 #[.bool false] := by rw [← hW1]; exact blk_al (by simp)
  have hz : w.heap.size + 1 + 1 < W1.heap.size := k3.lt
  have hbW : Blk W1 bl 25 #[.slice A n k] := HB.out.below hb1 HB.out.lt
  have hblt := HB.out.lt
  have hRW : LI W1 W1.heap.size A n R := (HR.out.below hb1 (Nat.le_refl _)).more hb1.size
  rw [hW1]
  clear hW1
  refine wpIn_rangeFunc_ownH rfl (by omega) (gf := 76) (lb := #[.pointer (some ⟨bl, 0, none⟩)]) rfl trivial (enters_of Try.func76 (by kernel_rfl) rfl)
    (valuesR1_stops (12 - 1) bl W1.heap.size A n k R W1 (by omega) hbW hRW (by omega) (Nat.le_refl _) hl) belowK_t (belowK_b (Nat.le_refl _)) (Below.refl _ _) (fun _ => rfl)
    (fun pre X => Blk X w.heap.size 104 #[.func (.func 68) #[] #[]] ∧ Blk X (w.heap.size + 1) 2 #[.int .i64 0] ∧ Blk X (w.heap.size + 1 + 1) 4 #[.bool false] ∧ (Below w.heap.size w X ∧ W1.heap.size ≤ X.heap.size) ∧ ∀ x ∈ pre, far (R.getD x.1 0) = false)
    (fun cd pre X => cd = .ret ∧ ∃ pre0 x, pre = pre0 ++ [x] ∧ (∀ y ∈ pre0, far (R.getD y.1 0) = false) ∧ far (R.getD x.1 0) = true ∧ Blk X (w.heap.size + 1) 2 #[.int .i64 (R.getD x.1 0)] ∧ Blk X (w.heap.size + 1 + 1) 4 #[.bool true] ∧ Below w.heap.size w X)
    ?hI ?hIx ?h0 (fun x a' X => a' = { tmps := #[.func (.func 76) #[] #[.pointer (some ⟨bl, 0, none⟩)], .func (.func 68) #[] #[], undef, .pointer (some ⟨w.heap.size, 0, none⟩), .pointer (some ⟨w.heap.size + 1, 0, none⟩), .pointer (some ⟨w.heap.size + 1 + 1, 0, none⟩), .int .i64 (R.getD x.1 0), undef, .func (.func 76) #[] #[.pointer (some ⟨bl, 0, none⟩)], .int .i64 (R.getD x.1 0), undef, undef, undef, undef, undef], defers := [] }) ?hAx ?assign ?body ?done ?stop
  case hI =>
    rintro s X Y row ⟨i1, i2, i3, i4, i5⟩ hgr hr
    have hk := fun r e => (hr r e).2
    exact ⟨blk_keptR i1 hgr hk, blk_keptR i2 hgr hk, blk_keptR i3 hgr hk, ⟨i4.1.grown hgr i4.1.size (fun q e => by have := (hr q e).1; omega), Nat.le_trans i4.2 hgr.size⟩, i5⟩
  case hIx =>
    rintro cd s X Y row ⟨rfl, pre0, x, j1, j2, j3, i2, i3, i4⟩ hgr hr
    have hk := fun r e => (hr r e).2
    exact ⟨rfl, pre0, x, j1, j2, j3, blk_keptR i2 hgr hk, blk_keptR i3 hgr hk, i4.grown hgr i4.size (fun q e => by have := (hr q e).1; omega)⟩
  case h0 => exact ⟨k1, k2, k3, ⟨hb1, Nat.le_refl _⟩, fun _ h => by cases h⟩
  case hAx =>
    rintro x a' s X Y row h3 hgr hr
    exact h3
  case assign =>
    rintro l' pre x X K hi hK
    obtain ⟨rv, hrv⟩ : ∃ rv, R.getD x.1 0 = rv := ⟨_, rfl⟩
    simp only [encR, hrv] at hK ⊢
    gi_wp2
    exact hK _ _ (KeepsFrom.of_grownBy (World.grownBy.refl X none) (by simp)) (Below.refl _ X) hi rfl
  case body =>
    rintro L pre x a' X hL hrec ⟨i1, i2, i3, i4, i5⟩ rfl hlen
    have I1 := Lib.hid i1
    have I2 := Lib.hid i2
    have I3 := Lib.hid i3
    have I4 := Lib.hid i4
    have I5 := Lib.hid i5
    obtain ⟨p0, p1, p2⟩ := i1.one
    have f68 : Fence.wide.fn 68 := trivial
    obtain ⟨rv, hrv⟩ : ∃ rv, R.getD x.1 0 = rv := ⟨_, rfl⟩
    have HRV := Lib.hid hrv
    obtain ⟨z, hz0⟩ : ∃ z, far rv = z := ⟨_, rfl⟩
    have HZ := Lib.hid hz0
    have CL := Lib.hid (tooFar_any rv)
    rw [hz0] at CL
    replace CL := Lib.hid CL.out
    simp only [hrv]
    clear i1 i2 i3 i4 i5 k1 k2 k3 hb1 hbW hRW hrv hz0
    cases z with
    | false =>
      gi_wp2_with (gi_at_call 68; refine (CallsIn.inRound L (callsIn_wide.2 (CL.out _))).mono ?_; rintro e w8 ⟨rfl, rfl⟩)
      refine ⟨KeepsFrom.of_grownBy (World.grownBy.refl _ none) (by simp), Below.refl _ _, I1.out, I2.out, I3.out, I4.out, fun y hy => ?_⟩
      rcases List.mem_append.1 hy with hy | hy
      · exact I5.out y hy
      · rw [List.mem_singleton.1 hy, HRV.out]; exact HZ.out
    | true =>
      obtain ⟨g0, g1, g2⟩ := I2.out.one
      obtain ⟨g3, g4, g5⟩ := I3.out.one
      have n1 : w.heap.size + 1 ≠ w.heap.size + 1 + 1 := by omega
      gi_wp2_with (gi_at_call 68; refine (CallsIn.inRound L (callsIn_wide.2 (CL.out _))).mono ?_; rintro e w8 ⟨rfl, rfl⟩)
      have e2 := I2.out.set_ 0 (.int .i64 rv)
      have e3 := I3.out.set_ 0 (.bool true)
      refine ⟨((KeepsOthers.setCell _ _ _).from _).trans ((KeepsOthers.setCell _ _ _).from _), rfl, pre, x, rfl, I5.out, by rw [HRV.out]; exact HZ.out, ?_, ?_, ?_⟩
      · rw [HRV.out]; exact e2.far (p := ⟨w.heap.size + 1 + 1, 0, none⟩) n1 _
      · exact (I3.out.far (p := ⟨w.heap.size + 1, 0, none⟩) n1.symm _).set_ 0 _
      · exact (I4.out.1.setCell (p := ⟨w.heap.size + 1, 0, none⟩) (by show w.heap.size ≤ w.heap.size + 1; omega) _).setCell (p := ⟨w.heap.size + 1 + 1, 0, none⟩) (by show w.heap.size ≤ w.heap.size + 1 + 1; omega) _
  case done =>
    rintro D xs X hD hS ⟨i1, i2, i3, i4, i5⟩ hK
    have HF : Hid (farAt R n = none) := Lib.hid (farAt_none (fun j hj => by
      have hm : j ∈ xs.map (·.1) := by rw [hS]; exact List.mem_range.2 hj
      obtain ⟨y, hy, rfl⟩ := List.mem_map.1 hm
      exact i5 y hy))
    have I2 := Lib.hid i2
    have I3 := Lib.hid i3
    have I4 := Lib.hid i4
    have HK := Lib.hid hK
    have HD := Lib.hid hD
    obtain ⟨g0, g1, g2⟩ := i2.one
    obtain ⟨g3, g4, g5⟩ := i3.one
    clear i1 i2 i3 i4 i5 hK hS hb1 hbW hRW k1 k2 k3 hD
    gi_wp2
    have n1 : w.heap.size + 1 ≠ w.heap.size + 1 + 1 := by omega
    have hK2 : ((X.setCell ⟨w.heap.size + 1, 0, none⟩ (.int .i64 0)).setCell ⟨w.heap.size + 1 + 1, 0, none⟩ (.bool false)).heap[D]? = some (.deferred (some [])) := (KeepsOthers.setCell _ _ _).same D _ ((KeepsOthers.setCell _ _ _).same D _ HK.out rfl) rfl
    have hgp := grownBy_putObj' ((X.setCell ⟨w.heap.size + 1, 0, none⟩ (.int .i64 0)).setCell ⟨w.heap.size + 1 + 1, 0, none⟩ (.bool false)) D (.deferred none)
    have hkp : ∀ r', some D = some r' → ∃ o : Obj, ((X.setCell ⟨w.heap.size + 1, 0, none⟩ (.int .i64 0)).setCell ⟨w.heap.size + 1 + 1, 0, none⟩ (.bool false)).heap[r']? = some o ∧ o.isCells = false := fun r' e => by cases e; exact ⟨_, hK2, rfl⟩
    have e2 := blk_keptR ((I2.out.set_ 0 (.int .i64 0)).far (p := ⟨w.heap.size + 1 + 1, 0, none⟩) n1 (.bool false)) hgp hkp
    have e3 := blk_keptR ((I3.out.far (p := ⟨w.heap.size + 1, 0, none⟩) n1.symm (.int .i64 0)).set_ 0 (.bool false)) hgp hkp
    have hbl := ((I4.out.1.setCell (p := ⟨w.heap.size + 1, 0, none⟩) (by show w.heap.size ≤ w.heap.size + 1; omega) (.int .i64 0)).setCell (p := ⟨w.heap.size + 1 + 1, 0, none⟩) (by show w.heap.size ≤ w.heap.size + 1 + 1; omega) (.bool false)).grown hgp (by have := I4.out.1.size; simp; omega) (fun q e => by cases e; have := HD.out; omega)
    have c2 := (e2.cell 0).trans rfl
    have c3 := (e3.cell 0).trans rfl
    refine ⟨by simp, .inl ⟨_, _, rfl, run_takeDeferred hK2, ?_⟩⟩
    refine ⟨.tuple #[.int .i64 0, .bool false], ?_, by unfold farV; rw [HF.out], hbl⟩
    simp [results, Try.results66, go_sem, c2, c3]
  case stop =>
    rintro D cd pre X hD hS ⟨rfl, pre0, x, rfl, j2, j3, j4, j5, j6⟩ hK
    have hpx : pre0.map (·.1) = List.range x.1 := by
      obtain ⟨t, ht⟩ := hS
      rw [List.map_append, List.map_singleton, List.append_assoc] at ht
      have hl1 : pre0.length = x.1 := by
        have h1 := congrArg (fun z => z[pre0.length]?) ht
        simp only [List.getElem?_append_right (show (pre0.map (·.1)).length ≤ pre0.length by simp)] at h1
        have hlt : pre0.length < n := by have := congrArg List.length ht; simp at this; omega
        rw [List.getElem?_range hlt] at h1
        simpa using h1.symm
      have h2 := congrArg (List.take pre0.length) ht
      rw [List.take_append_of_le_length (by simp), List.take_of_length_le (by simp), List.take_range] at h2
      rw [h2, hl1, Nat.min_eq_left (by have := x.2; omega)]
    have HF : Hid (farAt R n = some x.1) := Lib.hid (farAt_some x.2 (fun j hj => by
      have hm : j ∈ pre0.map (·.1) := by rw [hpx]; exact List.mem_range.2 hj
      obtain ⟨y, hy, rfl⟩ := List.mem_map.1 hm
      exact j2 y hy) j3)
    have hgp := grownBy_putObj' X D (.deferred none)
    have hkp : ∀ r', some D = some r' → ∃ o : Obj, X.heap[r']? = some o ∧ o.isCells = false := fun r' e => by cases e; exact ⟨_, hK, rfl⟩
    have e2 := blk_keptR j4 hgp hkp
    have e3 := blk_keptR j5 hgp hkp
    have hbl := j6.grown hgp j6.size (fun q e => by cases e; omega)
    have C2 := Lib.hid ((e2.cell 0).trans rfl)
    have C3 := Lib.hid ((e3.cell 0).trans rfl)
    have HK := Lib.hid hK
    have HBL := Lib.hid hbl
    clear j2 j3 j4 j5 j6 hK e2 e3 hbl hpx hS hgp hkp hb1 hbW hRW k1 k2 k3
    gi_wp2
    refine ⟨by simp, .inl ⟨_, _, rfl, run_takeDeferred HK.out, ?_⟩⟩
    refine ⟨.tuple #[.int .i64 (R.getD x.1 0), .bool true], ?_, by unfold farV; rw [HF.out], HBL.out⟩
    have c2 := C2.out
    have c3 := C3.out
    simp [results, Try.results66, go_sem, c2, c3]

/-- The error of a cut. -/
def ckR (n : Nat) (R : List Int) : Int := if R.length ≠ n then 17 else if (R.all (fun r => !far r)) = true then 0 else 2
theorem ckR_far {R : List Int} {n j : Nat} (hn : n = R.length) (h : farAt R n = some j) : ckR n R = 2 := by
  unfold farAt at h
  rw [List.find?_range_eq_some] at h
  obtain ⟨h1, h2, _⟩ := h
  have hj : j < R.length := by rw [← hn]; exact List.mem_range.1 h2
  unfold ckR
  rw [if_neg (by simp [hn]), if_neg]
  rw [List.all_eq_true]
  intro hc
  have h3 := hc _ (List.getElem_mem hj)
  rw [List.getD_eq_getElem?_getD, List.getElem?_eq_getElem hj] at h1
  simp only [Option.getD_some] at h1
  rw [h1] at h3
  cases h3
theorem ckR_near {R : List Int} {n : Nat} (hn : n = R.length) (h : farAt R n = none) : ckR n R = 0 := by
  unfold farAt at h
  rw [List.find?_eq_none] at h
  unfold ckR
  rw [if_neg (by simp [hn]), if_pos]
  rw [List.all_eq_true]
  intro r hr
  obtain ⟨j, hj, rfl⟩ := List.mem_iff_getElem.1 hr
  have h1 := h j (List.mem_range.2 (hn ▸ hj))
  rw [List.getD_eq_getElem?_getD, List.getElem?_eq_getElem hj] at h1
  simpa using h1
theorem ckR_ok {R : List Int} {n : Nat} (h : ckR n R = 0) : R.length = n ∧ ∀ r ∈ R, -16777216 ≤ r ∧ r ≤ 16777216 := by
  unfold ckR at h
  split at h
  · omega
  · rename_i h1
    split at h
    · rename_i h2
      refine ⟨by omega, fun r hr => ?_⟩
      rw [List.all_eq_true] at h2
      have := h2 r hr
      unfold far win at this
      simp only [Bool.not_not, Bool.and_eq_true, decide_eq_true_eq] at this
      exact this
    · omega

set_option maxRecDepth 100000 in
set_option maxHeartbeats 4000000 in
theorem checkCut_any (A AR : Option Addr) (n c m d : Nat) (R : List Int) (w : World) (hR : LI w w.heap.size AR m R) (hn : n ≤ 9223372036854775807) (hl : m ≤ 9223372036854775807) :
    Calls Try.prog 43 #[.slice A n c, .slice AR m d] w fun e w' => e = .returned (.int .i64 (ckR n R)) ∧ Below w.heap.size w w' := by
  have HR := Lib.hid hR
  have HM := Lib.hid hR.1
  clear hR
  go_enter Try.func43, Try.ntmps43
  by_cases hmn : m = n
  · subst hmn
    go_wp2_with fail
    refine (valuesR_any _ _ _ _).mono ?_
    rintro e w1 ⟨rfl, hw1⟩
    have hb1 : Below w.heap.size w w1 := by rw [← hw1]; exact below_a _ _
    have k1 : Blk w1 w.heap.size 25 #[.slice AR m d] := by rw [← hw1]; exact Blk.new _ _ _
    obtain ⟨W1, hW1⟩ : ∃ W1, w1 = W1 := ⟨_, rfl⟩
    rw [hW1] at hb1 k1 ⊢
    have FC := firstR_any w.heap.size AR m d R W1 k1 ((HR.out.below hb1 (Nat.le_refl _)).more hb1.size) hl
    have HF := Lib.hid FC
    have HB1 := Lib.hid hb1
    clear FC hb1 k1 hW1 hw1
    cases hfa : farAt R m with
    | none =>
      have HC : Hid (ckR m R = 0) := Lib.hid (ckR_near HM.out hfa)
      have hv : farV R m = .tuple #[.int .i64 0, .bool false] := by unfold farV; rw [hfa]
      rw [hv] at HF
      replace HF := Lib.hid HF.out
      clear hfa hv
      go_wp2_with fail
      refine HF.out.mono ?_
      rintro e w2 ⟨rfl, hb2⟩
      have HB2 := Lib.hid hb2
      clear hb2
      go_wp2
      go_ret
      rw [HC.out]
      exact ⟨rfl, HB1.out.trans (HB2.out.mono HB1.out.size)⟩
    | some j =>
      have HC : Hid (ckR m R = 2) := Lib.hid (ckR_far HM.out hfa)
      have hv : farV R m = .tuple #[.int .i64 (R.getD j 0), .bool true] := by unfold farV; rw [hfa]
      rw [hv] at HF
      replace HF := Lib.hid HF.out
      clear hfa hv
      go_wp2_with fail
      refine HF.out.mono ?_
      rintro e w2 ⟨rfl, hb2⟩
      have HB2 := Lib.hid hb2
      clear hb2
      go_wp2
      go_ret
      rw [HC.out]
      exact ⟨rfl, HB1.out.trans (HB2.out.mono HB1.out.size)⟩
  · have hc : ckR n R = 17 := by unfold ckR; rw [if_pos]; rw [← HM.out]; exact hmn
    have hmn' : ((m : Int) != (n : Int)) = true := by simp; omega
    rw [hc]
    clear hc
    go_wp2
    go_ret
    exact ⟨rfl, Below.refl _ _⟩
end Go.Proofs.Ytgdkcbnpgpjnbaa
