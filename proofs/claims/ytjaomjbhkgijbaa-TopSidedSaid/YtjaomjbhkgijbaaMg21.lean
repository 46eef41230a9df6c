/-
  Lists of numbers in memory; the correction of a curve that runs; the two directions.
-/
import Derived.Test.YtjaomjbhkgijbaaMg11
import Derived.Test.YtjaomjbhkgijbaaMg20

namespace Go.Proofs.Ytjaomjbhkgijbaa
open Go.RowKit

theorem field_x (a b : Value) (w : World) : Sem.run Try.prog (Instr.field 196 (.agg #[a, b]) 0) w = .ok a w := by
  simp [Instr.field, go_sem, asAgg]
theorem field_y (a b : Value) (w : World) : Sem.run Try.prog (Instr.field 196 (.agg #[a, b]) 1) w = .ok b w := by
  simp [Instr.field, go_sem, asAgg]

/-- The moments are small. -/
def Small (h : List (Int × Int)) : Prop := ∀ m ∈ h, (-1099511627776 ≤ m.1 ∧ m.1 ≤ 1099511627776) ∧ -1099511627776 ≤ m.2 ∧ m.2 ≤ 1099511627776
theorem Small.at_ {h : List (Int × Int)} (hh : Small h) (i : Nat) : (-1099511627776 ≤ (hAt h i).1 ∧ (hAt h i).1 ≤ 1099511627776) ∧ -1099511627776 ≤ (hAt h i).2 ∧ (hAt h i).2 ≤ 1099511627776 := by
  unfold hAt
  cases e : h[i]? with
  | none => simp
  | some m => exact hh m (List.mem_of_getElem? e)
/-- A curve that is valid. -/
def CurOk (c : Cur) : Prop := c.feed.length ≤ 8 ∧ c.back.length ≤ 8 ∧ (∀ x ∈ c.feed, -4096 ≤ x ∧ x ≤ 4096) ∧ (∀ x ∈ c.back, -4096 ≤ x ∧ x ≤ 4096) ∧ 1 ≤ c.share ∧ c.share ≤ 4096
theorem sum_small {ws : List Int} {f : Nat → Int} (hw : ∀ x ∈ ws, -4096 ≤ x ∧ x ≤ 4096) (hf : ∀ i, -1099511627776 ≤ f i ∧ f i ≤ 1099511627776) {k : Nat} (hk : k ≤ 8) : -36028797018963968 ≤ sumTo ws f k ∧ sumTo ws f k ≤ 36028797018963968 := by
  have h := sumTo_bd (W := 4096) (F := 1099511627776) hw (by omega) hf k
  have e : (k : Int) * (4096 * 1099511627776) ≤ 36028797018963968 := by omega
  omega
theorem prod_small {x y : Int} (hx : -4096 ≤ x ∧ x ≤ 4096) (hy : -1099511627776 ≤ y ∧ y ≤ 1099511627776) : -4503599627370496 ≤ x * y ∧ x * y ≤ 4503599627370496 := by
  have h := sumTo_bd (ws := [x]) (f := fun _ => y) (W := 4096) (F := 1099511627776) (by simpa using hx) (by omega) (fun _ => hy) 1
  simp [sumTo] at h
  omega
theorem sum_step (ws : List Int) (f : Nat → Int) {k : Nat} (hk : k < ws.length) : sumTo ws f (k + 1) = sumTo ws f k + ws[k] * f k := by
  show sumTo ws f k + ws[k]?.getD 0 * f k = _
  rw [List.getElem?_eq_getElem hk]; rfl

set_option maxRecDepth 100000 in
set_option maxHeartbeats 2000000 in
theorem correction_any (B g nx : Nat) (c : Cur) (h : List (Int × Int)) (Af Ab : Option Addr) (nf kf nb kb : Nat) (w : World)
    (hs : St w g h nx (.slice Af nf kf) (.slice Ab nb kb) c.share) (hn : nx < 8) (hf : LI w B Af nf c.feed) (hb : LI w B Ab nb c.back) (hB : B ≤ w.heap.size) (hc : CurOk c) (hh : Small h) :
    Calls Try.prog 167 #[.pointer (some ⟨g, 0, none⟩)] w fun e w' => e = .returned (.int .i64 (cor c h)) ∧ Below w.heap.size w w' := by
  obtain ⟨c1, c2, c3, c4, c5, c6⟩ := hc
  have HC3 := Lib.hid c3
  have HC4 := Lib.hid c4
  have HH := Lib.hid hh
  have HS := Lib.hid hs
  have HF := Lib.hid (hf.more hB)
  have HBK := Lib.hid (hb.more hB)
  have hg := hs.lt
  have p0 := hs.feed
  have nfl := hf.1
  have nbl := hb.1
  have nf8 : nf ≤ 8 := by omega
  have nb8 : nb ≤ 8 := by omega
  have HNF := Lib.hid nfl
  have HNB := Lib.hid nbl
  have HNX := Lib.hid hn
  clear c3 c4 hh hs hf hb hB nfl nbl c1 c2 hn
  go_enter Try.func167, Try.ntmps167
  go_wp2
  go_loopw [3, 14] (fun v i wr => ∃ k : Nat, k ≤ nf ∧ i = .int .i64 k ∧ v = .int .i64 (sumTo c.feed (fun i => (hAt h i).1) k) ∧ Below w.heap.size w wr) (fun _ i wr => nf - (intOf i).toNat)
  case atStart => exact ⟨0, Nat.zero_le _, rfl, rfl, Below.refl _ _⟩
  case round =>
    obtain ⟨k, hk, rfl, rfl, hb⟩ := hrel
    by_cases hlt : k < nf
    · obtain ⟨ad, hA, hbl, h1⟩ := (HF.out.below hb (Nat.le_refl _)).at_ (k := k) (by have := HNF.out; omega)
      obtain rfl := hA
      have HS1 : Hid (St _ g h nx _ _ c.share) := Lib.hid (HS.out.below hb HS.out.lt)
      have t1 := sum_small HC3.out (fun i => (HH.out.at_ i).1) (k := k) (by omega)
      have t2 := sum_small HC3.out (fun i => (HH.out.at_ i).1) (k := k + 1) (by omega)
      have kl : k < c.feed.length := by have := HNF.out; omega
      have t3 := prod_small (HC3.out _ (List.getElem_mem kl)) (HH.out.at_ k).1
      rw [sum_step _ _ kl] at t2
      have es : Hid (sumTo c.feed (fun i => (hAt h i).1) (k + 1) = sumTo c.feed (fun i => (hAt h i).1) k + c.feed[k] * (hAt h k).1) := Lib.hid (sum_step _ _ kl)
      try dsimp only at t1 t2
      obtain ⟨sm, hsm⟩ : ∃ s, sumTo c.feed (fun i => (hAt h i).1) k = s := ⟨_, rfl⟩
      obtain ⟨x, hx⟩ : ∃ x, c.feed[k] = x := ⟨_, rfl⟩
      obtain ⟨y, hy⟩ : ∃ y, hAt h k = y := ⟨_, rfl⟩
      rw [hsm, hx, hy] at es
      rw [hsm] at t1 t2 ⊢
      rw [hx, hy] at t2 t3
      rw [hx] at h1
      have e1 : IntKind.i64.wrap (x * y.1) = x * y.1 := IntWalk.i64_in _ (by omega)
      have e2 : IntKind.i64.wrap (sm + x * y.1) = sm + x * y.1 := IntWalk.i64_in _ (by omega)
      have HY := Lib.hid hy
      clear hy hsm hx
      go_wp2_with ((with_reducible refine (ago_any g nx k h _ _ _ _ HS1.out HNX.out (by omega)).mono ?_); rintro e w2 ⟨rfl, hb2⟩; rw [HY.out])
      rw [field_x]
      go_wp2
      go_roundw
      case rel =>
        exact ⟨k + 1, by omega, by go_num, by rw [es.out], hb.trans (hb2.mono hb.size)⟩
      case measure => simp [intOf]; omega
    · have hk' : k = c.feed.length := by have := HNF.out; omega
      have HS1 : Hid (St _ g h nx _ _ c.share) := Lib.hid (HS.out.below hb HS.out.lt)
      have p1 := HS1.out.back
      have HK := Lib.hid hk'
      have HB0 := Lib.hid hb
      have d0 := sum_small HC3.out (fun i => (HH.out.at_ i).1) (k := k) (by omega)
      try dsimp only at d0
      obtain ⟨sf, hsf⟩ : ∃ s, sumTo c.feed (fun i => (hAt h i).1) k = s := ⟨_, rfl⟩
      rw [hsf] at d0 ⊢
      have HSF := Lib.hid hsf
      clear hk' hsf hb
      go_wp2
      go_loopw [3, 36] (fun v i wr => ∃ j : Nat, j ≤ nb ∧ i = .int .i64 j ∧ v = .int .i64 (sf + sumTo c.back (fun i => (hAt h i).2) j) ∧ Below w.heap.size w wr) (fun _ i wr => nb - (intOf i).toNat)
      case atStart => exact ⟨0, Nat.zero_le _, rfl, by simp [sumTo], HB0.out⟩
      case round =>
        obtain ⟨j, hj, rfl, rfl, hb⟩ := hrel
        by_cases hltj : j < nb
        · obtain ⟨ad, hA, hbl, h1⟩ := (HBK.out.below hb (Nat.le_refl _)).at_ (k := j) (by have := HNB.out; omega)
          obtain rfl := hA
          have HS2 : Hid (St _ g h nx _ _ c.share) := Lib.hid (HS.out.below hb HS.out.lt)
          have t1 := sum_small HC4.out (fun i => (HH.out.at_ i).2) (k := j) (by omega)
          have t2 := sum_small HC4.out (fun i => (HH.out.at_ i).2) (k := j + 1) (by omega)
          have kl : j < c.back.length := by have := HNB.out; omega
          have t3 := prod_small (HC4.out _ (List.getElem_mem kl)) (HH.out.at_ j).2
          rw [sum_step _ _ kl] at t2
          have es : Hid (sumTo c.back (fun i => (hAt h i).2) (j + 1) = sumTo c.back (fun i => (hAt h i).2) j + c.back[j] * (hAt h j).2) := Lib.hid (sum_step _ _ kl)
          try dsimp only at t1 t2
          obtain ⟨sm, hsm⟩ : ∃ s, sumTo c.back (fun i => (hAt h i).2) j = s := ⟨_, rfl⟩
          obtain ⟨x, hx⟩ : ∃ x, c.back[j] = x := ⟨_, rfl⟩
          obtain ⟨y, hy⟩ : ∃ y, hAt h j = y := ⟨_, rfl⟩
          rw [hsm, hx, hy] at es
          rw [hsm] at t1 t2 ⊢
          rw [hx, hy] at t2 t3
          rw [hx] at h1
          have e1 : IntKind.i64.wrap (x * y.2) = x * y.2 := IntWalk.i64_in _ (by omega)
          have e2 : IntKind.i64.wrap (sf + sm + x * y.2) = sf + sm + x * y.2 := IntWalk.i64_in _ (by omega)
          have HY := Lib.hid hy
          clear hy hsm hx
          go_wp2_with ((with_reducible refine (ago_any g nx j h _ _ _ _ HS2.out HNX.out (by omega)).mono ?_); rintro e w2 ⟨rfl, hb2⟩; rw [HY.out])
          rw [field_y]
          go_wp2
          go_roundw
          case rel =>
            exact ⟨j + 1, by omega, by go_num, by rw [es.out, Int.add_assoc], hb.trans (hb2.mono hb.size)⟩
          case measure => simp [intOf]; omega
        · have hj' : j = c.back.length := by have := HNB.out; omega
          have HS2 : Hid (St _ g h nx _ _ c.share) := Lib.hid (HS.out.below hb HS.out.lt)
          have p2 := HS2.out.shr
          have d1 := sum_small HC4.out (fun i => (HH.out.at_ i).2) (k := j) (by omega)
          try dsimp only at d1
          have HJ := Lib.hid hj'
          clear hj'
          obtain ⟨sb, hsb⟩ : ∃ s, sumTo c.back (fun i => (hAt h i).2) j = s := ⟨_, rfl⟩
          rw [hsb] at d1 ⊢
          have HSB := Lib.hid hsb
          clear hsb
          go_wp2_with ((with_reducible refine (fquotient_any _ _ _ (by omega) (by omega) (by omega) (by omega)).mono ?_); rintro e w2 ⟨rfl, rfl⟩)
          go_ret
          refine ⟨ret_i ?_, hb⟩
          unfold cor corS
          rw [← HK.out, ← HJ.out, HSF.out, HSB.out]
end Go.Proofs.Ytjaomjbhkgijbaa

/-
  allWithin; checkSignal; CheckCurve.
-/
namespace Go.Proofs.Ytjaomjbhkgijbaa
open Go.RowKit

/-- All numbers are within a limit. -/
def wibs (xs : List Int) (m : Int) : Bool := xs.all (wib · m)
theorem wibs_take (xs : List Int) (m : Int) (k : Nat) (h : k < xs.length) : wibs (xs.take (k + 1)) m = (wibs (xs.take k) m && wib xs[k] m) := by
  unfold wibs
  rw [List.take_succ_eq_append_getElem h, List.all_append]; simp
theorem wibs_false (xs : List Int) (m : Int) (k : Nat) (h : k < xs.length) (hv : wib xs[k] m = false) : wibs xs m = false := by
  unfold wibs
  rw [List.all_eq_false]
  exact ⟨xs[k], List.getElem_mem h, by simp [hv]⟩

set_option maxHeartbeats 400000 in
theorem allWithin_any (B : Nat) (A : Option Addr) (n c : Nat) (xs : List Int) (m : Int) (w : World) (h0 : LI w B A n xs) (hB : B ≤ w.heap.size) (hl : n ≤ 9223372036854775807) (m0 : 0 ≤ m) (m1 : m ≤ 1099511627776) :
    Calls Try.prog 161 #[.slice A n c, .int .i64 m] w fun e w' => e = .returned (.bool (wibs xs m)) ∧ Below w.heap.size w w' := by
  have H := Lib.hid (h0.more hB)
  obtain ⟨hn, -⟩ := h0
  clear hB
  have HN := Lib.hid hn
  clear hn
  go_enter Try.func161, Try.ntmps161
  go_wp2
  go_loopw [9] (fun i wr => ∃ k : Nat, k ≤ n ∧ i = .int .i64 k ∧ Below w.heap.size w wr ∧ wibs (xs.take k) m = true) (fun i wr => n - (intOf i).toNat)
  case atStart => exact ⟨0, Nat.zero_le _, rfl, Below.refl _ _, rfl⟩
  case round =>
    obtain ⟨k, hk, rfl, hb, hv⟩ := hrel
    by_cases hlt : k < n
    · obtain ⟨ad, hA, hbl, h1⟩ := (H.out.below hb (Nat.le_refl _)).at_ (k := k) (by have := HN.out; omega)
      obtain rfl := hA
      cases hx : wib xs[k] m
      all_goals
        have HX := Lib.hid hx
        clear hx
        go_wp2_with ((with_reducible refine (fwithin_any _ _ _ m0 m1).mono ?_); rintro e w' ⟨rfl, rfl⟩; (try rw [HX.out]))
      · go_ret
        exact ⟨ret_b (wibs_false xs m k (by have := HN.out; omega) HX.out).symm, hb⟩
      · go_roundw
        case rel =>
          refine ⟨k + 1, by omega, by go_num, hb, ?_⟩
          rw [wibs_take xs m k (by have := HN.out; omega), hv, HX.out]; rfl
        case measure => simp [intOf]; omega
    · go_wp2
      go_ret
      rw [List.take_of_length_le (by have := HN.out; omega)] at hv
      exact ⟨ret_b hv.symm, hb⟩

/-- 0: fine · 6: too many · 3: out of range. -/
def ckX (xs : List Int) : Int := if 4096 < xs.length then 6 else if wibs xs 32767 then 0 else 3
set_option maxHeartbeats 400000 in
theorem checkSignal_any (B : Nat) (A : Option Addr) (n c : Nat) (xs : List Int) (w : World) (h0 : LI w B A n xs) (hB : B ≤ w.heap.size) (hl : n ≤ 9223372036854775807) :
    Calls Try.prog 117 #[.slice A n c] w fun e w' => e = .returned (.int .i64 (ckX xs)) ∧ Below w.heap.size w w' := by
  have hn := h0.1
  have H := Lib.hid h0
  have HB := Lib.hid hB
  clear h0 hB
  by_cases hl2 : 4096 < n
  · have HN := Lib.hid hn
    clear hn
    go_enter Try.func117, Try.ntmps117
    go_wp2
    go_ret
    exact ⟨ret_i (by unfold ckX; rw [if_pos (by have := HN.out; omega)]), Below.refl _ _⟩
  · cases hv : wibs xs 32767
    all_goals
      have HV := Lib.hid hv
      have HN := Lib.hid hn
      clear hv hn
      go_enter Try.func117, Try.ntmps117
      go_wp2_with ((with_reducible refine (allWithin_any B A n c xs _ _ H.out HB.out hl (by omega) (by omega)).mono ?_); rintro e w1 ⟨rfl, hb1⟩; rw [HV.out])
      go_ret
      exact ⟨ret_i (by unfold ckX; rw [if_neg (by have := HN.out; omega), HV.out]; rfl), hb1⟩

/-- 0: fine · 6: too many · 2: not valid. -/
def ckV (c : Cur) : Int := if 8 < c.feed.length ∨ 8 < c.back.length then 6 else if wibs c.feed 4096 = false ∨ wibs c.back 4096 = false then 2 else if c.share < 1 ∨ 4096 < c.share then 2 else 0
theorem wib_bd {x m : Int} (h : wib x m = true) : -m ≤ x ∧ x ≤ m := by simpa [wib] using h
theorem ckV_ok {c : Cur} (h : ckV c = 0) : CurOk c := by
  unfold ckV at h
  split at h
  · cases h
  · split at h
    · cases h
    · split at h
      · cases h
      · rename_i h1 h2 h3
        have e1 : wibs c.feed 4096 = true := by cases e : wibs c.feed 4096 <;> simp_all
        have e2 : wibs c.back 4096 = true := by cases e : wibs c.back 4096 <;> simp_all
        unfold wibs at e1 e2
        rw [List.all_eq_true] at e1 e2
        exact ⟨by omega, by omega, fun x hx => wib_bd (e1 x hx), fun x hx => wib_bd (e2 x hx), by omega, by omega⟩
theorem Blk.three_ {w : World} {g : Nat} {t : TypeId} {a b c : Value} (h : Blk w g t #[a, b, c]) : w.cell? ⟨g, 0, none⟩ = some a ∧ w.cell? ⟨g, 1, none⟩ = some b ∧ w.cell? ⟨g, 2, none⟩ = some c :=
  ⟨(h.cell 0).trans rfl, (h.cell 1).trans rfl, (h.cell 2).trans rfl⟩
set_option maxHeartbeats 1000000 in
theorem CheckCurve_any (B : Nat) (Af Ab : Option Addr) (nf kf nb kb : Nat) (c : Cur) (w : World) (hf : LI w B Af nf c.feed) (hb : LI w B Ab nb c.back) (hB : B ≤ w.heap.size) (hl : nf ≤ 9223372036854775807) (hl2 : nb ≤ 9223372036854775807) :
    Calls Try.prog 102 #[.agg #[.slice Af nf kf, .slice Ab nb kb, .int .i64 c.share]] w fun e w' => e = .returned (.int .i64 (ckV c)) ∧ Below w.heap.size w w' := by
  have HF := Lib.hid (hf.more hB)
  have HBK := Lib.hid (hb.more hB)
  have HNF := Lib.hid hf.1
  have HNB := Lib.hid hb.1
  clear hf hb hB
  obtain ⟨sh, hsh⟩ : ∃ s, c.share = s := ⟨_, rfl⟩
  rw [hsh]
  have HSH := Lib.hid hsh
  clear hsh
  have hw0 : Below w.heap.size w (w.alloc (.cells #[.slice Af nf kf, .slice Ab nb kb, .int .i64 sh] 43)) := (Below.refl _ _).alloc (Nat.le_refl _) _
  have HW0 := Lib.hid hw0
  have HF0 := Lib.hid (HF.out.below hw0 (Nat.le_refl _))
  have HB0 := Lib.hid (HBK.out.below hw0 (Nat.le_refl _))
  obtain ⟨W, hW⟩ : ∃ W, w.alloc (.cells #[.slice Af nf kf, .slice Ab nb kb, .int .i64 sh] 43) = W := ⟨_, rfl⟩
  have HK := Lib.hid (Blk.new w 43 #[.slice Af nf kf, .slice Ab nb kb, .int .i64 sh])
  clear hw0
  rw [hW] at HW0 HF0 HB0 HK
  have hsz : w.heap.size < W.heap.size := by rw [← hW]; simp
  by_cases a1 : 8 < nf ∨ 8 < nb
  · have hfin : ckV c = 6 := by unfold ckV; rw [if_pos (by have := HNF.out; have := HNB.out; omega)]
    have HFIN := Lib.hid hfin
    clear hfin
    by_cases a2 : 8 < nf
    all_goals
      go_enter Try.func102, Try.ntmps102
      go_upto_region 1 with fail
      try rw [hW]
      clear hW
      obtain ⟨c0, c1, c2⟩ := HK.out.three_
      go_wp2
      go_ret
      exact ⟨ret_i HFIN.out.symm, HW0.out⟩
  · have a2 : nf ≤ 8 := by omega
    have a3 : nb ≤ 8 := by omega
    have hfin : ckV c = if wibs c.feed 4096 = false ∨ wibs c.back 4096 = false then 2 else if sh < 1 ∨ 4096 < sh then 2 else 0 := by unfold ckV; rw [if_neg (by have := HNF.out; have := HNB.out; omega), HSH.out]
    cases v1 : wibs c.feed 4096
    · have hfin : ckV c = 2 := by rw [hfin, v1]; rfl
      have HFIN := Lib.hid hfin
      have HV1 := Lib.hid v1
      clear hfin v1
      go_enter Try.func102, Try.ntmps102
      go_upto_region 1 with fail
      try rw [hW]
      clear hW
      obtain ⟨c0, c1, c2⟩ := HK.out.three_
      go_wp2_with ((with_reducible refine (allWithin_any _ Af nf kf _ _ W HF0.out (by omega) hl (by omega) (by omega)).mono ?_); rintro e w1 ⟨rfl, hb1⟩; rw [HV1.out])
      go_ret
      exact ⟨ret_i HFIN.out.symm, HW0.out.trans (hb1.mono (by omega))⟩
    · cases v2 : wibs c.back 4096
      · have hfin : ckV c = 2 := by rw [hfin, v1, v2]; rfl
        have HFIN := Lib.hid hfin
        have HV1 := Lib.hid v1
        have HV2 := Lib.hid v2
        clear hfin v1 v2
        go_enter Try.func102, Try.ntmps102
        go_upto_region 1 with fail
        try rw [hW]
        clear hW
        obtain ⟨c0, c1, c2⟩ := HK.out.three_
        go_wp2_with (first | ((with_reducible refine (allWithin_any _ Af nf kf _ _ W HF0.out (by omega) hl (by omega) (by omega)).mono ?_); rintro e w1 ⟨rfl, hb1⟩; rw [HV1.out]; obtain ⟨d0, d1, d2⟩ := (HK.out.below hb1 hsz).three_; have hz1 := hb1.size) | ((with_reducible refine (allWithin_any _ Ab nb kb _ _ w1 (HB0.out.below hb1 (by omega)) (by omega) hl2 (by omega) (by omega)).mono ?_); rintro e w2 ⟨rfl, hb2⟩; rw [HV2.out]))
        go_ret
        exact ⟨ret_i HFIN.out.symm, HW0.out.trans ((hb1.trans (hb2.mono (by omega))).mono (by omega))⟩
      · by_cases s1 : sh < 1 ∨ 4096 < sh
        · have hfin : ckV c = 2 := by rw [hfin, v1, v2, if_neg (by simp), if_pos s1]
          have HFIN := Lib.hid hfin
          have HV1 := Lib.hid v1
          have HV2 := Lib.hid v2
          clear hfin v1 v2
          by_cases s2 : sh < 1
          all_goals
            go_enter Try.func102, Try.ntmps102
            go_upto_region 1 with fail
            try rw [hW]
            clear hW
            obtain ⟨c0, c1, c2⟩ := HK.out.three_
            go_wp2_with (first | ((with_reducible refine (allWithin_any _ Af nf kf _ _ W HF0.out (by omega) hl (by omega) (by omega)).mono ?_); rintro e w1 ⟨rfl, hb1⟩; rw [HV1.out]; obtain ⟨d0, d1, d2⟩ := (HK.out.below hb1 hsz).three_; have hz1 := hb1.size) | ((with_reducible refine (allWithin_any _ Ab nb kb _ _ w1 (HB0.out.below hb1 (by omega)) (by omega) hl2 (by omega) (by omega)).mono ?_); rintro e w2 ⟨rfl, hb2⟩; rw [HV2.out]; obtain ⟨f0, f1, f2⟩ := ((HK.out.below hb1 hsz).below hb2 (by omega)).three_))
            go_ret
            exact ⟨ret_i HFIN.out.symm, HW0.out.trans ((hb1.trans (hb2.mono (by omega))).mono (by omega))⟩
        · have hfin : ckV c = 0 := by rw [hfin, v1, v2, if_neg (by simp), if_neg s1]
          have HFIN := Lib.hid hfin
          have HV1 := Lib.hid v1
          have HV2 := Lib.hid v2
          clear hfin v1 v2
          have s2 : 1 ≤ sh := by omega
          have s3 : sh ≤ 4096 := by omega
          clear s1
          go_enter Try.func102, Try.ntmps102
          go_upto_region 1 with fail
          try rw [hW]
          clear hW
          obtain ⟨c0, c1, c2⟩ := HK.out.three_
          go_wp2_with (first | ((with_reducible refine (allWithin_any _ Af nf kf _ _ W HF0.out (by omega) hl (by omega) (by omega)).mono ?_); rintro e w1 ⟨rfl, hb1⟩; rw [HV1.out]; obtain ⟨d0, d1, d2⟩ := (HK.out.below hb1 hsz).three_; have hz1 := hb1.size) | ((with_reducible refine (allWithin_any _ Ab nb kb _ _ w1 (HB0.out.below hb1 (by omega)) (by omega) hl2 (by omega) (by omega)).mono ?_); rintro e w2 ⟨rfl, hb2⟩; rw [HV2.out]; obtain ⟨f0, f1, f2⟩ := ((HK.out.below hb1 hsz).below hb2 (by omega)).three_))
          go_ret
          exact ⟨ret_i HFIN.out.symm, HW0.out.trans ((hb1.trans (hb2.mono (by omega))).mono (by omega))⟩
end Go.Proofs.Ytjaomjbhkgijbaa

