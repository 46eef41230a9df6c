/-
  Lists of numbers in memory; the correction of a curve that runs; the two directions.
-/
import Derived.Test.YtilihdkfflfniaaLi
import Derived.Test.YtilihdkfflfniaaU1
import Derived.Test.YtilihdkfflfniaaUN
namespace Go.Proofs.Ytilihdkfflfniaa
open Go.RowKit

theorem field_x (a b : Value) (w : World) : Sem.run Try.prog (Instr.field 94 (.agg #[a, b]) 0) w = .ok a w := by
  simp [Instr.field, go_sem, asAgg]
theorem field_y (a b : Value) (w : World) : Sem.run Try.prog (Instr.field 94 (.agg #[a, b]) 1) w = .ok b w := by
  simp [Instr.field, go_sem, asAgg]

/-- The moments are small. -/
def Small (h : List (Int × Int)) : Prop := ∀ m ∈ h, (-1099511627776 ≤ m.1 ∧ m.1 ≤ 1099511627776) ∧ -1099511627776 ≤ m.2 ∧ m.2 ≤ 1099511627776
theorem Small.at_ {h : List (Int × Int)} (hh : Small h) (i : Nat) : (-1099511627776 ≤ (hAt h i).1 ∧ (hAt h i).1 ≤ 1099511627776) ∧ -1099511627776 ≤ (hAt h i).2 ∧ (hAt h i).2 ≤ 1099511627776 := by
  unfold hAt
  cases e : h[i]? with
  | none => simp
  | some m => exact hh m (List.mem_of_getElem? e)
/-- A curve that is valid. -/
def CurOk (c : Cur) : Prop := c.feed.length ≤ 8 ∧ c.back.length ≤ 8 ∧ (∀ x ∈ c.feed, -4096 ≤ x ∧ x ≤ 4096) ∧ (∀ x ∈ c.back, -4096 ≤ x ∧ x ≤ 4096) ∧ 1 ≤ c.share ∧ c.share ≤ 4096
theorem sum_small {ws : List Int} {f : Nat → Int} (hw : ∀ x ∈ ws, -4096 ≤ x ∧ x ≤ 4096) (hf : ∀ i, -1099511627776 ≤ f i ∧ f i ≤ 1099511627776) {k : Nat} (hk : k ≤ 8) : -36028797018963968 ≤ sumTo ws f k ∧ sumTo ws f k ≤ 36028797018963968 := by
  have h := sumTo_bd (W := 4096) (F := 1099511627776) hw (by omega) hf k
  have e : (k : Int) * (4096 * 1099511627776) ≤ 36028797018963968 := by omega
  omega
theorem prod_small {x y : Int} (hx : -4096 ≤ x ∧ x ≤ 4096) (hy : -1099511627776 ≤ y ∧ y ≤ 1099511627776) : -4503599627370496 ≤ x * y ∧ x * y ≤ 4503599627370496 := by
  have h := sumTo_bd (ws := [x]) (f := fun _ => y) (W := 4096) (F := 1099511627776) (by simpa using hx) (by omega) (fun _ => hy) 1
  simp [sumTo] at h
  omega
theorem sum_step (ws : List Int) (f : Nat → Int) {k : Nat} (hk : k < ws.length) : sumTo ws f (k + 1) = sumTo ws f k + ws[k] * f k := by
  show sumTo ws f k + ws[k]?.getD 0 * f k = _
  rw [List.getElem?_eq_getElem hk]; rfl

set_option maxRecDepth 100000 in
set_option maxHeartbeats 2000000 in
theorem correction_any (B g nx : Nat) (c : Cur) (h : List (Int × Int)) (Af Ab : Option Addr) (nf kf nb kb : Nat) (w : World)
    (hs : St w g h nx (.slice Af nf kf) (.slice Ab nb kb) c.share) (hn : nx < 8) (hf : LI w B Af nf c.feed) (hb : LI w B Ab nb c.back) (hB : B ≤ w.heap.size) (hc : CurOk c) (hh : Small h) :
    Calls Try.prog 79 #[.pointer (some ⟨g, 0, none⟩)] w fun e w' => e = .returned (.int .i64 (cor c h)) ∧ Below w.heap.size w w' := by
  obtain ⟨c1, c2, c3, c4, c5, c6⟩ := hc
  have HC3 := Lib.hid c3
  have HC4 := Lib.hid c4
  have HH := Lib.hid hh
  have HS := Lib.hid hs
  have HF := Lib.hid (hf.more hB)
  have HBK := Lib.hid (hb.more hB)
  have hg := hs.lt
  have p0 := hs.feed
  have nfl := hf.1
  have nbl := hb.1
  have nf8 : nf ≤ 8 := by omega
  have nb8 : nb ≤ 8 := by omega
  have HNF := Lib.hid nfl
  have HNB := Lib.hid nbl
  have HNX := Lib.hid hn
  clear c3 c4 hh hs hf hb hB nfl nbl c1 c2 hn
  go_enter Try.func79, Try.ntmps79
  go_wp2
  go_loopw [3, 14] (fun v i wr => ∃ k : Nat, k ≤ nf ∧ i = .int .i64 k ∧ v = .int .i64 (sumTo c.feed (fun i => (hAt h i).1) k) ∧ Below w.heap.size w wr) (fun _ i wr => nf - (intOf i).toNat)
  case atStart => exact ⟨0, Nat.zero_le _, rfl, rfl, Below.refl _ _⟩
  case round =>
    obtain ⟨k, hk, rfl, rfl, hb⟩ := hrel
    by_cases hlt : k < nf
    · obtain ⟨ad, hA, hbl, h1⟩ := (HF.out.below hb (Nat.le_refl _)).at_ (k := k) (by have := HNF.out; omega)
      obtain rfl := hA
      have HS1 : Hid (St _ g h nx _ _ c.share) := Lib.hid (HS.out.below hb HS.out.lt)
      have t1 := sum_small HC3.out (fun i => (HH.out.at_ i).1) (k := k) (by omega)
      have t2 := sum_small HC3.out (fun i => (HH.out.at_ i).1) (k := k + 1) (by omega)
      have kl : k < c.feed.length := by have := HNF.out; omega
      have t3 := prod_small (HC3.out _ (List.getElem_mem kl)) (HH.out.at_ k).1
      rw [sum_step _ _ kl] at t2
      have es : Hid (sumTo c.feed (fun i => (hAt h i).1) (k + 1) = sumTo c.feed (fun i => (hAt h i).1) k + c.feed[k] * (hAt h k).1) := Lib.hid (sum_step _ _ kl)
      try dsimp only at t1 t2
      obtain ⟨sm, hsm⟩ : ∃ s, sumTo c.feed (fun i => (hAt h i).1) k = s := ⟨_, rfl⟩
      obtain ⟨x, hx⟩ : ∃ x, c.feed[k] = x := ⟨_, rfl⟩
      obtain ⟨y, hy⟩ : ∃ y, hAt h k = y := ⟨_, rfl⟩
      rw [hsm, hx, hy] at es
      rw [hsm] at t1 t2 ⊢
      rw [hx, hy] at t2 t3
      rw [hx] at h1
      have e1 : IntKind.i64.wrap (x * y.1) = x * y.1 := IntWalk.i64_in _ (by omega)
      have e2 : IntKind.i64.wrap (sm + x * y.1) = sm + x * y.1 := IntWalk.i64_in _ (by omega)
      have HY := Lib.hid hy
      clear hy hsm hx
      go_wp2_with ((with_reducible refine (ago_any g nx k h _ _ _ _ HS1.out HNX.out (by omega)).mono ?_); rintro e w2 ⟨rfl, hb2⟩; rw [HY.out])
      rw [field_x]
      go_wp2
      go_roundw
      case rel =>
        exact ⟨k + 1, by omega, by go_num, by rw [es.out], hb.trans (hb2.mono hb.size)⟩
      case measure => simp [intOf]; omega
    · have hk' : k = c.feed.length := by have := HNF.out; omega
      have HS1 : Hid (St _ g h nx _ _ c.share) := Lib.hid (HS.out.below hb HS.out.lt)
      have p1 := HS1.out.back
      have HK := Lib.hid hk'
      have HB0 := Lib.hid hb
      have d0 := sum_small HC3.out (fun i => (HH.out.at_ i).1) (k := k) (by omega)
      try dsimp only at d0
      obtain ⟨sf, hsf⟩ : ∃ s, sumTo c.feed (fun i => (hAt h i).1) k = s := ⟨_, rfl⟩
      rw [hsf] at d0 ⊢
      have HSF := Lib.hid hsf
      clear hk' hsf hb
      go_wp2
      go_loopw [3, 36] (fun v i wr => ∃ j : Nat, j ≤ nb ∧ i = .int .i64 j ∧ v = .int .i64 (sf + sumTo c.back (fun i => (hAt h i).2) j) ∧ Below w.heap.size w wr) (fun _ i wr => nb - (intOf i).toNat)
      case atStart => exact ⟨0, Nat.zero_le _, rfl, by simp [sumTo], HB0.out⟩
      case round =>
        obtain ⟨j, hj, rfl, rfl, hb⟩ := hrel
        by_cases hltj : j < nb
        · obtain ⟨ad, hA, hbl, h1⟩ := (HBK.out.below hb (Nat.le_refl _)).at_ (k := j) (by have := HNB.out; omega)
          obtain rfl := hA
          have HS2 : Hid (St _ g h nx _ _ c.share) := Lib.hid (HS.out.below hb HS.out.lt)
          have t1 := sum_small HC4.out (fun i => (HH.out.at_ i).2) (k := j) (by omega)
          have t2 := sum_small HC4.out (fun i => (HH.out.at_ i).2) (k := j + 1) (by omega)
          have kl : j < c.back.length := by have := HNB.out; omega
          have t3 := prod_small (HC4.out _ (List.getElem_mem kl)) (HH.out.at_ j).2
          rw [sum_step _ _ kl] at t2
          have es : Hid (sumTo c.back (fun i => (hAt h i).2) (j + 1) = sumTo c.back (fun i => (hAt h i).2) j + c.back[j] * (hAt h j).2) := Lib.hid (sum_step _ _ kl)
          try dsimp only at t1 t2
          obtain ⟨sm, hsm⟩ : ∃ s, sumTo c.back (fun i => (hAt h i).2) j = s := ⟨_, rfl⟩
          obtain ⟨x, hx⟩ : ∃ x, c.back[j] = x := ⟨_, rfl⟩
          obtain ⟨y, hy⟩ : ∃ y, hAt h j = y := ⟨_, rfl⟩
          rw [hsm, hx, hy] at es
          rw [hsm] at t1 t2 ⊢
          rw [hx, hy] at t2 t3
          rw [hx] at h1
          have e1 : IntKind.i64.wrap (x * y.2) = x * y.2 := IntWalk.i64_in _ (by omega)
          have e2 : IntKind.i64.wrap (sf + sm + x * y.2) = sf + sm + x * y.2 := IntWalk.i64_in _ (by omega)
          have HY := Lib.hid hy
          clear hy hsm hx
          go_wp2_with ((with_reducible refine (ago_any g nx j h _ _ _ _ HS2.out HNX.out (by omega)).mono ?_); rintro e w2 ⟨rfl, hb2⟩; rw [HY.out])
          rw [field_y]
          go_wp2
          go_roundw
          case rel =>
            exact ⟨j + 1, by omega, by go_num, by rw [es.out, Int.add_assoc], hb.trans (hb2.mono hb.size)⟩
          case measure => simp [intOf]; omega
        · have hj' : j = c.back.length := by have := HNB.out; omega
          have HS2 : Hid (St _ g h nx _ _ c.share) := Lib.hid (HS.out.below hb HS.out.lt)
          have p2 := HS2.out.shr
          have d1 := sum_small HC4.out (fun i => (HH.out.at_ i).2) (k := j) (by omega)
          try dsimp only at d1
          have HJ := Lib.hid hj'
          clear hj'
          obtain ⟨sb, hsb⟩ : ∃ s, sumTo c.back (fun i => (hAt h i).2) j = s := ⟨_, rfl⟩
          rw [hsb] at d1 ⊢
          have HSB := Lib.hid hsb
          clear hsb
          go_wp2_with ((with_reducible refine (fquotient_any _ _ _ (by omega) (by omega) (by omega) (by omega)).mono ?_); rintro e w2 ⟨rfl, rfl⟩)
          go_ret
          refine ⟨ret_i ?_, hb⟩
          unfold cor corS
          rw [← HK.out, ← HJ.out, HSF.out, HSB.out]
end Go.Proofs.Ytilihdkfflfniaa
