/-
  allWithin; checkSignal; CheckCurve.
-/
import Derived.Test.YtilihdkfflfniaaU2
namespace Go.Proofs.Ytilihdkfflfniaa
open Go.RowKit

/-- All numbers are within a limit. -/
def wibs (xs : List Int) (m : Int) : Bool := xs.all (wib · m)
theorem wibs_take (xs : List Int) (m : Int) (k : Nat) (h : k < xs.length) : wibs (xs.take (k + 1)) m = (wibs (xs.take k) m && wib xs[k] m) := by
  unfold wibs
  rw [List.take_succ_eq_append_getElem h, List.all_append]; simp
theorem wibs_false (xs : List Int) (m : Int) (k : Nat) (h : k < xs.length) (hv : wib xs[k] m = false) : wibs xs m = false := by
  unfold wibs
  rw [List.all_eq_false]
  exact ⟨xs[k], List.getElem_mem h, by simp [hv]⟩

set_option maxHeartbeats 400000 in
theorem allWithin_any (B : Nat) (A : Option Addr) (n c : Nat) (xs : List Int) (m : Int) (w : World) (h0 : LI w B A n xs) (hB : B ≤ w.heap.size) (hl : n ≤ 9223372036854775807) (m0 : 0 ≤ m) (m1 : m ≤ 1099511627776) :
    Calls Try.prog 77 #[.slice A n c, .int .i64 m] w fun e w' => e = .returned (.bool (wibs xs m)) ∧ Below w.heap.size w w' := by
  have H := Lib.hid (h0.more hB)
  obtain ⟨hn, -⟩ := h0
  clear hB
  have HN := Lib.hid hn
  clear hn
  go_enter Try.func77, Try.ntmps77
  go_wp2
  go_loopw [9] (fun i wr => ∃ k : Nat, k ≤ n ∧ i = .int .i64 k ∧ Below w.heap.size w wr ∧ wibs (xs.take k) m = true) (fun i wr => n - (intOf i).toNat)
  case atStart => exact ⟨0, Nat.zero_le _, rfl, Below.refl _ _, rfl⟩
  case round =>
    obtain ⟨k, hk, rfl, hb, hv⟩ := hrel
    by_cases hlt : k < n
    · obtain ⟨ad, hA, hbl, h1⟩ := (H.out.below hb (Nat.le_refl _)).at_ (k := k) (by have := HN.out; omega)
      obtain rfl := hA
      cases hx : wib xs[k] m
      all_goals
        have HX := Lib.hid hx
        clear hx
        go_wp2_with ((with_reducible refine (fwithin_any _ _ _ m0 m1).mono ?_); rintro e w' ⟨rfl, rfl⟩; (try rw [HX.out]))
      · go_ret
        exact ⟨ret_b (wibs_false xs m k (by have := HN.out; omega) HX.out).symm, hb⟩
      · go_roundw
        case rel =>
          refine ⟨k + 1, by omega, by go_num, hb, ?_⟩
          rw [wibs_take xs m k (by have := HN.out; omega), hv, HX.out]; rfl
        case measure => simp [intOf]; omega
    · go_wp2
      go_ret
      rw [List.take_of_length_le (by have := HN.out; omega)] at hv
      exact ⟨ret_b hv.symm, hb⟩

/-- 0: fine · 6: too many · 3: out of range. -/
def ckX (xs : List Int) : Int := if 4096 < xs.length then 6 else if wibs xs 32767 then 0 else 3
set_option maxHeartbeats 400000 in
theorem checkSignal_any (B : Nat) (A : Option Addr) (n c : Nat) (xs : List Int) (w : World) (h0 : LI w B A n xs) (hB : B ≤ w.heap.size) (hl : n ≤ 9223372036854775807) :
    Calls Try.prog 48 #[.slice A n c] w fun e w' => e = .returned (.int .i64 (ckX xs)) ∧ Below w.heap.size w w' := by
  have hn := h0.1
  have H := Lib.hid h0
  have HB := Lib.hid hB
  clear h0 hB
  by_cases hl2 : 4096 < n
  · have HN := Lib.hid hn
    clear hn
    go_enter Try.func48, Try.ntmps48
    go_wp2
    go_ret
    exact ⟨ret_i (by unfold ckX; rw [if_pos (by have := HN.out; omega)]), Below.refl _ _⟩
  · cases hv : wibs xs 32767
    all_goals
      have HV := Lib.hid hv
      have HN := Lib.hid hn
      clear hv hn
      go_enter Try.func48, Try.ntmps48
      go_wp2_with ((with_reducible refine (allWithin_any B A n c xs _ _ H.out HB.out hl (by omega) (by omega)).mono ?_); rintro e w1 ⟨rfl, hb1⟩; rw [HV.out])
      go_ret
      exact ⟨ret_i (by unfold ckX; rw [if_neg (by have := HN.out; omega), HV.out]; rfl), hb1⟩

/-- 0: fine · 6: too many · 2: not valid. -/
def ckV (c : Cur) : Int := if 8 < c.feed.length ∨ 8 < c.back.length then 6 else if wibs c.feed 4096 = false ∨ wibs c.back 4096 = false then 2 else if c.share < 1 ∨ 4096 < c.share then 2 else 0
theorem wib_bd {x m : Int} (h : wib x m = true) : -m ≤ x ∧ x ≤ m := by simpa [wib] using h
theorem ckV_ok {c : Cur} (h : ckV c = 0) : CurOk c := by
  unfold ckV at h
  split at h
  · cases h
  · split at h
    · cases h
    · split at h
      · cases h
      · rename_i h1 h2 h3
        have e1 : wibs c.feed 4096 = true := by cases e : wibs c.feed 4096 <;> simp_all
        have e2 : wibs c.back 4096 = true := by cases e : wibs c.back 4096 <;> simp_all
        unfold wibs at e1 e2
        rw [List.all_eq_true] at e1 e2
        exact ⟨by omega, by omega, fun x hx => wib_bd (e1 x hx), fun x hx => wib_bd (e2 x hx), by omega, by omega⟩
theorem Blk.three_ {w : World} {g : Nat} {t : TypeId} {a b c : Value} (h : Blk w g t #[a, b, c]) : w.cell? ⟨g, 0, none⟩ = some a ∧ w.cell? ⟨g, 1, none⟩ = some b ∧ w.cell? ⟨g, 2, none⟩ = some c :=
  ⟨(h.cell 0).trans rfl, (h.cell 1).trans rfl, (h.cell 2).trans rfl⟩
set_option maxHeartbeats 1000000 in
theorem CheckCurve_any (B : Nat) (Af Ab : Option Addr) (nf kf nb kb : Nat) (c : Cur) (w : World) (hf : LI w B Af nf c.feed) (hb : LI w B Ab nb c.back) (hB : B ≤ w.heap.size) (hl : nf ≤ 9223372036854775807) (hl2 : nb ≤ 9223372036854775807) :
    Calls Try.prog 76 #[.agg #[.slice Af nf kf, .slice Ab nb kb, .int .i64 c.share]] w fun e w' => e = .returned (.int .i64 (ckV c)) ∧ Below w.heap.size w w' := by
  have HF := Lib.hid (hf.more hB)
  have HBK := Lib.hid (hb.more hB)
  have HNF := Lib.hid hf.1
  have HNB := Lib.hid hb.1
  clear hf hb hB
  obtain ⟨sh, hsh⟩ : ∃ s, c.share = s := ⟨_, rfl⟩
  rw [hsh]
  have HSH := Lib.hid hsh
  clear hsh
  have hw0 : Below w.heap.size w (w.alloc (.cells #[.slice Af nf kf, .slice Ab nb kb, .int .i64 sh] 24)) := (Below.refl _ _).alloc (Nat.le_refl _) _
  have HW0 := Lib.hid hw0
  have HF0 := Lib.hid (HF.out.below hw0 (Nat.le_refl _))
  have HB0 := Lib.hid (HBK.out.below hw0 (Nat.le_refl _))
  obtain ⟨W, hW⟩ : ∃ W, w.alloc (.cells #[.slice Af nf kf, .slice Ab nb kb, .int .i64 sh] 24) = W := ⟨_, rfl⟩
  have HK := Lib.hid (Blk.new w 24 #[.slice Af nf kf, .slice Ab nb kb, .int .i64 sh])
  clear hw0
  rw [hW] at HW0 HF0 HB0 HK
  have hsz : w.heap.size < W.heap.size := by rw [← hW]; simp
  by_cases a1 : 8 < nf ∨ 8 < nb
  · have hfin : ckV c = 6 := by unfold ckV; rw [if_pos (by have := HNF.out; have := HNB.out; omega)]
    have HFIN := Lib.hid hfin
    clear hfin
    by_cases a2 : 8 < nf
    all_goals
      go_enter Try.func76, Try.ntmps76
      go_upto_region 1 with fail
      try rw [hW]
      clear hW
      obtain ⟨c0, c1, c2⟩ := HK.out.three_
      go_wp2
      go_ret
      exact ⟨ret_i HFIN.out.symm, HW0.out⟩
  · have a2 : nf ≤ 8 := by omega
    have a3 : nb ≤ 8 := by omega
    have hfin : ckV c = if wibs c.feed 4096 = false ∨ wibs c.back 4096 = false then 2 else if sh < 1 ∨ 4096 < sh then 2 else 0 := by unfold ckV; rw [if_neg (by have := HNF.out; have := HNB.out; omega), HSH.out]
    cases v1 : wibs c.feed 4096
    · have hfin : ckV c = 2 := by rw [hfin, v1]; rfl
      have HFIN := Lib.hid hfin
      have HV1 := Lib.hid v1
      clear hfin v1
      go_enter Try.func76, Try.ntmps76
      go_upto_region 1 with fail
      try rw [hW]
      clear hW
      obtain ⟨c0, c1, c2⟩ := HK.out.three_
      go_wp2_with ((with_reducible refine (allWithin_any _ Af nf kf _ _ W HF0.out (by omega) hl (by omega) (by omega)).mono ?_); rintro e w1 ⟨rfl, hb1⟩; rw [HV1.out])
      go_ret
      exact ⟨ret_i HFIN.out.symm, HW0.out.trans (hb1.mono (by omega))⟩
    · cases v2 : wibs c.back 4096
      · have hfin : ckV c = 2 := by rw [hfin, v1, v2]; rfl
        have HFIN := Lib.hid hfin
        have HV1 := Lib.hid v1
        have HV2 := Lib.hid v2
        clear hfin v1 v2
        go_enter Try.func76, Try.ntmps76
        go_upto_region 1 with fail
        try rw [hW]
        clear hW
        obtain ⟨c0, c1, c2⟩ := HK.out.three_
        go_wp2_with (first | ((with_reducible refine (allWithin_any _ Af nf kf _ _ W HF0.out (by omega) hl (by omega) (by omega)).mono ?_); rintro e w1 ⟨rfl, hb1⟩; rw [HV1.out]; obtain ⟨d0, d1, d2⟩ := (HK.out.below hb1 hsz).three_; have hz1 := hb1.size) | ((with_reducible refine (allWithin_any _ Ab nb kb _ _ w1 (HB0.out.below hb1 (by omega)) (by omega) hl2 (by omega) (by omega)).mono ?_); rintro e w2 ⟨rfl, hb2⟩; rw [HV2.out]))
        go_ret
        exact ⟨ret_i HFIN.out.symm, HW0.out.trans ((hb1.trans (hb2.mono (by omega))).mono (by omega))⟩
      · by_cases s1 : sh < 1 ∨ 4096 < sh
        · have hfin : ckV c = 2 := by rw [hfin, v1, v2, if_neg (by simp), if_pos s1]
          have HFIN := Lib.hid hfin
          have HV1 := Lib.hid v1
          have HV2 := Lib.hid v2
          clear hfin v1 v2
          by_cases s2 : sh < 1
          all_goals
            go_enter Try.func76, Try.ntmps76
            go_upto_region 1 with fail
            try rw [hW]
            clear hW
            obtain ⟨c0, c1, c2⟩ := HK.out.three_
            go_wp2_with (first | ((with_reducible refine (allWithin_any _ Af nf kf _ _ W HF0.out (by omega) hl (by omega) (by omega)).mono ?_); rintro e w1 ⟨rfl, hb1⟩; rw [HV1.out]; obtain ⟨d0, d1, d2⟩ := (HK.out.below hb1 hsz).three_; have hz1 := hb1.size) | ((with_reducible refine (allWithin_any _ Ab nb kb _ _ w1 (HB0.out.below hb1 (by omega)) (by omega) hl2 (by omega) (by omega)).mono ?_); rintro e w2 ⟨rfl, hb2⟩; rw [HV2.out]; obtain ⟨f0, f1, f2⟩ := ((HK.out.below hb1 hsz).below hb2 (by omega)).three_))
            go_ret
            exact ⟨ret_i HFIN.out.symm, HW0.out.trans ((hb1.trans (hb2.mono (by omega))).mono (by omega))⟩
        · have hfin : ckV c = 0 := by rw [hfin, v1, v2, if_neg (by simp), if_neg s1]
          have HFIN := Lib.hid hfin
          have HV1 := Lib.hid v1
          have HV2 := Lib.hid v2
          clear hfin v1 v2
          have s2 : 1 ≤ sh := by omega
          have s3 : sh ≤ 4096 := by omega
          clear s1
          go_enter Try.func76, Try.ntmps76
          go_upto_region 1 with fail
          try rw [hW]
          clear hW
          obtain ⟨c0, c1, c2⟩ := HK.out.three_
          go_wp2_with (first | ((with_reducible refine (allWithin_any _ Af nf kf _ _ W HF0.out (by omega) hl (by omega) (by omega)).mono ?_); rintro e w1 ⟨rfl, hb1⟩; rw [HV1.out]; obtain ⟨d0, d1, d2⟩ := (HK.out.below hb1 hsz).three_; have hz1 := hb1.size) | ((with_reducible refine (allWithin_any _ Ab nb kb _ _ w1 (HB0.out.below hb1 (by omega)) (by omega) hl2 (by omega) (by omega)).mono ?_); rintro e w2 ⟨rfl, hb2⟩; rw [HV2.out]; obtain ⟨f0, f1, f2⟩ := ((HK.out.below hb1 hsz).below hb2 (by omega)).three_))
          go_ret
          exact ⟨ret_i HFIN.out.symm, HW0.out.trans ((hb1.trans (hb2.mono (by omega))).mono (by omega))⟩
end Go.Proofs.Ytilihdkfflfniaa
