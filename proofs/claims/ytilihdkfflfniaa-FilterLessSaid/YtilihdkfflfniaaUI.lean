/-
  The document's small, CheckCurve, Signal; valid of the statements of layer 2.
-/
import Derived.Test.YtilihdkfflfniaaUF
import Derived.Test.YtilihdkfflfniaaU6
namespace Go.Proofs.Ytilihdkfflfniaa
open Go.RowKit

theorem wib_lo {x m : Int} (h : x < -m) : wib x m = false := by unfold wib; rw [decide_eq_false (by omega)]; rfl
theorem wib_hi {x m : Int} (h : m < x) : wib x m = false := by unfold wib; rw [decide_eq_false (p := x ≤ m) (by omega), Bool.and_false]
theorem wib_in {x m : Int} (h1 : -m ≤ x) (h2 : x ≤ m) : wib x m = true := by unfold wib; rw [decide_eq_true h1, decide_eq_true h2]; rfl

set_option maxHeartbeats 1000000 in
theorem refSmall_any (B : Nat) (A : Option Addr) (n c : Nat) (xs : List Int) (w : World) (h0 : LI w B A n xs) (hl : n ≤ 9223372036854775807) :
    Calls Try.prog 89 #[.slice A n c] w fun e w' => e = .returned (.bool (wibs xs 4096)) ∧ w = w' := by
  have H := Lib.hid h0
  have HN := Lib.hid h0.1
  clear h0
  go_enter Try.func89, Try.ntmps89
  go_wp2
  go_loop [3] (fun i => ∃ k : Nat, k ≤ n ∧ i = .int .i64 k ∧ Hid (wibs (xs.take k) 4096 = true)) (fun i => n - (intOf i).toNat)
  case atStart => exact ⟨0, Nat.zero_le _, rfl, Lib.hid rfl⟩
  case round =>
    obtain ⟨k, hk, rfl, HV⟩ := hrel
    by_cases hlt : k < n
    · have hx : k < xs.length := by have := HN.out; omega
      obtain ⟨ad, hA, _, p1⟩ := H.out.at_ hx
      obtain rfl := hA
      have HT := Lib.hid (wibs_take xs 4096 k hx)
      have HF := Lib.hid (wibs_false xs 4096 k hx)
      obtain ⟨x, hxx⟩ : ∃ x, xs[k] = x := ⟨_, rfl⟩
      rw [hxx] at p1 HT HF
      clear hxx
      by_cases h1 : x < -4096
      · go_wp2
        go_ret
        exact ⟨ret_b (HF.out (wib_lo h1)).symm, rfl⟩
      · by_cases h2 : 4096 < x
        · go_wp2
          go_ret
          exact ⟨ret_b (HF.out (wib_hi h2)).symm, rfl⟩
        · go_wp2
          go_round
          case rel => exact ⟨k + 1, by omega, by go_num, Lib.hid (by rw [HT.out, HV.out, wib_in (by omega) (by omega)]; rfl)⟩
          case measure => simp [intOf]; omega
    · go_wp2
      go_ret
      have h := HV.out
      rw [List.take_of_length_le (by have := HN.out; omega)] at h
      exact ⟨ret_b h.symm, rfl⟩

set_option maxHeartbeats 1000000 in
theorem refSignal_any (B : Nat) (A : Option Addr) (n c : Nat) (xs : List Int) (w : World) (h0 : LI w B A n xs) (hl : n ≤ 9223372036854775807) :
    Calls Try.prog 52 #[.slice A n c] w fun e w' => e = .returned (.int .i64 (ckX xs)) ∧ w = w' := by
  have H := Lib.hid h0
  have HN := Lib.hid h0.1
  clear h0
  by_cases hl4 : 4096 < n
  · go_enter Try.func52, Try.ntmps52
    go_wp2
    go_ret
    exact ⟨ret_i (by unfold ckX; rw [if_pos (by have := HN.out; omega)]), rfl⟩
  · have HCK : Hid (ckX xs = if wibs xs 32767 then 0 else 3) := Lib.hid (by unfold ckX; rw [if_neg (by have := HN.out; omega)])
    go_enter Try.func52, Try.ntmps52
    go_wp2
    go_loop [3] (fun i => ∃ k : Nat, k ≤ n ∧ i = .int .i64 k ∧ Hid (wibs (xs.take k) 32767 = true)) (fun i => n - (intOf i).toNat)
    case atStart => exact ⟨0, Nat.zero_le _, rfl, Lib.hid rfl⟩
    case round =>
      obtain ⟨k, hk, rfl, HV⟩ := hrel
      by_cases hlt : k < n
      · have hx : k < xs.length := by have := HN.out; omega
        obtain ⟨ad, hA, _, p1⟩ := H.out.at_ hx
        obtain rfl := hA
        have HT := Lib.hid (wibs_take xs 32767 k hx)
        have HF := Lib.hid (wibs_false xs 32767 k hx)
        obtain ⟨x, hxx⟩ : ∃ x, xs[k] = x := ⟨_, rfl⟩
        rw [hxx] at p1 HT HF
        clear hxx
        by_cases h1 : x < -32767
        · go_wp2
          go_ret
          exact ⟨ret_i (by rw [HCK.out, HF.out (wib_lo h1)]; rfl), rfl⟩
        · by_cases h2 : 32767 < x
          · go_wp2
            go_ret
            exact ⟨ret_i (by rw [HCK.out, HF.out (wib_hi h2)]; rfl), rfl⟩
          · go_wp2
            go_round
            case rel => exact ⟨k + 1, by omega, by go_num, Lib.hid (by rw [HT.out, HV.out, wib_in (by omega) (by omega)]; rfl)⟩
            case measure => simp [intOf]; omega
      · go_wp2
        go_ret
        have h := HV.out
        rw [List.take_of_length_le (by have := HN.out; omega)] at h
        exact ⟨ret_i (by rw [HCK.out, h]; rfl), rfl⟩

/-- 2 unless all is fine. -/
def ckV2 (a b : Bool) (sh : Int) : Int := if a = false ∨ b = false then 2 else if sh < 1 ∨ 4096 < sh then 2 else 0
set_option maxHeartbeats 2000000 in
theorem refCheckCurve_any (B : Nat) (t : CV) (w : World) (hc : CI w B t) (hB : B ≤ w.heap.size) (hs : t.nf ≤ 9223372036854775807 ∧ t.nb ≤ 9223372036854775807) :
    Calls Try.prog 74 #[.agg #[.slice t.Af t.nf t.kf, .slice t.Ab t.nb t.kb, .int .i64 t.c.share]] w fun e w' => e = .returned (.int .i64 (ckV t.c)) ∧ Below w.heap.size w w' := by
  obtain ⟨Af, nf, kf, Ab, nb, kb, c⟩ := t
  obtain ⟨hf, hb⟩ := hc
  obtain ⟨s1, s2⟩ := hs
  dsimp only at hf hb s1 s2 ⊢
  have HF := Lib.hid (hf.more hB)
  have HBK := Lib.hid (hb.more hB)
  have HNF := Lib.hid hf.1
  have HNB := Lib.hid hb.1
  clear hf hb hB
  obtain ⟨sh, hsh⟩ : ∃ s, c.share = s := ⟨_, rfl⟩
  have HV : Hid (ckV c = if 8 < nf ∨ 8 < nb then 6 else ckV2 (wibs c.feed 4096) (wibs c.back 4096) sh) := Lib.hid (by unfold ckV ckV2; rw [← HNF.out, ← HNB.out, hsh])
  rw [hsh]
  clear hsh
  obtain ⟨v1, hv1⟩ : ∃ v, wibs c.feed 4096 = v := ⟨_, rfl⟩
  obtain ⟨v2, hv2⟩ : ∃ v, wibs c.back 4096 = v := ⟨_, rfl⟩
  have SF := Lib.hid (fun W (h : Below w.heap.size w W) => refSmall_any w.heap.size Af nf kf c.feed W (HF.out.below h (Nat.le_refl _)) s1)
  have SB := Lib.hid (fun W (h : Below w.heap.size w W) => refSmall_any w.heap.size Ab nb kb c.back W (HBK.out.below h (Nat.le_refl _)) s2)
  rw [hv1] at HV SF
  rw [hv2] at HV SB
  clear hv1 hv2
  obtain ⟨W, hW⟩ : ∃ W, w.alloc (.cells #[.slice Af nf kf, .slice Ab nb kb, .int .i64 sh] 24) = W := ⟨_, rfl⟩
  have HB : Hid (Below w.heap.size w W) := Lib.hid (by rw [← hW]; exact (Below.refl _ _).alloc (Nat.le_refl _) _)
  have hk : Blk W w.heap.size 24 #[.slice Af nf kf, .slice Ab nb kb, .int .i64 sh] := by rw [← hW]; exact Blk.new _ _ _
  obtain ⟨c0, c1, c2⟩ := hk.three_
  clear hk
  by_cases a1 : 8 < nf
  · go_enter Try.func74, Try.ntmps74
    go_upto_region 1 with fail
    try rw [hW]
    clear hW
    go_wp2
    go_ret
    exact ⟨ret_i (by rw [HV.out, if_pos (.inl a1)]), HB.out⟩
  · by_cases a2 : 8 < nb
    · go_enter Try.func74, Try.ntmps74
      go_upto_region 1 with fail
      try rw [hW]
      clear hW
      go_wp2
      go_ret
      exact ⟨ret_i (by rw [HV.out, if_pos (.inr a2)]), HB.out⟩
    · cases v1
      · go_enter Try.func74, Try.ntmps74
        go_upto_region 1 with fail
        try rw [hW]
        clear hW
        go_wp2_with ((with_reducible refine (SF.out _ HB.out).mono ?_); rintro e w' ⟨rfl, rfl⟩)
        go_ret
        exact ⟨ret_i (by rw [HV.out, if_neg (by omega)]; rfl), HB.out⟩
      · cases v2
        · go_enter Try.func74, Try.ntmps74
          go_upto_region 1 with fail
          try rw [hW]
          clear hW
          go_wp2_with (first | ((with_reducible refine (SF.out _ HB.out).mono ?_); rintro e w' ⟨rfl, rfl⟩) | ((with_reducible refine (SB.out _ HB.out).mono ?_); rintro e w' ⟨rfl, rfl⟩))
          go_ret
          exact ⟨ret_i (by rw [HV.out, if_neg (by omega)]; rfl), HB.out⟩
        · by_cases b1 : sh < 1
          · go_enter Try.func74, Try.ntmps74
            go_upto_region 1 with fail
            try rw [hW]
            clear hW
            go_wp2_with (first | ((with_reducible refine (SF.out _ HB.out).mono ?_); rintro e w' ⟨rfl, rfl⟩) | ((with_reducible refine (SB.out _ HB.out).mono ?_); rintro e w' ⟨rfl, rfl⟩))
            go_ret
            exact ⟨ret_i (by rw [HV.out, if_neg (by omega)]; unfold ckV2; rw [if_neg (by simp), if_pos (.inl b1)]), HB.out⟩
          · by_cases b2 : 4096 < sh
            · go_enter Try.func74, Try.ntmps74
              go_upto_region 1 with fail
              try rw [hW]
              clear hW
              go_wp2_with (first | ((with_reducible refine (SF.out _ HB.out).mono ?_); rintro e w' ⟨rfl, rfl⟩) | ((with_reducible refine (SB.out _ HB.out).mono ?_); rintro e w' ⟨rfl, rfl⟩))
              go_ret
              exact ⟨ret_i (by rw [HV.out, if_neg (by omega)]; unfold ckV2; rw [if_neg (by simp), if_pos (.inr b2)]), HB.out⟩
            · go_enter Try.func74, Try.ntmps74
              go_upto_region 1 with fail
              try rw [hW]
              clear hW
              go_wp2_with (first | ((with_reducible refine (SF.out _ HB.out).mono ?_); rintro e w' ⟨rfl, rfl⟩) | ((with_reducible refine (SB.out _ HB.out).mono ?_); rintro e w' ⟨rfl, rfl⟩))
              go_ret
              exact ⟨ret_i (by rw [HV.out, if_neg (by omega)]; unfold ckV2; rw [if_neg (by simp), if_neg (by omega)]), HB.out⟩

/-- Whether a curve and a signal are valid, and not too long. -/
def vldF (c : Cur) (xs : List Int) (most : Nat) : Bool := decide (xs.length ≤ most) && (ckV c == 0) && (ckX xs == 0)
set_option maxHeartbeats 1000000 in
theorem valid_any (B : Nat) (t : CV) (Ax : Option Addr) (nx kx : Nat) (xs : List Int) (most : Nat) (w : World) (hc : CI w B t) (hX : LI w B Ax nx xs) (hB : B ≤ w.heap.size) (hlx : nx ≤ 9223372036854775807) (hs : t.nf ≤ 9223372036854775807 ∧ t.nb ≤ 9223372036854775807) :
    Calls Try.prog 41 #[.agg #[.slice t.Af t.nf t.kf, .slice t.Ab t.nb t.kb, .int .i64 t.c.share], .slice Ax nx kx, .int .i64 most] w fun e w' => e = .returned (.bool (vldF t.c xs most)) ∧ Below w.heap.size w w' := by
  have HC := Lib.hid (hc.more hB)
  have HX := Lib.hid (hX.more hB)
  have HNX := Lib.hid hX.1
  clear hc hX hB
  have HV : Hid (vldF t.c xs most = (decide (nx ≤ most) && (ckV t.c == 0) && (ckX xs == 0))) := Lib.hid (by unfold vldF; rw [← HNX.out])
  obtain ⟨W, hW⟩ : ∃ W, w.alloc (.cells #[.slice t.Af t.nf t.kf, .slice t.Ab t.nb t.kb, .int .i64 t.c.share] 24) = W := ⟨_, rfl⟩
  have hbw : Below w.heap.size w W := by rw [← hW]; exact (Below.refl _ _).alloc (Nat.le_refl _) _
  have hk : Blk W w.heap.size 24 #[.slice t.Af t.nf t.kf, .slice t.Ab t.nb t.kb, .int .i64 t.c.share] := by rw [← hW]; exact Blk.new _ _ _
  have CK := refCheckCurve_any W.heap.size t W ((HC.out.below hbw (Nat.le_refl _)).more hbw.size) (Nat.le_refl _) hs
  have SG := Lib.hid (fun W' (h : Below w.heap.size w W') => refSignal_any w.heap.size Ax nx kx xs W' (HX.out.below h (Nat.le_refl _)) hlx)
  obtain ⟨e1, he1⟩ : ∃ e, ckV t.c = e := ⟨_, rfl⟩
  obtain ⟨e2, he2⟩ : ∃ e, ckX xs = e := ⟨_, rfl⟩
  rw [he1] at CK HV
  rw [he2] at SG HV
  have CK := Lib.hid CK
  have HBW := Lib.hid hbw
  have hsz := hbw.size
  clear he1 he2 hbw
  obtain ⟨c0, c1, c2⟩ := hk.three_
  clear hk
  by_cases a1 : nx ≤ most
  · by_cases a2 : e1 = 0
    · subst a2
      have r1 : (e2 == 0) = (e2 == 0) := rfl
      cases a3 : (e2 == 0)
      all_goals
        have HA := Lib.hid a3
        go_enter Try.func41, Try.ntmps41
        go_upto_region 1 with fail
        try rw [hW]
        clear hW
        go_wp2_with (first | ((with_reducible refine CK.out.mono ?_); rintro e w1 ⟨rfl, hb1⟩; have HB1 := Lib.hid (HBW.out.trans (hb1.mono hsz)); clear hb1) | ((with_reducible refine (SG.out _ HB1.out).mono ?_); rintro e w2 ⟨rfl, rfl⟩))
        go_ret
        exact ⟨ret_b (by rw [HV.out, HA.out, decide_eq_true a1]; rfl), HB1.out⟩
    · have a3 : (e1 == 0) = false := beq_eq_false_iff_ne.2 a2
      have HA := Lib.hid a3
      go_enter Try.func41, Try.ntmps41
      go_upto_region 1 with fail
      try rw [hW]
      clear hW
      go_wp2_with ((with_reducible refine CK.out.mono ?_); rintro e w1 ⟨rfl, hb1⟩; have HB1 := Lib.hid (HBW.out.trans (hb1.mono hsz)); clear hb1)
      go_ret
      exact ⟨ret_b (by rw [HV.out, HA.out, Bool.and_false, Bool.false_and]), HB1.out⟩
  · go_enter Try.func41, Try.ntmps41
    go_upto_region 1 with fail
    try rw [hW]
    clear hW
    go_wp2
    go_ret
    exact ⟨ret_b (by rw [HV.out, decide_eq_false a1, Bool.false_and, Bool.false_and]), HBW.out⟩
theorem vldF_ok {c : Cur} {xs : List Int} {most : Nat} (h : vldF c xs most = true) : xs.length ≤ most ∧ ckV c = 0 ∧ ckX xs = 0 := by
  unfold vldF at h
  simp only [Bool.and_eq_true, decide_eq_true_eq, beq_iff_eq] at h
  exact ⟨h.1.1, h.1.2, h.2⟩
theorem one_er {c : Cur} {xs : List Int} (h1 : ckV c = 0) (h2 : ckX xs = 0) : chEr [c] xs = 0 := by
  have e : ckCs [c] = 0 := by unfold ckCs; rw [if_neg (by simp)]; unfold errs; rw [if_pos h1]; rfl
  unfold chEr orL
  rw [if_pos e]
  unfold orL
  rw [if_pos h2]; rfl
theorem one_some {c : Cur} {xs ys : List Int} {d : Bool} (h : chEr [c] xs = 0) (hy : chain d [c] xs = some ys) : oneRes d c xs = ys ∧ oneErr d c xs = 0 := by
  unfold oneRes oneErr chRes chErr
  rw [if_pos h, if_pos h, hy]
  exact ⟨rfl, by simp⟩
theorem one_none {c : Cur} {xs : List Int} {d : Bool} (h : chEr [c] xs = 0) (hy : chain d [c] xs = none) : oneRes d c xs = [] ∧ oneErr d c xs = 4 := by
  unfold oneRes oneErr chRes chErr
  rw [if_pos h, if_pos h, hy]
  exact ⟨rfl, by simp⟩
theorem chain_one (d : Bool) (c : Cur) (xs : List Int) : chain d [c] xs = run1 d 32767 c [] xs := by
  unfold chain
  cases d <;> exact thr_one _ _ _ _ _
theorem ckX_mk {xs : List Int} (h1 : xs.length ≤ 4096) (h2 : ∀ x ∈ xs, wib x 32767 = true) : ckX xs = 0 := by
  unfold ckX
  rw [if_neg (by omega), if_pos (by unfold wibs; rw [List.all_eq_true]; exact h2)]
/-- What a curve made is undone. -/
theorem chain_back {d : Bool} {c : Cur} {x y : List Int} (hx : ckX x = 0) (h : chain d [c] x = some y) : chain (!d) [c] y = some x ∧ ckX y = 0 ∧ y.length = x.length := by
  obtain ⟨h1, h2⟩ := ckX_ok hx
  rw [chain_one] at h ⊢
  obtain ⟨h3, h4, h5⟩ := run1_back h2 h
  exact ⟨h3, ckX_mk (by omega) h5, h4⟩
end Go.Proofs.Ytilihdkfflfniaa
