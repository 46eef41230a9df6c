/-
  The checks of programmes and limiters of package filter.
-/
import Derived.Test.YtilihdkfflfniaaU1
import Derived.Test.YtilihdkfflfniaaSm
import Derived.Test.YtilihdkfflfniaaOr
namespace Go.Proofs.Ytilihdkfflfniaa
open Go.RowKit

theorem wib_vs (l r : Int) : (wib l 32767 && wib r 32767) = vs l r := rfl
set_option maxHeartbeats 400000 in
theorem fvalidSample_any (l r : Int) (w : World) :
    Calls Try.prog 83 #[.agg #[.int .i64 l, .int .i64 r]] w fun e w' => e = .returned (.bool (vs l r)) ∧ Below w.heap.size w w' := by
  rw [← wib_vs]
  cases h1 : wib l 32767 <;> cases h2 : wib r 32767
  all_goals
    have H1 := Lib.hid h1
    have H2 := Lib.hid h2
    clear h1 h2
    go_enter Try.func83, Try.ntmps83
    go_wp2_with ((with_reducible refine (fwithin_any _ _ _ (by omega) (by omega)).mono ?_); rintro e w' ⟨rfl, rfl⟩; first | rw [H1.out] | rw [H2.out])
    go_ret
    exact ⟨rfl, (Below.refl _ _).alloc (Nat.le_refl _) _⟩

/-- 0: fine · 6: too many · 3: out of range. -/
def ckQ (xs : List Smp) : Int := if 4096 < xs.length then 6 else if vss xs then 0 else 3
set_option maxHeartbeats 1000000 in
theorem checkProgramme_any (B : Nat) (A : Option Addr) (n c : Nat) (xs : List Smp) (w : World) (h0 : RS w B A n xs) (hB : B ≤ w.heap.size) (hl : n ≤ 9223372036854775807) :
    Calls Try.prog 55 #[.slice A n c] w fun e w' => e = .returned (.int .i64 (ckQ xs)) ∧ Below w.heap.size w w' := by
  have H := Lib.hid (h0.more hB)
  have HN := Lib.hid h0.1
  clear hB h0
  by_cases hl2 : 4096 < n
  · go_enter Try.func55, Try.ntmps55
    go_wp2
    go_ret
    exact ⟨ret_i (by unfold ckQ; rw [if_pos (by have := HN.out; omega)]), Below.refl _ _⟩
  · have hck : ckQ xs = if vss xs then 0 else 3 := by unfold ckQ; rw [if_neg (by have := HN.out; omega)]
    have HCK := Lib.hid hck
    clear hck
    go_enter Try.func55, Try.ntmps55
    go_wp2
    go_loopw [10] (fun i wr => ∃ k : Nat, k ≤ n ∧ i = .int .i64 k ∧ Below w.heap.size w wr ∧ vss (xs.take k) = true) (fun i wr => n - (intOf i).toNat)
    case atStart => exact ⟨0, Nat.zero_le _, rfl, Below.refl _ _, rfl⟩
    case round =>
      obtain ⟨k, hk, rfl, hb, hv⟩ := hrel
      by_cases hlt : k < n
      · obtain ⟨ad, hA, hbl, h1, h2⟩ := (H.out.below hb (Nat.le_refl _)).at_ (k := k) (by have := HN.out; omega)
        obtain rfl := hA
        cases hx : vs xs[k].1 xs[k].2
        all_goals
          have HX := Lib.hid hx
          clear hx
          go_wp2_with ((with_reducible refine (fvalidSample_any _ _ _).mono ?_); rintro e w' ⟨rfl, hb1⟩; (try rw [HX.out]))
        · go_ret
          exact ⟨ret_i (by rw [HCK.out, vss_false xs k (by have := HN.out; omega) HX.out]; rfl), (hb.alloc hb.size _).trans (hb1.mono (by have := hb.size; simp; omega))⟩
        · go_roundw
          case rel =>
            refine ⟨k + 1, by omega, by go_num, (hb.alloc hb.size _).trans (hb1.mono (by have := hb.size; simp; omega)), ?_⟩
            rw [vss_take xs k (by have := HN.out; omega), hv, HX.out]; rfl
          case measure => simp [intOf]; omega
      · go_wp2
        go_ret
        rw [List.take_of_length_le (by have := HN.out; omega)] at hv
        exact ⟨ret_i (by rw [HCK.out, hv]; rfl), hb⟩

def rngE (x lo hi : Int) : Int := if x < lo ∨ hi < x then 3 else 0
set_option maxHeartbeats 400000 in
theorem fcheckRange_any (x lo hi : Int) (w : World) :
    Calls Try.prog 86 #[.int .i64 x, .int .i64 lo, .int .i64 hi] w fun e w' => e = .returned (.int .i64 (rngE x lo hi)) ∧ w = w' := by
  unfold rngE
  by_cases h1 : x < lo
  · rw [if_pos (.inl h1)]
    go_enter Try.func86, Try.ntmps86
    go_wp2
    go_ret
    exact ⟨rfl, rfl⟩
  · by_cases h2 : hi < x
    · rw [if_pos (.inr h2)]
      go_enter Try.func86, Try.ntmps86
      go_wp2
      go_ret
      exact ⟨rfl, rfl⟩
    · rw [if_neg (by omega)]
      go_enter Try.func86, Try.ntmps86
      go_wp2
      go_ret
      exact ⟨rfl, rfl⟩
def ckCe (xs : List Smp) (ce : Int) : Int := orL [ckQ xs, rngE ce 1 32767]
def ckLi (xs : List Smp) (ce st : Int) : Int := orL [ckCe xs ce, rngE st 0 256]
set_option maxHeartbeats 400000 in
theorem checkCeiling_any (B : Nat) (A : Option Addr) (n c : Nat) (xs : List Smp) (ce : Int) (w : World) (h0 : RS w B A n xs) (hB : B ≤ w.heap.size) (hl : n ≤ 9223372036854775807) :
    Calls Try.prog 69 #[.slice A n c, .int .i64 ce] w fun e w' => e = .returned (.int .i64 (ckCe xs ce)) ∧ Below w.heap.size w w' := by
  have H := Lib.hid (h0.more hB)
  clear hB h0
  have HCE : Hid (ckCe xs ce = orL [ckQ xs, rngE ce 1 32767]) := Lib.hid rfl
  obtain ⟨e1, he1⟩ : ∃ e, ckQ xs = e := ⟨_, rfl⟩
  obtain ⟨e2, he2⟩ : ∃ e, rngE ce 1 32767 = e := ⟨_, rfl⟩
  have HOR := Lib.hid (fun B A n c W h1 h2 h3 h4 => cmpOr_any B A n c [e1, e2] W h1 h2 h3 h4)
  rw [he1, he2] at HCE
  have HE1 := Lib.hid he1
  have HE2 := Lib.hid he2
  clear he1 he2
  go_enter Try.func69, Try.ntmps69
  go_wp2_with fail
  refine (checkProgramme_any _ A n c xs _ H.out (Nat.le_refl _) hl).mono ?_
  rintro e w1 ⟨rfl, hb1⟩
  rw [HE1.out]
  go_wp2_with fail
  refine (fcheckRange_any _ _ _ _).mono ?_
  rintro e w2 ⟨rfl, rfl⟩
  rw [HE2.out]
  go_wp2_with fail
  refine (HOR.out _ _ _ _ _ rfl (reads_cells (blk_al rfl) (Nat.lt_succ_self _) (by rfl) (by rfl)) (by simp) (by simp)).mono ?_
  rintro e w' ⟨rfl, rfl⟩
  go_wp2
  go_ret
  exact ⟨ret_i HCE.out.symm, hb1.alloc hb1.size _⟩
set_option maxHeartbeats 400000 in
theorem checkLimiter_any (B : Nat) (A : Option Addr) (n c : Nat) (xs : List Smp) (ce st : Int) (w : World) (h0 : RS w B A n xs) (hB : B ≤ w.heap.size) (hl : n ≤ 9223372036854775807) :
    Calls Try.prog 65 #[.slice A n c, .int .i64 ce, .int .i64 st] w fun e w' => e = .returned (.int .i64 (ckLi xs ce st)) ∧ Below w.heap.size w w' := by
  have H := Lib.hid (h0.more hB)
  clear hB h0
  have HCE : Hid (ckLi xs ce st = orL [ckCe xs ce, rngE st 0 256]) := Lib.hid rfl
  obtain ⟨e1, he1⟩ : ∃ e, ckCe xs ce = e := ⟨_, rfl⟩
  obtain ⟨e2, he2⟩ : ∃ e, rngE st 0 256 = e := ⟨_, rfl⟩
  have HOR := Lib.hid (fun B A n c W h1 h2 h3 h4 => cmpOr_any B A n c [e1, e2] W h1 h2 h3 h4)
  rw [he1, he2] at HCE
  have HE1 := Lib.hid he1
  have HE2 := Lib.hid he2
  clear he1 he2
  go_enter Try.func65, Try.ntmps65
  go_wp2_with fail
  refine (checkCeiling_any _ A n c xs ce _ H.out (Nat.le_refl _) hl).mono ?_
  rintro e w1 ⟨rfl, hb1⟩
  rw [HE1.out]
  go_wp2_with fail
  refine (fcheckRange_any _ _ _ _).mono ?_
  rintro e w2 ⟨rfl, rfl⟩
  rw [HE2.out]
  go_wp2_with fail
  refine (HOR.out _ _ _ _ _ rfl (reads_cells (blk_al rfl) (Nat.lt_succ_self _) (by rfl) (by rfl)) (by simp) (by simp)).mono ?_
  rintro e w' ⟨rfl, rfl⟩
  go_wp2
  go_ret
  exact ⟨ret_i HCE.out.symm, hb1.alloc hb1.size _⟩
end Go.Proofs.Ytilihdkfflfniaa
