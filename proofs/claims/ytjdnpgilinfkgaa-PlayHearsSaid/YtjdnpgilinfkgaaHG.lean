/-
  Wow, on both sides.
-/
import Derived.Test.YtjdnpgilinfkgaaND
namespace Go.Proofs.Ytjdnpgilinfkgaa
open Go.RowKit

/-- By how many samples a groove is early or late at most, as it is reckoned. -/
def woV (off r per : Int) : Int := IntKind.i64.wrap ((IntKind.i64.wrap (IntKind.i64.wrap (IntKind.i64.wrap (IntKind.i64.wrap (off * 113) * per) + IntKind.i64.wrap (710 * r)) - 1)).tdiv (IntKind.i64.wrap (710 * r)))
def woOk (off r per : Int) : Bool := win off 0 4194304 && win r 0 4194304 && win per 1 65536
def woC (off r per : Int) : Int := if woOk off r per then (if r = 0 then 9 else 0) else 3
def woEr (off r per : Int) : Int := if woC off r per = 0 then (if 256 < woV off r per then 14 else 0) else woC off r per
def woRes (off r per : Int) : Int := if woEr off r per = 0 then woV off r per else 0
theorem woC_z {off r per : Int} (h : woC off r per = 0) : 0 < r ∧ r ≤ 4194304 := by
  unfold woC at h
  split at h
  · rename_i h1
    split at h
    · cases h
    · unfold woOk win at h1
      simp only [Bool.and_eq_true, decide_eq_true_eq] at h1
      omega
  · cases h

set_option maxRecDepth 100000 in
set_option maxHeartbeats 1000000 in
theorem early_any (off r per : Int) (w : World) (h : 0 < r ∧ r ≤ 4194304) :
    Calls Try.prog 59 #[.int .i64 off, .int .i64 r, .int .i64 per] w fun e w' => e = .returned (.int .i64 (woV off r per)) ∧ w = w' := by
  have hv : woV off r per = IntKind.i64.wrap ((IntKind.i64.wrap (IntKind.i64.wrap (IntKind.i64.wrap (IntKind.i64.wrap (off * 113) * per) + IntKind.i64.wrap (710 * r)) - 1)).tdiv (IntKind.i64.wrap (710 * r))) := rfl
  have h0 : IntKind.i64.wrap (710 * r) ≠ 0 := by rw [IntWalk.i64_in _ (by omega)]; omega
  obtain ⟨x1, h1⟩ : ∃ x, IntKind.i64.wrap (off * 113) = x := ⟨_, rfl⟩
  rw [h1] at hv
  obtain ⟨x2, h2⟩ : ∃ x, IntKind.i64.wrap (x1 * per) = x := ⟨_, rfl⟩
  rw [h2] at hv
  obtain ⟨x3, h3⟩ : ∃ x, IntKind.i64.wrap (710 * r) = x := ⟨_, rfl⟩
  rw [h3] at hv h0
  obtain ⟨x4, h4⟩ : ∃ x, IntKind.i64.wrap (x2 + x3) = x := ⟨_, rfl⟩
  rw [h4] at hv
  obtain ⟨x5, h5⟩ : ∃ x, IntKind.i64.wrap (x4 - 1) = x := ⟨_, rfl⟩
  rw [h5] at hv
  obtain ⟨x6, h6⟩ : ∃ x, x5.tdiv x3 = x := ⟨_, rfl⟩
  rw [h6] at hv
  obtain ⟨x7, h7⟩ : ∃ x, IntKind.i64.wrap x6 = x := ⟨_, rfl⟩
  rw [h7] at hv
  have HV := Lib.hid hv
  have q0 : (x3 == 0) = false := beq_eq_false_iff_ne.2 h0
  clear hv h
  go_enter Try.func59, Try.ntmps59
  go_wp2
  go_ret
  exact ⟨ret_i HV.out.symm, rfl⟩

set_option maxRecDepth 100000 in
set_option maxHeartbeats 2000000 in
theorem checkOffset_any (off r per : Int) (w : World) :
    Calls Try.prog 58 #[.int .i64 off, .int .i64 r, .int .i64 per] w fun e w' => e = .returned (.int .i64 (woC off r per)) ∧ w = w' := by
  cases h1 : win off 0 4194304 <;> cases h2 : win r 0 4194304 <;> cases h3 : win per 1 65536
  all_goals
    have H1 := Lib.hid h1
    have H2 := Lib.hid h2
    have H3 := Lib.hid h3
    have hr : woC off r per = if (win off 0 4194304 && win r 0 4194304 && win per 1 65536) then (if r = 0 then 9 else 0) else 3 := rfl
    simp only [h1, h2, h3, Bool.and_true, Bool.and_false, if_true, if_false, Bool.false_eq_true] at hr
    have HR := Lib.hid hr
    clear h1 h2 h3 hr
    by_cases hz : r = 0
    all_goals
      have q1 : (r == 0) = decide (r = 0) := by by_cases h : r = 0 <;> simp [h]
      first
      | rw [decide_eq_true hz] at q1
      | rw [decide_eq_false hz] at q1
      have HZ := Lib.hid hz
      clear hz
      go_enter Try.func58, Try.ntmps58
      go_wp2_with ((with_reducible refine (betweenP_any _ _ _ _).mono ?_); rintro e w' ⟨rfl, rfl⟩; (try rw [H1.out]); (try rw [H2.out]); (try rw [H3.out]))
      go_ret
      exact ⟨ret_i (by rw [HR.out]; (try simp [HZ.out])), rfl⟩

set_option maxRecDepth 100000 in
set_option maxHeartbeats 2000000 in
theorem Wow_any (off r per : Int) (w : World) :
    Calls Try.prog 24 #[.int .i64 off, .int .i64 r, .int .i64 per] w fun e w' => e = .returned (.tuple #[.int .i64 (woRes off r per), .int .i64 (woEr off r per)]) ∧ w = w' := by
  have CO := Lib.hid (fun W => checkOffset_any off r per W)
  have CE := Lib.hid (fun W h => early_any off r per W h)
  have HC := Lib.hid (@woC_z off r per)
  have her : woEr off r per = if woC off r per = 0 then (if 256 < woV off r per then 14 else 0) else woC off r per := rfl
  have hrs : woRes off r per = if woEr off r per = 0 then woV off r per else 0 := rfl
  obtain ⟨c, hc⟩ : ∃ c, woC off r per = c := ⟨_, rfl⟩
  obtain ⟨v, hv⟩ : ∃ v, woV off r per = v := ⟨_, rfl⟩
  rw [hc] at CO HC her
  rw [hv] at CE her hrs
  by_cases hz : c = 0
  · subst hz
    have hrr := HC.out rfl
    by_cases h5 : 256 < v
    · have HE : Hid (woEr off r per = 14 ∧ woRes off r per = 0) := Lib.hid ⟨by rw [her, if_pos rfl, if_pos h5], by rw [hrs, her, if_pos rfl, if_pos h5]; rfl⟩
      have d5 : decide (256 < v) = true := decide_eq_true h5
      clear her hrs hc hv HC
      go_enter Try.func24, Try.ntmps24
      go_wp2_with fail
      refine (CO.out _).mono ?_
      rintro e w1 ⟨rfl, rfl⟩
      go_wp2_with fail
      refine (CE.out _ hrr).mono ?_
      rintro e w1 ⟨rfl, rfl⟩
      go_wp2
      go_ret2
      exact ⟨by rw [HE.out.1, HE.out.2]; rfl, rfl⟩
    · have HE : Hid (woEr off r per = 0 ∧ woRes off r per = v) := Lib.hid ⟨by rw [her, if_pos rfl, if_neg h5], by rw [hrs, her, if_pos rfl, if_neg h5, if_pos rfl]⟩
      have d5 : decide (256 < v) = false := decide_eq_false h5
      clear her hrs hc hv HC
      go_enter Try.func24, Try.ntmps24
      go_wp2_with fail
      refine (CO.out _).mono ?_
      rintro e w1 ⟨rfl, rfl⟩
      go_wp2_with fail
      refine (CE.out _ hrr).mono ?_
      rintro e w1 ⟨rfl, rfl⟩
      go_wp2
      go_ret2
      exact ⟨by rw [HE.out.1, HE.out.2]; rfl, rfl⟩
  · have HE : Hid (woEr off r per = c ∧ woRes off r per = 0) := Lib.hid ⟨by rw [her, if_neg hz], by rw [hrs, her, if_neg hz, if_neg hz]⟩
    have q1 : (c != 0) = true := by rw [bne_iff_ne]; exact hz
    have q2 : (c == 0) = false := beq_eq_false_iff_ne.2 hz
    clear her hrs hc hv HC hz
    go_enter Try.func24, Try.ntmps24
    go_wp2_with fail
    refine (CO.out _).mono ?_
    rintro e w1 ⟨rfl, rfl⟩
    go_wp2
    go_ret2
    exact ⟨by rw [HE.out.1, HE.out.2]; rfl, rfl⟩

set_option maxRecDepth 100000 in
set_option maxHeartbeats 4000000 in
theorem refWow_any (off r per : Int) (w : World) :
    Calls Try.prog 25 #[.int .i64 off, .int .i64 r, .int .i64 per] w fun e w' => e = .returned (.tuple #[.int .i64 (woRes off r per), .int .i64 (woEr off r per)]) ∧ w = w' := by
  have her : woEr off r per = if woC off r per = 0 then (if 256 < woV off r per then 14 else 0) else woC off r per := rfl
  have hrs : woRes off r per = if woEr off r per = 0 then woV off r per else 0 := rfl
  have hcc : woC off r per = if woOk off r per then (if r = 0 then 9 else 0) else 3 := rfl
  have hok : woOk off r per = (decide (0 ≤ off) && decide (off ≤ 4194304) && (decide (0 ≤ r) && decide (r ≤ 4194304)) && (decide (1 ≤ per) && decide (per ≤ 65536))) := rfl
  by_cases a0 : off < 0
  · have b0 : decide (off < 0) = true := decide_eq_true a0
    have HE : Hid (woEr off r per = 3 ∧ woRes off r per = 0) := Lib.hid (by
      have hk : woOk off r per = false := by rw [hok]; simp only [Bool.and_eq_false_iff, decide_eq_false_iff_not]; omega
      have hc : woC off r per = 3 := by rw [hcc, hk]; rfl
      have h1 : woEr off r per = 3 := by rw [her, hc]; rfl
      exact ⟨h1, by rw [hrs, h1]; rfl⟩)
    clear her hrs hcc hok
    go_enter Try.func25, Try.ntmps25
    go_wp2
    go_ret2
    exact ⟨by rw [HE.out.1, HE.out.2]; rfl, rfl⟩
  · have b0 : decide (off < 0) = false := decide_eq_false a0
    by_cases a1 : 4194304 < off
    · have b1 : decide (4194304 < off) = true := decide_eq_true a1
      have HE : Hid (woEr off r per = 3 ∧ woRes off r per = 0) := Lib.hid (by
        have hk : woOk off r per = false := by rw [hok]; simp only [Bool.and_eq_false_iff, decide_eq_false_iff_not]; omega
        have hc : woC off r per = 3 := by rw [hcc, hk]; rfl
        have h1 : woEr off r per = 3 := by rw [her, hc]; rfl
        exact ⟨h1, by rw [hrs, h1]; rfl⟩)
      clear her hrs hcc hok
      go_enter Try.func25, Try.ntmps25
      go_wp2
      go_ret2
      exact ⟨by rw [HE.out.1, HE.out.2]; rfl, rfl⟩
    · have b1 : decide (4194304 < off) = false := decide_eq_false a1
      by_cases a2 : r < 0
      · have b2 : decide (r < 0) = true := decide_eq_true a2
        have HE : Hid (woEr off r per = 3 ∧ woRes off r per = 0) := Lib.hid (by
          have hk : woOk off r per = false := by rw [hok]; simp only [Bool.and_eq_false_iff, decide_eq_false_iff_not]; omega
          have hc : woC off r per = 3 := by rw [hcc, hk]; rfl
          have h1 : woEr off r per = 3 := by rw [her, hc]; rfl
          exact ⟨h1, by rw [hrs, h1]; rfl⟩)
        clear her hrs hcc hok
        go_enter Try.func25, Try.ntmps25
        go_wp2
        go_ret2
        exact ⟨by rw [HE.out.1, HE.out.2]; rfl, rfl⟩
      · have b2 : decide (r < 0) = false := decide_eq_false a2
        by_cases a3 : 4194304 < r
        · have b3 : decide (4194304 < r) = true := decide_eq_true a3
          have HE : Hid (woEr off r per = 3 ∧ woRes off r per = 0) := Lib.hid (by
            have hk : woOk off r per = false := by rw [hok]; simp only [Bool.and_eq_false_iff, decide_eq_false_iff_not]; omega
            have hc : woC off r per = 3 := by rw [hcc, hk]; rfl
            have h1 : woEr off r per = 3 := by rw [her, hc]; rfl
            exact ⟨h1, by rw [hrs, h1]; rfl⟩)
          clear her hrs hcc hok
          go_enter Try.func25, Try.ntmps25
          go_wp2
          go_ret2
          exact ⟨by rw [HE.out.1, HE.out.2]; rfl, rfl⟩
        · have b3 : decide (4194304 < r) = false := decide_eq_false a3
          by_cases a4 : per < 1
          · have b4 : decide (per < 1) = true := decide_eq_true a4
            have HE : Hid (woEr off r per = 3 ∧ woRes off r per = 0) := Lib.hid (by
              have hk : woOk off r per = false := by rw [hok]; simp only [Bool.and_eq_false_iff, decide_eq_false_iff_not]; omega
              have hc : woC off r per = 3 := by rw [hcc, hk]; rfl
              have h1 : woEr off r per = 3 := by rw [her, hc]; rfl
              exact ⟨h1, by rw [hrs, h1]; rfl⟩)
            clear her hrs hcc hok
            go_enter Try.func25, Try.ntmps25
            go_wp2
            go_ret2
            exact ⟨by rw [HE.out.1, HE.out.2]; rfl, rfl⟩
          · have b4 : decide (per < 1) = false := decide_eq_false a4
            by_cases a5 : 65536 < per
            · have b5 : decide (65536 < per) = true := decide_eq_true a5
              have HE : Hid (woEr off r per = 3 ∧ woRes off r per = 0) := Lib.hid (by
                have hk : woOk off r per = false := by rw [hok]; simp only [Bool.and_eq_false_iff, decide_eq_false_iff_not]; omega
                have hc : woC off r per = 3 := by rw [hcc, hk]; rfl
                have h1 : woEr off r per = 3 := by rw [her, hc]; rfl
                exact ⟨h1, by rw [hrs, h1]; rfl⟩)
              clear her hrs hcc hok
              go_enter Try.func25, Try.ntmps25
              go_wp2
              go_ret2
              exact ⟨by rw [HE.out.1, HE.out.2]; rfl, rfl⟩
            · have b5 : decide (65536 < per) = false := decide_eq_false a5
              have hk : woOk off r per = true := by rw [hok]; simp only [Bool.and_eq_true, decide_eq_true_eq]; omega
              rw [hk, if_pos rfl] at hcc
              clear hok hk
              by_cases hz : r = 0
              · have HE : Hid (woEr off r per = 9 ∧ woRes off r per = 0) := Lib.hid (by
                  rw [if_pos hz] at hcc
                  have h1 : woEr off r per = 9 := by rw [her, hcc]; rfl
                  exact ⟨h1, by rw [hrs, h1]; rfl⟩)
                have q1 : (r == 0) = true := by rw [beq_iff_eq]; exact hz
                clear her hrs hcc hz
                go_enter Try.func25, Try.ntmps25
                go_wp2
                go_ret2
                exact ⟨by rw [HE.out.1, HE.out.2]; rfl, rfl⟩
              · rw [if_neg hz] at hcc
                rw [hcc, if_pos rfl] at her
                have q1 : (r == 0) = false := beq_eq_false_iff_ne.2 hz
                have hv : woV off r per = IntKind.i64.wrap ((IntKind.i64.wrap (IntKind.i64.wrap (IntKind.i64.wrap (IntKind.i64.wrap (off * 113) * per) + IntKind.i64.wrap (710 * r)) - 1)).tdiv (IntKind.i64.wrap (710 * r))) := rfl
                have h0 : IntKind.i64.wrap (710 * r) ≠ 0 := by rw [IntWalk.i64_in _ (by omega)]; omega
                obtain ⟨x1, h1⟩ : ∃ x, IntKind.i64.wrap (off * 113) = x := ⟨_, rfl⟩
                rw [h1] at hv
                obtain ⟨x2, h2⟩ : ∃ x, IntKind.i64.wrap (x1 * per) = x := ⟨_, rfl⟩
                rw [h2] at hv
                obtain ⟨x3, h3⟩ : ∃ x, IntKind.i64.wrap (710 * r) = x := ⟨_, rfl⟩
                rw [h3] at hv h0
                obtain ⟨x4, h4⟩ : ∃ x, IntKind.i64.wrap (x2 + x3) = x := ⟨_, rfl⟩
                rw [h4] at hv
                obtain ⟨x5, h5⟩ : ∃ x, IntKind.i64.wrap (x4 - 1) = x := ⟨_, rfl⟩
                rw [h5] at hv
                obtain ⟨x6, h6⟩ : ∃ x, x5.tdiv x3 = x := ⟨_, rfl⟩
                rw [h6] at hv
                obtain ⟨x7, h7⟩ : ∃ x, IntKind.i64.wrap x6 = x := ⟨_, rfl⟩
                rw [h7] at hv
                rw [hv] at her hrs
                have q0 : (x3 == 0) = false := beq_eq_false_iff_ne.2 h0
                by_cases h8 : 256 < x7
                · have HE : Hid (woEr off r per = 14 ∧ woRes off r per = 0) := Lib.hid (by
                    rw [if_pos h8] at her
                    exact ⟨her, by rw [hrs, her]; rfl⟩)
                  have d8 : decide (256 < x7) = true := decide_eq_true h8
                  clear her hrs hcc hv
                  go_enter Try.func25, Try.ntmps25
                  go_wp2
                  go_ret2
                  exact ⟨by rw [HE.out.1, HE.out.2]; rfl, rfl⟩
                · have HE : Hid (woEr off r per = 0 ∧ woRes off r per = x7) := Lib.hid (by
                    rw [if_neg h8] at her
                    exact ⟨her, by rw [hrs, her]; rfl⟩)
                  have d8 : decide (256 < x7) = false := decide_eq_false h8
                  clear her hrs hcc hv
                  go_enter Try.func25, Try.ntmps25
                  go_wp2
                  go_ret2
                  exact ⟨by rw [HE.out.1, HE.out.2]; rfl, rfl⟩
end Go.Proofs.Ytjdnpgilinfkgaa
