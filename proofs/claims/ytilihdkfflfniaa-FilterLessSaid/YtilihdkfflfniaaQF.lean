/-
  Middles and sides: their checks; the document's Programme and SamePrograms.
-/
import Derived.Test.YtilihdkfflfniaaUB
import Derived.Test.YtilihdkfflfniaaUF
import Derived.Test.YtilihdkfflfniaaUI
import Derived.Test.YtilihdkfflfniaaUK
import Derived.Test.YtilihdkfflfniaaQ0
namespace Go.Proofs.Ytilihdkfflfniaa
open Go.RowKit

set_option maxHeartbeats 400000 in
theorem fhalf_any (x : Int) (w : World) (h0 : -1152921504606846976 ≤ x) (h1 : x ≤ 1152921504606846976) :
    Calls Try.prog 84 #[.int .i64 x] w fun e w' => e = .returned (.int .i64 (x / 2)) ∧ w = w' := by
  go_enter Try.func84, Try.ntmps84
  go_wp2_with ((with_reducible refine (fquotient_any x 2 _ (by omega) (by omega) h0 h1).mono ?_); rintro e w' ⟨rfl, rfl⟩)
  go_ret
  exact ⟨rfl, rfl⟩
/-- 0: fine · 6: too many · 17: not as many · 3: out of range. -/
def ckSd (m d : List Int) : Int := if 4096 < m.length ∨ 4096 < d.length then 6 else if m.length ≠ d.length then 17 else if wibs m 32767 = false ∨ wibs d 65534 = false then 3 else 0
set_option maxHeartbeats 1000000 in
theorem checkSides_any (B : Nat) (Am Ad : Option Addr) (nm km nd kd : Nat) (m d : List Int) (w : World) (hm : LI w B Am nm m) (hd : LI w B Ad nd d) (hB : B ≤ w.heap.size) (h1 : nm ≤ 9223372036854775807) (h2 : nd ≤ 9223372036854775807) :
    Calls Try.prog 59 #[.slice Am nm km, .slice Ad nd kd] w fun e w' => e = .returned (.int .i64 (ckSd m d)) ∧ Below w.heap.size w w' := by
  have HM := Lib.hid (hm.more hB)
  have HD := Lib.hid (hd.more hB)
  have e1 := hm.1
  have e2 := hd.1
  clear hm hd hB
  by_cases a1 : 4096 < nm
  · have HV : Hid (ckSd m d = 6) := Lib.hid (by unfold ckSd; rw [if_pos (by omega)])
    clear e1 e2
    go_enter Try.func59, Try.ntmps59
    go_wp2
    go_ret
    exact ⟨ret_i HV.out.symm, Below.refl _ _⟩
  by_cases a2 : 4096 < nd
  · have HV : Hid (ckSd m d = 6) := Lib.hid (by unfold ckSd; rw [if_pos (by omega)])
    clear e1 e2
    go_enter Try.func59, Try.ntmps59
    go_wp2
    go_ret
    exact ⟨ret_i HV.out.symm, Below.refl _ _⟩
  by_cases a3 : nm = nd
  case neg =>
    have HV : Hid (ckSd m d = 17) := Lib.hid (by unfold ckSd; rw [if_neg (by omega), if_pos (by omega)])
    have q1 : ((nm : Int) != (nd : Int)) = true := by rw [bne_iff_ne]; omega
    have q2 : ((nm : Int) == (nd : Int)) = false := beq_eq_false_iff_ne.2 (by omega)
    clear e1 e2
    go_enter Try.func59, Try.ntmps59
    go_wp2
    go_ret
    exact ⟨ret_i HV.out.symm, Below.refl _ _⟩
  subst a3
  have HV : Hid (ckSd m d = if wibs m 32767 = false ∨ wibs d 65534 = false then 3 else 0) := Lib.hid (by unfold ckSd; rw [if_neg (by omega), if_neg (by omega)])
  have q1 : ((nm : Int) != (nm : Int)) = false := by simp
  have CM := Lib.hid (fun W (h : Below w.heap.size w W) => allWithin_any w.heap.size Am nm km m 32767 W (HM.out.below h (Nat.le_refl _)) h.size h1 (by omega) (by omega))
  have CD := Lib.hid (fun W (h : Below w.heap.size w W) => allWithin_any w.heap.size Ad nm kd d 65534 W (HD.out.below h (Nat.le_refl _)) h.size h1 (by omega) (by omega))
  clear e1 e2
  cases hv1 : wibs m 32767
  · rw [hv1] at CM HV
    go_enter Try.func59, Try.ntmps59
    go_wp2_with fail
    refine (CM.out _ (Below.refl _ _)).mono ?_
    rintro e w1 ⟨rfl, hb⟩
    have HB := Lib.hid hb
    clear hb
    go_wp2
    go_ret
    exact ⟨ret_i (by rw [HV.out]; rfl), HB.out⟩
  · cases hv2 : wibs d 65534
    all_goals
      rw [hv1] at CM HV
      rw [hv2] at CD HV
      go_enter Try.func59, Try.ntmps59
      go_wp2_with fail
      refine (CM.out _ (Below.refl _ _)).mono ?_
      rintro e w1 ⟨rfl, hb⟩
      have HB := Lib.hid hb
      clear hb
      go_wp2_with fail
      refine (CD.out _ HB.out).mono ?_
      rintro e w2 ⟨rfl, hb⟩
      replace HB := Lib.hid (HB.out.trans (hb.mono HB.out.size))
      clear hb
      go_wp2
      go_ret
      exact ⟨ret_i (by rw [HV.out]; rfl), HB.out⟩

theorem vs_lo {l r : Int} (h : l < -32767) : vs l r = false := by unfold vs win; rw [decide_eq_false (by omega)]; rfl
theorem vs_hi {l r : Int} (h : 32767 < l) : vs l r = false := by unfold vs win; rw [decide_eq_false (p := l ≤ 32767) (by omega)]; simp
theorem vs_rlo {l r : Int} (h : r < -32767) : vs l r = false := by unfold vs win; rw [decide_eq_false (p := -32767 ≤ r) (by omega)]; simp
theorem vs_rhi {l r : Int} (h : 32767 < r) : vs l r = false := by unfold vs win; rw [decide_eq_false (p := r ≤ 32767) (by omega)]; simp
theorem vs_in {l r : Int} (h1 : ¬ l < -32767) (h2 : ¬ 32767 < l) (h3 : ¬ r < -32767) (h4 : ¬ 32767 < r) : vs l r = true := by
  unfold vs win; simp; omega
set_option maxHeartbeats 2000000 in
theorem refProgramme_any (B : Nat) (A : Option Addr) (n c : Nat) (xs : List Smp) (w : World) (h0 : RS w B A n xs) (hl : n ≤ 9223372036854775807) :
    Calls Try.prog 57 #[.slice A n c] w fun e w' => e = .returned (.int .i64 (ckQ xs)) ∧ w = w' := by
  have H := Lib.hid h0
  have HN := Lib.hid h0.1
  clear h0
  by_cases hl4 : 4096 < n
  · go_enter Try.func57, Try.ntmps57
    go_wp2
    go_ret
    exact ⟨ret_i (by unfold ckQ; rw [if_pos (by have := HN.out; omega)]), rfl⟩
  · have HCK : Hid (ckQ xs = if vss xs then 0 else 3) := Lib.hid (by unfold ckQ; rw [if_neg (by have := HN.out; omega)])
    go_enter Try.func57, Try.ntmps57
    go_wp2
    go_loop [3] (fun i => ∃ k : Nat, k ≤ n ∧ i = .int .i64 k ∧ Hid (vss (xs.take k) = true)) (fun i => n - (intOf i).toNat)
    case atStart => exact ⟨0, Nat.zero_le _, rfl, Lib.hid rfl⟩
    case round =>
      obtain ⟨k, hk, rfl, HV⟩ := hrel
      by_cases hlt : k < n
      · have hx : k < xs.length := by have := HN.out; omega
        obtain ⟨ad, hA, _, p1, p2⟩ := H.out.at_ hx
        obtain rfl := hA
        have HT := Lib.hid (vss_take xs k hx)
        have HF := Lib.hid (vss_false xs k hx)
        obtain ⟨s, hxx⟩ : ∃ x, xs[k] = x := ⟨_, rfl⟩
        rw [hxx] at p1 p2 HT HF
        clear hxx
        obtain ⟨l, r⟩ := s
        dsimp only at p1 p2 HT HF
        by_cases h1 : l < -32767
        · have h2 : ¬ 32767 < l := by omega
          go_wp2
          go_ret
          exact ⟨ret_i (by rw [HCK.out, HF.out (vs_lo h1)]; rfl), rfl⟩
        by_cases h2 : 32767 < l
        · go_wp2
          go_ret
          exact ⟨ret_i (by rw [HCK.out, HF.out (vs_hi h2)]; rfl), rfl⟩
        by_cases h3 : r < -32767
        · have h4 : ¬ 32767 < r := by omega
          go_wp2
          go_ret
          exact ⟨ret_i (by rw [HCK.out, HF.out (vs_rlo h3)]; rfl), rfl⟩
        by_cases h4 : 32767 < r
        · go_wp2
          go_ret
          exact ⟨ret_i (by rw [HCK.out, HF.out (vs_rhi h4)]; rfl), rfl⟩
        go_wp2
        go_round
        case rel => exact ⟨k + 1, by omega, by go_num, Lib.hid (by rw [HT.out, HV.out, vs_in h1 h2 h3 h4]; rfl)⟩
        case measure => simp [intOf]; omega
      · go_wp2
        go_ret
        have h := HV.out
        rw [List.take_of_length_le (by have := HN.out; omega)] at h
        exact ⟨ret_i (by rw [HCK.out, h]; rfl), rfl⟩

theorem eq_smpl (a b : Int) (w : World) : Sem.run Try.prog (Op.equalIn 10000 57 (.agg #[.int .i64 a, .int .i64 b]) (.agg #[.int .i64 a, .int .i64 b])) w = .ok true w := by
  simp [go_sem, Op.eqFields]
set_option maxRecDepth 100000 in
set_option maxHeartbeats 2000000 in
theorem SamePrograms_any (B : Nat) (A A' : Option Addr) (n k n' k' : Nat) (l : List Smp) (w : World) (h0 : RS w B A n l) (g0 : RS w B A' n' l) (hB : B ≤ w.heap.size) (hl : n ≤ 9223372036854775807) :
    Calls Try.prog 28 #[.slice A n k, .slice A' n' k'] w fun e w' => e = .returned (.bool true) ∧ Below w.heap.size w w' := by
  have HN := Lib.hid h0.1
  have hnn : n = n' := h0.1.trans g0.1.symm
  subst hnn
  have H := Lib.hid (h0.more hB)
  have G := Lib.hid (g0.more hB)
  clear h0 g0 hB
  go_enter Try.func28, Try.ntmps28
  go_wp2_with fail
  go_loopw [5] (fun z wr => ∃ j : Nat, j ≤ n ∧ z = .int .i64 j ∧ Hid (Below w.heap.size w wr)) (fun i wr => n - (intOf i).toNat)
  case atStart => exact ⟨0, Nat.zero_le _, rfl, Lib.hid (Below.refl _ _)⟩
  case round =>
    obtain ⟨j, hj, rfl, HB⟩ := hrel
    by_cases hlt : j < n
    · have hjl : j < l.length := by have := HN.out; omega
      obtain ⟨a1, hA1, -, y1, y2⟩ := (H.out.below HB.out (Nat.le_refl _)).at_ hjl
      obtain ⟨a2, hA2, -, y3, y4⟩ := (G.out.below HB.out (Nat.le_refl _)).at_ hjl
      obtain rfl := hA1
      obtain rfl := hA2
      obtain ⟨x, hx⟩ : ∃ x, l[j] = x := ⟨_, rfl⟩
      rw [hx] at y1 y2 y3 y4
      clear hx
      have z1 := Lat.cell y1
      have z2 := Lat.cell y2
      have z3 := Lat.cell y3
      have z4 := Lat.cell y4
      clear y1 y2 y3 y4
      have eqp := fun W : World => eq_smpl x.1 x.2 W
      go_wp2_with fail
      try dsimp only [List.append]
      refine wp_region_lat (by kernel_rfl) (by kernel_rfl) ?_
      repeat (go_big_quiet_step (fail))
      refine wpQuiet_nil ?_
      intro W2 hw'
      have hb1 := lat_out hw'
      replace HB := Lib.hid (HB.out.trans (hb1.mono HB.out.size))
      clear hb1 hw' z1 z2 z3 z4 eqp
      go_wp2
      go_roundw
      case rel => exact ⟨j + 1, by omega, by go_num, HB⟩
      case measure => simp [intOf]; omega
    · go_wp2
      go_ret
      exact ⟨rfl, HB.out⟩
end Go.Proofs.Ytilihdkfflfniaa
