/-
  The walk of PressEarlier.
-/
import Derived.Test.YtomncopeekegoaaIN
import Derived.Test.YtomncopeekegoaaIC
import Derived.Deep.Cut
namespace Go.Proofs.Ytomncopeekegoaa
open Go.RowKit

theorem srt_i64 {p b : Nat} {st rs : Int} (hs : 1 ≤ st ∧ st ≤ 65536) (hr : 1 ≤ rs ∧ rs ≤ 65536) {k : Nat} (hk : k ≤ 1000) : ∀ x ∈ srt p b st rs k, x ≤ 9223372036854775807 := fun x hx => by have := srt_bd hs hr k x hx; omega
theorem srtV_eq {p b n : Nat} {st rs : Int} (h : ckH p b st rs n = 0) : srtV p b st rs n = srt p b st rs n := by unfold srtV; rw [if_pos h]; rfl
theorem Starts_at (p' b' : Nat) (p b st rs n : Int) (w : World) (hp : p = p') (hb : b = b') :
    Calls Try.prog 26 #[.int .i64 p, .int .i64 b, .int .i64 st, .int .i64 rs, .int .i64 n] w fun e w' =>
      ∃ A k c, e = .returned (.tuple #[.slice A k c, .int .i64 (ckH p' b' st rs n)]) ∧ LI w' w'.heap.size A k (srtV p' b' st rs n) ∧ k ≤ c ∧ k ≤ 1000 ∧ Below w.heap.size w w' := by
  subst hp hb
  exact Starts_any _ _ _ _ _ _
theorem minq {p c q : Nat} (hp : p ≤ 64) (hc : 0 ≤ (c : Int) ∧ (c : Int) ≤ 255) (hq : min 64 (p + c) = q) :
    (wrap64 ((p : Int) + wrap64 c) < 64 → wrap64 ((p : Int) + wrap64 c) = (q : Int)) ∧ (¬ wrap64 ((p : Int) + wrap64 c) < 64 → (64 : Int) = (q : Int)) := by
  have f1 : wrap64 (c : Int) = c := by unfold wrap64; omega
  have f3 : wrap64 ((p : Int) + wrap64 c) = p + c := by rw [f1]; exact IntWalk.wrap64_in _ (by omega)
  rw [f3]
  omega
/-- What the walk wants of its numbers, put away. -/
structure ErlF (l : List Int) (n p k p' k' : Nat) (st rs : Int) (S S' : List Int) (R : Int × Int) : Prop where
  ck : ckH p k st rs n = 0
  ck' : ckH p' k' st rs n = 0
  s : srtV p k st rs n = S
  s' : srtV p' k' st rs n = S'
  cs : csR p k st rs S = ((n : Int), 0)
  len : S.length = n
  i64 : ∀ x ∈ S, x ≤ 9223372036854775807
  len' : S'.length = n
  le : ∀ i, i < n → S'.getD i 0 ≤ S.getD i 0
  r : csR p k st rs l = R
  rc : (∃ i, i < n ∧ R = ((i : Int), 3)) ∨ (∃ i, i < n ∧ R = ((i : Int), 20)) ∨ (R = ((n : Int), 0) ∧ ∀ i, i < n → S.getD i 0 ≤ l.getD i 0)
theorem erl {l : List Int} {n p k p' k' : Nat} {st rs : Int} (hl : n = l.length) (hn : n ≤ 60) (bp : 1 ≤ p ∧ p ≤ p' ∧ p' ≤ 64) (bk : 1 ≤ k ∧ k ≤ k' ∧ k' ≤ 64) (bs : 1 ≤ st ∧ st ≤ 65536) (br : 1 ≤ rs ∧ rs ≤ 65536) :
    ∃ S S' R, ErlF l n p k p' k' st rs S S' R := by
  have hc : ckH p k st rs n = 0 := ckH_0.2 ⟨by omega, by omega, bs, br, by omega⟩
  have hc' : ckH p' k' st rs n = 0 := ckH_0.2 ⟨by omega, by omega, bs, br, by omega⟩
  have hc2 : ckH p k st rs (l.length : Int) = 0 := by rw [← hl]; exact hc
  refine ⟨srt p k st rs n, srt p' k' st rs n, csR p k st rs l, hc, hc', srtV_eq hc, srtV_eq hc', csR_srt hc, srt_len _ _ _ _ _, srt_i64 bs br (by omega), srt_len _ _ _ _ _,
    srt_min (l := srt p k st rs n) bp.2.1 bk.2.1 bp.1 bk.1 (srt_rgt st rs bp.1 bk.1 n) n (by rw [srt_len]; exact Nat.le_refl _), rfl, ?_⟩
  rcases csR_cases hc2 with ⟨i, h1, h2⟩ | ⟨i, h1, h2⟩ | ⟨h1, h2⟩
  · exact .inl ⟨i, by omega, h2⟩
  · exact .inr (.inl ⟨i, by omega, h2⟩)
  · exact .inr (.inr ⟨by rw [h1, hl], srt_min (Nat.le_refl p) (Nat.le_refl k) bp.1 bk.1 h2 n (by omega)⟩)

set_option maxRecDepth 100000 in
set_option maxHeartbeats 32000000 in
theorem earlier_walk (B : Nat) (x0 x1 x2 x3 : Int) (A : Option Addr) (n c : Nat) (l : List Int) (y0 y1 : Int) (w : World) (h0 : LI w B A n l) (hB : B ≤ w.heap.size) (hn : n ≤ 9223372036854775807) (hnc : n ≤ c) (hi64 : ∀ x ∈ l, x ≤ 9223372036854775807)
    (b0 : 0 ≤ x0 ∧ x0 ≤ 255) (b1 : 0 ≤ x1 ∧ x1 ≤ 255) (b2 : 0 ≤ x2 ∧ x2 ≤ 65535) (b3 : 0 ≤ x3 ∧ x3 ≤ 65535) (b4 : 0 ≤ y0 ∧ y0 ≤ 255) (b5 : 0 ≤ y1 ∧ y1 ≤ 255) :
    Calls Try.prog 11 #[.int .u8 x0, .int .u8 x1, .int .u16 x2, .int .u16 x3, .slice A n c, .agg #[.int .u8 y0, .int .u8 y1]] w fun e w' => e = .returned (.bool true) ∧ Below w.heap.size w w' := by
  have H := Lib.hid (h0.more hB)
  have HN := Lib.hid h0.1
  have HI := Lib.hid hi64
  obtain ⟨a0, rfl⟩ : ∃ a : Nat, x0 = a := ⟨x0.toNat, by omega⟩
  obtain ⟨a1, rfl⟩ : ∃ a : Nat, x1 = a := ⟨x1.toNat, by omega⟩
  obtain ⟨c0, rfl⟩ : ∃ a : Nat, y0 = a := ⟨y0.toNat, by omega⟩
  obtain ⟨c1, rfl⟩ : ∃ a : Nat, y1 = a := ⟨y1.toNat, by omega⟩
  clear h0 hB hi64
  by_cases h60 : 60 < n
  · have g1 : (60 : Int) < (n : Int) := by omega
    go_enter Try.func11, Try.ntmps11
    go_wp2_with ((refine (works8_any _).mono ?_); rintro e w1 ⟨rfl, hb⟩)
    go_ret
    exact ⟨rfl, (below_a _ _).trans (hb.mono (by simp))⟩
  have g1 : ¬ (60 : Int) < (n : Int) := by omega
  obtain ⟨p, hp⟩ : ∃ p, 1 + a0 % 64 = p := ⟨_, rfl⟩
  obtain ⟨k, hk⟩ : ∃ k, 1 + a1 % 64 = k := ⟨_, rfl⟩
  have HP : Hid (1 + (a0 : Int) % 64 = (p : Int)) := Lib.hid (by omega)
  have HK : Hid (1 + (a1 : Int) % 64 = (k : Int)) := Lib.hid (by omega)
  have v0 : IntKind.i64.wrap (a0 : Int) = a0 := IntWalk.i64_in _ (by omega)
  have v1 : IntKind.i64.wrap (a1 : Int) = a1 := IntWalk.i64_in _ (by omega)
  have v2 : IntKind.i64.wrap x2 = x2 := IntWalk.i64_in _ (by omega)
  have v3 : IntKind.i64.wrap x3 = x3 := IntWalk.i64_in _ (by omega)
  obtain ⟨p', hp'⟩ : ∃ x, min 64 (p + c0) = x := ⟨_, rfl⟩
  obtain ⟨k', hk'⟩ : ∃ x, min 64 (k + c1) = x := ⟨_, rfl⟩
  have HP' := Lib.hid hp'
  have HK' := Lib.hid hk'
  have bp : 1 ≤ p ∧ p ≤ p' ∧ p' ≤ 64 := by omega
  have bk : 1 ≤ k ∧ k ≤ k' ∧ k' ≤ 64 := by omega
  obtain ⟨st, hst⟩ : ∃ x, 1 + x2 = x := ⟨_, rfl⟩
  obtain ⟨rs, hrs⟩ : ∃ x, 1 + x3 = x := ⟨_, rfl⟩
  have r4' : IntKind.i64.wrap (1 + x2) = st := by rw [hst]; exact IntWalk.i64_in _ (by omega)
  have r5' : IntKind.i64.wrap (1 + x3) = rs := by rw [hrs]; exact IntWalk.i64_in _ (by omega)
  obtain ⟨S, S', R, hF⟩ := erl (st := st) (rs := rs) HN.out (by omega) bp bk (by omega) (by omega)
  have F := Lib.hid hF
  have p64 : p ≤ 64 := by omega
  have k64 : k ≤ 64 := by omega
  have n60 : n ≤ 60 := by omega
  have HQP := Lib.hid (minq (p := p) (c := c0) (q := p') p64 b4 hp')
  have HQK := Lib.hid (minq (p := k) (c := c1) (q := k') k64 b5 hk')
  clear hp hk hp' hk' hst hrs b2 b3 b4 b5 bp bk hF
  go_enter Try.func11, Try.ntmps11
  go_upto_region 1 with fail
  obtain ⟨W, hW⟩ : ∃ W, w.alloc (.cells #[.int .u8 c0, .int .u8 c1] 79) = W := ⟨_, rfl⟩
  have hb0 : Below w.heap.size w W := by rw [← hW]; exact below_a _ _
  have K0 : Hid (Blk W w.heap.size 79 #[.int .u8 c0, .int .u8 c1]) := Lib.hid (by rw [← hW]; exact Blk.new _ _ _)
  have hs0 := hb0.size
  have HB := Lib.hid hb0
  rw [hW]
  clear hW hb0
  go_wp2_with fail
  rw [HP.out, HK.out]
  refine (Starts_any p k st rs n W).mono ?_
  rintro e w1 ⟨A1, n1, k1, rfl, hL1, hc1, -, hb1⟩
  rw [F.out.s] at hL1
  rw [F.out.ck]
  have HL1 := Lib.hid hL1
  have hn1 : n1 = n := by have h1 := hL1.1; have h2 := F.out.len; omega
  subst hn1
  clear v0 v1 v2 v3 r4' r5' b0 b1
  replace K0 := Lib.hid (K0.out.below hb1 K0.out.lt)
  replace HB := Lib.hid (HB.out.trans (hb1.mono hs0))
  have hs1 := HB.out.size
  clear hb1 hL1
  go_wp2_with fail
  refine (CheckStarts_any w1.heap.size A1 n1 k1 S p k st rs w1 HL1.out (Nat.le_refl _) hn hc1 F.out.i64).mono ?_
  rintro e w2 ⟨rfl, hb2⟩
  rw [F.out.cs]
  replace K0 := Lib.hid (K0.out.below hb2 K0.out.lt)
  replace HL1 := Lib.hid (HL1.out.below hb2 (Nat.le_refl _))
  have hs2 := hb2.size
  replace HB := Lib.hid (HB.out.trans (hb2.mono hs1))
  clear hb2
  have d0 := (K0.out.cell 0).trans rfl
  have d1 := (K0.out.cell 1).trans rfl
  go_wp2_with fail
  all_goals
    rename_i u1
    have u2 := h
    clear h
    refine Calls.mono (Starts_at p' k' _ _ st rs n1 w2 ?q1 ?q2) ?_
    case q1 => first | exact HQP.out.1 u1 | exact HQP.out.2 (by omega)
    case q2 => first | exact HQK.out.1 u2 | exact HQK.out.2 (by omega)
    clear u1 u2
    rintro e w3 ⟨A2, n2, k2, rfl, hL2, -, -, hb3⟩
    rw [F.out.s'] at hL2
    rw [F.out.ck']
    have HL2 := Lib.hid hL2
    have hn2 : n2 = n1 := by have h1 := hL2.1; have h2 := F.out.len'; omega
    subst hn2
    have HL1a := Lib.hid (HL1.out.below hb3 hs2)
    have hs3 := hb3.size
    replace HB := Lib.hid (HB.out.trans (hb3.mono (by omega)))
    have HB3 := Lib.hid HB.out
    have hsz3 := HB3.out.size
    have qn : ((n2 : Int) != (n2 : Int)) = false := by simp
    clear hb3 hL2 d0 d1
    go_wp2_with fail
    refine (CheckStarts_any w.heap.size A n2 c l p k st rs w3 (H.out.below HB3.out (Nat.le_refl _)) hsz3 hn hnc HI.out).mono ?_
    rintro e w4 ⟨rfl, hb4⟩
    rw [F.out.r]
    have HL1' := Lib.hid (HL1a.out.below hb4 (by omega))
    have HL2' := Lib.hid (HL2.out.below hb4 (Nat.le_refl _))
    have hs4 := hb4.size
    have HB4' := Lib.hid (HB3.out.trans (hb4.mono hsz3))
    have hb4k := hb4
    clear hb4
    rcases F.out.rc with ⟨i, hi, hR⟩ | ⟨i, hi, hR⟩ | ⟨hR, hmin⟩
    · have hR := hR
      rw [hR]
      have q1 : ¬ ((i : Int) < 0) := by omega
      have q2 : ¬ ((n2 : Int) ≤ (i : Int)) := by omega
      have q7 : decide ((i : Int) < 0) = false := decide_eq_false (by omega)
      have q8 : decide (n2 ≤ i) = false := decide_eq_false (by omega)
      have q9 : decide ((n2 : Int) ≤ (i : Int)) = false := decide_eq_false (by omega)
      clear hR
      go_wp2
      go_loopw [25] (fun z wr => ∃ j : Nat, j ≤ n2 ∧ z = .int .i64 j ∧ Hid (Below w4.heap.size w4 wr)) (fun z _ => n2 - (intOf z).toNat)
      case atStart => exact ⟨0, Nat.zero_le _, rfl, Lib.hid (Below.refl _ _)⟩
      case round =>
        obtain ⟨j, hj, rfl, HW⟩ := hrel
        by_cases hlt : j < n2
        · have hjS : j < S.length := by have := F.out.len; omega
          have hjS' : j < S'.length := by have := F.out.len'; omega
          obtain ⟨ad1, e1, -, p1⟩ := ((HL1'.out.more (by omega)).below HW.out (Nat.le_refl _)).at_ hjS
          obtain ⟨ad2, e2, -, p2⟩ := ((HL2'.out.more (by omega)).below HW.out (Nat.le_refl _)).at_ hjS'
          obtain rfl := e1
          obtain rfl := e2
          have hle := F.out.le j hlt
          rw [List.getD_eq_getElem?_getD, List.getD_eq_getElem?_getD, List.getElem?_eq_getElem hjS, List.getElem?_eq_getElem hjS'] at hle
          simp only [Option.getD_some] at hle
          obtain ⟨z1, hz1⟩ : ∃ z, S[j] = z := ⟨_, rfl⟩
          obtain ⟨z2, hz2⟩ : ∃ z, S'[j] = z := ⟨_, rfl⟩
          rw [hz1] at p1 hle
          rw [hz2] at p2 hle
          have q3 : ¬ (z1 < z2) := by omega
          have q4 : decide (z1 < z2) = false := by simpa using hle
          have g3 : (j : Int) < (n2 : Int) := by omega
          have w5 : IntKind.i64.wrap ((j : Int) + 1) = (j : Int) + 1 := IntWalk.i64_in _ (by omega)
          clear hz1 hz2 hle
          go_wp2_with fail
          go_quiet (fail)
          go_wp2
          go_roundw
          case rel => exact ⟨j + 1, by omega, by go_num, Lib.hid (below_drewN_ HW.out _)⟩
          case measure => simp [intOf]; omega
        · go_wp2_with ((refine (works8_any _).mono ?_); rintro e w6 ⟨rfl, hb6⟩)
          go_ret
          exact ⟨rfl, (HB4'.out.trans (HW.out.mono HB4'.out.size)).trans (hb6.mono (by have := HB4'.out.size; have := HW.out.size; omega))⟩
    · have hR := hR
      rw [hR]
      have q1 : ¬ ((i : Int) < 0) := by omega
      have q2 : ¬ ((n2 : Int) ≤ (i : Int)) := by omega
      have q7 : decide ((i : Int) < 0) = false := decide_eq_false (by omega)
      have q8 : decide (n2 ≤ i) = false := decide_eq_false (by omega)
      have q9 : decide ((n2 : Int) ≤ (i : Int)) = false := decide_eq_false (by omega)
      clear hR
      go_wp2
      go_loopw [25] (fun z wr => ∃ j : Nat, j ≤ n2 ∧ z = .int .i64 j ∧ Hid (Below w4.heap.size w4 wr)) (fun z _ => n2 - (intOf z).toNat)
      case atStart => exact ⟨0, Nat.zero_le _, rfl, Lib.hid (Below.refl _ _)⟩
      case round =>
        obtain ⟨j, hj, rfl, HW⟩ := hrel
        by_cases hlt : j < n2
        · have hjS : j < S.length := by have := F.out.len; omega
          have hjS' : j < S'.length := by have := F.out.len'; omega
          obtain ⟨ad1, e1, -, p1⟩ := ((HL1'.out.more (by omega)).below HW.out (Nat.le_refl _)).at_ hjS
          obtain ⟨ad2, e2, -, p2⟩ := ((HL2'.out.more (by omega)).below HW.out (Nat.le_refl _)).at_ hjS'
          obtain rfl := e1
          obtain rfl := e2
          have hle := F.out.le j hlt
          rw [List.getD_eq_getElem?_getD, List.getD_eq_getElem?_getD, List.getElem?_eq_getElem hjS, List.getElem?_eq_getElem hjS'] at hle
          simp only [Option.getD_some] at hle
          obtain ⟨z1, hz1⟩ : ∃ z, S[j] = z := ⟨_, rfl⟩
          obtain ⟨z2, hz2⟩ : ∃ z, S'[j] = z := ⟨_, rfl⟩
          rw [hz1] at p1 hle
          rw [hz2] at p2 hle
          have q3 : ¬ (z1 < z2) := by omega
          have q4 : decide (z1 < z2) = false := by simpa using hle
          have g3 : (j : Int) < (n2 : Int) := by omega
          have w5 : IntKind.i64.wrap ((j : Int) + 1) = (j : Int) + 1 := IntWalk.i64_in _ (by omega)
          clear hz1 hz2 hle
          go_wp2_with fail
          go_quiet (fail)
          go_wp2
          go_roundw
          case rel => exact ⟨j + 1, by omega, by go_num, Lib.hid (below_drewN_ HW.out _)⟩
          case measure => simp [intOf]; omega
        · go_wp2_with ((refine (works8_any _).mono ?_); rintro e w6 ⟨rfl, hb6⟩)
          go_ret
          exact ⟨rfl, (HB4'.out.trans (HW.out.mono HB4'.out.size)).trans (hb6.mono (by have := HB4'.out.size; have := HW.out.size; omega))⟩
    · have hR := hR
      rw [hR]
      have HMIN := Lib.hid hmin
      have HLl := Lib.hid (((H.out.below HB3.out (Nat.le_refl _)).more hsz3).below hb4k (Nat.le_refl _))
      clear hmin
      clear hR
      go_wp2
      go_loopw [25] (fun z wr => ∃ j : Nat, j ≤ n2 ∧ z = .int .i64 j ∧ Hid (Below w4.heap.size w4 wr)) (fun z _ => n2 - (intOf z).toNat)
      case atStart => exact ⟨0, Nat.zero_le _, rfl, Lib.hid (Below.refl _ _)⟩
      case round =>
        obtain ⟨j, hj, rfl, HW⟩ := hrel
        by_cases hlt : j < n2
        · have hjS : j < S.length := by have := F.out.len; omega
          have hjS' : j < S'.length := by have := F.out.len'; omega
          obtain ⟨ad1, e1, -, p1⟩ := ((HL1'.out.more (by omega)).below HW.out (Nat.le_refl _)).at_ hjS
          obtain ⟨ad2, e2, -, p2⟩ := ((HL2'.out.more (by omega)).below HW.out (Nat.le_refl _)).at_ hjS'
          obtain rfl := e1
          obtain rfl := e2
          have hle := F.out.le j hlt
          rw [List.getD_eq_getElem?_getD, List.getD_eq_getElem?_getD, List.getElem?_eq_getElem hjS, List.getElem?_eq_getElem hjS'] at hle
          simp only [Option.getD_some] at hle
          have hjl : j < l.length := by have := HN.out; omega
          obtain ⟨ad3, e3, -, p3⟩ := ((HLl.out.more hs4).below HW.out (Nat.le_refl _)).at_ hjl
          obtain rfl := e3
          have hmn := HMIN.out j hlt
          rw [List.getD_eq_getElem?_getD, List.getD_eq_getElem?_getD, List.getElem?_eq_getElem hjS, List.getElem?_eq_getElem hjl] at hmn
          simp only [Option.getD_some] at hmn
          obtain ⟨z3, hz3⟩ : ∃ z, l[j] = z := ⟨_, rfl⟩
          rw [hz3] at p3 hmn
          obtain ⟨z1, hz1⟩ : ∃ z, S[j] = z := ⟨_, rfl⟩
          obtain ⟨z2, hz2⟩ : ∃ z, S'[j] = z := ⟨_, rfl⟩
          rw [hz1] at p1 hle hmn
          rw [hz2] at p2 hle
          have q3 : ¬ (z1 < z2) := by omega
          have q4 : decide (z1 < z2) = false := by simpa using hle
          have q5 : ¬ (z3 < z1) := by omega
          have q6 : decide (z3 < z1) = false := by simpa using hmn
          clear hz3 hmn
          have g3 : (j : Int) < (n2 : Int) := by omega
          have w5 : IntKind.i64.wrap ((j : Int) + 1) = (j : Int) + 1 := IntWalk.i64_in _ (by omega)
          clear hz1 hz2 hle
          go_wp2_with fail
          go_quiet (fail)
          go_wp2
          go_roundw
          case rel => exact ⟨j + 1, by omega, by go_num, Lib.hid (below_drewN_ HW.out _)⟩
          case measure => simp [intOf]; omega
        · go_wp2_with ((refine (works8_any _).mono ?_); rintro e w6 ⟨rfl, hb6⟩)
          go_ret
          exact ⟨rfl, (HB4'.out.trans (HW.out.mono HB4'.out.size)).trans (hb6.mono (by have := HB4'.out.size; have := HW.out.size; omega))⟩
end Go.Proofs.Ytomncopeekegoaa
