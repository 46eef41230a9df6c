/-
  The walk of LatheApart.
-/
import Derived.Test.YtgdkcbnpgpjnbaaL16
import Derived.Test.YtgdkcbnpgpjnbaaL19
import Derived.Test.YtgdkcbnpgpjnbaaL11
namespace Go.Proofs.Ytgdkcbnpgpjnbaa
open Go.RowKit

theorem tgT_min (b : Bk) (P : List Smp) (R : List Int) (s j : Nat) : (∀ i, s ≤ i → i ≤ s + j → lndI b P R (tgT b P R s j) ≤ lndI b P R i) ∧ (∀ i, s ≤ i → i < tgT b P R s j → lndI b P R (tgT b P R s j) < lndI b P R i) := by
  induction j with
  | zero =>
    refine ⟨fun i h1 h2 => ?_, fun i h1 h2 => ?_⟩
    · have : i = s := by omega
      subst this; exact Int.le_refl _
    · rw [tgT] at h2; omega
  | succ j ih =>
    have hb := tgT_bd b P R s j
    by_cases hlt : lndI b P R (s + 1 + j) < lndI b P R (tgT b P R s j)
    · rw [tgT, if_pos hlt]
      refine ⟨fun i h1 h2 => ?_, fun i h1 h2 => ?_⟩
      · by_cases e : i = s + 1 + j
        · subst e; exact Int.le_refl _
        · have := ih.1 i h1 (by omega); omega
      · have := ih.1 i h1 (by omega); omega
    · rw [tgT, if_neg hlt]
      refine ⟨fun i h1 h2 => ?_, fun i h1 h2 => ih.2 i h1 h2⟩
      by_cases e : i = s + 1 + j
      · subst e; omega
      · exact ih.1 i h1 (by omega)
theorem slow_le {b : Bk} {P : List Smp} {k : Nat} {y : Nat → Int} (hy : Keeps b P (k + 1) y) : ∀ d, d ≤ k → y k + (d : Int) * b.slow ≤ y (k - d) := by
  intro d
  induction d with
  | zero => intro _; simp
  | succ d ih =>
    intro hd
    have h1 := ih (by omega)
    have h2 := ((hy (k - d) (by omega)).2.1 (by omega)).1
    rw [show k - d - 1 = k - (d + 1) by omega] at h2
    have h3 : ((d + 1 : Nat) : Int) * b.slow = (d : Int) * b.slow + b.slow := by rw [Int.natCast_succ, Int.add_mul, Int.one_mul]
    omega
structure ApF (b : Bk) (P : List Smp) (X : List Int) (i : Nat) : Prop where
  land : b.land ≤ lndI b P X i
  least : tigV b P X ≤ lndI b P X i
  before : (i : Int) < tigA b P X → lndI b P X i ≠ tigV b P X
  at_ : (i : Int) = tigA b P X → lndI b P X i = tigV b P X
  slow : b.per * b.slow ≤ fx X (i - b.per.toNat) - fx X i
  fast : fx X (i - b.per.toNat) - fx X i ≤ b.per * b.fast
  lanE : lanE b P X i = 0
  lanV : lanV b P X i = lndI b P X i
theorem ap_of {b : Bk} {P : List Smp} {X : List Int} (hv : vldG b P = true) (ht : Top b P P.length X) {i : Nat} (h1 : b.per ≤ (i : Int)) (h2 : i < P.length) : ApF b P X i := by
  obtain ⟨_, hb, hP, _⟩ := vld_er hv
  have he : erC b P X = 0 := by rw [erC_vld hv]; exact top_ckR hv ht
  have hp := hb.per1
  have hlen : ¬ (P.length : Int) ≤ b.per := by omega
  have hn : b.per.toNat ≤ i := by omega
  have hV : tigV b P X = lndI b P X (tgA b P X) := by unfold tigV; rw [if_pos he, if_neg hlen]
  have hA : tigA b P X = (tgA b P X : Nat) := by unfold tigA; rw [if_pos he, if_neg hlen]
  obtain ⟨m1, m2⟩ := tgT_min b P X b.per.toNat (P.length - 1 - b.per.toNat)
  have hk : ∀ j, j < i + 1 → j < P.length := fun j hj => by omega
  have hK : Keeps b P (i + 1) (fx X) := ht.keeps.mono (by omega)
  have hpi : ((b.per.toNat : Nat) : Int) = b.per := by omega
  have hs := slow_le hK b.per.toNat hn
  have hf := back_le hK b.per.toNat hn
  rw [hpi] at hs hf
  refine ⟨?_, ?_, fun h => ?_, fun h => ?_, by omega, by omega, ?_, ?_⟩
  · have := (ht.keeps i h2).2.2 hn
    unfold wLand at this
    unfold lndI
    omega
  · rw [hV]; exact m1 i hn (by omega)
  · rw [hV]; have := m2 i hn (by rw [hA] at h; unfold tgA at h; omega)
    unfold tgA; omega
  · rw [hV]; rw [hA] at h; rw [show i = tgA b P X by omega]
  · unfold lanE; rw [if_pos he, if_neg (by omega)]
  · unfold lanV; rw [if_pos he, if_neg (by omega)]; rfl

set_option maxRecDepth 100000 in
set_option maxHeartbeats 8000000 in
theorem apart_walk (B : Nat) (A : Option Addr) (n c : Nat) (b : Bk) (P : List Smp) (w : World) (h0 : RS w B A n P) (hB : B ≤ w.heap.size) (hl : n ≤ 9223372036854775807) :
    Calls Try.prog 9 #[.agg #[.int .i64 b.per, .int .i64 b.rim, .int .i64 b.core, .int .i64 b.land, .int .i64 b.slow, .int .i64 b.fast], .slice A n c] w fun e w' => e = .returned (.bool true) ∧ Below w.heap.size w w' := by
  have HP := Lib.hid (h0.more hB)
  have HN := Lib.hid h0.1
  clear h0 hB
  go_enter Try.func9, Try.ntmps9
  go_upto_region 1 with fail
  obtain ⟨w0, hW⟩ : ∃ W, w.alloc (.cells #[.int .i64 b.per, .int .i64 b.rim, .int .i64 b.core, .int .i64 b.land, .int .i64 b.slow, .int .i64 b.fast] 23) = W := ⟨_, rfl⟩
  have hb0 : Below w.heap.size w w0 := by rw [← hW]; exact below_a _ _
  have k0 : Blk w0 w.heap.size 23 #[.int .i64 b.per, .int .i64 b.rim, .int .i64 b.core, .int .i64 b.land, .int .i64 b.slow, .int .i64 b.fast] := by rw [← hW]; exact Blk.new _ _ _
  rw [hW]
  have HB := Lib.hid hb0
  have HK := Lib.hid k0
  obtain ⟨c0, c1, c2, c3, c4, c5⟩ := k0.six
  clear hW hb0 k0
  cases hv : vldG b P with
  | false =>
    have HV := Lib.hid hv
    clear hv
    go_wp2_with fail
    have CALL := valid5_any w.heap.size A n c b P w0 (HP.out.below HB.out (Nat.le_refl _)) HB.out.size hl
    refine CALL.mono ?_
    rintro e w1 ⟨rfl, hb⟩
    clear CALL
    replace HK := Lib.hid (HK.out.below hb HK.out.lt)
    replace HB := Lib.hid (HB.out.trans (hb.mono HB.out.size))
    clear hb c0 c1 c2 c3 c4 c5
    obtain ⟨c0, c1, c2, c3, c4, c5⟩ := HK.out.six
    rw [HV.out]
    go_wp2_with fail
    refine (works5_any _).mono ?_
    rintro e w2 ⟨rfl, hb⟩
    replace HB := Lib.hid (HB.out.trans (hb.mono HB.out.size))
    clear hb
    go_wp2
    go_ret
    exact ⟨rfl, HB.out⟩
  | true =>
    have HV := Lib.hid hv
    cases hs : sol b P P.length with
    | none =>
      have HS := Lib.hid (outE_none hv hs)
      clear hv hs
      go_wp2_with fail
      have CALL := valid5_any w.heap.size A n c b P w0 (HP.out.below HB.out (Nat.le_refl _)) HB.out.size hl
      refine CALL.mono ?_
      rintro e w3 ⟨rfl, hb⟩
      clear CALL
      replace HK := Lib.hid (HK.out.below hb HK.out.lt)
      replace HB := Lib.hid (HB.out.trans (hb.mono HB.out.size))
      clear hb c0 c1 c2 c3 c4 c5
      obtain ⟨c0, c1, c2, c3, c4, c5⟩ := HK.out.six
      rw [HV.out]
      go_wp2_with fail
      have CALL := Outermost_any w.heap.size A n c b P w3 (HP.out.below HB.out (Nat.le_refl _)) HB.out.size hl
      refine CALL.mono ?_
      rintro e w4 ⟨v, EO, rfl, hEO, ho, hb⟩
      clear CALL
      rw [HS.out.2, List.length_nil] at ho
      rw [HS.out.1] at hEO
      subst hEO
      obtain ⟨AO, kO, rfl, hO⟩ := li_own ho
      have HO := Lib.hid hO
      clear ho hO
      replace HK := Lib.hid (HK.out.below hb HK.out.lt)
      replace HB := Lib.hid (HB.out.trans (hb.mono HB.out.size))
      clear hb c0 c1 c2 c3 c4 c5
      obtain ⟨c0, c1, c2, c3, c4, c5⟩ := HK.out.six
      go_wp2_with fail
      refine (works5_any _).mono ?_
      rintro e w5 ⟨rfl, hb⟩
      replace HB := Lib.hid (HB.out.trans (hb.mono HB.out.size))
      clear hb
      go_wp2
      go_ret
      exact ⟨rfl, HB.out⟩
    | some X =>
      have HS := Lib.hid (outE_some hv hs)
      have HT := Lib.hid (top_of hv hs)
      have HAP := Lib.hid (fun i h1 h2 => ap_of (i := i) hv HT.out h1 h2)
      have HVE := Lib.hid (vld_er hv)
      have he : erC b P X = 0 := by rw [erC_vld hv]; exact top_ckR hv HT.out
      have hpr := HVE.out.2.1.per1
      have hpr2 := HVE.out.2.1.per2
      have hn40 : n ≤ 40 := by rw [HN.out]; exact HVE.out.2.2.2
      have hkn : n = P.length := HN.out
      have HTG : Hid (((n : Int) ≤ b.per ∧ tigE b P X = 5) ∨ (¬ (n : Int) ≤ b.per ∧ tigE b P X = 0 ∧ b.per ≤ tigA b P X ∧ tigA b P X < n)) := Lib.hid (by
        rw [hkn]
        by_cases hq : (P.length : Int) ≤ b.per
        · exact .inl ⟨hq, by unfold tigE; rw [if_pos he, if_pos hq]⟩
        · refine .inr ⟨hq, by unfold tigE; rw [if_pos he, if_neg hq], ?_⟩
          unfold tigA
          rw [if_pos he, if_neg hq]
          have := tgT_bd b P X b.per.toNat (P.length - 1 - b.per.toNat)
          unfold tgA
          omega)
      obtain ⟨te, hte⟩ : ∃ x, tigE b P X = x := ⟨_, rfl⟩
      obtain ⟨ta, hta⟩ : ∃ x, tigA b P X = x := ⟨_, rfl⟩
      obtain ⟨tv, htv⟩ : ∃ x, tigV b P X = x := ⟨_, rfl⟩
      rw [hte, hta] at HTG
      have HTE := Lib.hid (show tigA b P X = ta ∧ tigV b P X = tv ∧ tigE b P X = te from ⟨hta, htv, hte⟩)
      clear hv hs he hte hta htv hkn
      rcases HTG.out with ⟨hq, rfl⟩ | ⟨hq, rfl, hta1, hta2⟩
      · have hq2 : ¬ ((n : Int) > b.per) := by omega
        clear HTG
        go_wp2_with fail
        have CALL := valid5_any w.heap.size A n c b P w0 (HP.out.below HB.out (Nat.le_refl _)) HB.out.size hl
        refine CALL.mono ?_
        rintro e w6 ⟨rfl, hb⟩
        clear CALL
        replace HK := Lib.hid (HK.out.below hb HK.out.lt)
        replace HB := Lib.hid (HB.out.trans (hb.mono HB.out.size))
        clear hb c0 c1 c2 c3 c4 c5
        obtain ⟨c0, c1, c2, c3, c4, c5⟩ := HK.out.six
        rw [HV.out]
        go_wp2_with fail
        have CALL := Outermost_any w.heap.size A n c b P w6 (HP.out.below HB.out (Nat.le_refl _)) HB.out.size hl
        refine CALL.mono ?_
        rintro e w7 ⟨v, EO, rfl, hEO, ho, hb⟩
        clear CALL
        rw [HS.out.2, HT.out.len, ← HN.out] at ho
        rw [HS.out.1] at hEO
        subst hEO
        obtain ⟨AO, kO, rfl, hO⟩ := li_own ho
        have HO := Lib.hid hO
        clear ho hO
        replace HK := Lib.hid (HK.out.below hb HK.out.lt)
        replace HB := Lib.hid (HB.out.trans (hb.mono HB.out.size))
        clear hb c0 c1 c2 c3 c4 c5
        obtain ⟨c0, c1, c2, c3, c4, c5⟩ := HK.out.six
        go_wp2_with fail
        have CALL := Tightest_any w7.heap.size A AO n c n kO b P X w7 ((HP.out.below HB.out (Nat.le_refl _)).more HB.out.size) HO.out (Nat.le_refl _) hl hl
        refine CALL.mono ?_
        rintro e w8 ⟨rfl, hb⟩
        clear CALL
        replace HK := Lib.hid (HK.out.below hb HK.out.lt)
        replace HO := Lib.hid ((HO.out.below hb (Nat.le_refl _)).more hb.size)
        replace HB := Lib.hid (HB.out.trans (hb.mono HB.out.size))
        clear hb c0 c1 c2 c3 c4 c5
        obtain ⟨c0, c1, c2, c3, c4, c5⟩ := HK.out.six
        rw [HTE.out.1, HTE.out.2.1, HTE.out.2.2]
        go_wp2_with fail
        go_loopw [10] (fun z wr => ∃ i : Nat, i ≤ n ∧ z = .int .i64 i ∧ Hid (Below w8.heap.size w8 wr)) (fun z _ => n - (intOf z).toNat)
        case atStart => exact ⟨0, Nat.zero_le _, rfl, Lib.hid (Below.refl _ _)⟩
        case round =>
          obtain ⟨i, hi, rfl, HB2⟩ := hrel
          have HB3 := Lib.hid (HB.out.trans (HB2.out.mono HB.out.size))
          clear c0 c1 c2 c3 c4 c5
          obtain ⟨c0, c1, c2, c3, c4, c5⟩ := (HK.out.below HB2.out HK.out.lt).six
          by_cases hlt : i < n
          · obtain ⟨ad, hA, -, g1, g2⟩ := (HP.out.below HB3.out (Nat.le_refl _)).pt hlt
            obtain ⟨ad', hA', -, g3⟩ := (HO.out.below HB2.out (Nat.le_refl _)).fx hlt
            subst hA hA'
            have y1 := (HT.out.keeps i (by rw [← HN.out]; exact hlt)).1
            have y2 := HT.out.cores i (by rw [← HN.out]; exact hlt)
            have y3 := HVE.out.2.2.1.at_ i
            have y4 := top_bd HVE.out.2.1 HVE.out.2.2.1 HT.out.keeps HT.out.cores (i := i) (by rw [← HN.out]; exact hlt)
            obtain ⟨x, hx⟩ : ∃ x, fx X i = x := ⟨_, rfl⟩
            obtain ⟨pi, hpi⟩ : ∃ x, pin P i = x := ⟨_, rfl⟩
            obtain ⟨po, hpo⟩ : ∃ x, pout P i = x := ⟨_, rfl⟩
            rw [hpi] at g1 y2 y3
            rw [hpo] at g2 y1 y3
            rw [hx] at g3 y1 y2 y4
            have z1 : ¬ b.rim < x + po := by omega
            have z2 : ¬ x + pi < b.core := by omega
            obtain ⟨y5, y6, y7, y8⟩ := y3
            obtain ⟨y9, y10⟩ := y4
            have e1 : IntKind.i64.wrap (x + po) = x + po := IntWalk.i64_in _ (by omega)
            have e2 : IntKind.i64.wrap (x + pi) = x + pi := IntWalk.i64_in _ (by omega)
            have HXI := Lib.hid hx
            clear hpi hpo y1 y2 hx
            have hip : (i : Int) < b.per := by omega
            go_wp2_with fail
            go_quiet (fail)
            go_wp2_with fail
            go_roundw
            case rel => exact ⟨i + 1, by omega, by go_num, Lib.hid (below_drewN_ HB2.out _)⟩
            case measure => simp [intOf]; omega
          · obtain rfl : i = n := by omega
            replace HB := HB3
            go_wp2_with fail
            refine (works5_any _).mono ?_
            rintro e w9 ⟨rfl, hb⟩
            replace HB := Lib.hid (HB.out.trans (hb.mono HB.out.size))
            clear hb
            go_wp2
            go_ret
            exact ⟨rfl, HB.out⟩
      · have hq2 : (n : Int) > b.per := by omega
        clear HTG
        go_wp2_with fail
        have CALL := valid5_any w.heap.size A n c b P w0 (HP.out.below HB.out (Nat.le_refl _)) HB.out.size hl
        refine CALL.mono ?_
        rintro e w10 ⟨rfl, hb⟩
        clear CALL
        replace HK := Lib.hid (HK.out.below hb HK.out.lt)
        replace HB := Lib.hid (HB.out.trans (hb.mono HB.out.size))
        clear hb c0 c1 c2 c3 c4 c5
        obtain ⟨c0, c1, c2, c3, c4, c5⟩ := HK.out.six
        rw [HV.out]
        go_wp2_with fail
        have CALL := Outermost_any w.heap.size A n c b P w10 (HP.out.below HB.out (Nat.le_refl _)) HB.out.size hl
        refine CALL.mono ?_
        rintro e w11 ⟨v, EO, rfl, hEO, ho, hb⟩
        clear CALL
        rw [HS.out.2, HT.out.len, ← HN.out] at ho
        rw [HS.out.1] at hEO
        subst hEO
        obtain ⟨AO, kO, rfl, hO⟩ := li_own ho
        have HO := Lib.hid hO
        clear ho hO
        replace HK := Lib.hid (HK.out.below hb HK.out.lt)
        replace HB := Lib.hid (HB.out.trans (hb.mono HB.out.size))
        clear hb c0 c1 c2 c3 c4 c5
        obtain ⟨c0, c1, c2, c3, c4, c5⟩ := HK.out.six
        go_wp2_with fail
        have CALL := Tightest_any w11.heap.size A AO n c n kO b P X w11 ((HP.out.below HB.out (Nat.le_refl _)).more HB.out.size) HO.out (Nat.le_refl _) hl hl
        refine CALL.mono ?_
        rintro e w12 ⟨rfl, hb⟩
        clear CALL
        replace HK := Lib.hid (HK.out.below hb HK.out.lt)
        replace HO := Lib.hid ((HO.out.below hb (Nat.le_refl _)).more hb.size)
        replace HB := Lib.hid (HB.out.trans (hb.mono HB.out.size))
        clear hb c0 c1 c2 c3 c4 c5
        obtain ⟨c0, c1, c2, c3, c4, c5⟩ := HK.out.six
        rw [HTE.out.1, HTE.out.2.1, HTE.out.2.2]
        go_wp2_with fail
        go_loopw [10] (fun z wr => ∃ i : Nat, i ≤ n ∧ z = .int .i64 i ∧ Hid (Below w12.heap.size w12 wr)) (fun z _ => n - (intOf z).toNat)
        case atStart => exact ⟨0, Nat.zero_le _, rfl, Lib.hid (Below.refl _ _)⟩
        case round =>
          obtain ⟨i, hi, rfl, HB2⟩ := hrel
          have HB3 := Lib.hid (HB.out.trans (HB2.out.mono HB.out.size))
          clear c0 c1 c2 c3 c4 c5
          obtain ⟨c0, c1, c2, c3, c4, c5⟩ := (HK.out.below HB2.out HK.out.lt).six
          by_cases hlt : i < n
          · obtain ⟨ad, hA, -, g1, g2⟩ := (HP.out.below HB3.out (Nat.le_refl _)).pt hlt
            obtain ⟨ad', hA', -, g3⟩ := (HO.out.below HB2.out (Nat.le_refl _)).fx hlt
            subst hA hA'
            have y1 := (HT.out.keeps i (by rw [← HN.out]; exact hlt)).1
            have y2 := HT.out.cores i (by rw [← HN.out]; exact hlt)
            have y3 := HVE.out.2.2.1.at_ i
            have y4 := top_bd HVE.out.2.1 HVE.out.2.2.1 HT.out.keeps HT.out.cores (i := i) (by rw [← HN.out]; exact hlt)
            obtain ⟨x, hx⟩ : ∃ x, fx X i = x := ⟨_, rfl⟩
            obtain ⟨pi, hpi⟩ : ∃ x, pin P i = x := ⟨_, rfl⟩
            obtain ⟨po, hpo⟩ : ∃ x, pout P i = x := ⟨_, rfl⟩
            rw [hpi] at g1 y2 y3
            rw [hpo] at g2 y1 y3
            rw [hx] at g3 y1 y2 y4
            have z1 : ¬ b.rim < x + po := by omega
            have z2 : ¬ x + pi < b.core := by omega
            obtain ⟨y5, y6, y7, y8⟩ := y3
            obtain ⟨y9, y10⟩ := y4
            have e1 : IntKind.i64.wrap (x + po) = x + po := IntWalk.i64_in _ (by omega)
            have e2 : IntKind.i64.wrap (x + pi) = x + pi := IntWalk.i64_in _ (by omega)
            have HXI := Lib.hid hx
            clear hpi hpo y1 y2 hx
            by_cases hip : (i : Int) < b.per
            · go_wp2_with fail
              go_quiet (fail)
              go_wp2_with fail
              go_roundw
              case rel => exact ⟨i + 1, by omega, by go_num, Lib.hid (below_drewN_ HB2.out _)⟩
              case measure => simp [intOf]; omega
            · have HF := Lib.hid (HAP.out i (by omega) (by rw [← HN.out]; exact hlt))
              go_wp2_with fail
              go_quiet (fail)
              have hbq : Below wr.heap.size wr (wr.drewN nq) := below_drewN_ (Below.refl _ _) nq
              obtain ⟨wq, hwq⟩ : ∃ W, wr.drewN nq = W := ⟨_, rfl⟩
              rw [hwq] at hbq ⊢
              clear hwq c0 c1 c2 c3 c4 c5
              replace HB2 := Lib.hid (HB2.out.trans (hbq.mono HB2.out.size))
              replace HB3 := Lib.hid (HB3.out.trans (hbq.mono HB3.out.size))
              clear hbq
              obtain ⟨c0, c1, c2, c3, c4, c5⟩ := (HK.out.below HB2.out HK.out.lt).six
              go_wp2_with fail
              have CALL := Land_any wq.heap.size (some ad) (some ad') n c n kO b P X i wq ((HP.out.below HB3.out (Nat.le_refl _)).more HB3.out.size) ((HO.out.below HB2.out (Nat.le_refl _)).more HB2.out.size) (Nat.le_refl _) hl hl
              refine CALL.mono ?_
              rintro e wl ⟨rfl, hb⟩
              clear CALL c0 c1 c2 c3 c4 c5
              replace HB2 := Lib.hid (HB2.out.trans (hb.mono HB2.out.size))
              replace HB3 := Lib.hid (HB3.out.trans (hb.mono HB3.out.size))
              clear hb
              obtain ⟨c0, c1, c2, c3, c4, c5⟩ := (HK.out.below HB2.out HK.out.lt).six
              rw [HF.out.lanE, HF.out.lanV]
              have f1 := HF.out.land
              have f2 := HF.out.least
              have f3 := HF.out.before
              have f4 := HF.out.at_
              have f5 := HF.out.slow
              have f6 := HF.out.fast
              obtain ⟨mi, hmi⟩ : ∃ m : Nat, i - b.per.toNat = m := ⟨_, rfl⟩
              rw [hmi] at f5 f6
              rw [HXI.out] at f5 f6
              rw [HTE.out.2.1] at f2 f3 f4
              rw [HTE.out.1] at f3 f4
              obtain ⟨lv, hlv⟩ : ∃ x, lndI b P X i = x := ⟨_, rfl⟩
              rw [hlv] at f1 f2 f3 f4 ⊢
              have hmi2 : (i : Int) - b.per = (mi : Int) := by omega
              have e9 : IntKind.i64.wrap ((i : Int) - b.per) = (mi : Int) := by rw [hmi2]; exact IntWalk.i64_in _ (by omega)
              have hmn : mi < n := by omega
              obtain ⟨ad2, hA2, -, g4⟩ := (HO.out.below HB2.out (Nat.le_refl _)).fx hlt
              cases hA2
              obtain ⟨ad2, hA2, -, g5⟩ := (HO.out.below HB2.out (Nat.le_refl _)).fx hmn
              cases hA2
              have y11 := top_bd HVE.out.2.1 HVE.out.2.2.1 HT.out.keeps HT.out.cores (i := mi) (by rw [← HN.out]; exact hmn)
              obtain ⟨x2, hx2⟩ : ∃ x, fx X mi = x := ⟨_, rfl⟩
              rw [HXI.out] at g4
              rw [hx2] at g5 f5 f6 y11
              obtain ⟨y12, y13⟩ := y11
              have e10 : IntKind.i64.wrap (x2 - x) = x2 - x := IntWalk.i64_in _ (by omega)
              obtain ⟨sl, hsl⟩ : ∃ x, b.per * b.slow = x := ⟨_, rfl⟩
              obtain ⟨fa, hfa⟩ : ∃ x, b.per * b.fast = x := ⟨_, rfl⟩
              rw [hsl] at f5
              rw [hfa] at f6
              have hpf := mul_nn (show 0 ≤ b.per by omega) (show 0 ≤ b.slow from HVE.out.2.1.slow)
              have hps := Int.mul_le_mul hpr2 (show b.fast ≤ 65536 from HVE.out.2.1.fast) (show 0 ≤ b.fast by have := HVE.out.2.1.slow; have := HVE.out.2.1.slowfast; omega) (by omega)
              rw [hsl] at hpf
              rw [hfa] at hps
              have e11 : IntKind.i64.wrap sl = sl := IntWalk.i64_in _ (by omega)
              have e12 : IntKind.i64.wrap fa = fa := IntWalk.i64_in _ (by omega)
              clear hmi hmi2 hlv hx2 HF
              go_wp2_with fail
              go_quiet (fail)
              rcases Int.lt_trichotomy (i : Int) ta with hq3 | hq3 | hq3
              · have hne : (lv == tv) = false := by simpa using f3 hq3
                have hne2 : ¬ (i : Int) = ta := by omega
                clear f3 f4
                go_wp2_with fail
                go_roundw
                case rel => exact ⟨i + 1, by omega, by go_num, Lib.hid (below_drewN_ HB2.out _)⟩
                case measure => simp [intOf]; omega
              · have hne : (lv != tv) = false := by simpa using f4 hq3
                have hne2 : ¬ (i : Int) < ta := by omega
                clear f3 f4
                go_wp2_with fail
                go_roundw
                case rel => exact ⟨i + 1, by omega, by go_num, Lib.hid (below_drewN_ HB2.out _)⟩
                case measure => simp [intOf]; omega
              · have hne1 : ¬ (i : Int) = ta := by omega
                have hne2 : ¬ (i : Int) < ta := by omega
                clear f3 f4
                go_wp2_with fail
                go_roundw
                case rel => exact ⟨i + 1, by omega, by go_num, Lib.hid (below_drewN_ HB2.out _)⟩
                case measure => simp [intOf]; omega
          · obtain rfl : i = n := by omega
            replace HB := HB3
            go_wp2_with fail
            refine (works5_any _).mono ?_
            rintro e w13 ⟨rfl, hb⟩
            replace HB := Lib.hid (HB.out.trans (hb.mono HB.out.size))
            clear hb
            go_wp2
            go_ret
            exact ⟨rfl, HB.out⟩
end Go.Proofs.Ytgdkcbnpgpjnbaa
