/-
  The walk of TakeQuiet, the second way.
-/
import Derived.Test.YtlnekinnblnciaaF4
namespace Go.Proofs.Ytlnekinnblnciaa
open Go.RowKit

set_option maxRecDepth 100000 in
set_option maxHeartbeats 100000000 in
theorem quietLaw_ok2 (A : Option Addr) (n c : Nat) (xs : List Smp) (li mo le : Int) (w : World) (h0 : RS w w.heap.size A n xs) (hn : n ≤ 300) (hi : I64s xs) (hc : ckS xs = 0) (l1 : 0 ≤ li) (l2 : li ≤ 65535) (m1 : 0 ≤ mo) (m2 : mo ≤ 65535) (e1 : 0 ≤ le) (e2 : le ≤ 255) (hmin : li % 32768 + mo < 32767) :
    Calls Try.prog 9 #[.slice A n c, .int .u16 li, .int .u16 mo, .int .u8 le] w fun e w' => e = .returned (.bool true) ∧ Below w.heap.size w w' := by
  have H := Lib.hid h0
  have HC := Lib.hid hc
  clear h0 hc
  go_enter Try.func9, Try.ntmps9
  go_wp2_with fail
  refine (refCheckSamples_any _ A n c xs _ H.out (Nat.le_refl _) (by omega) hi).mono ?_
  rintro e w1 ⟨rfl, hb1⟩
  rw [HC.out]
  have HI : Hid (∀ (k : Nat) (hk : k < xs.length), -32767 ≤ xs[k].1 ∧ xs[k].1 ≤ 32767 ∧ -32767 ≤ xs[k].2 ∧ xs[k].2 ≤ 32767) := Lib.hid (ckS_bd xs HC.out)
  have HN := Lib.hid H.out.1
  have B1 := Lib.hid hb1
  clear hb1
  go_wp2_with fail
  all_goals try (exfalso; omega)
  all_goals
    refine (Silences_ok _ A n c xs _ _ _ ((H.out.below B1.out (Nat.le_refl _)).more B1.out.size) (Nat.le_refl _) (by omega) HC.out (by omega) (by omega) (by omega) (by omega)).mono ?_
    rintro e w2 ⟨v, rfl, hown, hb2⟩
    obtain ⟨Ax, cx, rfl, hrd⟩ := own_reads hown
    obtain ⟨X, hX⟩ : ∃ X, tk 1 (qf (li % 32768) xs) 0 0 = X := ⟨_, rfl⟩
    have hXl := own_le hown
    rw [hX] at hrd hXl ⊢
    have RX := Lib.hid (show RR w2 w2.heap.size Ax X.length X from ⟨rfl, hrd⟩)
    have HX := Lib.hid hX
    have B1 := Lib.hid (B1.out.trans (hb2.mono B1.out.size))
    clear hown hrd hX hb2
    go_wp2_with fail
    refine (Silences_ok _ A n c xs _ _ _ ((H.out.below B1.out (Nat.le_refl _)).more B1.out.size) (Nat.le_refl _) (by omega) HC.out (by omega) (by omega) (by omega) (by omega)).mono ?_
    rintro e w3 ⟨v, rfl, hown, hb3⟩
    obtain ⟨Ay, cy, rfl, hrd⟩ := own_reads hown
    have hYl := own_le hown
    have RX := Lib.hid ((RX.out.below hb3 (Nat.le_refl _)).more hb3.size)
    have B1 := Lib.hid (B1.out.trans (hb3.mono B1.out.size))
    clear hb3 hown
    obtain ⟨Y, hY⟩ : ∃ Y, Y = tk 1 (qf (if 32767 ≤ li % 32768 + mo then 32767 else li % 32768 + mo) xs) 0 0 := ⟨_, rfl⟩
    first | rw [if_pos (by omega)] at hY | rw [if_neg (by omega)] at hY
    rw [← hY] at hrd hYl ⊢
    have RY := Lib.hid (show RR w3 w3.heap.size Ay Y.length Y from ⟨rfl, hrd⟩)
    have HY := Lib.hid hY
    clear hrd hY
    go_wp2_with fail
    refine (Silences_ok _ A n c xs _ _ _ ((H.out.below B1.out (Nat.le_refl _)).more B1.out.size) (Nat.le_refl _) (by omega) HC.out (by omega) (by omega) (by omega) (by omega)).mono ?_
    rintro e w4 ⟨v, rfl, hown, hb4⟩
    obtain ⟨Az, cz, rfl, hrd⟩ := own_reads hown
    have hZl := own_le hown
    have RX := Lib.hid ((RX.out.below hb4 (Nat.le_refl _)).more hb4.size)
    have RY := Lib.hid ((RY.out.below hb4 (Nat.le_refl _)).more hb4.size)
    have B1 := Lib.hid (B1.out.trans (hb4.mono B1.out.size))
    clear hb4 hown
    obtain ⟨Z, hZ⟩ : ∃ Z, tk (1 + le) (qf (li % 32768) xs) 0 0 = Z := ⟨_, rfl⟩
    rw [hZ] at hrd hZl ⊢
    have RZ := Lib.hid (show RR w4 w4.heap.size Az Z.length Z from ⟨rfl, hrd⟩)
    have FF : Hid (QF xs n (li % 32768) (1 + le) X Y Z) := Lib.hid (by rw [← HX.out, HY.out, ← hZ]; exact qf_of xs n _ _ _ HN.out (by omega) (by omega))
    clear hrd hZ HX HY
    have H4 := Lib.hid ((H.out.below B1.out (Nat.le_refl _)).more B1.out.size)
    go_wp2_with fail
    go_loop [18, 19] (fun m i => ∃ (k mm : Nat), m = .int .i64 mm ∧ i = .int .i64 k ∧ k ≤ n ∧ mm ≤ X.length ∧ Hid (∀ (j : Nat) (hj : j < X.length), j < mm → X[j].2 ≤ k)) (fun _ i => n - (intOf i).toNat)
    case atStart => exact ⟨0, 0, rfl, rfl, Nat.zero_le _, Nat.zero_le _, Lib.hid (fun j hj h => by omega)⟩
    case round =>
      obtain ⟨k, mm, rfl, rfl, hk, hmm, hle⟩ := hrel
      by_cases hlt : k < n
      · have hkx : k < xs.length := by have := HN.out; omega
        obtain ⟨ad, hA, hbl, s0, s1⟩ := H4.out.at_ hkx
        obtain rfl := hA
        obtain ⟨i1, i2, i3, i4⟩ := HI.out k hkx
        obtain ⟨sl, hsl⟩ : ∃ v, xs[k].1 = v := ⟨_, rfl⟩
        obtain ⟨sr, hsr⟩ : ∃ v, xs[k].2 = v := ⟨_, rfl⟩
        rw [hsl] at s0 i1 i2
        rw [hsr] at s1 i3 i4
        have HSL := Lib.hid hsl
        have HSR := Lib.hid hsr
        clear hsl hsr
        go_wp2
        go_loop [18] (fun m => ∃ mm : Nat, m = .int .i64 mm ∧ mm ≤ X.length ∧ Hid (∀ (j : Nat) (hj : j < X.length), j < mm → X[j].2 ≤ k)) (fun m => X.length - (intOf m).toNat)
        case atStart => exact ⟨mm, rfl, hmm, hle⟩
        case round =>
          clear hle hmm
          obtain ⟨m2, rfl, hm2, hle2⟩ := hrel
          by_cases hm3 : m2 < X.length
          · obtain ⟨ax, hax, hbx, x0, x1⟩ := RX.out.at_ hm3
            obtain rfl := hax
            obtain ⟨q1, hq1⟩ : ∃ q : Nat, X[m2].1 = q := ⟨_, rfl⟩
            obtain ⟨q2, hq2⟩ : ∃ q : Nat, X[m2].2 = q := ⟨_, rfl⟩
            rw [hq1] at x0
            rw [hq2] at x1
            have HQ1 := Lib.hid hq1
            have HQ2 := Lib.hid hq2
            clear hq1 hq2
            by_cases hq : q2 ≤ k
            · go_wp2
              go_round
              case rel => exact ⟨m2 + 1, by go_num, by omega, Lib.hid (fun j hj h => by
                rcases Nat.lt_or_ge j m2 with h' | h'
                · exact hle2.out j hj h'
                · obtain rfl : j = m2 := by omega
                  rw [HQ2.out]; exact hq)⟩
              case measure => simp [intOf]; omega
            · have hat := (FF.out.at_ hkx hle2.out).1 hm3 hm3 (by rw [HQ2.out]; omega)
              rw [HSL.out, HSR.out, HQ1.out] at hat
              by_cases c1 : am sl ≤ li % 32768
              · by_cases c2 : am sr ≤ li % 32768
                · have h7 : q1 ≤ k := by simpa [c1, c2] using hat
                  clear hat
                  go_wp2_with (go_at_call 43; refine (lawAmount_any _ _ (by omega) (by omega)).mono ?_; rintro e w' ⟨rfl, rfl⟩)
                  first
                  | (go_round
                     case rel => exact ⟨k + 1, m2, rfl, by go_num, by omega, hm2, Lib.hid (fun j hj h => Nat.le_succ_of_le (hle2.out j hj h))⟩
                     case measure => simp [intOf]; omega)
                  | exact ⟨⟨k + 1, m2, rfl, by go_num, by omega, hm2, Lib.hid (fun j hj h => Nat.le_succ_of_le (hle2.out j hj h))⟩, by simp [intOf]; omega⟩
                · have h7 : k < q1 := by simpa [c1, c2] using hat
                  have c2b : decide (am sr ≤ li % 32768) = false := by simpa using c2
                  clear hat c2
                  go_wp2_with (go_at_call 43; refine (lawAmount_any _ _ (by omega) (by omega)).mono ?_; rintro e w' ⟨rfl, rfl⟩)
                  first
                  | (go_round
                     case rel => exact ⟨k + 1, m2, rfl, by go_num, by omega, hm2, Lib.hid (fun j hj h => Nat.le_succ_of_le (hle2.out j hj h))⟩
                     case measure => simp [intOf]; omega)
                  | exact ⟨⟨k + 1, m2, rfl, by go_num, by omega, hm2, Lib.hid (fun j hj h => Nat.le_succ_of_le (hle2.out j hj h))⟩, by simp [intOf]; omega⟩
              · have h7 : k < q1 := by simpa [c1] using hat
                have c1 : li % 32768 < am sl := by omega
                clear hat
                go_wp2_with (go_at_call 43; refine (lawAmount_any _ _ (by omega) (by omega)).mono ?_; rintro e w' ⟨rfl, rfl⟩)
                first
                | (go_round
                   case rel => exact ⟨k + 1, m2, rfl, by go_num, by omega, hm2, Lib.hid (fun j hj h => Nat.le_succ_of_le (hle2.out j hj h))⟩
                   case measure => simp [intOf]; omega)
                | exact ⟨⟨k + 1, m2, rfl, by go_num, by omega, hm2, Lib.hid (fun j hj h => Nat.le_succ_of_le (hle2.out j hj h))⟩, by simp [intOf]; omega⟩
          · have hat := (FF.out.at_ hkx hle2.out).2 (by omega)
            rw [HSL.out, HSR.out] at hat
            by_cases c1 : am sl ≤ li % 32768
            · have c2 : li % 32768 < am sr := by simpa [c1] using hat
              clear hat
              go_wp2_with (go_at_call 43; refine (lawAmount_any _ _ (by omega) (by omega)).mono ?_; rintro e w' ⟨rfl, rfl⟩)
              first
              | (go_round
                 case rel => exact ⟨k + 1, m2, rfl, by go_num, by omega, hm2, Lib.hid (fun j hj h => Nat.le_succ_of_le (hle2.out j hj h))⟩
                 case measure => simp [intOf]; omega)
              | exact ⟨⟨k + 1, m2, rfl, by go_num, by omega, hm2, Lib.hid (fun j hj h => Nat.le_succ_of_le (hle2.out j hj h))⟩, by simp [intOf]; omega⟩
            · have c1 : li % 32768 < am sl := by omega
              clear hat
              go_wp2_with (go_at_call 43; refine (lawAmount_any _ _ (by omega) (by omega)).mono ?_; rintro e w' ⟨rfl, rfl⟩)
              first
              | (go_round
                 case rel => exact ⟨k + 1, m2, rfl, by go_num, by omega, hm2, Lib.hid (fun j hj h => Nat.le_succ_of_le (hle2.out j hj h))⟩
                 case measure => simp [intOf]; omega)
              | exact ⟨⟨k + 1, m2, rfl, by go_num, by omega, hm2, Lib.hid (fun j hj h => Nat.le_succ_of_le (hle2.out j hj h))⟩, by simp [intOf]; omega⟩
      · clear hle
        go_wp2_with fail
        have FX : Hid (∀ (j : Nat) (hj : j < X.length), X[j].1 < X[j].2 ∧ X[j].2 ≤ n) := Lib.hid (fun j hj => FF.out.b _ (List.getElem_mem hj))
        go_loopw [21, 22] (fun kk i wr => ∃ j : Nat, i = .int .i64 j ∧ j ≤ X.length ∧ kk = .int .i64 (((X.take j).filter fun p => decide (1 + le ≤ (p.2 : Int) - p.1)).length : Nat) ∧ Below w4.heap.size w4 wr) (fun _ i _ => X.length - (intOf i).toNat)
        case atStart => exact ⟨0, rfl, Nat.zero_le _, rfl, Below.refl _ _⟩
        case round =>
          obtain ⟨j, rfl, hj, rfl, hb⟩ := hrel
          by_cases hlt2 : j < X.length
          · obtain ⟨ax, hax, hbx, x0, x1⟩ := (RX.out.below hb (Nat.le_refl _)).at_ hlt2
            have hx12 := FX.out j hlt2
            have HFY := Lib.hid (FF.out.y _ (List.getElem_mem hlt2))
            have HPR : Hid (∀ j' (h : j' < j), (X[j']'(by omega)).2 < X[j].1) := Lib.hid (fun j' h => FF.out.lt h hlt2)
            obtain ⟨q1, hq1⟩ : ∃ q : Nat, X[j].1 = q := ⟨_, rfl⟩
            obtain ⟨q2, hq2⟩ : ∃ q : Nat, X[j].2 = q := ⟨_, rfl⟩
            rw [hq1] at x0 hx12 HPR HFY
            rw [hq2] at x1 hx12 HFY
            have HQ1 := Lib.hid hq1
            have HQ2 := Lib.hid hq2
            clear hq1 hq2
            have HBB := Lib.hid hb
            obtain ⟨cn, hcn⟩ : ∃ cn, ((X.take j).filter fun p => decide (1 + le ≤ (p.2 : Int) - p.1)).length = cn := ⟨_, rfl⟩
            rw [hcn]
            have HCN := Lib.hid hcn
            clear hcn hb
            obtain ⟨x12, x2n⟩ := hx12
            have d1 : decide ((q1 : Int) < 0) = false := by simp
            have d2 : decide (n < q2) = false := by simp; omega
            have d3 : decide (q2 ≤ q1) = false := by simp; omega
            rcases j with _ | j
            · obtain rfl := hax
              have x0' : wr.cell? ax = some (.int .i64 q1) := x0
              have x1' : wr.cell? ⟨ax.block, ax.off + 1, none⟩ = some (.int .i64 q2) := x1
              clear x0 x1
              go_wp2
              go_quiet (fail)
              go_wp2_with fail
              clear x0' x1' d1 d2 d3
              go_loopw [23, 24] (fun fo jj wi => ∃ jy : Nat, jj = .int .i64 jy ∧ jy ≤ Y.length ∧ fo = .bool ((Y.take jy).any fun p => decide (p.1 ≤ q1) && decide (q2 ≤ p.2)) ∧ Below w4.heap.size w4 wi) (fun _ jj _ => Y.length - (intOf jj).toNat)
              case atStart => exact ⟨0, rfl, Nat.zero_le _, rfl, below_drewN_ HBB.out _⟩
              case round =>
                clear HBB
                obtain ⟨jy, rfl, hjy, rfl, hbi⟩ := hrel
                obtain ⟨ax2, hax2, _, x0, x1⟩ := (RX.out.below hbi (Nat.le_refl _)).at_ (k := 0) hlt2
                cases hax2
                rw [HQ1.out] at x0
                rw [HQ2.out] at x1
                have x0 : wr.cell? ax = some (.int .i64 q1) := x0
                have x1 : wr.cell? ⟨ax.block, ax.off + 1, none⟩ = some (.int .i64 q2) := x1
                by_cases hlt3 : jy < Y.length
                · obtain ⟨ay, hay, _, y0, y1⟩ := (RY.out.below hbi (Nat.le_refl _)).at_ hlt3
                  obtain rfl := hay
                  have HAN := Lib.hid (any_take (fun p => decide (p.1 ≤ q1) && decide (q2 ≤ p.2)) Y jy hlt3)
                  obtain ⟨r1, hr1⟩ : ∃ q : Nat, Y[jy].1 = q := ⟨_, rfl⟩
                  obtain ⟨r2, hr2⟩ : ∃ q : Nat, Y[jy].2 = q := ⟨_, rfl⟩
                  rw [hr1] at y0 HAN
                  rw [hr2] at y1 HAN
                  have HBI := Lib.hid hbi
                  clear hr1 hr2 hbi
                  obtain ⟨fb, hfb⟩ : ∃ fb, (Y.take jy).any (fun p => decide (p.1 ≤ q1) && decide (q2 ≤ p.2)) = fb := ⟨_, rfl⟩
                  rw [hfb] at HAN ⊢
                  clear hfb
                  cases fb
                  · by_cases c1 : r1 ≤ q1
                    · have c1b : decide (r1 ≤ q1) = true := decide_eq_true c1
                      by_cases c2 : q2 ≤ r2
                      · have c2b : decide (q2 ≤ r2) = true := decide_eq_true c2
                        have HAN : Hid ((Y.take (jy + 1)).any (fun p => decide (p.1 ≤ q1) && decide (q2 ≤ p.2)) = true) := Lib.hid (HAN.out.trans (by rw [c1b, c2b]; rfl))
                        go_wp2
                        go_quiet (fail)
                        go_wp2
                        go_roundw
                        case rel => exact ⟨jy + 1, by go_num, by omega, by rw [HAN.out], below_drewN_ HBI.out _⟩
                        case measure => simp [intOf]; omega
                      · have c2b : decide (q2 ≤ r2) = false := decide_eq_false c2
                        have HAN : Hid ((Y.take (jy + 1)).any (fun p => decide (p.1 ≤ q1) && decide (q2 ≤ p.2)) = false) := Lib.hid (HAN.out.trans (by rw [c1b, c2b]; rfl))
                        clear c2
                        go_wp2
                        go_quiet (fail)
                        go_wp2
                        go_roundw
                        case rel => exact ⟨jy + 1, by go_num, by omega, by rw [HAN.out], below_drewN_ HBI.out _⟩
                        case measure => simp [intOf]; omega
                    · have c1b : decide (r1 ≤ q1) = false := decide_eq_false c1
                      have HAN : Hid ((Y.take (jy + 1)).any (fun p => decide (p.1 ≤ q1) && decide (q2 ≤ p.2)) = false) := Lib.hid (HAN.out.trans (by rw [c1b]; rfl))
                      clear c1
                      go_wp2
                      go_quiet (fail)
                      go_wp2
                      go_roundw
                      case rel => exact ⟨jy + 1, by go_num, by omega, by rw [HAN.out], below_drewN_ HBI.out _⟩
                      case measure => simp [intOf]; omega
                  · have HAN : Hid ((Y.take (jy + 1)).any (fun p => decide (p.1 ≤ q1) && decide (q2 ≤ p.2)) = true) := Lib.hid (HAN.out.trans (by simp))
                    go_wp2
                    go_quiet (fail)
                    go_wp2
                    go_roundw
                    case rel => exact ⟨jy + 1, by go_num, by omega, by rw [HAN.out], below_drewN_ HBI.out _⟩
                    case measure => simp [intOf]; omega
                · have hany : (Y.take jy).any (fun p => decide (p.1 ≤ q1) && decide (q2 ≤ p.2)) = true := by
                    rw [List.take_of_length_le (by omega)]
                    obtain ⟨p, hp, h1, h2⟩ := HFY.out
                    exact List.any_eq_true.2 ⟨p, hp, by simp [h1, h2]⟩
                  rw [hany]
                  have HBI := Lib.hid hbi
                  clear hany hbi
                  have hw : IntKind.i64.wrap ((q2 : Int) - q1) = (q2 : Int) - q1 := IntWalk.i64_in _ (by omega)
                  by_cases c1 : 1 + le ≤ (q2 : Int) - q1
                  · have c1b : decide (1 + le ≤ (q2 : Int) - q1) = true := decide_eq_true c1
                    obtain ⟨f1, f2, f3⟩ := filter_at (fun p => decide (1 + le ≤ (p.2 : Int) - p.1)) X (0) hlt2 (by rw [HQ1.out, HQ2.out]; exact c1b)
                    rw [HCN.out, ← FF.out.z] at f1 f2
                    rw [HCN.out] at f3
                    have F3 := Lib.hid f3
                    obtain ⟨az, haz, _, z0, z1⟩ := (RZ.out.below HBI.out (Nat.le_refl _)).at_ f1
                    obtain rfl := haz
                    have hze : Z[cn] = X[0] := by
                      rw [List.getElem?_eq_getElem f1] at f2
                      exact Option.some.inj f2
                    rw [hze, HQ1.out] at z0
                    rw [hze, HQ2.out] at z1
                    have hq := eq_pair q1 q2
                    have d5 : decide (Z.length ≤ cn) = false := decide_eq_false (by omega)
                    clear f2 f3 hze c1
                    go_wp2
                    go_quiet (fail)
                    go_wp2
                    go_quiet (fail)
                    go_wp2
                    go_roundw
                    case rel => exact ⟨0 + 1, by go_num, by omega, by rw [F3.out]; go_num, below_drewN_ HBI.out _⟩
                    case measure => simp [intOf]; omega
                  · have c1b : decide (1 + le ≤ (q2 : Int) - q1) = false := decide_eq_false c1
                    have F3 := Lib.hid (filter_not (fun p => decide (1 + le ≤ (p.2 : Int) - p.1)) X (0) hlt2 (by rw [HQ1.out, HQ2.out]; exact c1b))
                    rw [HCN.out] at F3
                    clear c1
                    go_wp2
                    go_quiet (fail)
                    go_wp2
                    go_roundw
                    case rel => exact ⟨0 + 1, by go_num, by omega, by rw [F3.out], below_drewN_ HBI.out _⟩
                    case measure => simp [intOf]; omega

            · obtain ⟨ax', hax', _, y0, y1⟩ := (RX.out.below HBB.out (Nat.le_refl _)).at_ (k := j) (by omega)
              rw [hax] at hax'
              cases hax'
              obtain rfl := hax
              have hpr := HPR.out j (by omega)
              obtain ⟨r2, hr2⟩ : ∃ q : Nat, (X[j]'(by omega)).2 = q := ⟨_, rfl⟩
              rw [hr2] at y1 hpr
              have d4 : decide (q1 ≤ r2) = false := by simp; omega
              clear hr2 hpr y0
              go_wp2
              go_quiet (fail)
              go_wp2_with fail
              clear x0 x1 y1 d1 d2 d3 d4
              go_loopw [23, 24] (fun fo jj wi => ∃ jy : Nat, jj = .int .i64 jy ∧ jy ≤ Y.length ∧ fo = .bool ((Y.take jy).any fun p => decide (p.1 ≤ q1) && decide (q2 ≤ p.2)) ∧ Below w4.heap.size w4 wi) (fun _ jj _ => Y.length - (intOf jj).toNat)
              case atStart => exact ⟨0, rfl, Nat.zero_le _, rfl, below_drewN_ HBB.out _⟩
              case round =>
                clear HBB
                obtain ⟨jy, rfl, hjy, rfl, hbi⟩ := hrel
                obtain ⟨ax2, hax2, _, x0, x1⟩ := (RX.out.below hbi (Nat.le_refl _)).at_ (k := j + 1) hlt2
                cases hax2
                rw [HQ1.out] at x0
                rw [HQ2.out] at x1
                by_cases hlt3 : jy < Y.length
                · obtain ⟨ay, hay, _, y0, y1⟩ := (RY.out.below hbi (Nat.le_refl _)).at_ hlt3
                  obtain rfl := hay
                  have HAN := Lib.hid (any_take (fun p => decide (p.1 ≤ q1) && decide (q2 ≤ p.2)) Y jy hlt3)
                  obtain ⟨r1, hr1⟩ : ∃ q : Nat, Y[jy].1 = q := ⟨_, rfl⟩
                  obtain ⟨r2, hr2⟩ : ∃ q : Nat, Y[jy].2 = q := ⟨_, rfl⟩
                  rw [hr1] at y0 HAN
                  rw [hr2] at y1 HAN
                  have HBI := Lib.hid hbi
                  clear hr1 hr2 hbi
                  obtain ⟨fb, hfb⟩ : ∃ fb, (Y.take jy).any (fun p => decide (p.1 ≤ q1) && decide (q2 ≤ p.2)) = fb := ⟨_, rfl⟩
                  rw [hfb] at HAN ⊢
                  clear hfb
                  cases fb
                  · by_cases c1 : r1 ≤ q1
                    · have c1b : decide (r1 ≤ q1) = true := decide_eq_true c1
                      by_cases c2 : q2 ≤ r2
                      · have c2b : decide (q2 ≤ r2) = true := decide_eq_true c2
                        have HAN : Hid ((Y.take (jy + 1)).any (fun p => decide (p.1 ≤ q1) && decide (q2 ≤ p.2)) = true) := Lib.hid (HAN.out.trans (by rw [c1b, c2b]; rfl))
                        go_wp2
                        go_quiet (fail)
                        go_wp2
                        go_roundw
                        case rel => exact ⟨jy + 1, by go_num, by omega, by rw [HAN.out], below_drewN_ HBI.out _⟩
                        case measure => simp [intOf]; omega
                      · have c2b : decide (q2 ≤ r2) = false := decide_eq_false c2
                        have HAN : Hid ((Y.take (jy + 1)).any (fun p => decide (p.1 ≤ q1) && decide (q2 ≤ p.2)) = false) := Lib.hid (HAN.out.trans (by rw [c1b, c2b]; rfl))
                        clear c2
                        go_wp2
                        go_quiet (fail)
                        go_wp2
                        go_roundw
                        case rel => exact ⟨jy + 1, by go_num, by omega, by rw [HAN.out], below_drewN_ HBI.out _⟩
                        case measure => simp [intOf]; omega
                    · have c1b : decide (r1 ≤ q1) = false := decide_eq_false c1
                      have HAN : Hid ((Y.take (jy + 1)).any (fun p => decide (p.1 ≤ q1) && decide (q2 ≤ p.2)) = false) := Lib.hid (HAN.out.trans (by rw [c1b]; rfl))
                      clear c1
                      go_wp2
                      go_quiet (fail)
                      go_wp2
                      go_roundw
                      case rel => exact ⟨jy + 1, by go_num, by omega, by rw [HAN.out], below_drewN_ HBI.out _⟩
                      case measure => simp [intOf]; omega
                  · have HAN : Hid ((Y.take (jy + 1)).any (fun p => decide (p.1 ≤ q1) && decide (q2 ≤ p.2)) = true) := Lib.hid (HAN.out.trans (by simp))
                    go_wp2
                    go_quiet (fail)
                    go_wp2
                    go_roundw
                    case rel => exact ⟨jy + 1, by go_num, by omega, by rw [HAN.out], below_drewN_ HBI.out _⟩
                    case measure => simp [intOf]; omega
                · have hany : (Y.take jy).any (fun p => decide (p.1 ≤ q1) && decide (q2 ≤ p.2)) = true := by
                    rw [List.take_of_length_le (by omega)]
                    obtain ⟨p, hp, h1, h2⟩ := HFY.out
                    exact List.any_eq_true.2 ⟨p, hp, by simp [h1, h2]⟩
                  rw [hany]
                  have HBI := Lib.hid hbi
                  clear hany hbi
                  have hw : IntKind.i64.wrap ((q2 : Int) - q1) = (q2 : Int) - q1 := IntWalk.i64_in _ (by omega)
                  by_cases c1 : 1 + le ≤ (q2 : Int) - q1
                  · have c1b : decide (1 + le ≤ (q2 : Int) - q1) = true := decide_eq_true c1
                    obtain ⟨f1, f2, f3⟩ := filter_at (fun p => decide (1 + le ≤ (p.2 : Int) - p.1)) X (j + 1) hlt2 (by rw [HQ1.out, HQ2.out]; exact c1b)
                    rw [HCN.out, ← FF.out.z] at f1 f2
                    rw [HCN.out] at f3
                    have F3 := Lib.hid f3
                    obtain ⟨az, haz, _, z0, z1⟩ := (RZ.out.below HBI.out (Nat.le_refl _)).at_ f1
                    obtain rfl := haz
                    have hze : Z[cn] = X[j + 1] := by
                      rw [List.getElem?_eq_getElem f1] at f2
                      exact Option.some.inj f2
                    rw [hze, HQ1.out] at z0
                    rw [hze, HQ2.out] at z1
                    have hq := eq_pair q1 q2
                    have d5 : decide (Z.length ≤ cn) = false := decide_eq_false (by omega)
                    clear f2 f3 hze c1
                    go_wp2
                    go_quiet (fail)
                    go_wp2
                    go_quiet (fail)
                    go_wp2
                    go_roundw
                    case rel => exact ⟨j + 1 + 1, by go_num, by omega, by rw [F3.out]; go_num, below_drewN_ HBI.out _⟩
                    case measure => simp [intOf]; omega
                  · have c1b : decide (1 + le ≤ (q2 : Int) - q1) = false := decide_eq_false c1
                    have F3 := Lib.hid (filter_not (fun p => decide (1 + le ≤ (p.2 : Int) - p.1)) X (j + 1) hlt2 (by rw [HQ1.out, HQ2.out]; exact c1b))
                    rw [HCN.out] at F3
                    clear c1
                    go_wp2
                    go_quiet (fail)
                    go_wp2
                    go_roundw
                    case rel => exact ⟨j + 1 + 1, by go_num, by omega, by rw [F3.out], below_drewN_ HBI.out _⟩
                    case measure => simp [intOf]; omega

          · have hfin : ((X.take j).filter fun p => decide (1 + le ≤ (p.2 : Int) - p.1)).length = Z.length := by rw [List.take_of_length_le (by omega), ← FF.out.z]
            rw [hfin]
            have HBB := Lib.hid hb
            clear hfin hb
            go_wp2_with fail
            refine (Works_any _).mono ?_
            rintro e w9 ⟨rfl, hb9⟩
            go_wp2
            go_ret
            exact ⟨rfl, (B1.out.trans (HBB.out.mono B1.out.size)).trans (hb9.mono (by have := HBB.out.size; have := B1.out.size; omega))⟩
end Go.Proofs.Ytlnekinnblnciaa
