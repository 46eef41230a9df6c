/-
  The walk of PlayLands.
-/
import Derived.Test.YtjdnpgilinfkgaaNI
import Derived.Test.YtjdnpgilinfkgaaMG
import Derived.Test.YtjdnpgilinfkgaaMF
import Derived.Test.YtjdnpgilinfkgaaLi
import Derived.Deep.Cut
import Derived.Deep.DeepCutAuto
namespace Go.Proofs.Ytjdnpgilinfkgaa
open Go.RowKit

/-- Each turn lies inside of the one before it. -/
def Turns (l : List Smp) (rs : List Int) (q m : Nat) : Prop := ∀ j, q ≤ j → j < m → atI rs j + outW l j < atI rs (j - q) - innW l (j - q)
theorem turns_lt {l : List Smp} {rs : List Int} {q m : Nat} (hq : 1 ≤ q) (h : Turns l rs q m) (hw : ∀ j, j < m → 0 ≤ outW l j + innW l j) : ∀ b, b < m → ∀ a, a < b → a % q = b % q → atI rs b + outW l b < atI rs a - innW l a := by
  intro b
  induction b using Nat.strongRecOn with
  | _ b ih =>
    intro hb a hab hmod
    have hqb : q ≤ b := by
      rcases Nat.lt_or_ge b q with h1 | h1
      · rw [Nat.mod_eq_of_lt h1, Nat.mod_eq_of_lt (by omega)] at hmod; omega
      · exact h1
    have h1 := h b hqb hb
    have hm2 : (b - q) % q = b % q := by
      have := Nat.add_mod_right (b - q) q
      rw [show b - q + q = b by omega] at this
      exact this.symm
    rcases Nat.lt_trichotomy a (b - q) with h2 | h2 | h2
    · have h3 := ih (b - q) (by omega) (by omega) a h2 (by rw [hm2]; exact hmod)
      have h4 := hw (b - q) (by omega)
      omega
    · rw [h2]; exact h1
    · have h3 := mod_next (i := b - q) (j := a) (pn := q) (an := b % q) hm2 hmod (by omega)
      omega
/-- Whether no width up to a sample is below 0. -/
def WdP (l : List Smp) (i : Nat) (b : Bool) : Prop := b = true ↔ ∀ j, j < i → 0 ≤ outW l j + innW l j
theorem below_al_ (W : World) (o : Obj) : Below W.heap.size W (W.alloc o) := (Below.refl _ _).alloc (Nat.le_refl _) o
theorem drL_all {l : List Smp} {rs : List Int} {pn an : Nat} {x : Int} (h : drL l rs pn an x = none) {i : Nat} (hi : i < l.length) (hm : i % pn = an) : drB l rs x i = false := by
  unfold drL at h
  rw [List.find?_eq_none] at h
  have h1 := h i (List.mem_range.2 hi)
  rw [decide_eq_true hm] at h1
  simpa using h1
theorem drB_t {l : List Smp} {rs : List Int} {x : Int} {i : Nat} : drB l rs x i = true ↔ atI rs i - innW l i ≤ x ∧ x ≤ atI rs i + outW l i := by
  unfold drB win
  simp only [Bool.and_eq_true, decide_eq_true_eq]

set_option maxRecDepth 100000 in
set_option maxHeartbeats 8000000 in
theorem lands_walk (B : Nat) (A Al : Option Addr) (n k nl kl : Nat) (l : List Smp) (bs : List Int) (P wh ac dn : Int) (w : World) (h0 : RS w B A n l) (hU : LU w B Al nl bs) (hB : B ≤ w.heap.size) (hl : n ≤ 9223372036854775807) (_hlu : nl ≤ 9223372036854775807)
    (hP0 : 0 ≤ P) (hP1 : P ≤ 255) (hw0 : 0 ≤ wh) (hw1 : wh ≤ 255) (ha0 : 0 ≤ ac) (ha1 : ac ≤ 65535) (hd0 : 0 ≤ dn) (hd1 : dn ≤ 255) :
    Calls Try.prog 12 #[.slice A n k, .int .u8 P, .slice Al nl kl, .int .u8 wh, .int .u16 ac, .int .u8 dn] w fun e w' => e = .returned (.bool true) ∧ Below w.heap.size w w' := by
  have HN := Lib.hid h0.1
  have H := Lib.hid h0
  have HU := Lib.hid hU
  clear h0 hU
  have HB : Hid (Below w.heap.size w w) := Lib.hid (Below.refl _ _)
  by_cases c0 : 60 < n
  · have g1 : (60 : Int) < (n : Int) := by omega
    have g2 : decide ((60 : Int) < (n : Int)) = true := decide_eq_true g1
    have g3 : decide (60 < n) = true := decide_eq_true c0
    go_enter Try.func12, Try.ntmps12
    go_wp2_with fail
    have CALL := works6_any w
    refine CALL.mono ?_
    rintro e w1 ⟨rfl, hb⟩
    clear CALL
    have hsz1 := hb.size
    replace H := Lib.hid (H.out.below hb (by omega))
    replace HU := Lib.hid (HU.out.below hb (by omega))
    replace HB := Lib.hid (HB.out.trans (hb.mono (by omega)))
    clear hb
    go_wp2
    go_ret
    exact ⟨rfl, HB.out⟩
  · have g1 : ¬ ((60 : Int) < (n : Int)) := by omega
    have g2 : decide ((60 : Int) < (n : Int)) = false := decide_eq_false g1
    have g3 : decide (60 < n) = false := decide_eq_false c0
    by_cases cz : n = 0
    · have g4 : ((n : Int) == 0) = true := by rw [cz]; rfl
      have g5 : (n : Int) = 0 := by omega
      go_enter Try.func12, Try.ntmps12
      go_wp2_with fail
      have CALL := works6_any w
      refine CALL.mono ?_
      rintro e w1 ⟨rfl, hb⟩
      clear CALL
      have hsz1 := hb.size
      replace H := Lib.hid (H.out.below hb (by omega))
      replace HU := Lib.hid (HU.out.below hb (by omega))
      replace HB := Lib.hid (HB.out.trans (hb.mono (by omega)))
      clear hb
      go_wp2
      go_ret
      exact ⟨rfl, HB.out⟩
    · have g4 : ((n : Int) == 0) = false := beq_eq_false_iff_ne.2 (by omega)
      have g5 : ¬ (n : Int) = 0 := by omega
      by_cases c1 : ckG l = 0
      · have HG := Lib.hid c1
        have HE := Lib.hid (ckG_edg c1).2
        clear c1
        obtain ⟨q, hq⟩ : ∃ q : Nat, 1 + P.toNat % 16 = q := ⟨_, rfl⟩
        have hq1 : 1 ≤ q ∧ q ≤ 16 := by omega
        have s1 : IntKind.i64.wrap P = P := IntWalk.i64_in _ (by omega)
        have s2 : P.tmod 16 = (q : Int) - 1 := by rw [Int.tmod_eq_emod_of_nonneg (by omega)]; omega
        have s2' : P % 16 = (q : Int) - 1 := by omega
        have s3 : IntKind.i64.wrap ((q : Int) - 1) = (q : Int) - 1 := IntWalk.i64_in _ (by omega)
        have s4 : IntKind.i64.wrap (1 + ((q : Int) - 1)) = (q : Int) := by rw [show 1 + ((q : Int) - 1) = q by omega]; exact IntWalk.i64_in _ (by omega)
        clear hq
        obtain ⟨i0, hi0, hz0, hz1, hz2⟩ := info_parts info_i64
        have HI0 := Lib.hid hi0
        have HZ0 := Lib.hid hz0
        have HZ1 := Lib.hid hz1
        have HZ2 := Lib.hid hz2
        clear hi0 hz0 hz1 hz2
        go_enter Try.func12, Try.ntmps12
        go_wp2_with fail
        have CALL := refCheckPoints_any w.heap.size A n k l w (H.out.more (by omega)) (Nat.le_refl _) (by omega)
        rw [HG.out] at CALL
        refine CALL.mono ?_
        rintro e w1 ⟨rfl, hb⟩
        clear CALL
        have hsz1 := hb.size
        replace H := Lib.hid (H.out.below hb (by omega))
        replace HU := Lib.hid (HU.out.below hb (by omega))
        replace HB := Lib.hid (HB.out.trans (hb.mono (by omega)))
        clear hb
        go_wp2_with fail
        clear s1 s2 s2' s3 s4
        go_loopw [14, 15, 16] (fun v14 v15 z wr => ∃ (i : Nat) (rs : List Int) (b : Bool) (sv : Value), i ≤ n ∧ z = .int .i64 i ∧ v15 = .bool b ∧ sv = v14 ∧ Hid (wr.ownsRow w1.heap.size 2 1 sv i (nums rs)) ∧ Hid (rs.length = i) ∧ Hid (∀ j, j < i → -16777216 ≤ atI rs j ∧ atI rs j ≤ 16777216) ∧ Hid (Turns l rs q i) ∧ Hid (WdP l i b) ∧ Hid (Below w1.heap.size w1 wr)) (fun _ _ z _ => n - (intOf z).toNat)
        case atStart => exact ⟨0, [], true, _, Nat.zero_le _, rfl, rfl, rfl, Lib.hid (World.ownsRow_nil _ _ _ _), Lib.hid rfl, Lib.hid (fun j hj => absurd hj (by omega)), Lib.hid (fun j _ hj => absurd hj (by omega)), Lib.hid ⟨fun _ j hj => absurd hj (by omega), fun _ => rfl⟩, Lib.hid (Below.refl _ _)⟩
        case round =>
          obtain ⟨i, rs, b, sv, hi, rfl, rfl, rfl, HO, HLEN, HBD, HTU, HWD, HW⟩ := hrel
          by_cases hlt : i < n
          · have hil : i < l.length := by have := HN.out; omega
            have e1 : IntKind.i64.wrap ((i : Int) + 1) = (i : Int) + 1 := IntWalk.i64_in _ (by omega)
            have hsR := HW.out.size
            go_upto_if 51 with fail
            go_cut [17] (fun s17 wx => ∃ r : Int, s17 = .int .i64 r ∧ Hid (-1099511627776 ≤ r ∧ r ≤ 1099511627776) ∧ Hid (q ≤ i → r + outW l i < atI rs (i - q) - innW l (i - q)) ∧ Hid (Below wr.heap.size wr wx))
            case first =>
              by_cases cq : q ≤ i
              · have g6 : (q : Int) ≤ (i : Int) := by omega
                have g6d : decide ((q : Int) ≤ (i : Int)) = true := decide_eq_true g6
                have g6e : decide (q ≤ i) = true := decide_eq_true cq
                have hr0 : i - q < rs.length := by have := HLEN.out; omega
                have hp0 : i - q < l.length := by omega
                obtain ⟨Ar, cr, hsv, hrd, hcr⟩ := own_readsU HO.out
                subst hsv
                obtain ⟨ar, hAr, _, p1⟩ := hrd.at_ hr0
                obtain ⟨ad, hA, _, p2, p3⟩ := (H.out.below HW.out (by omega)).at_ hp0
                obtain ⟨ad', hA', _, p4, p5⟩ := (H.out.below HW.out (by omega)).at_ hil
                obtain rfl := hAr
                obtain rfl := hA
                obtain rfl := Option.some.inj hA'
                have b1 := HBD.out (i - q) (by omega)
                have b2 := HE.out.1 (i - q) hp0
                have b3 := HE.out.2 i hil
                have hgoal : ∀ r ld : Int, 1 ≤ ld → r = rs[i - q] + l[i - q].1 - l[i].2 - ld → r + outW l i < atI rs (i - q) - innW l (i - q) := fun r ld h1 h2 => by
                  rw [atI_eq hr0, innW_eq hp0, outW_eq hil]; omega
                rw [atI_eq hr0] at b1
                rw [innW_eq hp0] at b2
                rw [outW_eq hil] at b3
                obtain ⟨x, hx⟩ : ∃ x, rs[i - q] = x := ⟨_, rfl⟩
                obtain ⟨y, hy⟩ : ∃ x, l[i - q] = x := ⟨_, rfl⟩
                obtain ⟨v, hv⟩ : ∃ x, l[i] = x := ⟨_, rfl⟩
                rw [hx] at p1 b1 hgoal
                rw [hy] at p2 p3 b2 hgoal
                rw [hv] at p4 p5 b3 hgoal
                have HGL := Lib.hid hgoal
                clear hx hy hv hgoal hrd hp0
                obtain ⟨j, hj⟩ : ∃ j, i - q = j := ⟨_, rfl⟩
                have hr0' : j < i := by omega
                rw [hj] at p1 p2 p3
                have e2 : IntKind.i64.wrap ((i : Int) - q) = (j : Int) := by rw [show (i : Int) - q = j by omega]; exact IntWalk.i64_in _ (by omega)
                have w1 : IntKind.i64.wrap (x + y.1) = x + y.1 := IntWalk.i64_in _ (by omega)
                have w2 : IntKind.i64.wrap (x + y.1 - v.2) = x + y.1 - v.2 := IntWalk.i64_in _ (by omega)
                have g7 : (j : Int) < (n : Int) := by omega
                have g8 : (j : Int) < (i : Int) := by omega
                have P1 := Lib.hid p1
                have P2 := Lib.hid p2
                have P5 := Lib.hid p5
                clear hr0 hj
                by_cases cl : i < nl
                · have g9 : (i : Int) < (nl : Int) := by omega
                  have hbl : i < bs.length := by have := HU.out.1.1; omega
                  obtain ⟨au, hAu, _, p6⟩ := (HU.out.below HW.out (by omega)).at_ hbl
                  obtain rfl := hAu
                  have hub := HU.out.bd i
                  obtain ⟨u, hu⟩ : ∃ u, atI bs i = u := ⟨_, rfl⟩
                  rw [hu] at p6 hub
                  have s1 : IntKind.i64.wrap u = u := IntWalk.i64_in _ (by omega)
                  have s2 : IntKind.i64.wrap (1 + u) = 1 + u := IntWalk.i64_in _ (by omega)
                  have w3 : IntKind.i64.wrap (x + y.1 - v.2 - (1 + u)) = x + y.1 - v.2 - (1 + u) := IntWalk.i64_in _ (by omega)
                  have HR : Hid (x + y.1 - v.2 - (1 + u) + outW l i < atI rs (i - q) - innW l (i - q)) := Lib.hid (HGL.out _ (1 + u) (by omega) rfl)
                  have HRB : Hid (-1099511627776 ≤ x + y.1 - v.2 - (1 + u) ∧ x + y.1 - v.2 - (1 + u) ≤ 1099511627776) := Lib.hid (by omega)
                  clear hu hub b1 b2 b3 HGL
                  go_upto_region 14 with fail
                  have z1 := Lat.cell P1.out
                  have z2 := Lat.cell P2.out
                  have z3 := Lat.cell P5.out
                  clear p1 p2 p3 p4 p5 P1 P2 P5
                  try clear p6
                  try dsimp only [List.append]
                  refine wp_region_lat (by kernel_rfl) (by kernel_rfl) ?_
                  repeat (go_big_quiet_step (fail))
                  refine wpQuiet_nil ?_
                  intro W5 hw'
                  have hb1 := Lib.hid (lat_out hw')
                  clear hw' z1 z2 z3
                  go_wp2_with fail
                  go_meet
                  exact ⟨(x + y.1 - v.2 - (1 + u)), rfl, HRB, Lib.hid (fun _ => HR.out), hb1⟩
                · have g9 : ¬ (i : Int) < (nl : Int) := by omega
                  have w3 : IntKind.i64.wrap (x + y.1 - v.2 - 1) = x + y.1 - v.2 - 1 := IntWalk.i64_in _ (by omega)
                  have HR : Hid (x + y.1 - v.2 - 1 + outW l i < atI rs (i - q) - innW l (i - q)) := Lib.hid (HGL.out _ 1 (by omega) rfl)
                  have HRB : Hid (-1099511627776 ≤ x + y.1 - v.2 - 1 ∧ x + y.1 - v.2 - 1 ≤ 1099511627776) := Lib.hid (by omega)
                  clear b1 b2 b3 HGL
                  go_upto_region 14 with fail
                  have z1 := Lat.cell P1.out
                  have z2 := Lat.cell P2.out
                  have z3 := Lat.cell P5.out
                  clear p1 p2 p3 p4 p5 P1 P2 P5
                  try clear p6
                  try dsimp only [List.append]
                  refine wp_region_lat (by kernel_rfl) (by kernel_rfl) ?_
                  repeat (go_big_quiet_step (fail))
                  refine wpQuiet_nil ?_
                  intro W5 hw'
                  have hb1 := Lib.hid (lat_out hw')
                  clear hw' z1 z2 z3
                  go_wp2_with fail
                  go_meet
                  exact ⟨(x + y.1 - v.2 - 1), rfl, HRB, Lib.hid (fun _ => HR.out), hb1⟩
              · have g6 : ¬ (q : Int) ≤ (i : Int) := by omega
                have g6d : decide ((q : Int) ≤ (i : Int)) = false := decide_eq_false g6
                have g6e : decide (q ≤ i) = false := decide_eq_false cq
                go_wp2_with fail
                go_meet
                exact ⟨4194304, rfl, Lib.hid (by omega), Lib.hid (fun h => absurd h cq), Lib.hid (Below.refl _ _)⟩
            case rest =>
              obtain ⟨r, rfl, HRB, HR, hbc⟩ := hcut
              have hb := hbc.out
              replace HO := Lib.hid (own_below HO.out hb)
              replace HW := Lib.hid (HW.out.trans (hb.mono hsR))
              clear hb hbc
              by_cases c1 : r < -16777216
              · have d1 : decide (r < -16777216) = true := decide_eq_true c1
                go_wp2_with fail
                refine (works6_any wc).mono ?_
                rintro e w9 ⟨rfl, hb⟩
                replace HB := Lib.hid (HB.out.trans (HW.out.mono (by omega)))
                replace HB := Lib.hid (HB.out.trans (hb.mono HB.out.size))
                clear hb
                go_wp2
                go_ret
                exact ⟨rfl, HB.out⟩
              · have d1 : decide (r < -16777216) = false := decide_eq_false c1
                by_cases c2 : 16777216 < r
                · have d2 : decide (16777216 < r) = true := decide_eq_true c2
                  clear c1
                  go_wp2_with fail
                  refine (works6_any wc).mono ?_
                  rintro e w9 ⟨rfl, hb⟩
                  replace HB := Lib.hid (HB.out.trans (HW.out.mono (by omega)))
                  replace HB := Lib.hid (HB.out.trans (hb.mono HB.out.size))
                  clear hb
                  go_wp2
                  go_ret
                  exact ⟨rfl, HB.out⟩
                · have d2 : decide (16777216 < r) = false := decide_eq_false c2
                  have hat : ∀ j, j < i → atI (rs ++ [r]) j = atI rs j := fun j hj => by
                    unfold atI; rw [List.getElem?_append_left (by have := HLEN.out; omega)]
                  have hatr : atI (rs ++ [r]) i = r := by
                    unfold atI; rw [List.getElem?_append_right (by have := HLEN.out; omega)]; have := HLEN.out; simp [this]
                  have HLEN2 : Hid ((rs ++ [r]).length = i + 1) := Lib.hid (by rw [List.length_append]; have := HLEN.out; simp; omega)
                  have HBD2 : Hid (∀ j, j < i + 1 → -16777216 ≤ atI (rs ++ [r]) j ∧ atI (rs ++ [r]) j ≤ 16777216) := Lib.hid (fun j hj => by
                    rcases Nat.lt_or_ge j i with h | h
                    · rw [hat j h]; exact HBD.out j h
                    · rw [show j = i by omega, hatr]; omega)
                  have HTU2 : Hid (Turns l (rs ++ [r]) q (i + 1)) := Lib.hid (fun j h1 h2 => by
                    rcases Nat.lt_or_ge j i with h | h
                    · rw [hat j h, hat (j - q) (by omega)]; exact HTU.out j h1 h
                    · obtain rfl : j = i := by omega
                      rw [hatr, hat (j - q) (by omega)]; exact HR.out h1)
                  clear hat hatr
                  have hsW := HW.out.size
                  go_wp2_with (at_builtin; refine wpList_append_any _ rfl (.tmp 91) (.tmp 93) _ rfl w1.heap.size 2 i0 _ 1 8 Try.underlying22 HI0.out HZ0.out HZ1.out HZ2.out rfl (by omega) sv i _ rfl (own_below HO.out (below_al_ _ _)) (wc.heap.size + 1) (some ⟨wc.heap.size, 0, none⟩) 1 1 [.int .i64 r] rfl (reads_cells (blk_al rfl) (Nat.lt_succ_self _) (by rfl) (by rfl)) (by intro u hu; simp at hu; subst hu; rfl) (by unfold maxLen; omega) (by omega) (by simp; omega) ?_; intro v' w4 hown' hgrow _)
                  have HON : Hid (w4.ownsRow w1.heap.size 2 1 v' (i + 1) (nums (rs ++ [r]))) := Lib.hid (by simpa [nums] using hown')
                  have HWN := Lib.hid ((HW.out.alloc HW.out.size (.cells #[.int .i64 r] 2)).grown hgrow (by simp; omega) (fun g hg => (HO.out.lt g hg).1))
                  clear hown' hgrow
                  obtain ⟨ad, hA, _, p1, p2⟩ := (H.out.below HWN.out (by omega)).at_ hil
                  obtain rfl := hA
                  have hwi : 0 ≤ outW l i + innW l i ↔ l[i].1 ≤ l[i].2 := by rw [outW_eq hil, innW_eq hil]; omega
                  obtain ⟨p, hp⟩ : ∃ p, l[i] = p := ⟨_, rfl⟩
                  rw [hp] at p1 p2 hwi
                  have HWI := Lib.hid hwi
                  clear hp hwi
                  have z1 := Lat.cell p1
                  have z2 := Lat.cell p2
                  clear p1 p2
                  cases b
                  · have HWD2 : Hid (WdP l (i + 1) false) := Lib.hid ⟨fun h => (by cases h), fun h => HWD.out.2 (fun j hj => h j (by omega))⟩
                    go_wp2_with fail
                    try dsimp only [List.append]
                    refine wp_region_lat (by kernel_rfl) (by kernel_rfl) ?_
                    repeat (go_big_quiet_step (fail))
                    refine wpQuiet_nil ?_
                    intro W5 hw'
                    have hb1 := lat_out hw'
                    replace HON := Lib.hid (own_below HON.out hb1)
                    replace HWN := Lib.hid (HWN.out.trans (hb1.mono HWN.out.size))
                    clear hb1 hw' z1 z2
                    go_wp2
                    go_roundw
                    case rel => exact ⟨i + 1, rs ++ [r], false, v', by omega, by go_num, rfl, rfl, HON, HLEN2, HBD2, HTU2, HWD2, HWN⟩
                    case measure => simp [intOf]; omega
                  · by_cases c : p.1 ≤ p.2
                    · have d1 : decide (p.1 ≤ p.2) = true := decide_eq_true c
                      have HWD2 : Hid (WdP l (i + 1) true) := Lib.hid ⟨fun _ j hj => (by
                        rcases Nat.lt_or_ge j i with h | h
                        · exact HWD.out.1 rfl j h
                        · rw [show j = i by omega]; exact HWI.out.2 c), fun _ => rfl⟩
                      go_wp2_with fail
                      try dsimp only [List.append]
                      refine wp_region_lat (by kernel_rfl) (by kernel_rfl) ?_
                      repeat (go_big_quiet_step (fail))
                      refine wpQuiet_nil ?_
                      intro W5 hw'
                      have hb1 := lat_out hw'
                      replace HON := Lib.hid (own_below HON.out hb1)
                      replace HWN := Lib.hid (HWN.out.trans (hb1.mono HWN.out.size))
                      clear hb1 hw' z1 z2
                      go_wp2
                      go_roundw
                      case rel => exact ⟨i + 1, rs ++ [r], true, v', by omega, by go_num, rfl, rfl, HON, HLEN2, HBD2, HTU2, HWD2, HWN⟩
                      case measure => simp [intOf]; omega
                    · have d1 : decide (p.1 ≤ p.2) = false := decide_eq_false c
                      have HWD2 : Hid (WdP l (i + 1) false) := Lib.hid ⟨fun h => (by cases h), fun h => absurd (HWI.out.1 (h i (by omega))) c⟩
                      go_wp2_with fail
                      try dsimp only [List.append]
                      refine wp_region_lat (by kernel_rfl) (by kernel_rfl) ?_
                      repeat (go_big_quiet_step (fail))
                      refine wpQuiet_nil ?_
                      intro W5 hw'
                      have hb1 := lat_out hw'
                      replace HON := Lib.hid (own_below HON.out hb1)
                      replace HWN := Lib.hid (HWN.out.trans (hb1.mono HWN.out.size))
                      clear hb1 hw' z1 z2
                      go_wp2
                      go_roundw
                      case rel => exact ⟨i + 1, rs ++ [r], false, v', by omega, by go_num, rfl, rfl, HON, HLEN2, HBD2, HTU2, HWD2, HWN⟩
                      case measure => simp [intOf]; omega
          · obtain rfl : i = n := by omega
            obtain ⟨Ar, cr, hsv, hrd, hcr⟩ := own_readsU HO.out
            subst hsv
            have HR0 : Hid (LI wr wr.heap.size Ar i rs) := Lib.hid hrd
            replace H := Lib.hid (H.out.below HW.out (by omega))
            replace HB := Lib.hid (HB.out.trans (HW.out.mono (by omega)))
            have hszR := HW.out.size
            clear hrd HO HW hlt hi HU
            obtain ⟨n, hnn⟩ : ∃ m, i = m := ⟨_, rfl⟩
            subst hnn
            obtain ⟨m, hm⟩ : ∃ m : Nat, wh.toNat % i = m := ⟨_, rfl⟩
            have hmn : m < i := by rw [← hm]; exact Nat.mod_lt _ (by omega)
            have s1 : IntKind.i64.wrap wh = wh := IntWalk.i64_in _ (by omega)
            have s2 : wh.tmod (i : Int) = (m : Int) := by
              rw [Int.tmod_eq_emod_of_nonneg (by omega), show wh = ((wh.toNat : Nat) : Int) by omega, ← hm]; rfl
            have s2' : wh % (i : Int) = (m : Int) := by
              rw [show wh = ((wh.toNat : Nat) : Int) by omega, ← hm]; rfl
            have s3 : IntKind.i64.wrap (m : Int) = (m : Int) := IntWalk.i64_in _ (by omega)
            have s4 : ¬ (i : Int) = 0 := by omega
            have s5 : ((i : Int) == 0) = false := beq_eq_false_iff_ne.2 s4
            have hml : m < l.length := by have := HN.out; omega
            have hmr : m < rs.length := by have := HLEN.out; omega
            have g6 : (m : Int) < (i : Int) := by omega
            clear hm
            obtain ⟨ad, hA, _, p1, p2⟩ := H.out.at_ hml
            obtain ⟨ar, hAr, _, p3⟩ := HR0.out.at_ hmr
            obtain rfl := hA
            obtain rfl := hAr
            have b1 := HE.out.1 m hml
            have b2 := HE.out.2 m hml
            have b3 := HBD.out m (by omega)
            have hdb : ∀ x, drB l rs x m = true ↔ rs[m] + l[m].1 ≤ x ∧ x ≤ rs[m] + l[m].2 := fun x => by
              rw [drB_t, atI_eq hmr, innW_eq hml, outW_eq hml, Int.sub_neg]
            rw [innW_eq hml] at b1
            rw [outW_eq hml] at b2
            rw [atI_eq hmr] at b3
            have hvm : atI rs m = rs[m] := atI_eq hmr
            have hvi : innW l m = -l[m].1 := innW_eq hml
            have hvo : outW l m = l[m].2 := outW_eq hml
            obtain ⟨p, hp⟩ : ∃ p, l[m] = p := ⟨_, rfl⟩
            obtain ⟨r, hr⟩ : ∃ r, rs[m] = r := ⟨_, rfl⟩
            rw [hp] at p1 p2 b1 b2 hdb hvi hvo
            rw [hr] at p3 b3 hdb hvm
            have HDB := Lib.hid hdb
            have HVM := Lib.hid (And.intro hvm (And.intro hvi hvo))
            clear hp hr hdb hvm hvi hvo
            have w1 : IntKind.i64.wrap (p.2 - p.1) = p.2 - p.1 := IntWalk.i64_in _ (by omega)
            have P1 := Lib.hid p1
            have P3 := Lib.hid p3
            have z1 := Lat.cell p1
            have z2 := Lat.cell p2
            clear p1 p2 p3
            go_upto_region 20 with fail
            try dsimp only [List.append]
            refine wp_region_lat (by kernel_rfl) (by kernel_rfl) ?_
            repeat (go_big_quiet_step ((fail)))
            refine wpQuiet_nil ?_
            intro v1 hw'
            have hb1 := lat_out hw'
            have hsz_v1 := hb1.size
            replace H := Lib.hid (H.out.below hb1 (by omega))
            replace HR0 := Lib.hid (HR0.out.below hb1 (by omega))
            replace HB := Lib.hid (HB.out.trans (hb1.mono (by omega)))
            replace P1 := Lib.hid ((hb1.cell (World.block_lt_of_cell? _ _ P1.out)).trans P1.out)
            replace P3 := Lib.hid ((hb1.cell (World.block_lt_of_cell? _ _ P3.out)).trans P3.out)
            clear hb1 hw' z1 z2
            clear s1 s2 s2' s3 s4 s5
            by_cases cw : p.2 - p.1 < 0
            · have d1 : decide (p.2 - p.1 < 0) = true := decide_eq_true cw
              go_wp2_with fail
              have CALL := works6_any v1
              refine CALL.mono ?_
              rintro e w2 ⟨rfl, hb⟩
              clear CALL
              have hsz2 := hb.size
              replace H := Lib.hid (H.out.below hb (by omega))
              replace HR0 := Lib.hid (HR0.out.below hb (by omega))
              replace HB := Lib.hid (HB.out.trans (hb.mono (by omega)))
              clear hb
              go_wp2
              go_ret
              exact ⟨rfl, HB.out⟩
            · have d1 : decide (p.2 - p.1 < 0) = false := decide_eq_false cw
              obtain ⟨t, ht⟩ : ∃ t : Nat, ac.toNat % (p.2 - p.1 + 1).toNat = t := ⟨_, rfl⟩
              have htn : (t : Int) ≤ p.2 - p.1 := by have := Nat.mod_lt ac.toNat (show 0 < (p.2 - p.1 + 1).toNat by omega); omega
              have s1 : IntKind.i64.wrap ac = ac := IntWalk.i64_in _ (by omega)
              have s2 : ac.tmod (p.2 - p.1 + 1) = (t : Int) := by
                rw [Int.tmod_eq_emod_of_nonneg (by omega), ← ht, Int.natCast_emod, Int.toNat_of_nonneg (by omega), Int.toNat_of_nonneg (by omega)]
              have s2' : ac % (p.2 - p.1 + 1) = (t : Int) := by
                rw [← ht, Int.natCast_emod, Int.toNat_of_nonneg (by omega), Int.toNat_of_nonneg (by omega)]
              have s3 : IntKind.i64.wrap (p.2 - p.1 + 1) = p.2 - p.1 + 1 := IntWalk.i64_in _ (by omega)
              have s4 : ¬ p.2 - p.1 + 1 = 0 := by omega
              have s5 : ((p.2 - p.1 + 1) == 0) = false := beq_eq_false_iff_ne.2 s4
              have s6 : IntKind.i64.wrap (r + p.1) = r + p.1 := IntWalk.i64_in _ (by omega)
              have s7 : IntKind.i64.wrap (t : Int) = (t : Int) := IntWalk.i64_in _ (by omega)
              obtain ⟨x, hx⟩ : ∃ x, r + p.1 + t = x := ⟨_, rfl⟩
              have s8 : IntKind.i64.wrap (r + p.1 + t) = x := by rw [hx]; exact IntWalk.i64_in _ (by omega)
              have z1 := Lat.cell P1.out
              have z2 := Lat.cell P3.out
              clear ht
              go_upto_region 23 with fail
              try dsimp only [List.append]
              refine wp_region_lat (by kernel_rfl) (by kernel_rfl) ?_
              repeat (go_big_quiet_step ((fail)))
              refine wpQuiet_nil ?_
              intro v2 hw'
              have hb1 := lat_out hw'
              have hsz_v2 := hb1.size
              replace H := Lib.hid (H.out.below hb1 (by omega))
              replace HR0 := Lib.hid (HR0.out.below hb1 (by omega))
              replace HB := Lib.hid (HB.out.trans (hb1.mono (by omega)))
              replace P1 := Lib.hid ((hb1.cell (World.block_lt_of_cell? _ _ P1.out)).trans P1.out)
              replace P3 := Lib.hid ((hb1.cell (World.block_lt_of_cell? _ _ P3.out)).trans P3.out)
              clear hb1 hw' z1 z2
              have hxm : drB l rs x m = true := (HDB.out x).2 (by omega)
              clear s1 s2 s2' s3 s4 s5 s6 s7 s8 cw d1
              have u1 : (m : Int).tmod (q : Int) = ((m % q : Nat) : Int) := by rw [Int.tmod_eq_emod_of_nonneg (by omega)]; rfl
              have u1' : (m : Int) % (q : Int) = ((m % q : Nat) : Int) := rfl
              have u2 : ¬ (q : Int) = 0 := by omega
              have u3 : ((q : Int) == 0) = false := beq_eq_false_iff_ne.2 u2
              have hmq := Nat.mod_lt m (show 0 < q by omega)
              have hcr0 : ckRd l rs = 0 := by
                unfold ckRd
                rw [if_pos (by have := HLEN.out; have := HN.out; omega), if_pos]
                rw [List.all_eq_true]
                intro y hy
                obtain ⟨j, hj, rfl⟩ := List.getElem_of_mem hy
                have h2 := HBD.out j (by have := HLEN.out; omega)
                rw [atI_eq hj] at h2
                unfold win
                rw [decide_eq_true h2.1, decide_eq_true h2.2]; rfl
              have hca : ckAn q ((m % q : Nat) : Int) = 0 := by
                unfold ckAn win
                rw [if_pos (by simp only [Bool.and_eq_true, decide_eq_true_eq]; omega)]
              have HDE := Lib.hid (drEr_of HG.out hcr0 hca)
              have HDI : Hid (∀ x, drI l rs q ((m % q : Nat) : Int) x = (drL l rs q (m % q) x).getD 0 ∧ drE l rs q ((m % q : Nat) : Int) x = if drL l rs q (m % q) x = none then 5 else 0) := Lib.hid (fun x => by unfold drI drE; rw [if_pos HDE.out, if_pos HDE.out]; exact ⟨rfl, rfl⟩)
              have HXM := Lib.hid hxm
              obtain ⟨an, han⟩ : ∃ a, m % q = a := ⟨_, rfl⟩
              have HAN := Lib.hid han
              rw [han] at u1 u1' HDI hmq
              have u4 : IntKind.i64.wrap (an : Int) = (an : Int) := IntWalk.i64_in _ (by omega)
              clear hcr0 hca hxm han HDE
              cases hd : drL l rs q an x with
              | none => have := drL_all hd hml HAN.out; rw [HXM.out] at this; cases this
              | some k1 =>
                obtain ⟨hk1, hk2, hk3⟩ := drL_get hd
                have HI := Lib.hid (HDI.out x)
                rw [hd] at HI
                have hk1' : k1 < rs.length := by have := HLEN.out; have := HN.out; omega
                have hbk := drB_t.1 hk3
                rw [atI_eq hk1', innW_eq hk1, outW_eq hk1, Int.sub_neg] at hbk
                have huni : b = true → k1 = m := fun hb => by
                  have hw := HWD.out.1 hb
                  have hwl : ∀ j, j < i → 0 ≤ outW l j + innW l j := hw
                  have hx1 := drB_t.1 HXM.out
                  have hx2 := drB_t.1 hk3
                  rcases Nat.lt_trichotomy k1 m with h | h | h
                  · have := turns_lt hq1.1 HTU.out hwl m hmn k1 h (by rw [hk2, HAN.out]); omega
                  · exact h
                  · have := turns_lt hq1.1 HTU.out hwl k1 (by have := HN.out; omega) m h (by rw [hk2, HAN.out]); omega
                have HUN := Lib.hid huni
                have bk1 := HE.out.1 k1 hk1
                have bk2 := HE.out.2 k1 hk1
                have bk3 := HBD.out k1 (by have := HN.out; omega)
                rw [innW_eq hk1] at bk1
                rw [outW_eq hk1] at bk2
                rw [atI_eq hk1'] at bk3
                have hki : k1 < i := by have := HN.out; omega
                obtain ⟨pk, hpk⟩ : ∃ p, l[k1] = p := ⟨_, rfl⟩
                obtain ⟨rk, hrk⟩ : ∃ r, rs[k1] = r := ⟨_, rfl⟩
                rw [hpk] at hbk bk1 bk2
                rw [hrk] at hbk bk3
                have HPK : Hid (∀ h : k1 < l.length, l[k1] = pk) := Lib.hid (fun _ => hpk)
                have HRK : Hid (∀ h : k1 < rs.length, rs[k1] = rk) := Lib.hid (fun _ => hrk)
                have HK1 := Lib.hid (And.intro hk1 hk1')
                clear hd huni hpk hrk hk1 hk1' hk3
                go_wp2_with fail
                have CALL := Drop_any v2.heap.size (some ad) (some ar) i k i cr l rs q an x v2 (H.out.more (by omega)) (HR0.out.more (by omega)) (Nat.le_refl _) (by omega) (by omega)
                rw [HI.out.1, HI.out.2] at CALL
                refine CALL.mono ?_
                rintro e w21 ⟨rfl, hb⟩
                clear CALL
                have hsz21 := hb.size
                replace H := Lib.hid (H.out.below hb (by omega))
                replace HR0 := Lib.hid (HR0.out.below hb (by omega))
                replace HB := Lib.hid (HB.out.trans (hb.mono (by omega)))
                replace P1 := Lib.hid ((hb.cell (World.block_lt_of_cell? _ _ P1.out)).trans P1.out)
                replace P3 := Lib.hid ((hb.cell (World.block_lt_of_cell? _ _ P3.out)).trans P3.out)
                clear hb
                obtain ⟨ad', hA', _, c1, c2⟩ := H.out.at_ HK1.out.1
                obtain ⟨ar', hAr', _, c3⟩ := HR0.out.at_ HK1.out.2
                obtain rfl := Option.some.inj hA'
                obtain rfl := Option.some.inj hAr'
                rw [HPK.out HK1.out.1] at c1 c2
                rw [HRK.out HK1.out.2] at c3
                have z1 := Lat.cell c1
                have z2 := Lat.cell c2
                have z3 := Lat.cell c3
                clear c1 c2 c3
                have n1 : IntKind.i64.wrap (rk + pk.1) = rk + pk.1 := IntWalk.i64_in _ (by omega)
                have n2 : IntKind.i64.wrap (rk + pk.2) = rk + pk.2 := IntWalk.i64_in _ (by omega)
                have f1 : ¬ (k1 : Int) < 0 := by omega
                have f2 := decide_eq_false f1
                have f3 : ¬ (i : Int) ≤ (k1 : Int) := by omega
                have f4 := decide_eq_false f3
                have f5 : decide (i ≤ k1) = false := decide_eq_false (by omega)
                have f5' : ¬ i ≤ k1 := by omega
                have f6 : (k1 : Int).tmod (q : Int) = (an : Int) := by rw [Int.tmod_eq_emod_of_nonneg (by omega), ← hk2]; rfl
                have f6' : (k1 : Int) % (q : Int) = (an : Int) := by rw [← hk2]; rfl
                have f7 : ((an : Int) != (an : Int)) = false := by simp
                have f8 : ¬ x < rk + pk.1 := by omega
                have f9 := decide_eq_false f8
                have f10 : ¬ rk + pk.2 < x := by omega
                have f11 := decide_eq_false f10
                have f12 : (k1 : Int) < (i : Int) := by omega
                have HF : Hid (b = true → ((k1 : Int) != (m : Int)) = false) := Lib.hid (fun h => by rw [HUN.out h]; simp)
                have HX : Hid (drL l rs q an x = drL l rs q an x) := Lib.hid rfl
                cases b
                · clear HF HX
                  go_upto_region 25 with fail
                  try dsimp only [List.append]
                  refine wp_region_lat (by kernel_rfl) (by kernel_rfl) ?_
                  repeat (go_big_quiet_step ((fail)))
                  refine wpQuiet_nil ?_
                  intro v3 hw'
                  have hb1 := lat_out hw'
                  have hsz_v3 := hb1.size
                  replace H := Lib.hid (H.out.below hb1 (by omega))
                  replace HR0 := Lib.hid (HR0.out.below hb1 (by omega))
                  replace HB := Lib.hid (HB.out.trans (hb1.mono (by omega)))
                  replace P1 := Lib.hid ((hb1.cell (World.block_lt_of_cell? _ _ P1.out)).trans P1.out)
                  replace P3 := Lib.hid ((hb1.cell (World.block_lt_of_cell? _ _ P3.out)).trans P3.out)
                  clear hb1 hw' z1 z2 z3
                  obtain ⟨y, hy⟩ : ∃ y, r + p.1 - 1 - dn = y := ⟨_, rfl⟩
                  have s1 : IntKind.i64.wrap dn = dn := IntWalk.i64_in _ (by omega)
                  have s6 : IntKind.i64.wrap (r + p.1) = r + p.1 := IntWalk.i64_in _ (by omega)
                  have s7 : IntKind.i64.wrap (r + p.1 - 1) = r + p.1 - 1 := IntWalk.i64_in _ (by omega)
                  have s8 : IntKind.i64.wrap (r + p.1 - 1 - dn) = y := by rw [hy]; exact IntWalk.i64_in _ (by omega)
                  have z1 := Lat.cell P1.out
                  have z2 := Lat.cell P3.out
                  clear n1 n2 f1 f2 f3 f4 f5 f5' f6 f6' f7 f8 f9 f10 f11 f12
                  go_upto_region 27 with fail
                  try dsimp only [List.append]
                  refine wp_region_lat (by kernel_rfl) (by kernel_rfl) ?_
                  repeat (go_big_quiet_step ((fail)))
                  refine wpQuiet_nil ?_
                  intro v4 hw'
                  have hb1 := lat_out hw'
                  have hsz_v4 := hb1.size
                  replace H := Lib.hid (H.out.below hb1 (by omega))
                  replace HR0 := Lib.hid (HR0.out.below hb1 (by omega))
                  replace HB := Lib.hid (HB.out.trans (hb1.mono (by omega)))
                  replace P1 := Lib.hid ((hb1.cell (World.block_lt_of_cell? _ _ P1.out)).trans P1.out)
                  replace P3 := Lib.hid ((hb1.cell (World.block_lt_of_cell? _ _ P3.out)).trans P3.out)
                  clear hb1 hw' z1 z2
                  clear s1 s6 s7 s8
                  cases hd : drL l rs q an y with
                  | none =>
                    have HI2 := Lib.hid (HDI.out y)
                    rw [hd] at HI2
                    clear hd
                    go_wp2_with fail
                    have CALL := Drop_any v4.heap.size (some ad) (some ar) i k i cr l rs q an y v4 (H.out.more (by omega)) (HR0.out.more (by omega)) (Nat.le_refl _) (by omega) (by omega)
                    rw [HI2.out.1, HI2.out.2] at CALL
                    refine CALL.mono ?_
                    rintro e w22 ⟨rfl, hb⟩
                    clear CALL
                    have hsz22 := hb.size
                    replace H := Lib.hid (H.out.below hb (by omega))
                    replace HR0 := Lib.hid (HR0.out.below hb (by omega))
                    replace HB := Lib.hid (HB.out.trans (hb.mono (by omega)))
                    replace P1 := Lib.hid ((hb.cell (World.block_lt_of_cell? _ _ P1.out)).trans P1.out)
                    replace P3 := Lib.hid ((hb.cell (World.block_lt_of_cell? _ _ P3.out)).trans P3.out)
                    clear hb
                    go_wp2_with fail
                    have CALL := works6_any w22
                    refine CALL.mono ?_
                    rintro e w23 ⟨rfl, hb⟩
                    clear CALL
                    have hsz23 := hb.size
                    replace H := Lib.hid (H.out.below hb (by omega))
                    replace HR0 := Lib.hid (HR0.out.below hb (by omega))
                    replace HB := Lib.hid (HB.out.trans (hb.mono (by omega)))
                    clear hb
                    go_wp2
                    go_ret
                    exact ⟨rfl, HB.out⟩
                  | some k2 =>
                    have HI2 := Lib.hid (HDI.out y)
                    rw [hd] at HI2
                    obtain ⟨hj1, hj2, hj3⟩ := drL_get hd
                    have hj1' : k2 < rs.length := by have := HLEN.out; have := HN.out; omega
                    have hbj := drB_t.1 hj3
                    have hgt : True := trivial
                    rw [atI_eq hj1', innW_eq hj1, outW_eq hj1, Int.sub_neg] at hbj
                    have HGT := Lib.hid hgt
                    have bj1 := HE.out.1 k2 hj1
                    have bj2 := HE.out.2 k2 hj1
                    have bj3 := HBD.out k2 (by have := HN.out; omega)
                    rw [innW_eq hj1] at bj1
                    rw [outW_eq hj1] at bj2
                    rw [atI_eq hj1'] at bj3
                    have hji : k2 < i := by have := HN.out; omega
                    obtain ⟨pj, hpj⟩ : ∃ p, l[k2] = p := ⟨_, rfl⟩
                    obtain ⟨rj, hrj⟩ : ∃ r, rs[k2] = r := ⟨_, rfl⟩
                    rw [hpj] at hbj bj1 bj2
                    rw [hrj] at hbj bj3
                    have HPJ : Hid (∀ h : k2 < l.length, l[k2] = pj) := Lib.hid (fun _ => hpj)
                    have HRJ : Hid (∀ h : k2 < rs.length, rs[k2] = rj) := Lib.hid (fun _ => hrj)
                    have HJ1 := Lib.hid (And.intro hj1 hj1')
                    clear hd hgt hpj hrj hj1 hj1' hj3
                    go_wp2_with fail
                    have CALL := Drop_any v4.heap.size (some ad) (some ar) i k i cr l rs q an y v4 (H.out.more (by omega)) (HR0.out.more (by omega)) (Nat.le_refl _) (by omega) (by omega)
                    rw [HI2.out.1, HI2.out.2] at CALL
                    refine CALL.mono ?_
                    rintro e w22 ⟨rfl, hb⟩
                    clear CALL
                    have hsz22 := hb.size
                    replace H := Lib.hid (H.out.below hb (by omega))
                    replace HR0 := Lib.hid (HR0.out.below hb (by omega))
                    replace HB := Lib.hid (HB.out.trans (hb.mono (by omega)))
                    replace P1 := Lib.hid ((hb.cell (World.block_lt_of_cell? _ _ P1.out)).trans P1.out)
                    replace P3 := Lib.hid ((hb.cell (World.block_lt_of_cell? _ _ P3.out)).trans P3.out)
                    clear hb
                    obtain ⟨ad', hA', _, c1, c2⟩ := H.out.at_ HJ1.out.1
                    obtain ⟨ar', hAr', _, c3⟩ := HR0.out.at_ HJ1.out.2
                    obtain rfl := Option.some.inj hA'
                    obtain rfl := Option.some.inj hAr'
                    rw [HPJ.out HJ1.out.1] at c1 c2
                    rw [HRJ.out HJ1.out.2] at c3
                    have z1 := Lat.cell c1
                    have z2 := Lat.cell c2
                    have z3 := Lat.cell c3
                    clear c1 c2 c3
                    have n1 : IntKind.i64.wrap (rj + pj.1) = rj + pj.1 := IntWalk.i64_in _ (by omega)
                    have n2 : IntKind.i64.wrap (rj + pj.2) = rj + pj.2 := IntWalk.i64_in _ (by omega)
                    have f1 : 0 ≤ (k2 : Int) := by omega
                    have f2 := decide_eq_true f1
                    have f3 : (k2 : Int) < (i : Int) := by omega
                    have f4 := decide_eq_true f3
                    have f5 : decide (k2 < i) = true := decide_eq_true hji
                    have f6 : (k2 : Int).tmod (q : Int) = (an : Int) := by rw [Int.tmod_eq_emod_of_nonneg (by omega), ← hj2]; rfl
                    have f6' : (k2 : Int) % (q : Int) = (an : Int) := by rw [← hj2]; rfl
                    have f7 : ((an : Int) == (an : Int)) = true := by simp
                    have f8 : rj + pj.1 ≤ y := by omega
                    have f9 := decide_eq_true f8
                    have f10 : y ≤ rj + pj.2 := by omega
                    have f11 := decide_eq_true f10
                    have WL : Hid (∀ z : Lat w22, Calls Try.prog 15 #[] z.w (fun e w'' => e = .returned (.bool true) ∧ ∃ y : Lat w22, w'' = y.w)) := Lib.hid (fun z => Calls.lat (works6_any z.w))
                    go_upto_region 31 with fail
                    try dsimp only [List.append]
                    refine wp_region_lat (by kernel_rfl) (by kernel_rfl) ?_
                    repeat (go_big_quiet_step ((with_reducible exact WL.out _)))
                    refine wpQuiet_nil ?_
                    intro v9 hw'
                    have hb1 := lat_out hw'
                    have hsz_v9 := hb1.size
                    replace H := Lib.hid (H.out.below hb1 (by omega))
                    replace HR0 := Lib.hid (HR0.out.below hb1 (by omega))
                    replace HB := Lib.hid (HB.out.trans (hb1.mono (by omega)))
                    clear hb1 hw' z1 z2 z3
                    go_wp2
                    go_ret
                    exact ⟨rfl, HB.out⟩
                · have f13 := HF.out rfl
                  have hwl : ∀ j, j < i → 0 ≤ outW l j + innW l j := HWD.out.1 rfl
                  have HWL := Lib.hid hwl
                  clear hwl
                  clear HF HX
                  go_upto_region 25 with fail
                  try dsimp only [List.append]
                  refine wp_region_lat (by kernel_rfl) (by kernel_rfl) ?_
                  repeat (go_big_quiet_step ((fail)))
                  refine wpQuiet_nil ?_
                  intro v3 hw'
                  have hb1 := lat_out hw'
                  have hsz_v3 := hb1.size
                  replace H := Lib.hid (H.out.below hb1 (by omega))
                  replace HR0 := Lib.hid (HR0.out.below hb1 (by omega))
                  replace HB := Lib.hid (HB.out.trans (hb1.mono (by omega)))
                  replace P1 := Lib.hid ((hb1.cell (World.block_lt_of_cell? _ _ P1.out)).trans P1.out)
                  replace P3 := Lib.hid ((hb1.cell (World.block_lt_of_cell? _ _ P3.out)).trans P3.out)
                  clear hb1 hw' z1 z2 z3
                  obtain ⟨y, hy⟩ : ∃ y, r + p.1 - 1 - dn = y := ⟨_, rfl⟩
                  have s1 : IntKind.i64.wrap dn = dn := IntWalk.i64_in _ (by omega)
                  have s6 : IntKind.i64.wrap (r + p.1) = r + p.1 := IntWalk.i64_in _ (by omega)
                  have s7 : IntKind.i64.wrap (r + p.1 - 1) = r + p.1 - 1 := IntWalk.i64_in _ (by omega)
                  have s8 : IntKind.i64.wrap (r + p.1 - 1 - dn) = y := by rw [hy]; exact IntWalk.i64_in _ (by omega)
                  have z1 := Lat.cell P1.out
                  have z2 := Lat.cell P3.out
                  clear n1 n2 f1 f2 f3 f4 f5 f5' f6 f6' f7 f8 f9 f10 f11 f12
                  go_upto_region 27 with fail
                  try dsimp only [List.append]
                  refine wp_region_lat (by kernel_rfl) (by kernel_rfl) ?_
                  repeat (go_big_quiet_step ((fail)))
                  refine wpQuiet_nil ?_
                  intro v4 hw'
                  have hb1 := lat_out hw'
                  have hsz_v4 := hb1.size
                  replace H := Lib.hid (H.out.below hb1 (by omega))
                  replace HR0 := Lib.hid (HR0.out.below hb1 (by omega))
                  replace HB := Lib.hid (HB.out.trans (hb1.mono (by omega)))
                  replace P1 := Lib.hid ((hb1.cell (World.block_lt_of_cell? _ _ P1.out)).trans P1.out)
                  replace P3 := Lib.hid ((hb1.cell (World.block_lt_of_cell? _ _ P3.out)).trans P3.out)
                  clear hb1 hw' z1 z2
                  clear s1 s6 s7 s8
                  cases hd : drL l rs q an y with
                  | none =>
                    have HI2 := Lib.hid (HDI.out y)
                    rw [hd] at HI2
                    clear hd
                    go_wp2_with fail
                    have CALL := Drop_any v4.heap.size (some ad) (some ar) i k i cr l rs q an y v4 (H.out.more (by omega)) (HR0.out.more (by omega)) (Nat.le_refl _) (by omega) (by omega)
                    rw [HI2.out.1, HI2.out.2] at CALL
                    refine CALL.mono ?_
                    rintro e w22 ⟨rfl, hb⟩
                    clear CALL
                    have hsz22 := hb.size
                    replace H := Lib.hid (H.out.below hb (by omega))
                    replace HR0 := Lib.hid (HR0.out.below hb (by omega))
                    replace HB := Lib.hid (HB.out.trans (hb.mono (by omega)))
                    replace P1 := Lib.hid ((hb.cell (World.block_lt_of_cell? _ _ P1.out)).trans P1.out)
                    replace P3 := Lib.hid ((hb.cell (World.block_lt_of_cell? _ _ P3.out)).trans P3.out)
                    clear hb
                    go_wp2_with fail
                    have CALL := works6_any w22
                    refine CALL.mono ?_
                    rintro e w23 ⟨rfl, hb⟩
                    clear CALL
                    have hsz23 := hb.size
                    replace H := Lib.hid (H.out.below hb (by omega))
                    replace HR0 := Lib.hid (HR0.out.below hb (by omega))
                    replace HB := Lib.hid (HB.out.trans (hb.mono (by omega)))
                    clear hb
                    go_wp2
                    go_ret
                    exact ⟨rfl, HB.out⟩
                  | some k2 =>
                    have HI2 := Lib.hid (HDI.out y)
                    rw [hd] at HI2
                    obtain ⟨hj1, hj2, hj3⟩ := drL_get hd
                    have hj1' : k2 < rs.length := by have := HLEN.out; have := HN.out; omega
                    have hbj := drB_t.1 hj3
                    have hgt : m < k2 := by
                      have hx1 := HVM.out
                      rcases Nat.lt_trichotomy k2 m with h | h | h
                      · have := turns_lt hq1.1 HTU.out HWL.out m hmn k2 h (by rw [hj2, HAN.out])
                        have := HWL.out m hmn
                        omega
                      · subst h; omega
                      · exact h
                    rw [atI_eq hj1', innW_eq hj1, outW_eq hj1, Int.sub_neg] at hbj
                    have HGT := Lib.hid hgt
                    have bj1 := HE.out.1 k2 hj1
                    have bj2 := HE.out.2 k2 hj1
                    have bj3 := HBD.out k2 (by have := HN.out; omega)
                    rw [innW_eq hj1] at bj1
                    rw [outW_eq hj1] at bj2
                    rw [atI_eq hj1'] at bj3
                    have hji : k2 < i := by have := HN.out; omega
                    obtain ⟨pj, hpj⟩ : ∃ p, l[k2] = p := ⟨_, rfl⟩
                    obtain ⟨rj, hrj⟩ : ∃ r, rs[k2] = r := ⟨_, rfl⟩
                    rw [hpj] at hbj bj1 bj2
                    rw [hrj] at hbj bj3
                    have HPJ : Hid (∀ h : k2 < l.length, l[k2] = pj) := Lib.hid (fun _ => hpj)
                    have HRJ : Hid (∀ h : k2 < rs.length, rs[k2] = rj) := Lib.hid (fun _ => hrj)
                    have HJ1 := Lib.hid (And.intro hj1 hj1')
                    clear hd hgt hpj hrj hj1 hj1' hj3
                    go_wp2_with fail
                    have CALL := Drop_any v4.heap.size (some ad) (some ar) i k i cr l rs q an y v4 (H.out.more (by omega)) (HR0.out.more (by omega)) (Nat.le_refl _) (by omega) (by omega)
                    rw [HI2.out.1, HI2.out.2] at CALL
                    refine CALL.mono ?_
                    rintro e w22 ⟨rfl, hb⟩
                    clear CALL
                    have hsz22 := hb.size
                    replace H := Lib.hid (H.out.below hb (by omega))
                    replace HR0 := Lib.hid (HR0.out.below hb (by omega))
                    replace HB := Lib.hid (HB.out.trans (hb.mono (by omega)))
                    replace P1 := Lib.hid ((hb.cell (World.block_lt_of_cell? _ _ P1.out)).trans P1.out)
                    replace P3 := Lib.hid ((hb.cell (World.block_lt_of_cell? _ _ P3.out)).trans P3.out)
                    clear hb
                    obtain ⟨ad', hA', _, c1, c2⟩ := H.out.at_ HJ1.out.1
                    obtain ⟨ar', hAr', _, c3⟩ := HR0.out.at_ HJ1.out.2
                    obtain rfl := Option.some.inj hA'
                    obtain rfl := Option.some.inj hAr'
                    rw [HPJ.out HJ1.out.1] at c1 c2
                    rw [HRJ.out HJ1.out.2] at c3
                    have z1 := Lat.cell c1
                    have z2 := Lat.cell c2
                    have z3 := Lat.cell c3
                    clear c1 c2 c3
                    have n1 : IntKind.i64.wrap (rj + pj.1) = rj + pj.1 := IntWalk.i64_in _ (by omega)
                    have n2 : IntKind.i64.wrap (rj + pj.2) = rj + pj.2 := IntWalk.i64_in _ (by omega)
                    have f1 : 0 ≤ (k2 : Int) := by omega
                    have f2 := decide_eq_true f1
                    have f3 : (k2 : Int) < (i : Int) := by omega
                    have f4 := decide_eq_true f3
                    have f5 : decide (k2 < i) = true := decide_eq_true hji
                    have f6 : (k2 : Int).tmod (q : Int) = (an : Int) := by rw [Int.tmod_eq_emod_of_nonneg (by omega), ← hj2]; rfl
                    have f6' : (k2 : Int) % (q : Int) = (an : Int) := by rw [← hj2]; rfl
                    have f7 : ((an : Int) == (an : Int)) = true := by simp
                    have f8 : rj + pj.1 ≤ y := by omega
                    have f9 := decide_eq_true f8
                    have f10 : y ≤ rj + pj.2 := by omega
                    have f11 := decide_eq_true f10
                    have WL : Hid (∀ z : Lat w22, Calls Try.prog 15 #[] z.w (fun e w'' => e = .returned (.bool true) ∧ ∃ y : Lat w22, w'' = y.w)) := Lib.hid (fun z => Calls.lat (works6_any z.w))
                    have f12 : (m : Int) < (k2 : Int) := by have := HGT.out; omega
                    have f13 := decide_eq_true f12
                    have f14 : decide (m < k2) = true := decide_eq_true HGT.out
                    go_upto_region 31 with fail
                    try dsimp only [List.append]
                    refine wp_region_lat (by kernel_rfl) (by kernel_rfl) ?_
                    repeat (go_big_quiet_step ((with_reducible exact WL.out _)))
                    refine wpQuiet_nil ?_
                    intro v9 hw'
                    have hb1 := lat_out hw'
                    have hsz_v9 := hb1.size
                    replace H := Lib.hid (H.out.below hb1 (by omega))
                    replace HR0 := Lib.hid (HR0.out.below hb1 (by omega))
                    replace HB := Lib.hid (HB.out.trans (hb1.mono (by omega)))
                    clear hb1 hw' z1 z2 z3
                    go_wp2
                    go_ret
                    exact ⟨rfl, HB.out⟩
      · obtain ⟨e_, hq⟩ : ∃ q, ckG l = q := ⟨_, rfl⟩
        have HG := Lib.hid hq
        rw [hq] at c1
        have q1 : (e_ != 0) = true := by rw [bne_iff_ne]; exact c1
        clear hq
        go_enter Try.func12, Try.ntmps12
        go_wp2_with fail
        have CALL := refCheckPoints_any w.heap.size A n k l w (H.out.more (by omega)) (Nat.le_refl _) (by omega)
        rw [HG.out] at CALL
        refine CALL.mono ?_
        rintro e w1 ⟨rfl, hb⟩
        clear CALL
        have hsz1 := hb.size
        replace H := Lib.hid (H.out.below hb (by omega))
        replace HU := Lib.hid (HU.out.below hb (by omega))
        replace HB := Lib.hid (HB.out.trans (hb.mono (by omega)))
        clear hb
        go_wp2_with fail
        have CALL := works6_any w1
        refine CALL.mono ?_
        rintro e w2 ⟨rfl, hb⟩
        clear CALL
        have hsz2 := hb.size
        replace H := Lib.hid (H.out.below hb (by omega))
        replace HU := Lib.hid (HU.out.below hb (by omega))
        replace HB := Lib.hid (HB.out.trans (hb.mono (by omega)))
        clear hb
        go_wp2
        go_ret
        exact ⟨rfl, HB.out⟩
end Go.Proofs.Ytjdnpgilinfkgaa
