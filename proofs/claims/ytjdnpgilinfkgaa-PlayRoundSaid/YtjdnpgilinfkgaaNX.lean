/-
  The walk of PlayRound.
-/
import Derived.Test.YtjdnpgilinfkgaaNV
import Derived.Test.YtjdnpgilinfkgaaMF
import Derived.Test.YtjdnpgilinfkgaaMK
import Derived.Deep.Cut
namespace Go.Proofs.Ytjdnpgilinfkgaa
open Go.RowKit

set_option maxRecDepth 100000 in
set_option maxHeartbeats 8000000 in
theorem pround_walk (B : Nat) (A : Option Addr) (n k : Nat) (ra mo ar : Int) (l : List Smp) (w : World) (h0 : RS w B A n l) (hB : B ≤ w.heap.size) (hl : n ≤ 9223372036854775807) (hr0 : 0 ≤ ra) (hr1 : ra ≤ 255) (hm0 : 0 ≤ mo) (hm1 : mo ≤ 255) (ha0 : 0 ≤ ar) (ha1 : ar ≤ 255) :
    Calls Try.prog 9 #[.int .u8 ra, .int .u8 mo, .int .u8 ar, .slice A n k] w fun e w' => e = .returned (.bool true) ∧ Below w.heap.size w w' := by
  have HN := Lib.hid h0.1
  have H := Lib.hid h0
  clear h0
  have HB : Hid (Below w.heap.size w w) := Lib.hid (Below.refl _ _)
  by_cases c0 : 20 < n
  · have g1 : (20 : Int) < (n : Int) := by omega
    have g2 : decide ((20 : Int) < (n : Int)) = true := decide_eq_true g1
    have g3 : decide (20 < n) = true := decide_eq_true c0
    go_enter Try.func9, Try.ntmps9
    go_wp2_with fail
    have CALL := works6_any w
    refine CALL.mono ?_
    rintro e w1 ⟨rfl, hb⟩
    clear CALL
    have hsz1 := hb.size
    replace H := Lib.hid (H.out.below hb (by omega))
    replace HB := Lib.hid (HB.out.trans (hb.mono (by omega)))
    clear hb
    go_wp2
    go_ret
    exact ⟨rfl, HB.out⟩
  · have g1 : ¬ ((20 : Int) < (n : Int)) := by omega
    have g2 : decide ((20 : Int) < (n : Int)) = false := decide_eq_false g1
    have g3 : decide (20 < n) = false := decide_eq_false c0
    by_cases c1 : ckG l = 0
    · have HG := Lib.hid c1
      have HE := Lib.hid (ckG_edg c1).2
      clear c1
      have hn4 : n ≤ 4096 := by omega
      obtain ⟨a, hra⟩ : ∃ a : Nat, 4 + ar.toNat % 100 = a := ⟨_, rfl⟩
      obtain ⟨R, hrR⟩ : ∃ R : Nat, ra.toNat % 201 = R := ⟨_, rfl⟩
      obtain ⟨M, hrM⟩ : ∃ M : Nat, mo.toNat % 40 = M := ⟨_, rfl⟩
      have ha4 : 4 ≤ a ∧ a ≤ 103 := by omega
      have hR2 : R ≤ 200 := by omega
      have hM2 : M ≤ 39 := by omega
      have s1 : IntKind.i64.wrap ar = ar := IntWalk.i64_in _ (by omega)
      have s2 : IntKind.i64.wrap ra = ra := IntWalk.i64_in _ (by omega)
      have s3 : IntKind.i64.wrap mo = mo := IntWalk.i64_in _ (by omega)
      have s4 : ar.tmod 100 = (a : Int) - 4 := by rw [Int.tmod_eq_emod_of_nonneg (by omega)]; omega
      have s5 : ra.tmod 201 = (R : Int) := by rw [Int.tmod_eq_emod_of_nonneg (by omega)]; omega
      have s6 : mo.tmod 40 = (M : Int) := by rw [Int.tmod_eq_emod_of_nonneg (by omega)]; omega
      have s7 : IntKind.i64.wrap (4 + ((a : Int) - 4)) = (a : Int) := by rw [show 4 + ((a : Int) - 4) = a by omega]; exact IntWalk.i64_in _ (by omega)
      have s8 : IntKind.i64.wrap ((a : Int) - 4) = (a : Int) - 4 := IntWalk.i64_in _ (by omega)
      have s9 : IntKind.i64.wrap (R : Int) = (R : Int) := IntWalk.i64_in _ (by omega)
      have s10 : IntKind.i64.wrap (M : Int) = (M : Int) := IntWalk.i64_in _ (by omega)
      obtain ⟨R', hR'⟩ : ∃ x, R + M = x := ⟨_, rfl⟩
      have s11 : IntKind.i64.wrap ((R : Int) + M) = (R' : Int) := by rw [show (R : Int) + M = R' by omega]; exact IntWalk.i64_in _ (by omega)
      have hR3 : R ≤ R' ∧ R' ≤ 239 := by omega
      have hdiv : ∀ x, x ≤ 239 → x / a + 1 ≤ 64 := fun x hx => by
        have h1 : x / a ≤ x / 4 := Nat.div_le_div_left ha4.1 (by omega)
        omega
      have hck : ∀ x : Nat, x ≤ 239 → ckRn x a = 0 := fun x hx => ckRn_of (by omega) (by omega) (by omega) (hdiv x hx)
      have hres : ∀ (x : Nat) (up : Bool), x ≤ 239 → rnRes x a up = rndL x a up := fun x up hx => by unfold rnRes; rw [if_pos (hck x hx), Int.toNat_natCast, Int.toNat_natCast]
      have HC1 := Lib.hid (And.intro (hck R (by omega)) (And.intro (hres R false (by omega)) (hres R true (by omega))))
      have HC2 := Lib.hid (And.intro (hck R' (by omega)) (hres R' false (by omega)))
      have hge : gtEr l a 200 = 0 := gtEr_of HG.out (hck 200 (by omega))
      have hgv : gtV l a 200 = gtN l a 200 := by unfold gtV; rw [if_pos hge]; rfl
      have HGT := Lib.hid (And.intro hgv hge)
      have hgle : gtN l a 200 ≤ 200 := gtN_le l a 200
      have HIF := Lib.hid (gtN_iff (l := l) (a := a) (m := 200) (by omega) (hdiv 200 (by omega)) hR2)
      have HSH := Lib.hid (rndL_shp (R := R) (arc := a) false (by omega) (hdiv R (by omega)))
      have HSS := Lib.hid (rndL_sharper (R := R) (R' := R') (arc := a) hR3.1)
      have HAT := Lib.hid (fun (j : Nat) (h : j < R / a + 1) => And.intro (rndL_in h) (And.intro (rndL_at (up := false) h) (rndL_at (up := true) h)))
      have HL1 := Lib.hid (And.intro (rndL_len R a false) (rndL_len R a true))
      have HL2 := Lib.hid (rndL_len R' a false)
      have hRn : R / a + 1 ≤ 64 := hdiv R (by omega)
      have t1 : (R : Int).tdiv (a : Int) = ((R / a : Nat) : Int) := by rw [Int.tdiv_eq_ediv_of_nonneg (by omega)]; rfl
      have t1' : (R : Int) / (a : Int) = ((R / a : Nat) : Int) := rfl
      have t2 : ¬ ((a : Int) = 0) := by omega
      have t3 : ((a : Int) == 0) = false := beq_eq_false_iff_ne.2 t2
      have hdl : R / a + 1 ≤ R' / a + 1 := Nat.add_le_add_right (Nat.div_le_div_right hR3.1) 1
      obtain ⟨x1, hx1⟩ : ∃ x, rndL R a false = x := ⟨_, rfl⟩
      obtain ⟨x2, hx2⟩ : ∃ x, rndL R a true = x := ⟨_, rfl⟩
      obtain ⟨x3, hx3⟩ : ∃ x, rndL R' a false = x := ⟨_, rfl⟩
      obtain ⟨g, hg⟩ : ∃ x, gtN l a 200 = x := ⟨_, rfl⟩
      rw [hg] at HGT hgle HIF
      rw [hx1] at HIF HSH HSS HAT HL1 HC1
      rw [hx2] at HAT HL1 HC1
      rw [hx3] at HSS HL2 HC2
      obtain ⟨d, hd⟩ : ∃ x, R / a = x := ⟨_, rfl⟩
      rw [hd] at HAT HL1 t1 t1' hRn hdl
      obtain ⟨d', hd'⟩ : ∃ x, R' / a = x := ⟨_, rfl⟩
      rw [hd'] at HL2 hdl
      have t4 : IntKind.i64.wrap (d : Int) = (d : Int) := IntWalk.i64_in _ (by omega)
      have t5 : IntKind.i64.wrap ((d : Int) + 1) = ((d + 1 : Nat) : Int) := by rw [show (d : Int) + 1 = ((d + 1 : Nat) : Int) by omega]; exact IntWalk.i64_in _ (by omega)
      clear hra hrR hrM hR' hdiv hck hres hge hgv hx1 hx2 hx3 hg hd hd'
      go_enter Try.func9, Try.ntmps9
      go_wp2_with fail
      have CALL := refCheckPoints_any w.heap.size A n k l w (H.out.more (by omega)) (Nat.le_refl _) (by omega)
      rw [HG.out] at CALL
      refine CALL.mono ?_
      rintro e w1 ⟨rfl, hb⟩
      clear CALL
      have hsz1 := hb.size
      replace H := Lib.hid (H.out.below hb (by omega))
      replace HB := Lib.hid (HB.out.trans (hb.mono (by omega)))
      clear hb
      go_wp2_with fail
      have CALL := Round_any R a false w1
      rw [HC1.out.2.1, HC1.out.1] at CALL
      refine CALL.mono ?_
      rintro e w2 ⟨A1, n1, k1, rfl, hr, hn1, hc1, hb⟩
      clear CALL
      have hsz2 := hb.size
      replace H := Lib.hid (H.out.below hb (by omega))
      replace HB := Lib.hid (HB.out.trans (hb.mono (by omega)))
      have H1 := Lib.hid hr
      clear hr
      clear hb
      go_wp2_with fail
      obtain ⟨w3, hW⟩ : ∃ W, w2.alloc (.cells #[.slice A1 n1 k1] 24) = W := ⟨_, rfl⟩
      have hb : Below w2.heap.size w2 w3 := by rw [← hW]; exact (Below.refl _ _).alloc (Nat.le_refl _) _
      have hsz3 := hb.size
      replace H := Lib.hid (H.out.below hb (by omega))
      replace H1 := Lib.hid (H1.out.below hb (by omega))
      replace HB := Lib.hid (HB.out.trans (hb.mono (by omega)))
      have HK1 : Hid (Blk w3 w2.heap.size 24 #[.slice A1 n1 k1]) := Lib.hid (by rw [← hW]; exact Blk.new _ _ _)
      try rw [hW]
      clear hW hb
      have u0 := HK1.out.one.1
      have CALL := Round_any R a true w3
      rw [HC1.out.2.2, HC1.out.1] at CALL
      refine CALL.mono ?_
      rintro e w4 ⟨A2, n2, k2, rfl, hr, hn2, hc2, hb⟩
      clear CALL
      have hsz4 := hb.size
      replace H := Lib.hid (H.out.below hb (by omega))
      replace H1 := Lib.hid (H1.out.below hb (by omega))
      replace HK1 := Lib.hid (HK1.out.below hb HK1.out.lt)
      replace HB := Lib.hid (HB.out.trans (hb.mono (by omega)))
      have H2 := Lib.hid hr
      clear hr
      clear hb
      have u0 := HK1.out.one.1
      go_wp2_with fail
      obtain ⟨w5, hW⟩ : ∃ W, w4.alloc (.cells #[.slice A2 n2 k2] 24) = W := ⟨_, rfl⟩
      have hb : Below w4.heap.size w4 w5 := by rw [← hW]; exact (Below.refl _ _).alloc (Nat.le_refl _) _
      have hsz5 := hb.size
      replace H := Lib.hid (H.out.below hb (by omega))
      replace H1 := Lib.hid (H1.out.below hb (by omega))
      replace H2 := Lib.hid (H2.out.below hb (by omega))
      replace HK1 := Lib.hid (HK1.out.below hb HK1.out.lt)
      replace HB := Lib.hid (HB.out.trans (hb.mono (by omega)))
      have HK2 : Hid (Blk w5 w4.heap.size 24 #[.slice A2 n2 k2]) := Lib.hid (by rw [← hW]; exact Blk.new _ _ _)
      try rw [hW]
      clear hW hb
      have u0 := HK1.out.one.1
      have v0 := HK2.out.one.1
      have CALL := Round_any R' a false w5
      rw [HC2.out.2, HC2.out.1] at CALL
      refine CALL.mono ?_
      rintro e w6 ⟨A3, n3, k3, rfl, hr, hn3, hc3, hb⟩
      clear CALL
      have hsz6 := hb.size
      replace H := Lib.hid (H.out.below hb (by omega))
      replace H1 := Lib.hid (H1.out.below hb (by omega))
      replace H2 := Lib.hid (H2.out.below hb (by omega))
      replace HK1 := Lib.hid (HK1.out.below hb HK1.out.lt)
      replace HK2 := Lib.hid (HK2.out.below hb HK2.out.lt)
      replace HB := Lib.hid (HB.out.trans (hb.mono (by omega)))
      have H3 := Lib.hid hr
      clear hr
      clear hb
      have u0 := HK1.out.one.1
      have v0 := HK2.out.one.1
      go_upto_region 8 with fail
      obtain ⟨w7, hW⟩ : ∃ W, w6.alloc (.cells #[.slice A3 n3 k3] 24) = W := ⟨_, rfl⟩
      have hb : Below w6.heap.size w6 w7 := by rw [← hW]; exact (Below.refl _ _).alloc (Nat.le_refl _) _
      have hsz7 := hb.size
      replace H := Lib.hid (H.out.below hb (by omega))
      replace H1 := Lib.hid (H1.out.below hb (by omega))
      replace H2 := Lib.hid (H2.out.below hb (by omega))
      replace H3 := Lib.hid (H3.out.below hb (by omega))
      replace HK1 := Lib.hid (HK1.out.below hb HK1.out.lt)
      replace HK2 := Lib.hid (HK2.out.below hb HK2.out.lt)
      replace HB := Lib.hid (HB.out.trans (hb.mono (by omega)))
      have HK3 : Hid (Blk w7 w6.heap.size 24 #[.slice A3 n3 k3]) := Lib.hid (by rw [← hW]; exact Blk.new _ _ _)
      try rw [hW]
      clear hW hb
      have u0 := HK1.out.one.1
      have v0 := HK2.out.one.1
      have y0 := HK3.out.one.1
      have hn11 : n1 = d + 1 := by have := H1.out.1; have := HL1.out.1; omega
      have hn22 : n2 = d + 1 := by have := H2.out.1; have := HL1.out.2; omega
      have hn33 : n3 = d' + 1 := by have := H3.out.1; have := HL2.out; omega
      subst hn11 hn22 hn33
      have r1 : (((d + 1 : Nat) : Int) != ((d + 1 : Nat) : Int)) = false := by simp
      have r2 : ¬ (((d' + 1 : Nat) : Int) < ((d + 1 : Nat) : Int)) := by omega
      have r3 : decide (((d' + 1 : Nat) : Int) < ((d + 1 : Nat) : Int)) = false := decide_eq_false r2
      have r4 : decide (d' < d) = false := decide_eq_false (by omega)
      have r5 : ¬ d' < d := by omega
      have r6 : decide (d' + 1 < d + 1) = false := decide_eq_false (by omega)
      clear s1 s2 s3 s4 s5 s6 s7 s8 s10 s11
      have z0 := Lat.cell u0
      have z1 := Lat.cell v0
      have z2 := Lat.cell y0
      clear u0 v0 y0
      go_wp2_with fail
      try dsimp only [List.append]
      refine wp_region_lat (by kernel_rfl) (by kernel_rfl) ?_
      repeat (go_big_quiet_step (fail))
      refine wpQuiet_nil ?_
      intro w8 hw'
      have hb := lat_out hw'
      have hsz8 := hb.size
      replace H := Lib.hid (H.out.below hb (by omega))
      replace H1 := Lib.hid (H1.out.below hb (by omega))
      replace H2 := Lib.hid (H2.out.below hb (by omega))
      replace H3 := Lib.hid (H3.out.below hb (by omega))
      replace HK1 := Lib.hid (HK1.out.below hb HK1.out.lt)
      replace HK2 := Lib.hid (HK2.out.below hb HK2.out.lt)
      replace HK3 := Lib.hid (HK3.out.below hb HK3.out.lt)
      replace HB := Lib.hid (HB.out.trans (hb.mono (by omega)))
      clear hb hw' z0 z1 z2 r1 r2 r3 r4 r5 r6
      have u0 := HK1.out.one.1
      have v0 := HK2.out.one.1
      have y0 := HK3.out.one.1
      go_wp2_with fail
      clear u0 v0 y0 t1 t1' t2 t3 t4 t5
      go_loopw [17] (fun z wq => ∃ j : Nat, j ≤ d + 1 ∧ z = .int .i64 j ∧ Hid (Below w8.heap.size w8 wq)) (fun z _ => d + 1 - (intOf z).toNat)
      case atStart => exact ⟨0, Nat.zero_le _, rfl, Lib.hid (Below.refl _ _)⟩
      case round =>
        obtain ⟨j, hj, rfl, HBQ⟩ := hrel
        have u0 := (HK1.out.below HBQ.out HK1.out.lt).one.1
        by_cases hlt : j < d + 1
        · have v0 := (HK2.out.below HBQ.out HK2.out.lt).one.1
          have y0 := (HK3.out.below HBQ.out HK3.out.lt).one.1
          have hx1 : j < x1.length := by have := H1.out.1; omega
          have hx2 : j < x2.length := by have := H2.out.1; omega
          have hx3 : j < x3.length := by have := H3.out.1; omega
          obtain ⟨a1, hA1, _, p1⟩ := (H1.out.below HBQ.out (by omega)).at_ hx1
          obtain ⟨a2, hA2, _, p2⟩ := (H2.out.below HBQ.out (by omega)).at_ hx2
          obtain ⟨a3, hA3, _, p3⟩ := (H3.out.below HBQ.out (by omega)).at_ hx3
          obtain rfl := hA1
          obtain rfl := hA2
          obtain rfl := hA3
          obtain ⟨hba, hv1, hv2⟩ := HAT.out j hlt
          have hsh := HSS.out.2 j hx1
          rw [atI_eq hx1] at hv1 hsh
          rw [atI_eq hx2] at hv2
          rw [atI_eq hx3] at hsh
          unfold bhL at hv1 hv2
          simp only [Bool.false_eq_true, if_false, if_true] at hv1 hv2
          obtain ⟨b, hb⟩ : ∃ b, j * a = b := ⟨_, rfl⟩
          have m0 : (j : Int) * a = ((j * a : Nat) : Int) := by simp
          rw [hb] at hba hv1 hv2 m0
          have hqq := sq_le hba
          have hRR : R * R ≤ 40000 := Nat.mul_le_mul hR2 hR2
          have m1 : (R : Int) * R = ((R * R : Nat) : Int) := by simp
          have m2 : (b : Int) * b = ((b * b : Nat) : Int) := by simp
          obtain ⟨RR, hrr⟩ : ∃ x, R * R = x := ⟨_, rfl⟩
          obtain ⟨bb, hbb⟩ : ∃ x, b * b = x := ⟨_, rfl⟩
          rw [hrr] at hv1 hv2 hqq hRR m1
          rw [hbb] at hv1 hv2 hqq m2
          obtain ⟨sq, hsq⟩ : ∃ x, RR - bb = x := ⟨_, rfl⟩
          rw [hsq] at hv1 hv2
          have his := isq_is sq
          have hcs := csq_is sq
          have hic := isq_csq sq
          have hcR : csq sq ≤ R := csq_le (by omega)
          obtain ⟨i, hi⟩ : ∃ x, isq sq = x := ⟨_, rfl⟩
          obtain ⟨c, hc⟩ : ∃ x, csq sq = x := ⟨_, rfl⟩
          rw [hi] at hv2 his hic
          rw [hc] at hv1 hcs hic hcR
          have hcs1 := hcs.1
          have his1 := his.1
          have hcc : c * c ≤ 200 * 200 := Nat.mul_le_mul (show c ≤ 200 by omega) (show c ≤ 200 by omega)
          have m3 : (c : Int) * c = ((c * c : Nat) : Int) := by simp
          have m4 : (i : Int) * i = ((i * i : Nat) : Int) := by simp
          obtain ⟨cc, hcc_⟩ : ∃ x, c * c = x := ⟨_, rfl⟩
          obtain ⟨ii, hii⟩ : ∃ x, i * i = x := ⟨_, rfl⟩
          rw [hcc_] at m3 hcs1 hcc
          rw [hii] at m4 his1
          obtain ⟨q1, hq1⟩ : ∃ x, x1[j] = x := ⟨_, rfl⟩
          obtain ⟨q2, hq2⟩ : ∃ x, x2[j] = x := ⟨_, rfl⟩
          obtain ⟨q3, hq3⟩ : ∃ x, x3[j] = x := ⟨_, rfl⟩
          rw [hq1] at p1 hv1 hsh
          rw [hq2] at p2 hv2
          rw [hq3] at p3 hsh
          have w0 : IntKind.i64.wrap (b : Int) = (b : Int) := IntWalk.i64_in _ (by omega)
          have w1 : IntKind.i64.wrap (RR : Int) = (RR : Int) := IntWalk.i64_in _ (by omega)
          have w2_ : IntKind.i64.wrap (bb : Int) = (bb : Int) := IntWalk.i64_in _ (by omega)
          have w3_ : IntKind.i64.wrap ((RR : Int) - bb) = (sq : Int) := by rw [show (RR : Int) - bb = sq by omega]; exact IntWalk.i64_in _ (by omega)
          have w4_ : IntKind.i64.wrap ((R : Int) - q1) = (c : Int) := by rw [show (R : Int) - q1 = c by omega]; exact IntWalk.i64_in _ (by omega)
          have w5_ : IntKind.i64.wrap ((R : Int) - q2) = (i : Int) := by rw [show (R : Int) - q2 = i by omega]; exact IntWalk.i64_in _ (by omega)
          have w6_ : IntKind.i64.wrap (cc : Int) = (cc : Int) := IntWalk.i64_in _ (by omega)
          have w7_ : IntKind.i64.wrap (ii : Int) = (ii : Int) := IntWalk.i64_in _ (by omega)
          have w8_ : IntKind.i64.wrap ((c : Int) - i) = (c : Int) - i := IntWalk.i64_in _ (by omega)
          have w9_ : IntKind.i64.wrap ((j : Int) + 1) = (j : Int) + 1 := IntWalk.i64_in _ (by omega)
          have c1 : ¬ (c : Int) < 0 := by omega
          have c2 : ¬ (i : Int) < 0 := by omega
          have c3 : ¬ (cc : Int) < (sq : Int) := by omega
          have c4 : ¬ (sq : Int) < (ii : Int) := by omega
          have c5 : ¬ (1 : Int) < (c : Int) - i := by omega
          have c6 : ¬ (c : Int) < (i : Int) := by omega
          have c7 : ¬ q1 < q3 := by omega
          have f1 := decide_eq_false c1
          have f2 := decide_eq_false c2
          have f3 := decide_eq_false c3
          have f4 := decide_eq_false c4
          have f5 := decide_eq_false c5
          have f6 := decide_eq_false c6
          have f7 := decide_eq_false c7
          have f8 : decide (cc < sq) = false := decide_eq_false (by omega)
          have f9 : decide (sq < ii) = false := decide_eq_false (by omega)
          have f10 : decide (c < i) = false := decide_eq_false (by omega)
          have c8 : ¬ cc < sq := by omega
          have c9 : ¬ sq < ii := by omega
          have c10 : ¬ c < i := by omega
          have g1_ : (j : Int) < ((d + 1 : Nat) : Int) := by omega
          have g2_ : (j : Int) < ((d' + 1 : Nat) : Int) := by omega
          have U0 := Lib.hid u0
          have V0 := Lib.hid v0
          have Y0 := Lib.hid y0
          clear hb hrr hbb hsq hi hc hcc_ hii hq1 hq2 hq3 his hcs hv1 hv2 hqq hRR hba hic hcR hcs1 his1 hcc hsh hx1 hx2 hx3
          have z1 := Lat.cell p1
          have z2 := Lat.cell p2
          have z3 := Lat.cell p3
          go_upto_region 15 with fail
          have z0 := Lat.cell u0
          have z4 := Lat.cell v0
          have P1 := Lib.hid p1
          have P3 := Lib.hid p3
          clear u0 v0 y0 p1 p2 p3
          try dsimp only [List.append]
          refine wp_region_lat (by kernel_rfl) (by kernel_rfl) ?_
          repeat (go_big_quiet_step (fail))
          refine wpQuiet_nil ?_
          intro W3 hw'
          have hb1 := lat_out hw'
          have p1 := (hb1.cell (World.block_lt_of_cell? _ _ P1.out)).trans P1.out
          have p3 := (hb1.cell (World.block_lt_of_cell? _ _ P3.out)).trans P3.out
          have u0 := (hb1.cell (World.block_lt_of_cell? _ _ U0.out)).trans U0.out
          have y0 := (hb1.cell (World.block_lt_of_cell? _ _ Y0.out)).trans Y0.out
          replace HBQ := Lib.hid (HBQ.out.trans (hb1.mono HBQ.out.size))
          clear hb1 hw' z0 z1 z2 z3 z4
          have z1 := Lat.cell p1
          have z2 := Lat.cell p3
          have z3 := Lat.cell u0
          have z4 := Lat.cell y0
          clear p1 p3 u0 y0
          go_wp2_with fail
          try dsimp only [List.append]
          refine wp_region_lat (by kernel_rfl) (by kernel_rfl) ?_
          repeat (go_big_quiet_step (fail))
          refine wpQuiet_nil ?_
          intro W4 hw'
          have hb1 := lat_out hw'
          replace HBQ := Lib.hid (HBQ.out.trans (hb1.mono HBQ.out.size))
          clear hb1 hw' z1 z2 z3 z4
          go_wp2
          go_roundw
          case rel => exact ⟨j + 1, by omega, by go_num, HBQ⟩
          case measure => simp [intOf]; omega
        · obtain rfl : j = d + 1 := by omega
          replace H := Lib.hid (H.out.below HBQ.out (by omega))
          replace H1 := Lib.hid (H1.out.below HBQ.out (by omega))
          replace H2 := Lib.hid (H2.out.below HBQ.out (by omega))
          replace H3 := Lib.hid (H3.out.below HBQ.out (by omega))
          replace HK1 := Lib.hid (HK1.out.below HBQ.out HK1.out.lt)
          replace HB := Lib.hid (HB.out.trans (HBQ.out.mono (by omega)))
          have hszQ := HBQ.out.size
          clear HBQ u0 hlt hj HK2 HK3 H2 H3
          have u0 := HK1.out.one.1
          go_wp2_with fail
          have CALL := Greatest_any wr.heap.size A n k l a 200 wr (H.out.more (by omega)) (Nat.le_refl _) (by omega)
          rw [HGT.out.1, HGT.out.2] at CALL
          refine CALL.mono ?_
          rintro e w9 ⟨rfl, hb⟩
          clear CALL
          have hsz9 := hb.size
          replace H := Lib.hid (H.out.below hb (by omega))
          replace H1 := Lib.hid (H1.out.below hb (by omega))
          replace HK1 := Lib.hid (HK1.out.below hb HK1.out.lt)
          replace HB := Lib.hid (HB.out.trans (hb.mono (by omega)))
          clear hb
          have u0 := HK1.out.one.1
          have c1 : ¬ (g : Int) < 0 := by omega
          have c2 : ¬ (200 : Int) < (g : Int) := by omega
          have f1 := decide_eq_false c1
          have f2 := decide_eq_false c2
          have f3 : decide (200 < g) = false := decide_eq_false (by omega)
          have c3 : ¬ 200 < g := by omega
          have hl4 : l.length ≤ 4096 := by have := HN.out; omega
          have HR0 := Lib.hid (rd_ok HSH.out hl4 HE.out)
          have HIF2 := Lib.hid HIF.out
          cases hm : miL x1 l with
          | none =>
            have HM := Lib.hid (mi_none HR0.out hm)
            have hle : R ≤ g := HIF.out.1 hm
            have l1 : (R : Int) ≤ (g : Int) := by omega
            have l2 := decide_eq_true l1
            have l3 : decide (R ≤ g) = true := decide_eq_true hle
            clear hm
            go_wp2_with fail
            have CALL := Miss_any w9.heap.size A1 A (d + 1) k1 n k x1 l w9 (H1.out.more (by omega)) (H.out.more (by omega)) (Nat.le_refl _) (by omega) (by omega)
            rw [HM.out.1, HM.out.2.1, HM.out.2.2] at CALL
            refine CALL.mono ?_
            rintro e w10 ⟨rfl, hb⟩
            clear CALL
            have hsz10 := hb.size
            replace H := Lib.hid (H.out.below hb (by omega))
            replace H1 := Lib.hid (H1.out.below hb (by omega))
            replace HK1 := Lib.hid (HK1.out.below hb HK1.out.lt)
            replace HB := Lib.hid (HB.out.trans (hb.mono (by omega)))
            clear hb
            have u0 := HK1.out.one.1
            go_wp2_with fail
            have CALL := works6_any w10
            refine CALL.mono ?_
            rintro e w11 ⟨rfl, hb⟩
            clear CALL
            have hsz11 := hb.size
            replace H := Lib.hid (H.out.below hb (by omega))
            replace H1 := Lib.hid (H1.out.below hb (by omega))
            replace HK1 := Lib.hid (HK1.out.below hb HK1.out.lt)
            replace HB := Lib.hid (HB.out.trans (hb.mono (by omega)))
            clear hb
            have u0 := HK1.out.one.1
            go_wp2
            go_ret
            exact ⟨rfl, HB.out⟩
          | some iu =>
            obtain ⟨i0, u1⟩ := iu
            have HM := Lib.hid (mi_some HR0.out hm)
            have hle : ¬ R ≤ g := fun h => by rw [HIF.out.2 h] at hm; cases hm
            have l1 : ¬ (R : Int) ≤ (g : Int) := by omega
            have l2 := decide_eq_false l1
            have l3 : decide (R ≤ g) = false := decide_eq_false hle
            clear hm
            go_wp2_with fail
            have CALL := Miss_any w9.heap.size A1 A (d + 1) k1 n k x1 l w9 (H1.out.more (by omega)) (H.out.more (by omega)) (Nat.le_refl _) (by omega) (by omega)
            rw [HM.out.1, HM.out.2.1, HM.out.2.2] at CALL
            refine CALL.mono ?_
            rintro e w10 ⟨rfl, hb⟩
            clear CALL
            have hsz10 := hb.size
            replace H := Lib.hid (H.out.below hb (by omega))
            replace H1 := Lib.hid (H1.out.below hb (by omega))
            replace HK1 := Lib.hid (HK1.out.below hb HK1.out.lt)
            replace HB := Lib.hid (HB.out.trans (hb.mono (by omega)))
            clear hb
            have u0 := HK1.out.one.1
            go_wp2_with fail
            have CALL := works6_any w10
            refine CALL.mono ?_
            rintro e w11 ⟨rfl, hb⟩
            clear CALL
            have hsz11 := hb.size
            replace H := Lib.hid (H.out.below hb (by omega))
            replace H1 := Lib.hid (H1.out.below hb (by omega))
            replace HK1 := Lib.hid (HK1.out.below hb HK1.out.lt)
            replace HB := Lib.hid (HB.out.trans (hb.mono (by omega)))
            clear hb
            have u0 := HK1.out.one.1
            go_wp2
            go_ret
            exact ⟨rfl, HB.out⟩
    · obtain ⟨q, hq⟩ : ∃ q, ckG l = q := ⟨_, rfl⟩
      have HG := Lib.hid hq
      rw [hq] at c1
      have q1 : (q != 0) = true := by rw [bne_iff_ne]; exact c1
      clear hq
      go_enter Try.func9, Try.ntmps9
      go_wp2_with fail
      have CALL := refCheckPoints_any w.heap.size A n k l w (H.out.more (by omega)) (Nat.le_refl _) (by omega)
      rw [HG.out] at CALL
      refine CALL.mono ?_
      rintro e w1 ⟨rfl, hb⟩
      clear CALL
      have hsz1 := hb.size
      replace H := Lib.hid (H.out.below hb (by omega))
      replace HB := Lib.hid (HB.out.trans (hb.mono (by omega)))
      clear hb
      go_wp2_with fail
      have CALL := works6_any w1
      refine CALL.mono ?_
      rintro e w2 ⟨rfl, hb⟩
      clear CALL
      have hsz2 := hb.size
      replace H := Lib.hid (H.out.below hb (by omega))
      replace HB := Lib.hid (HB.out.trans (hb.mono (by omega)))
      clear hb
      go_wp2
      go_ret
      exact ⟨rfl, HB.out⟩
end Go.Proofs.Ytjdnpgilinfkgaa
