/-
  Balance of package play; the document's Same of two grooves, and the statements' inside.
-/
import Derived.Test.YtjdnpgilinfkgaaMD
namespace Go.Proofs.Ytjdnpgilinfkgaa
open Go.RowKit

set_option maxRecDepth 100000 in
set_option maxHeartbeats 2000000 in
theorem Balance_any (B : Nat) (A : Option Addr) (n k : Nat) (l : List Smp) (w : World) (h0 : RS w B A n l) (hB : B ≤ w.heap.size) (hl : n ≤ 9223372036854775807) :
    Calls Try.prog 32 #[.slice A n k] w fun e w' => e = .returned (.tuple #[.agg #[.int .i64 (if ckG l = 0 then (baL l).1 else 0), .int .i64 (if ckG l = 0 then (baL l).2 else 0)], .int .i64 (ckG l)]) ∧ Below w.heap.size w w' := by
  have HN := Lib.hid h0.1
  have H := Lib.hid (h0.more hB)
  clear h0 hB
  have CG := Lib.hid (fun W (hb : Below w.heap.size w W) => CheckPoints_any w.heap.size A n k l W (H.out.below hb (Nat.le_refl _)) hb.size hl)
  have BE := Lib.hid (fun (h : ckG l = 0) (h3 : 3 ≤ n) W (hb : Below w.heap.size w W) => best_any w.heap.size A n k l W (H.out.below hb (Nat.le_refl _)) hb.size (ckG_edg h).2 (by have := (ckG_edg h).1; have := HN.out; omega) h3)
  have BZ : Hid (n < 3 → baL l = (0, 0)) := Lib.hid (fun h => by unfold baL; rw [if_pos (by have := HN.out; omega)])
  obtain ⟨q, hq⟩ : ∃ q, ckG l = q := ⟨_, rfl⟩
  rw [hq] at CG BE
  rw [hq]
  obtain ⟨x, hx⟩ : ∃ x, (baL l).1 = x := ⟨_, rfl⟩
  obtain ⟨y, hy⟩ : ∃ y, (baL l).2 = y := ⟨_, rfl⟩
  rw [hx, hy] at BE
  rw [hx, hy]
  have BZ : Hid (n < 3 → x = 0 ∧ y = 0) := Lib.hid (fun h => by have := BZ.out h; rw [this] at hx hy; exact ⟨hx.symm, hy.symm⟩)
  clear hq hx hy
  have hbw : Below w.heap.size w (w.alloc (.cells #[.int .i64 0, .int .i64 0] 52)) := (Below.refl _ _).alloc (Nat.le_refl _) _
  have kw : Blk (w.alloc (.cells #[.int .i64 0, .int .i64 0] 52)) w.heap.size 52 #[.int .i64 0, .int .i64 0] := Blk.new _ _ _
  by_cases hz : q = 0
  · subst hz
    rw [if_pos rfl, if_pos rfl]
    by_cases h3 : n < 3
    · obtain ⟨rfl, rfl⟩ := BZ.out h3
      have d1 : decide ((n : Int) < 3) = true := by simp; omega
      have d2 : (n : Int) < 3 := by omega
      clear BZ h3
      go_enter Try.func32, Try.ntmps32
      go_wp2_with fail
      refine (CG.out _ hbw).mono ?_
      rintro e w1 ⟨rfl, hb1⟩
      have K := Lib.hid (kw.below hb1 kw.lt)
      have HB := Lib.hid (hbw.trans (hb1.mono hbw.size))
      clear hb1 kw hbw
      obtain ⟨z0, z1, z2, z3, z4⟩ := K.out.two
      go_wp2
      have KF := Lib.hid ((K.out.set_ 0 (.int .i64 0)).set_ 1 (.int .i64 0))
      have g0 := (KF.out.cell 0).trans rfl
      have g1 := (KF.out.cell 1).trans rfl
      refine ⟨rfl, .tuple #[.agg #[.int .i64 0, .int .i64 0], .int .i64 0], ?_, rfl, (HB.out.setCell (p := ⟨w.heap.size, 0, none⟩) (Nat.le_refl _) _).setCell (p := ⟨w.heap.size, 1, none⟩) (Nat.le_refl _) _⟩
      simp [results, Try.results32, go_sem, g0, g1]
    · have d2 : ¬ (n : Int) < 3 := by omega
      have h3' : 3 ≤ n := by omega
      replace BE := Lib.hid (BE.out rfl h3')
      clear BZ h3 h3'
      go_enter Try.func32, Try.ntmps32
      go_wp2_with fail
      refine (CG.out _ hbw).mono ?_
      rintro e w1 ⟨rfl, hb1⟩
      have K := Lib.hid (kw.below hb1 kw.lt)
      have HB := Lib.hid (hbw.trans (hb1.mono hbw.size))
      clear hb1 kw hbw
      go_wp2_with fail
      refine (BE.out _ HB.out).mono ?_
      rintro e w2 ⟨rfl, hb2⟩
      replace K := Lib.hid (K.out.below hb2 K.out.lt)
      replace HB := Lib.hid (HB.out.trans (hb2.mono HB.out.size))
      clear hb2
      obtain ⟨z0, z1, z2, z3, z4⟩ := K.out.two
      go_wp2
      have KF := Lib.hid ((K.out.set_ 0 (.int .i64 x)).set_ 1 (.int .i64 y))
      have g0 := (KF.out.cell 0).trans rfl
      have g1 := (KF.out.cell 1).trans rfl
      refine ⟨rfl, .tuple #[.agg #[.int .i64 x, .int .i64 y], .int .i64 0], ?_, rfl, (HB.out.setCell (p := ⟨w.heap.size, 0, none⟩) (Nat.le_refl _) _).setCell (p := ⟨w.heap.size, 1, none⟩) (Nat.le_refl _) _⟩
      simp [results, Try.results32, go_sem, g0, g1]
  · rw [if_neg hz, if_neg hz]
    have q1 : (q != 0) = true := by rw [bne_iff_ne]; exact hz
    clear hz BZ BE
    go_enter Try.func32, Try.ntmps32
    go_wp2_with fail
    refine (CG.out _ hbw).mono ?_
    rintro e w1 ⟨rfl, hb1⟩
    have K := Lib.hid (kw.below hb1 kw.lt)
    have HB := Lib.hid (hbw.trans (hb1.mono hbw.size))
    clear hb1 kw hbw
    obtain ⟨z0, z1, z2, z3, z4⟩ := K.out.two
    go_wp2
    have KF := Lib.hid ((K.out.set_ 0 (.int .i64 0)).set_ 1 (.int .i64 0))
    have g0 := (KF.out.cell 0).trans rfl
    have g1 := (KF.out.cell 1).trans rfl
    refine ⟨rfl, .tuple #[.agg #[.int .i64 0, .int .i64 0], .int .i64 q], ?_, rfl, (HB.out.setCell (p := ⟨w.heap.size, 0, none⟩) (Nat.le_refl _) _).setCell (p := ⟨w.heap.size, 1, none⟩) (Nat.le_refl _) _⟩
    simp [results, Try.results32, go_sem, g0, g1]

theorem eqPts (a b c d : Int) (w : World) : Sem.run Try.prog (Op.equalIn 10000 69 (.agg #[.int .i64 a, .int .i64 b]) (.agg #[.int .i64 c, .int .i64 d])) w = .ok (decide ((a, b) = (c, d))) w := by
  by_cases h1 : a = c <;> by_cases h2 : b = d <;> simp [go_sem, Op.eqFields, h1, h2]
/-- Whether two grooves are equal. -/
def sameP (xs ys : List Smp) : Bool := decide (xs = ys)
theorem sameP_ne {xs ys : List Smp} (h : xs.length ≠ ys.length) : sameP xs ys = false := decide_eq_false (fun e => h (by rw [e]))
theorem sameP_at {xs ys : List Smp} {k : Nat} (h : k < xs.length) (h' : k < ys.length) (hne : xs[k] ≠ ys[k]) : sameP xs ys = false := decide_eq_false (fun e => hne (by subst e; rfl))
theorem sameP_self (xs : List Smp) : sameP xs xs = true := decide_eq_true rfl

set_option maxRecDepth 100000 in
set_option maxHeartbeats 2000000 in
theorem refSameP_any (B : Nat) (A A' : Option Addr) (n c n' c' : Nat) (xs ys : List Smp) (w : World) (h0 : RS w B A n xs) (h0' : RS w B A' n' ys) (hB : B ≤ w.heap.size) (hl : n ≤ 9223372036854775807) (hl' : n' ≤ 9223372036854775807) :
    Calls Try.prog 49 #[.slice A n c, .slice A' n' c'] w fun e w' => e = .returned (.bool (sameP xs ys)) ∧ Below w.heap.size w w' := by
  have H := Lib.hid (h0.more hB)
  have H' := Lib.hid (h0'.more hB)
  have HN := Lib.hid h0.1
  have HN' := Lib.hid h0'.1
  clear h0 h0' hB
  by_cases hne : n = n'
  · subst hne
    have q1 : ((n : Int) != (n : Int)) = false := by simp
    go_enter Try.func49, Try.ntmps49
    go_wp2
    go_loopw [5] (fun i wr => ∃ k : Nat, k ≤ n ∧ i = .int .i64 k ∧ Hid (Below w.heap.size w wr) ∧ Hid (xs.take k = ys.take k)) (fun i wr => n - (intOf i).toNat)
    case atStart => exact ⟨0, Nat.zero_le _, rfl, Lib.hid (Below.refl _ _), Lib.hid rfl⟩
    case round =>
      clear q1
      obtain ⟨k, hk, rfl, HB, HV⟩ := hrel
      by_cases hlt : k < n
      · have hx : k < xs.length := by have := HN.out; omega
        have hy : k < ys.length := by have := HN'.out; omega
        obtain ⟨ad, hA, _, p1, p2⟩ := (H.out.below HB.out (Nat.le_refl _)).at_ hx
        obtain ⟨ad', hA', _, p3, p4⟩ := (H'.out.below HB.out (Nat.le_refl _)).at_ hy
        obtain rfl := hA
        obtain rfl := hA'
        have eqp := fun W : World => eqPts xs[k].1 xs[k].2 ys[k].1 ys[k].2 W
        by_cases he : xs[k] = ys[k]
        · have HT : Hid (xs.take (k + 1) = ys.take (k + 1)) := Lib.hid (by rw [List.take_succ_eq_append_getElem hx, List.take_succ_eq_append_getElem hy, HV.out, he])
          rw [he] at p1 p2 eqp
          clear he
          obtain ⟨y, hyy⟩ : ∃ y, ys[k] = y := ⟨_, rfl⟩
          rw [hyy] at p1 p2 p3 p4 eqp
          clear hyy
          replace eqp : ∀ W, _ = Result.ok true W := fun W => (eqp W).trans (by simp)
          have z1 := Lat.cell p1
          have z2 := Lat.cell p2
          have z3 := Lat.cell p3
          have z4 := Lat.cell p4
          clear p1 p2 p3 p4
          go_wp2_with fail
          try dsimp only [List.append]
          refine wp_region_lat (by kernel_rfl) (by kernel_rfl) ?_
          repeat (go_big_quiet_step (fail))
          refine wpQuiet_nil ?_
          intro W2 hw'
          have hb1 := lat_out hw'
          replace HB := Lib.hid (HB.out.trans (hb1.mono HB.out.size))
          clear hb1 hw' z1 z2 z3 z4 eqp
          go_wp2
          go_roundw
          case rel => exact ⟨k + 1, by omega, by go_num, HB, HT⟩
          case measure => simp [intOf]; omega
        · have HF := Lib.hid (sameP_at hx hy he)
          obtain ⟨x, hxx⟩ : ∃ x, xs[k] = x := ⟨_, rfl⟩
          obtain ⟨y, hyy⟩ : ∃ y, ys[k] = y := ⟨_, rfl⟩
          rw [hxx] at p1 p2 eqp he
          rw [hyy] at p3 p4 eqp he
          clear hxx hyy
          replace eqp : ∀ W, _ = Result.ok false W := fun W => (eqp W).trans (by rw [decide_eq_false (fun h => he h)])
          have z1 := Lat.cell p1
          have z2 := Lat.cell p2
          have z3 := Lat.cell p3
          have z4 := Lat.cell p4
          clear p1 p2 p3 p4 he
          go_wp2_with fail
          try dsimp only [List.append]
          refine wp_region_lat (by kernel_rfl) (by kernel_rfl) ?_
          repeat (go_big_quiet_step (fail))
          refine wpQuiet_nil ?_
          intro W2 hw'
          have hb1 := lat_out hw'
          replace HB := Lib.hid (HB.out.trans (hb1.mono HB.out.size))
          clear hb1 hw' z1 z2 z3 z4 eqp
          go_wp2
          go_ret
          exact ⟨ret_b HF.out.symm, HB.out⟩
      · go_wp2
        go_ret
        have h := HV.out
        rw [List.take_of_length_le (by have := HN.out; omega), List.take_of_length_le (by have := HN'.out; omega)] at h
        exact ⟨ret_b (by rw [h, sameP_self]), HB.out⟩
  · have q1 : ((n : Int) != (n' : Int)) = true := by rw [bne_iff_ne]; omega
    have q2 : ((n : Int) == (n' : Int)) = false := beq_eq_false_iff_ne.2 (by omega)
    have HF : Hid (sameP xs ys = false) := Lib.hid (sameP_ne (by have := HN.out; have := HN'.out; omega))
    go_enter Try.func49, Try.ntmps49
    go_wp2
    go_ret
    exact ⟨ret_b HF.out.symm, Below.refl _ _⟩

/-- a lies in b, as the statements ask it. -/
def insP (a b : List Smp) : Bool := decide (a.length = b.length) && (List.range a.length).all fun i => decide (outW a i ≤ outW b i) && decide (innW a i ≤ innW b i)
theorem insP_t {a b : List Smp} : insP a b = true ↔ a.length = b.length ∧ ∀ i, i < a.length → outW a i ≤ outW b i ∧ innW a i ≤ innW b i := by
  unfold insP
  simp only [Bool.and_eq_true, decide_eq_true_eq, List.all_eq_true, List.mem_range]
theorem insP_f {a b : List Smp} {i : Nat} (hi : i < a.length) (h : ¬ (outW a i ≤ outW b i ∧ innW a i ≤ innW b i)) : insP a b = false := by
  cases e : insP a b
  · rfl
  · exact absurd ((insP_t.1 e).2 i hi) h

set_option maxRecDepth 100000 in
set_option maxHeartbeats 2000000 in
theorem inside_any (B : Nat) (A A' : Option Addr) (n c n' c' : Nat) (xs ys : List Smp) (w : World) (h0 : RS w B A n xs) (h0' : RS w B A' n' ys) (hB : B ≤ w.heap.size) (hl : n ≤ 9223372036854775807) (hl' : n' ≤ 9223372036854775807) :
    Calls Try.prog 46 #[.slice A n c, .slice A' n' c'] w fun e w' => e = .returned (.bool (insP xs ys)) ∧ Below w.heap.size w w' := by
  have H := Lib.hid (h0.more hB)
  have H' := Lib.hid (h0'.more hB)
  have HN := Lib.hid h0.1
  have HN' := Lib.hid h0'.1
  clear h0 h0' hB
  by_cases hne : n = n'
  · subst hne
    have q1 : ((n : Int) != (n : Int)) = false := by simp
    go_enter Try.func46, Try.ntmps46
    go_wp2
    go_loopw [5] (fun i wr => ∃ k : Nat, k ≤ n ∧ i = .int .i64 k ∧ Hid (Below w.heap.size w wr) ∧ Hid (∀ q, q < k → outW xs q ≤ outW ys q ∧ innW xs q ≤ innW ys q)) (fun i wr => n - (intOf i).toNat)
    case atStart => exact ⟨0, Nat.zero_le _, rfl, Lib.hid (Below.refl _ _), Lib.hid (fun q hq => absurd hq (by omega))⟩
    case round =>
      clear q1
      obtain ⟨k, hk, rfl, HB, HV⟩ := hrel
      by_cases hlt : k < n
      · have hx : k < xs.length := by have := HN.out; omega
        have hy : k < ys.length := by have := HN'.out; omega
        obtain ⟨ad, hA, _, p1, p2⟩ := (H.out.below HB.out (Nat.le_refl _)).at_ hx
        obtain ⟨ad', hA', _, p3, p4⟩ := (H'.out.below HB.out (Nat.le_refl _)).at_ hy
        obtain rfl := hA
        obtain rfl := hA'
        have hf := insP_f (b := ys) hx
        rw [outW_eq hx, outW_eq hy, innW_eq hx, innW_eq hy] at hf
        have hg : (xs[k].2 ≤ ys[k].2 ∧ ys[k].1 ≤ xs[k].1) → ∀ q, q < k + 1 → outW xs q ≤ outW ys q ∧ innW xs q ≤ innW ys q := fun h q hq => by
          rcases Nat.lt_or_ge q k with h1 | h1
          · exact HV.out q h1
          · obtain rfl : q = k := by omega
            rw [outW_eq hx, outW_eq hy, innW_eq hx, innW_eq hy]; omega
        obtain ⟨x, hxx⟩ : ∃ x, xs[k] = x := ⟨_, rfl⟩
        obtain ⟨y, hyy⟩ : ∃ y, ys[k] = y := ⟨_, rfl⟩
        rw [hxx] at p1 p2 hf hg
        rw [hyy] at p3 p4 hf hg
        have HF := Lib.hid hf
        have HG := Lib.hid hg
        clear hxx hyy hf hg
        by_cases c1 : y.2 < x.2
        · have d1 : decide (y.2 < x.2) = true := by simpa using c1
          have HR : Hid (insP xs ys = false) := Lib.hid (HF.out (by omega))
          clear c1
          go_wp2_with fail
          go_quiet (fail)
          go_wp2
          go_ret
          exact ⟨ret_b HR.out.symm, below_drewN_ HB.out _⟩
        · have d1 : decide (y.2 < x.2) = false := by simpa using c1
          by_cases c2 : x.1 < y.1
          · have d2 : decide (x.1 < y.1) = true := by simpa using c2
            have HR : Hid (insP xs ys = false) := Lib.hid (HF.out (by omega))
            go_wp2_with fail
            go_quiet (fail)
            go_wp2
            go_ret
            exact ⟨ret_b HR.out.symm, below_drewN_ HB.out _⟩
          · have d2 : decide (x.1 < y.1) = false := by simpa using c2
            have HR := Lib.hid (HG.out (by omega))
            go_wp2_with fail
            go_quiet (fail)
            go_wp2
            go_roundw
            case rel => exact ⟨k + 1, by omega, by go_num, Lib.hid (below_drewN_ HB.out _), HR⟩
            case measure => simp [intOf]; omega
      · have HR : Hid (insP xs ys = true) := Lib.hid (insP_t.2 ⟨by have := HN.out; have := HN'.out; omega, fun i hi => HV.out i (by have := HN.out; omega)⟩)
        go_wp2
        go_ret
        exact ⟨ret_b HR.out.symm, HB.out⟩
  · have q1 : ((n : Int) != (n' : Int)) = true := by rw [bne_iff_ne]; omega
    have q2 : ((n : Int) == (n' : Int)) = false := beq_eq_false_iff_ne.2 (by omega)
    have HF : Hid (insP xs ys = false) := Lib.hid (by unfold insP; rw [decide_eq_false (by have := HN.out; have := HN'.out; omega)]; rfl)
    go_enter Try.func46, Try.ntmps46
    go_wp2
    go_ret
    exact ⟨ret_b HF.out.symm, Below.refl _ _⟩
end Go.Proofs.Ytjdnpgilinfkgaa
