/-
  The walk of TakeCrossed.
-/
import Derived.Test.YtoapdmkngfhapaaC4
import Derived.Test.YtoapdmkngfhapaaA4
import Derived.Test.YtoapdmkngfhapaaH1
import Derived.BigQuiet
import Derived.RegionTactic
import Derived.Deep.CutRange
namespace Go.Proofs.Ytoapdmkngfhapaa
open Go.RowKit

set_option maxHeartbeats 400000 in
theorem lawAmount_any (x : Int) (w : World) (h1 : -9223372036854775807 ≤ x) (h2 : x ≤ 9223372036854775807) :
    Calls Try.prog 7 #[.int .i64 x] w fun e w' => e = .returned (.int .i64 (am x)) ∧ w = w' := by
  go_enter Try.func7, Try.ntmps7
  go_wp2
  all_goals
    go_ret
    exact ⟨ret_i (by unfold am; omega), rfl⟩

theorem quiet_left_ {P : Program} {f : FuncId} {args : Array Value} {w : World} {n : Nat} {v : Value} (h : Calls P f args (w.drewN n) fun e w' => e = .returned v ∧ w.drewN n = w') :
    Calls P f args (w.drewN n) fun e w' => e = .returned v ∧ ∃ m, w' = w.drewN m := h.mono fun _ _ ⟨he, hm⟩ => ⟨he, n, hm.symm⟩
theorem quiet_more {P : Program} {f : FuncId} {args : Array Value} {w : World} {a n : Nat} {v : Value} (h : Calls P f args (w.drewN (a + n)) fun e w' => e = .returned v ∧ w.drewN (a + n) = w') :
    Calls P f args (w.drewN (a + n)) fun e w'' => e = .returned v ∧ ∃ m, w'' = w.drewN (a + m) := h.mono fun _ _ ⟨he, hm⟩ => ⟨he, n, hm.symm⟩

set_option maxRecDepth 100000 in
set_option maxHeartbeats 8000000 in
theorem crossed_long (A : Option Addr) (n c : Nat) (xs : List Smp) (be me ae : Int) (w : World) (h0 : RS w w.heap.size A n xs) (hl : n ≤ 9223372036854775807) (hi : I64s xs) (b1 : 0 ≤ be) (b2 : be ≤ 255) (m1 : 0 ≤ me) (m2 : me ≤ 255) (a1 : 0 ≤ ae) (a2 : ae ≤ 255)
    (h1 : (n : Int) < be % 60 + me % 60 + ae % 60 ∨ 300 < n ∨ ckS xs ≠ 0 ∨ be % 60 + me % 60 < 1 ∨ me % 60 + ae % 60 < 1) :
    Calls Try.prog 3 #[.slice A n c, .int .u8 be, .int .u8 me, .int .u8 ae] w fun e w' => e = .returned (.bool true) ∧ Below w.heap.size w w' := by
  have H := Lib.hid h0
  clear h0
  by_cases h2 : (n : Int) < be % 60 + me % 60 + ae % 60 ∨ 300 < n
  · clear h1
    by_cases h3 : (n : Int) < be % 60 + me % 60 + ae % 60
    all_goals
      first
      | (have h4 : 300 < n := by omega
         have h3b : be % 60 + me % 60 + ae % 60 ≤ (n : Int) := by omega
         clear h2 h3)
      | clear h2
      go_enter Try.func3, Try.ntmps3
      go_wp2_with fail
      refine (Works_any _).mono ?_
      rintro e w1 ⟨rfl, hb1⟩
      go_wp2
      go_ret
      exact ⟨rfl, hb1⟩
  · have h3 : be % 60 + me % 60 + ae % 60 ≤ (n : Int) := by omega
    have h4 : n ≤ 300 := by omega
    obtain ⟨q, hq⟩ : ∃ q, ckS xs = q := ⟨_, rfl⟩
    rw [hq] at h1
    have h5 : q ≠ 0 ∨ (q = 0 ∧ be % 60 + me % 60 < 1) ∨ (q = 0 ∧ 1 ≤ be % 60 + me % 60 ∧ me % 60 + ae % 60 < 1) := by omega
    have HQ := Lib.hid hq
    clear h1 h2 hq
    have CK := Lib.hid (refCheckSamples_any _ A n c xs w H.out (Nat.le_refl _) (by omega) hi)
    rw [HQ.out] at CK
    rcases h5 with h5 | ⟨rfl, h5⟩ | ⟨rfl, h5, h6⟩
    · have hc1 : (q == 0) = false := by simpa using h5
      have hc2 : (q != 0) = true := by simpa using h5
      clear h5
      go_enter Try.func3, Try.ntmps3
      go_wp2_with fail
      refine CK.out.mono ?_
      rintro e w1 ⟨rfl, hb1⟩
      go_wp2_with fail
      refine (Works_any _).mono ?_
      rintro e w2 ⟨rfl, hb2⟩
      go_wp2
      go_ret
      exact ⟨rfl, hb1.trans (hb2.mono hb1.size)⟩
    all_goals
      go_enter Try.func3, Try.ntmps3
      go_wp2_with fail
      refine CK.out.mono ?_
      rintro e w1 ⟨rfl, hb1⟩
      go_wp2_with fail
      refine (Works_any _).mono ?_
      rintro e w2 ⟨rfl, hb2⟩
      go_wp2
      go_ret
      exact ⟨rfl, hb1.trans (hb2.mono hb1.size)⟩

section
attribute [local go_sem] World.cell?_alloc_lt 
set_option maxRecDepth 100000 in
set_option maxHeartbeats 40000000 in
theorem crossed_ok (A : Option Addr) (n c : Nat) (xs : List Smp) (be me ae : Int) (w : World) (h0 : RS w w.heap.size A n xs) (hi : I64s xs) (b1 : 0 ≤ be) (b2 : be ≤ 255) (m1 : 0 ≤ me) (m2 : me ≤ 255) (a1 : 0 ≤ ae) (a2 : ae ≤ 255)
    (h3 : be % 60 + me % 60 + ae % 60 ≤ (n : Int)) (h4 : n ≤ 300) (hc : ckS xs = 0) (h5 : 1 ≤ be % 60 + me % 60) (h6 : 1 ≤ me % 60 + ae % 60) :
    Calls Try.prog 3 #[.slice A n c, .int .u8 be, .int .u8 me, .int .u8 ae] w fun e w' => e = .returned (.bool true) ∧ Below w.heap.size w w' := by
  have H := Lib.hid h0
  have HN := Lib.hid h0.1
  clear h0
  have CK := Lib.hid (refCheckSamples_any _ A n c xs w H.out (Nat.le_refl _) (by omega) hi)
  rw [hc] at CK
  obtain ⟨CR, hvs⟩ := cr_ok A n c xs (be % 60) (me % 60) (ae % 60) HN.out h4 hc (by omega) (by omega) (by omega) (by omega) (by omega) (by omega) h5 h6 h3
  have hk := cr_ck A n c xs (be % 60) (me % 60) (ae % 60) HN.out h4 hc (by omega) (by omega) (by omega) (by omega) (by omega) (by omega) h5 h6 h3
  have HER : Hid (rnEr (crL A n c xs) (crP (be % 60) (me % 60) (ae % 60)) = 0) := Lib.hid (by unfold rnEr; rw [if_pos hk, if_pos hvs])
  have HRS : Hid (rnRes (crL A n c xs) (crP (be % 60) (me % 60) (ae % 60)) = rend (crL A n c xs) (placeL (crP (be % 60) (me % 60) (ae % 60)) 0 0)) := Lib.hid (by unfold rnRes; rw [if_pos hk, if_pos hvs])
  have HTS : Hid (TSm (crL A n c xs)) := Lib.hid (by
    intro t ht
    simp only [crL, List.mem_singleton] at ht
    subst ht
    exact ⟨by show n ≤ _; omega, by simp [ByteArray.size]⟩)
  have HC := Lib.hid hc
  clear hc hk hvs
  obtain ⟨Z, hZ⟩ : ∃ Z, rend (crL A n c xs) (placeL (crP (be % 60) (me % 60) (ae % 60)) 0 0) = Z := ⟨_, rfl⟩
  rw [hZ] at CR HRS
  have CR := Lib.hid CR
  have hZl := CR.out.len
  have hZn := CR.out.le
  clear hZ
  go_enter Try.func3, Try.ntmps3
  go_wp2_with fail
  refine CK.out.mono ?_
  rintro e w1 ⟨rfl, hb1⟩
  go_wp2_with fail
  obtain ⟨o1, ho1⟩ : ∃ o, Obj.cells #[.string ⟨#[120]⟩, .slice A n c] 27 = o := ⟨_, rfl⟩
  obtain ⟨o2, ho2⟩ : ∃ o, Obj.cells #[.int .i64 0, .int .i64 0, .int .i64 (be % 60 + me % 60), .int .i64 0, .int .i64 0, .int .i64 (me % 60), .int .i64 1000, .int .i64 0, .int .i64 (be % 60), .int .i64 (be % 60 + me % 60 + ae % 60), .int .i64 (-(me % 60)), .int .i64 (me % 60), .int .i64 0, .int .i64 1000] 30 = o := ⟨_, rfl⟩
  have t1 : Blk ((w1.alloc o1).alloc o2) w1.heap.size 27 #[.string ⟨#[120]⟩, .slice A n c] := by rw [← ho1]; exact (Blk.new _ _ _).alloc _
  have t2 : Blk ((w1.alloc o1).alloc o2) (w1.heap.size + 1) 30 #[.int .i64 0, .int .i64 0, .int .i64 (be % 60 + me % 60), .int .i64 0, .int .i64 0, .int .i64 (me % 60), .int .i64 1000, .int .i64 0, .int .i64 (be % 60), .int .i64 (be % 60 + me % 60 + ae % 60), .int .i64 (-(me % 60)), .int .i64 (me % 60), .int .i64 0, .int .i64 1000] := by
    rw [← ho2]; have := Blk.new (w1.alloc o1) 30 #[.int .i64 0, .int .i64 0, .int .i64 (be % 60 + me % 60), .int .i64 0, .int .i64 0, .int .i64 (me % 60), .int .i64 1000, .int .i64 0, .int .i64 (be % 60), .int .i64 (be % 60 + me % 60 + ae % 60), .int .i64 (-(me % 60)), .int .i64 (me % 60), .int .i64 0, .int .i64 1000]; rwa [World.size_alloc] at this
  have hbw : Below w.heap.size w ((w1.alloc o1).alloc o2) := (hb1.alloc hb1.size _).alloc (by have := hb1.size; simp; omega) _
  rw [ho1, ho2]
  obtain ⟨W2, hW2⟩ : ∃ W, (w1.alloc o1).alloc o2 = W := ⟨_, rfl⟩
  rw [hW2] at t1 t2 hbw ⊢
  clear hW2 ho1 ho2 hb1
  have HT : Hid (RT W2 W2.heap.size (some ⟨w1.heap.size, 0, none⟩) 1 (crL A n c xs)) := Lib.hid ⟨rfl, reads_blk t1 t1.lt rfl rfl, fun t ht => by
    simp only [crL, List.mem_singleton] at ht
    subst ht
    exact (H.out.below hbw (Nat.le_refl _)).more hbw.size⟩
  have HP : Hid (RP W2 W2.heap.size (some ⟨w1.heap.size + 1, 0, none⟩) 2 (crP (be % 60) (me % 60) (ae % 60))) := Lib.hid ⟨rfl, reads_blk t2 t2.lt rfl rfl⟩
  have HBW := Lib.hid hbw
  clear t1 t2 hbw
  refine (Render_any _ _ _ _ _ _ _ (crL A n c xs) (crP (be % 60) (me % 60) (ae % 60)) _ HT.out HP.out (Nat.le_refl _) (by omega) (by omega) HTS.out).mono ?_
  rintro e w3 ⟨v, rfl, hown, hb3⟩
  rw [HER.out]
  rw [HRS.out] at hown
  obtain ⟨Az, cz, rfl, hrd⟩ := own_reads hown
  have RZ := Lib.hid (show RS w3 w3.heap.size Az Z.length Z from ⟨rfl, hrd⟩)
  have HB := Lib.hid (HBW.out.trans (hb3.mono HBW.out.size))
  have RX := Lib.hid ((H.out.below HB.out (Nat.le_refl _)).more HB.out.size)
  clear hown hrd hb3 HT HP HBW
  have hz1 : ((Z.length : Int) == be % 60 + me % 60 + ae % 60) = true := by simp [hZl]
  have hz2 : ((Z.length : Int) != be % 60 + me % 60 + ae % 60) = false := by simp [hZl]
  have HZL := Lib.hid hZl
  clear hZl
  go_wp2_with fail
  clear hz1 hz2
  go_loopw [17] (fun i wr => ∃ k : Nat, i = .int .i64 k ∧ k ≤ Z.length ∧ Below w3.heap.size w3 wr) (fun i _ => Z.length - (intOf i).toNat)
  case atStart => exact ⟨0, rfl, Nat.zero_le _, Below.refl _ _⟩
  case round =>
    obtain ⟨k, rfl, hk, hb⟩ := hrel
    by_cases hlt : k < Z.length
    · have hkx : k < xs.length := by omega
      obtain ⟨az, haz, hbz, z0, z1⟩ := (RZ.out.below hb (Nat.le_refl _)).at_ hlt
      obtain ⟨ax, hax, hbx, x0, x1⟩ := (RX.out.below hb (Nat.le_refl _)).at_ hkx
      obtain rfl := haz
      obtain rfl := hax
      have hps := ckS_bd xs HC.out k hkx
      have hat := CR.out.at_ k hlt hkx
      obtain ⟨zl, hzl⟩ : ∃ v, Z[k].1 = v := ⟨_, rfl⟩
      obtain ⟨zr, hzr⟩ : ∃ v, Z[k].2 = v := ⟨_, rfl⟩
      obtain ⟨xl, hxl⟩ : ∃ v, xs[k].1 = v := ⟨_, rfl⟩
      obtain ⟨xr, hxr⟩ : ∃ v, xs[k].2 = v := ⟨_, rfl⟩
      have hsame : ¬ (be % 60 ≤ k ∧ (k : Int) < be % 60 + me % 60) → zl = xl ∧ zr = xr := fun h => by
        rw [← hzl, ← hzr, ← hxl, ← hxr, hat.1 h]; exact ⟨rfl, rfl⟩
      have hat := hat.2
      rw [hzl, hzr, hxl, hxr] at hat
      rw [hzl] at z0
      rw [hzr] at z1
      rw [hxl] at x0 hps
      rw [hxr] at x1 hps
      obtain ⟨p1, p2, p3, p4⟩ := hps
      obtain ⟨q1, q2, q3, q4⟩ := hat
      have HSM := Lib.hid hsame
      have HB5 := Lib.hid hb
      have hkN : (k : Int) < be % 60 + me % 60 + ae % 60 := by have := HZL.out; omega
      have zz := hb.size
      have k0 : (0 : Int) ≤ (k : Int) := by omega
      have kz : (k : Int) < (Z.length : Int) := by omega
      have kx : (k : Int) < (n : Int) := by have := HN.out; omega
      clear hzl hzr hxl hxr hsame hb
      have y1 : (az.add (k * 2)).block < wr.heap.size := by rw [block_of_add]; omega
      have y2 : (ax.add (k * 2)).block < wr.heap.size := by rw [block_of_add]; omega
      have y3 : (az.add (k * 2)).block < wr.heap.size + 1 := by omega
      have y4 : (ax.add (k * 2)).block < wr.heap.size + 1 := by omega
      have y5 : (az.add (k * 2)).block ≠ wr.heap.size := by omega
      have y6 : (ax.add (k * 2)).block ≠ wr.heap.size := by omega
      have y7 : (az.add (k * 2)).block ≠ wr.heap.size + 1 := by omega
      have y8 : (ax.add (k * 2)).block ≠ wr.heap.size + 1 := by omega
      go_upto_region 13 with fail
      go_cut [18, 19] from 90 to 149 (fun s18 s19 wx => ∃ p q : Nat, s18 = .pointer (some ⟨p, 0, none⟩) ∧ s19 = .pointer (some ⟨q, 0, none⟩) ∧ Hid (Blk wx p 35 #[.int .i64 zl, .int .i64 zr]) ∧ Hid (Blk wx q 35 #[.int .i64 xl, .int .i64 xr]) ∧ Hid (Below w3.heap.size w3 wx))
      case first =>
        go_region
        all_goals (go_wp2_with fail; go_meet)
        all_goals
          refine ⟨_, _, rfl, rfl, Lib.hid ?_, Lib.hid ?_, Lib.hid (((HB5.out.alloc zz _).alloc (by simp; omega) _).drew)⟩
          all_goals first
          | exact (Blk.new _ _ _).alloc _
          | (have := Blk.new (wr.alloc (.cells #[.int .i64 zl, .int .i64 zr] 35)) 35 #[.int .i64 xl, .int .i64 xr]; rwa [World.size_alloc] at this)
          | (have := Blk.new (wr.alloc (.cells #[.int .i64 xl, .int .i64 xr] 35)) 35 #[.int .i64 zl, .int .i64 zr]; rwa [World.size_alloc] at this)
      case rest =>
        obtain ⟨p, q, rfl, rfl, BP, BQ, HB6⟩ := hcut
        clear y1 y2 y3 y4 y5 y6 y7 y8 z0 z1 x0 x1
        by_cases hA : (k : Int) < be % 60 ∨ be % 60 + me % 60 ≤ (k : Int)
        · obtain ⟨rfl, rfl⟩ := HSM.out (by omega)
          obtain ⟨z0, z1, -, -, -⟩ := BP.out.two
          obtain ⟨x0, x1, -, -, -⟩ := BQ.out.two
          clear q1 q2 q3 q4
          rcases hA with hA | hA
          · have hA1 : decide ((k : Int) < be % 60) = true := decide_eq_true hA
            go_wp2
            go_roundw
            case rel => exact ⟨k + 1, by go_num, by omega, HB6.out⟩
            case measure => simp [intOf]; omega
          · have hA1 : decide ((k : Int) < be % 60) = false := decide_eq_false (by omega)
            have hA2 : decide (be % 60 + me % 60 ≤ (k : Int)) = true := decide_eq_true hA
            go_wp2
            go_roundw
            case rel => exact ⟨k + 1, by go_num, by omega, HB6.out⟩
            case measure => simp [intOf]; omega
        · have hA1 : decide ((k : Int) < be % 60) = false := decide_eq_false (by omega)
          have hA2 : decide (be % 60 + me % 60 ≤ (k : Int)) = false := decide_eq_false (by omega)
          have hA3 : be % 60 ≤ (k : Int) := by omega
          have hA4 : (k : Int) < be % 60 + me % 60 := by omega
          obtain ⟨z0, z1, -, -, -⟩ := BP.out.two
          obtain ⟨x0, x1, -, -, -⟩ := BQ.out.two
          have v1 : -32767 ≤ zl ∧ zl ≤ 32767 := by unfold am at q1; omega
          have v2 : -32767 ≤ zr ∧ zr ≤ 32767 := by unfold am at q2; omega
          obtain ⟨v1, v3⟩ := v1
          obtain ⟨v2, v4⟩ := v2
          have w1' : IntKind.i64.wrap (zl - xl) = zl - xl := IntWalk.i64_in _ (by omega)
          have w2' : IntKind.i64.wrap (zr - xr) = zr - xr := IntWalk.i64_in _ (by omega)
          have d1 : decide (am xl < am zl) = false := decide_eq_false (by omega)
          have d2 : decide (am xr < am zr) = false := decide_eq_false (by omega)
          have d3 : decide (1 < am (zl - xl)) = false := decide_eq_false (by omega)
          have d4 : decide (1 < am (zr - xr)) = false := decide_eq_false (by omega)
          have g1 := Lib.hid (fun W => lawAmount_any zl W (by omega) (by omega))
          have g2 := Lib.hid (fun W => lawAmount_any xl W (by omega) (by omega))
          have g3 := Lib.hid (fun W => lawAmount_any zr W (by omega) (by omega))
          have g4 := Lib.hid (fun W => lawAmount_any xr W (by omega) (by omega))
          have g5 := Lib.hid (fun W => lawAmount_any (zl - xl) W (by omega) (by omega))
          have g6 := Lib.hid (fun W => lawAmount_any (zr - xr) W (by omega) (by omega))
          clear hA q1 q2 q3 q4
          go_wp2
          go_quiet ((go_at_call 7; first | exact quiet_left_ (g1.out _) | exact quiet_left_ (g2.out _) | exact quiet_left_ (g3.out _) | exact quiet_left_ (g4.out _) | exact quiet_left_ (g5.out _) | exact quiet_left_ (g6.out _) | exact quiet_more (g1.out _) | exact quiet_more (g2.out _) | exact quiet_more (g3.out _) | exact quiet_more (g4.out _) | exact quiet_more (g5.out _) | exact quiet_more (g6.out _)))
          go_wp2
          go_roundw
          case rel => exact ⟨k + 1, by go_num, by omega, below_drewN_ HB6.out _⟩
          case measure => simp [intOf]; omega
    · have hkN : be % 60 + me % 60 + ae % 60 ≤ (k : Int) := by have := HZL.out; omega
      go_wp2_with fail
      refine (Works_any _).mono ?_
      rintro e w9 ⟨rfl, hb9⟩
      go_wp2
      go_ret
      exact ⟨rfl, (HB.out.trans (hb.mono HB.out.size)).trans (hb9.mono (by have := hb.size; have := HB.out.size; omega))⟩
end

theorem crossed_any (A : Option Addr) (n c : Nat) (xs : List Smp) (be me ae : Int) (w : World) (h0 : RS w w.heap.size A n xs) (hl : n ≤ 9223372036854775807) (hi : I64s xs) (b1 : 0 ≤ be) (b2 : be ≤ 255) (m1 : 0 ≤ me) (m2 : me ≤ 255) (a1 : 0 ≤ ae) (a2 : ae ≤ 255) :
    Calls Try.prog 3 #[.slice A n c, .int .u8 be, .int .u8 me, .int .u8 ae] w fun e w' => e = .returned (.bool true) ∧ Below w.heap.size w w' := by
  by_cases h1 : (n : Int) < be % 60 + me % 60 + ae % 60 ∨ 300 < n ∨ ckS xs ≠ 0 ∨ be % 60 + me % 60 < 1 ∨ me % 60 + ae % 60 < 1
  · exact crossed_long A n c xs be me ae w h0 hl hi b1 b2 m1 m2 a1 a2 h1
  · exact crossed_ok A n c xs be me ae w h0 hi b1 b2 m1 m2 a1 a2 (by omega) (by omega) (by omega) (by omega) (by omega)
end Go.Proofs.Ytoapdmkngfhapaa
