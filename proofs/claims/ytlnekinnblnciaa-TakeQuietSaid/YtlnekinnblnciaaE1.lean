/-
  The walk of TakeMeasures.
-/
import Derived.Test.YtlnekinnblnciaaC4
import Derived.Test.YtlnekinnblnciaaA6
import Derived.Test.YtlnekinnblnciaaA8
import Derived.Test.YtlnekinnblnciaaA10
import Derived.BigQuiet
namespace Go.Proofs.Ytlnekinnblnciaa
open Go.RowKit

theorem rowCells_length (R : List (Nat × Nat)) : (rowCells R).length = R.length * 2 := by
  induction R with
  | nil => rfl
  | cons x xs ih => simp [rowCells] at ih ⊢; omega
theorem rowCells_at (R : List (Nat × Nat)) : ∀ (k : Nat) (h : k < R.length), (rowCells R)[k * 2]? = some (.int .i64 (R[k].1 : Nat)) ∧ (rowCells R)[k * 2 + 1]? = some (.int .i64 (R[k].2 : Nat)) := by
  induction R with
  | nil => intro k h; simp at h
  | cons x xs ih =>
    intro k h
    cases k with
    | zero => exact ⟨rfl, rfl⟩
    | succ k =>
      have := ih k (by simpa using h)
      rw [show (k + 1) * 2 = k * 2 + 2 from by omega]
      simpa [rowCells, List.getElem?_cons] using this
/-- '.slice A n c' reads as the pairs R. -/
def RR (w : World) (B : Nat) (A : Option Addr) (n : Nat) (R : List (Nat × Nat)) : Prop := n = R.length ∧ Reads w B 2 A n (rowCells R)
theorem RR.below {w w' : World} {B B' : Nat} {A : Option Addr} {n : Nat} {R : List (Nat × Nat)} (h : RR w B A n R) (hb : Below B' w w') (hB : B ≤ B') : RR w' B A n R := ⟨h.1, h.2.below hb hB⟩
theorem RR.more {w : World} {B B' : Nat} {A : Option Addr} {n : Nat} {R : List (Nat × Nat)} (h : RR w B A n R) (hB : B ≤ B') : RR w B' A n R := ⟨h.1, h.2.more hB⟩
theorem RR.at_ {w : World} {B : Nat} {A : Option Addr} {n : Nat} {R : List (Nat × Nat)} (h : RR w B A n R) {k : Nat} (hk : k < R.length) :
    ∃ ad, A = some ad ∧ ad.block < B ∧ w.cell? (ad.add (k * 2)) = some (.int .i64 (R[k].1 : Nat)) ∧ w.cell? ⟨(ad.add (k * 2)).block, (ad.add (k * 2)).off + 1, none⟩ = some (.int .i64 (R[k].2 : Nat)) := by
  obtain ⟨rfl, hr⟩ := h
  obtain ⟨ad, e, hb, hc⟩ := hr.2 (by omega)
  obtain ⟨h1, h2⟩ := rowCells_at R k hk
  exact ⟨ad, e, hb, hc _ _ h1, by have := hc _ _ h2; rw [← add_of_add] at this; exact this⟩

theorem own_le {w : World} {base : Nat} {e : TypeId} {size n : Nat} {v : Value} {xs : List Value} (h : w.ownsRow base e size v n xs) : n ≤ 9223372036854775807 := by
  rcases h.2 with ⟨rfl, rfl⟩ | ⟨g, cap, cur, rfl, _, _, h1, h2, _⟩
  · omega
  · unfold maxLen at h2; omega

theorem eq_pair (a b : Int) (w : World) : Sem.run Try.prog (Op.equalIn 10000 59 (.agg #[.int .i64 a, .int .i64 b]) (.agg #[.int .i64 a, .int .i64 b])) w = .ok true w := by
  have h1 : ∀ (x : Int) (W : World) (d : Nat), (Op.equalIn (d + 1) 3 (.int .i64 x) (.int .i64 x)).run Try.prog W = .ok true W := fun x W d => by
    rw [run_equalIn_int W d 3 .i64 .i64 x x Try.underlying3]; simp
  have hs : (Try.prog.info? 3).isSome = true := by kernel_rfl
  obtain ⟨i, hi⟩ := Option.isSome_iff_exists.1 hs
  rw [run_equalIn_array w 9999 #[.int .i64 a, .int .i64 b] #[.int .i64 a, .int .i64 b] Try.underlying59 hi]
  have hc : Try.prog.cellsOf 3 = 1 := by kernel_rfl
  have hp : ∀ (x : Int) (W : World) (off : Nat) (ys : Array Value), ys[off]? = some (.int .i64 x) → (part 3 ys off).run Try.prog W = .ok (.int .i64 x) W := fun x W off ys h => by
    simp [part, go_sem, h]
  rw [hc, show List.range 2 = [0, 1] from rfl]
  simp [Op.eqItems, h1, hp]

set_option maxRecDepth 100000 in
set_option maxHeartbeats 8000000 in
theorem measures_walk (B : Nat) (A : Option Addr) (n c : Nat) (xs : List Smp) (limit least : Int) (w : World) (h0 : RS w B A n xs) (hB : B ≤ w.heap.size) (hl : n ≤ 9223372036854775807) (hi : I64s xs) (h1 : n ≤ 300 ∨ (4096 < n ∧ n ≤ 4100)) :
    Calls Try.prog 6 #[.slice A n c, .int .i64 limit, .int .i64 least] w fun e w' => e = .returned (.bool true) ∧ Below w.heap.size w w' := by
  have H := Lib.hid (h0.more hB)
  have HI := Lib.hid hi
  clear hB hi h0
  obtain ⟨ck, hck⟩ : ∃ ck, ckS xs = ck := ⟨_, rfl⟩
  obtain ⟨p1, hp1⟩ : ∃ p, (if ckS xs = 0 then pk (·.1) xs else 0) = p := ⟨_, rfl⟩
  obtain ⟨p2, hp2⟩ : ∃ p, (if ckS xs = 0 then pk (·.2) xs else 0) = p := ⟨_, rfl⟩
  obtain ⟨e1, he1⟩ : ∃ p, (if ckS xs = 0 then en (·.1) xs else 0) = p := ⟨_, rfl⟩
  obtain ⟨e2, he2⟩ : ∃ p, (if ckS xs = 0 then en (·.2) xs else 0) = p := ⟨_, rfl⟩
  obtain ⟨se, hse⟩ : ∃ p, slEr limit least xs = p := ⟨_, rfl⟩
  obtain ⟨R, hR⟩ : ∃ p, slRes limit least xs = p := ⟨_, rfl⟩
  have HPK := Lib.hid (fun W (h : RS W W.heap.size A n xs) => Peak_any _ A n c xs W h (Nat.le_refl _) hl)
  have HRP := Lib.hid (fun W (h : RS W W.heap.size A n xs) => refPeak_any _ A n c xs W h (Nat.le_refl _) hl HI.out)
  have HEN := Lib.hid (fun W (h : RS W W.heap.size A n xs) => Energy_any _ A n c xs W h (Nat.le_refl _) hl)
  have HRE := Lib.hid (fun W (h : RS W W.heap.size A n xs) => refEnergy_any _ A n c xs W h (Nat.le_refl _) hl HI.out)
  have HSI := Lib.hid (fun W (h : RS W W.heap.size A n xs) => Silences_any _ A n c xs limit least W h (Nat.le_refl _) hl)
  have HRSI := Lib.hid (fun W (h : RS W W.heap.size A n xs) => refSilences_any _ A n c xs limit least W h (Nat.le_refl _) hl HI.out)
  have HCK := Lib.hid (fun W (h : RS W W.heap.size A n xs) => CheckSamples_any _ A n c xs W h (Nat.le_refl _) hl)
  have HRCK := Lib.hid (fun W (h : RS W W.heap.size A n xs) => refCheckSamples_any _ A n c xs W h (Nat.le_refl _) hl HI.out)
  rw [hp1, hp2, hck] at HPK HRP
  rw [he1, he2, hck] at HEN HRE
  rw [hse, hR] at HSI HRSI
  rw [hck] at HCK HRCK
  clear hck hp1 hp2 he1 he2 hse hR HI
  rcases h1 with h1 | h1
  all_goals
    go_enter Try.func6, Try.ntmps6
    go_wp2_with fail
    refine (HPK.out _ H.out).mono ?_
    rintro e w1 ⟨rfl, hb1⟩
    have GA := Lib.hid (Blk.new w1 39 #[.int .i64 p1, .int .i64 p2])
    have BW := Lib.hid (hb1.alloc hb1.size (.cells #[.int .i64 p1, .int .i64 p2] 39))
    clear hb1
    go_wp2_with fail
    refine (HRP.out _ ((H.out.below BW.out (Nat.le_refl _)).more BW.out.size)).mono ?_
    rintro e w2 ⟨rfl, hb2⟩
    have GA := Lib.hid ((GA.out.below hb2 (by simp)).alloc (.cells #[.int .i64 p1, .int .i64 p2] 39))
    have GB := Lib.hid (Blk.new w2 39 #[.int .i64 p1, .int .i64 p2])
    have BW := Lib.hid ((BW.out.trans (hb2.mono BW.out.size)).alloc (Nat.le_trans BW.out.size hb2.size) (.cells #[.int .i64 p1, .int .i64 p2] 39))
    have L1 : w1.heap.size < w2.heap.size := by have := hb2.size; simp at this; omega
    clear hb2
    go_wp2_with fail
    refine (HEN.out _ ((H.out.below BW.out (Nat.le_refl _)).more BW.out.size)).mono ?_
    rintro e w3 ⟨rfl, hb3⟩
    have L2 : w2.heap.size < w3.heap.size := by have := hb3.size; simp at this; omega
    have GA := Lib.hid (GA.out.below hb3 (by simp; omega))
    have GB := Lib.hid (GB.out.below hb3 (by simp))
    have BW := Lib.hid (BW.out.trans (hb3.mono BW.out.size))
    clear hb3
    go_wp2_with fail
    refine (HRE.out _ ((H.out.below BW.out (Nat.le_refl _)).more BW.out.size)).mono ?_
    rintro e w4 ⟨rfl, hb4⟩
    have L3 := hb4.size
    have GA := Lib.hid (GA.out.below hb4 (by omega))
    have GB := Lib.hid (GB.out.below hb4 (by omega))
    have BW := Lib.hid (BW.out.trans (hb4.mono BW.out.size))
    clear hb4
    go_wp2_with fail
    refine (HSI.out _ ((H.out.below BW.out (Nat.le_refl _)).more BW.out.size)).mono ?_
    rintro e w5 ⟨v, rfl, hown, hb5⟩
    obtain ⟨Ax, cx, rfl, hrd⟩ := own_reads hown
    have hRl := own_le hown
    have RX := Lib.hid (show RR w5 w5.heap.size Ax R.length R from ⟨rfl, hrd⟩)
    have L4 := hb5.size
    have GA := Lib.hid (GA.out.below hb5 (by omega))
    have GB := Lib.hid (GB.out.below hb5 (by omega))
    have BW := Lib.hid (BW.out.trans (hb5.mono BW.out.size))
    clear hb5 hown hrd
    go_wp2_with fail
    refine (HRSI.out _ ((H.out.below BW.out (Nat.le_refl _)).more BW.out.size)).mono ?_
    rintro e w6 ⟨v, rfl, hown, hb6⟩
    obtain ⟨Ay, cy, rfl, hrd⟩ := own_reads hown
    have RY := Lib.hid (show RR w6 w6.heap.size Ay R.length R from ⟨rfl, hrd⟩)
    have RX := Lib.hid ((RX.out.below hb6 (Nat.le_refl _)).more hb6.size)
    have L5 := hb6.size
    have GA := Lib.hid (GA.out.below hb6 (by omega))
    have GB := Lib.hid (GB.out.below hb6 (by omega))
    have BW := Lib.hid (BW.out.trans (hb6.mono BW.out.size))
    clear hb6 hown hrd
    go_wp2_with fail
    refine (HCK.out _ ((H.out.below BW.out (Nat.le_refl _)).more BW.out.size)).mono ?_
    rintro e w7 ⟨rfl, hb7⟩
    have RX := Lib.hid ((RX.out.below hb7 (Nat.le_refl _)).more hb7.size)
    have RY := Lib.hid ((RY.out.below hb7 (Nat.le_refl _)).more hb7.size)
    have L6 := hb7.size
    have GA := Lib.hid (GA.out.below hb7 (by omega))
    have GB := Lib.hid (GB.out.below hb7 (by omega))
    have BW := Lib.hid (BW.out.trans (hb7.mono BW.out.size))
    clear hb7
    go_wp2_with fail
    refine (HRCK.out _ ((H.out.below BW.out (Nat.le_refl _)).more BW.out.size)).mono ?_
    rintro e w8 ⟨rfl, hb8⟩
    have RX := Lib.hid ((RX.out.below hb8 (Nat.le_refl _)).more hb8.size)
    have RY := Lib.hid ((RY.out.below hb8 (Nat.le_refl _)).more hb8.size)
    have GA := Lib.hid (GA.out.below hb8 (by omega))
    have GB := Lib.hid (GB.out.below hb8 (by omega))
    have BW := Lib.hid (BW.out.trans (hb8.mono BW.out.size))
    clear hb8
    obtain ⟨a0, a1, -, -, -⟩ := GA.out.two
    obtain ⟨b0, b1, -, -, -⟩ := GB.out.two
    go_wp2_with fail
    clear a0 a1 b0 b1
    go_loopw [21] (fun i wr => ∃ k : Nat, k ≤ R.length ∧ i = .int .i64 k ∧ Below w8.heap.size w8 wr) (fun i _ => R.length - (intOf i).toNat)
    case atStart => exact ⟨0, Nat.zero_le _, rfl, Below.refl _ _⟩
    case round =>
      obtain ⟨k, hk, rfl, hb⟩ := hrel
      by_cases hlt : k < R.length
      · obtain ⟨ax, hax, hbx, x0, x1⟩ := (RX.out.below hb (Nat.le_refl _)).at_ hlt
        obtain ⟨ay, hay, hby, y0, y1⟩ := (RY.out.below hb (Nat.le_refl _)).at_ hlt
        obtain rfl := hax
        obtain rfl := hay
        obtain ⟨q1, hq1⟩ : ∃ q : Nat, R[k].1 = q := ⟨_, rfl⟩
        obtain ⟨q2, hq2⟩ : ∃ q : Nat, R[k].2 = q := ⟨_, rfl⟩
        rw [hq1] at x0 y0
        rw [hq2] at x1 y1
        have hq := eq_pair q1 q2
        have HBB := Lib.hid hb
        have k0 : (0 : Int) ≤ (k : Int) := by omega
        have k1 : (k : Int) < (R.length : Int) := by omega
        clear hq1 hq2 hb
        go_wp2
        go_quiet (fail)
        go_wp2
        go_roundw
        case rel => exact ⟨k + 1, by omega, by go_num, below_drewN_ HBB.out _⟩
        case measure => simp [intOf]; omega
      · go_wp2_with fail
        refine (Works_any _).mono ?_
        rintro e w9 ⟨rfl, hb9⟩
        go_wp2
        go_ret
        exact ⟨rfl, (BW.out.trans (hb.mono BW.out.size)).trans (hb9.mono (by have := hb.size; have := BW.out.size; omega))⟩

set_option maxRecDepth 100000 in
set_option maxHeartbeats 4000000 in
theorem measures_long (A : Option Addr) (n c : Nat) (limit least : Int) (w : World) (hl : n ≤ 9223372036854775807) (h1 : (300 < n ∧ n ≤ 4096) ∨ 4100 < n) :
    Calls Try.prog 6 #[.slice A n c, .int .i64 limit, .int .i64 least] w fun e w' => e = .returned (.bool true) ∧ Below w.heap.size w w' := by
  rcases h1 with ⟨h1, h2⟩ | h1
  all_goals
    go_enter Try.func6, Try.ntmps6
    go_wp2_with fail
    refine (Works_any _).mono ?_
    rintro e w1 ⟨rfl, hb1⟩
    go_wp2
    go_ret
    exact ⟨rfl, hb1⟩

theorem measures_any (A : Option Addr) (n c : Nat) (xs : List Smp) (limit least : Int) (w : World) (h0 : RS w w.heap.size A n xs) (hl : n ≤ 9223372036854775807) (hi : I64s xs) :
    Calls Try.prog 6 #[.slice A n c, .int .i64 limit, .int .i64 least] w fun e w' => e = .returned (.bool true) ∧ Below w.heap.size w w' := by
  by_cases h1 : (300 < n ∧ n ≤ 4096) ∨ 4100 < n
  · exact measures_long A n c limit least w hl h1
  · exact measures_walk _ A n c xs limit least w h0 (Nat.le_refl _) hl hi (by omega)
end Go.Proofs.Ytlnekinnblnciaa
