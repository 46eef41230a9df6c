/-
  Numbers of 128 bits: Mul64, Add64, sums of squares, and which is less.
-/
import Derived.Test.YtomncopeekegoaaI2
import Derived.Test.YtomncopeekegoaaLi
import Derived.LoopN
import Derived.Shelf.Bits.Mul64
import Derived.Laws.Externs
namespace Go.Proofs.Ytomncopeekegoaa
open Go.RowKit

set_option maxRecDepth 100000 in
set_option maxHeartbeats 4000000 in
theorem Mul64_any (x y : Nat) (w : World) (hx : x < 18446744073709551616) (hy : y < 18446744073709551616) :
    Calls Try.prog 86 #[.int .u64 x, .int .u64 y] w fun e w' => e = .returned (.tuple #[.int .u64 ((x * y / 18446744073709551616 : Nat) : Int), .int .u64 ((x * y % 18446744073709551616 : Nat) : Int)]) ∧ w = w' := by
  obtain ⟨bd, bt, bw, hhi⟩ := Lib.mul64_hi x y hx hy
  have ba := Lib.half_mul_le (a := x / 4294967296) (b := y / 4294967296) (by omega) (by omega)
  have bb := Lib.half_mul_le (a := x / 4294967296) (b := y % 4294967296) (by omega) (by omega)
  have bc := Lib.half_mul_le (a := x % 4294967296) (b := y / 4294967296) (by omega) (by omega)
  have ba' : x / 4294967296 * (y / 4294967296) < 18446744073709551616 := by omega
  have bb' : x / 4294967296 * (y % 4294967296) < 18446744073709551616 := by omega
  have bc' : x % 4294967296 * (y / 4294967296) < 18446744073709551616 := by omega
  have bh1 : x / 4294967296 * (y / 4294967296) + (x / 4294967296 * (y % 4294967296) + x % 4294967296 * (y % 4294967296) / 4294967296) / 4294967296 < 18446744073709551616 := by omega
  have bh : x / 4294967296 * (y / 4294967296) + (x / 4294967296 * (y % 4294967296) + x % 4294967296 * (y % 4294967296) / 4294967296) / 4294967296 + ((x / 4294967296 * (y % 4294967296) + x % 4294967296 * (y % 4294967296) / 4294967296) % 4294967296 + x % 4294967296 * (y / 4294967296)) / 4294967296 < 18446744073709551616 := by omega
  go_enter Try.func86, Try.ntmps86
  go_wp2
  simp only [Mul64.maskN x hx, Mul64.maskN y hy, Mul64.divN, Mul64.mulN, Mul64.addN, Mul64.wrapN _ bd, Mul64.wrapN _ bb', Mul64.wrapN _ bt, Mul64.maskN _ bt, Mul64.wrapN _ bc', Mul64.wrapN _ bw, Mul64.wrapN _ ba', Mul64.wrapN _ bh1, Mul64.wrapN _ bh, Mul64.wrapM (x * y)]
  rw [hhi]
  go_ret2
  exact ⟨rfl, rfl⟩
/-- A call of Add64, with carry 0. -/
theorem run_Add64 (x y : Nat) (w : World) : (callFunc 87 #[.int .u64 x, .int .u64 y, .int .u64 0]).run Try.prog w =
    .ok (.value (.tuple #[.int .u64 (((x + y) % 18446744073709551616 : Nat) : Int), .int .u64 (((x + y) / 18446744073709551616 : Nat) : Int)])) w := by
  rw [run_callFunc_extern Try.func87 (by kernel_rfl) (by kernel_rfl) (by kernel_rfl) (e := add64Entry) (by kernel_rfl), run_add64 x y 0 (by omega) (by omega) (by omega) (by omega)]
  simp only [Result.andThen]
  congr 5 <;> omega

/-- The sum of the squares of a list. -/
def sqN : List Int → Nat
  | [] => 0
  | x :: l => x.natAbs * x.natAbs + sqN l
theorem sqN_snoc (l : List Int) (x : Int) : sqN (l ++ [x]) = sqN l + x.natAbs * x.natAbs := by
  induction l with
  | nil => simp [sqN]
  | cons y l ih => simp only [List.cons_append, sqN, ih]; omega
theorem sqN_take {l : List Int} {k : Nat} (h : k < l.length) : sqN (l.take (k + 1)) = sqN (l.take k) + l[k].natAbs * l[k].natAbs := by
  rw [List.take_succ_eq_append_getElem h, sqN_snoc]
theorem sqN_bd {l : List Int} (h : ∀ x ∈ l, x.natAbs < 4611686018427387904) : sqN l ≤ l.length * 21267647932558653966460912964485513216 := by
  induction l with
  | nil => simp [sqN]
  | cons x l ih =>
    have h1 := h x (by simp)
    have h2 := ih (fun y hy => h y (by simp [hy]))
    have h3 : x.natAbs * x.natAbs ≤ 4611686018427387904 * 4611686018427387904 := Nat.mul_le_mul (by omega) (by omega)
    simp only [sqN, List.length_cons, Nat.add_mul]
    omega

set_option maxRecDepth 100000 in
set_option maxHeartbeats 8000000 in
theorem squares_any (B : Nat) (A : Option Addr) (n c : Nat) (l : List Int) (w : World) (h0 : LI w B A n l) (hB : B ≤ w.heap.size) (hn : n ≤ 2) (hl : ∀ x ∈ l, x.natAbs < 4611686018427387904) :
    Calls Try.prog 70 #[.slice A n c] w fun e w' => e = .returned (.agg #[.int .u64 ((sqN l / 18446744073709551616 : Nat) : Int), .int .u64 ((sqN l % 18446744073709551616 : Nat) : Int)]) ∧ Below w.heap.size w w' := by
  have H := Lib.hid (h0.more hB)
  have HN := Lib.hid h0.1
  have HL := Lib.hid hl
  clear h0 hB hl
  go_enter Try.func70, Try.ntmps70
  go_wp2
  obtain ⟨W, hW⟩ : ∃ W, (w.alloc (.cells #[.int .u64 0, .int .u64 0] 124)).alloc (.cells #[.int .u64 0, .int .u64 0] 124) = W := ⟨_, rfl⟩
  have hb0 : Below w.heap.size w W := by rw [← hW]; exact (below_a _ _).alloc (by simp) _
  have k0 : Blk W w.heap.size 124 #[.int .u64 0, .int .u64 0] := by rw [← hW]; exact (Blk.new _ _ _).alloc _
  have k1 : Blk W (w.heap.size + 1) 124 #[.int .u64 0, .int .u64 0] := by rw [← hW]; exact blk_al (by simp)
  rw [hW]
  have K0 := Lib.hid k0
  have K1 := Lib.hid k1
  have HB := Lib.hid hb0
  clear hW k0 k1 hb0
  go_loopw [12] (fun z wr => ∃ k : Nat, k ≤ n ∧ z = .int .i64 k ∧ Hid (Below w.heap.size w wr) ∧ Hid (Blk wr w.heap.size 124 #[.int .u64 0, .int .u64 0]) ∧
      Hid (Blk wr (w.heap.size + 1) 124 #[.int .u64 ((sqN (l.take k) / 18446744073709551616 : Nat) : Int), .int .u64 ((sqN (l.take k) % 18446744073709551616 : Nat) : Int)])) (fun z _ => n - (intOf z).toNat)
  case atStart => exact ⟨0, Nat.zero_le _, rfl, HB, K0, Lib.hid (K1.out.cast (by simp [sqN]))⟩
  case round =>
    clear HB K0 K1
    obtain ⟨k, hk, rfl, HB, K0, K1⟩ := hrel
    by_cases hlt : k < n
    · have hkl : k < l.length := by have := HN.out; omega
      obtain ⟨ad, hA, hbl, c1⟩ := (H.out.below HB.out (Nat.le_refl _)).at_ hkl
      have hx := HL.out _ (List.getElem_mem hkl)
      have hst := sqN_take hkl
      have hbd := sqN_bd (l := l.take (k + 1)) (fun x hx => HL.out x (List.mem_of_mem_take hx))
      have hlen : (l.take (k + 1)).length ≤ 2 := by rw [List.length_take]; omega
      have hbd2 : sqN (l.take (k + 1)) ≤ 2 * 21267647932558653966460912964485513216 := Nat.le_trans hbd (Nat.mul_le_mul_right _ hlen)
      obtain ⟨x, hxx⟩ : ∃ x, l[k] = x := ⟨_, rfl⟩
      rw [hxx] at c1 hx hst
      obtain ⟨a, ha⟩ : ∃ a, x.natAbs = a := ⟨_, rfl⟩
      rw [ha] at hx hst
      obtain ⟨S, hS⟩ : ∃ S, sqN (l.take k) = S := ⟨_, rfl⟩
      obtain ⟨S', hS'⟩ : ∃ S, sqN (l.take (k + 1)) = S := ⟨_, rfl⟩
      rw [hS, hS'] at hst
      rw [hS'] at hbd2
      have HS' := Lib.hid hS'
      replace K1 : Hid (Blk wr (w.heap.size + 1) 124 #[.int .u64 ((S / 18446744073709551616 : Nat) : Int), .int .u64 ((S % 18446744073709551616 : Nat) : Int)]) := Lib.hid (by rw [← hS]; exact K1.out)
      have e1 : (if x < -x then -x else x) = (a : Int) := by split <;> omega
      have e1' : (if -x < x then x else -x) = (a : Int) := by split <;> omega
      have e2 : IntKind.i64.wrap (-x) = -x := IntWalk.i64_in _ (by omega)
      have e3 : IntKind.u64.wrap (a : Int) = (a : Int) := IntWalk.u64_in _ (by omega)
      have e4 : IntKind.i64.wrap ((k : Int) + 1) = (k : Int) + 1 := IntWalk.i64_in _ (by omega)
      obtain ⟨P, hP⟩ : ∃ P, a * a = P := ⟨_, rfl⟩
      rw [hP] at hst
      have HM : Hid (Calls Try.prog 86 #[.int .u64 a, .int .u64 a] wr fun e w' => e = .returned (.tuple #[.int .u64 ((P / 18446744073709551616 : Nat) : Int), .int .u64 ((P % 18446744073709551616 : Nat) : Int)]) ∧ wr = w') := Lib.hid (by rw [← hP]; exact Mul64_any a a wr (by omega) (by omega))
      obtain ⟨Sh, hSh⟩ : ∃ v, S / 18446744073709551616 = v := ⟨_, rfl⟩
      obtain ⟨Sl, hSl⟩ : ∃ v, S % 18446744073709551616 = v := ⟨_, rfl⟩
      obtain ⟨Ph, hPh⟩ : ∃ v, P / 18446744073709551616 = v := ⟨_, rfl⟩
      obtain ⟨Pl, hPl⟩ : ∃ v, P % 18446744073709551616 = v := ⟨_, rfl⟩
      rw [hSh, hSl] at K1
      rw [hPh, hPl] at HM
      have hadd := run_Add64 Sl Pl
      obtain ⟨Cl, hCl⟩ : ∃ v, (Sl + Pl) % 18446744073709551616 = v := ⟨_, rfl⟩
      obtain ⟨Cc, hCc⟩ : ∃ v, (Sl + Pl) / 18446744073709551616 = v := ⟨_, rfl⟩
      simp only [hCl, hCc] at hadd
      have r1 : S' / 18446744073709551616 = Sh + (Ph + Cc) := by omega
      have r2 : S' % 18446744073709551616 = Cl := by omega
      have bS : Sh + (Ph + Cc) < 18446744073709551616 := by omega
      have e5 : IntKind.u64.wrap ((Ph : Int) + Cc) = ((Ph + Cc : Nat) : Int) := by rw [show (Ph : Int) + Cc = ((Ph + Cc : Nat) : Int) by omega]; exact IntWalk.u64_in _ (by omega)
      have e6 : IntKind.u64.wrap ((Sh : Int) + ((Ph + Cc : Nat) : Int)) = ((Sh + (Ph + Cc) : Nat) : Int) := by rw [show (Sh : Int) + ((Ph + Cc : Nat) : Int) = ((Sh + (Ph + Cc) : Nat) : Int) by omega]; exact IntWalk.u64_in _ (by omega)
      have HRR := Lib.hid (And.intro r1 r2)
      have d0 := (K1.out.cell 0).trans rfl
      have d1 := (K1.out.cell 1).trans rfl
      have f0 := K1.out.frozen 0
      have f1 := K1.out.frozen 1
      obtain rfl := hA
      have g1 : (k : Int) < (n : Int) := by omega
      clear hxx ha hS hS' hst hbd hbd2 hP hSh hSl hPh hPl hCl hCc r1 r2 hx hbl hlen
      go_wp2_with fail
      refine HM.out.mono ?_
      rintro e w_ ⟨rfl, rfl⟩
      clear HM
      go_wp2_with fail
      have hm0 : (⟨w.heap.size, 0, none⟩ : Addr).block = w.heap.size := rfl
      have hc : (Sh : Int) + ((Ph : Int) + (Cc : Int)) = ((Sh + (Ph + Cc) : Nat) : Int) := by omega
      rw [hc]
      refine ⟨⟨k + 1, by omega, by simp, Lib.hid ((HB.out.setCell (by simp) _).setCell (by simp) _), Lib.hid ((K0.out.far (by exact Nat.ne_of_lt (Nat.lt_succ_self _)) _).far (by exact Nat.ne_of_lt (Nat.lt_succ_self _)) _), Lib.hid ?_⟩, by show n - ((k : Int) + 1).toNat < n - ((k : Int)).toNat; omega⟩
      have hh := (K1.out.set_ 1 (.int .u64 Cl)).set_ 0 (.int .u64 ((Sh + (Ph + Cc) : Nat) : Int))
      refine hh.cast ?_
      rw [HS'.out, HRR.out.1, HRR.out.2]
      rfl
    · have g1 : (k : Int) < (n : Int) ↔ False := by simp; omega
      obtain rfl : k = n := by omega
      have e1 : sqN (l.take k) = sqN l := by rw [HN.out, List.take_length]
      rw [e1] at K1
      obtain ⟨Sh, hSh⟩ : ∃ v, sqN l / 18446744073709551616 = v := ⟨_, rfl⟩
      obtain ⟨Sl, hSl⟩ : ∃ v, sqN l % 18446744073709551616 = v := ⟨_, rfl⟩
      rw [hSh, hSl] at K1
      have HS := Lib.hid (And.intro hSh hSl)
      have d0 := (K1.out.cell 0).trans rfl
      have d1 := (K1.out.cell 1).trans rfl
      have z0 := (K0.out.cell 0).trans rfl
      have z1 := (K0.out.cell 1).trans rfl
      have f0 := K0.out.frozen 0
      have f1 := K0.out.frozen 1
      clear e1 hSh hSl
      go_wp2_with fail
      rw [HS.out.1, HS.out.2]
      have hm : (0 : Nat) ≤ 1 := Nat.zero_le _
      obtain ⟨V, hV⟩ : ∃ V, (wr.setCell ⟨w.heap.size, 0, none⟩ (.int .u64 (Sh : Int))).setCell ⟨w.heap.size, 1, none⟩ (.int .u64 (Sl : Int)) = V := ⟨_, rfl⟩
      have KV : Blk V w.heap.size 124 #[.int .u64 Sh, .int .u64 Sl] := by rw [← hV]; exact ((K0.out.set_ 0 (.int .u64 (Sh : Int))).set_ 1 (.int .u64 (Sl : Int)))
      have HBV : Below w.heap.size w V := by rw [← hV]; exact (HB.out.setCell (p := ⟨w.heap.size, 0, none⟩) (Nat.le_refl _) _).setCell (p := ⟨w.heap.size, 1, none⟩) (Nat.le_refl _) _
      rw [hV]
      have c0 := (KV.cell 0).trans rfl
      have c1 := (KV.cell 1).trans rfl
      refine bodyPost_ret (v := .agg #[.int .u64 (Sh : Int), .int .u64 (Sl : Int)]) ?_ rfl ⟨rfl, HBV⟩
      simp [results, Try.results70, go_sem, c0, c1]
/-- Which of two such numbers is less. -/
theorem less_any (a b c d : Nat) (w : World) : Calls Try.prog 71 #[.agg #[.int .u64 a, .int .u64 b], .agg #[.int .u64 c, .int .u64 d]] w fun e w' => e = .returned (.bool (decide (a < c ∨ (a = c ∧ b < d)))) ∧ Below w.heap.size w w' := by
  go_enter Try.func71, Try.ntmps71
  obtain ⟨r, hr⟩ : ∃ r, decide (a < c ∨ (a = c ∧ b < d)) = r := ⟨_, rfl⟩
  rw [hr]
  by_cases h1 : a < c
  · have g1 : (a : Int) < (c : Int) := by omega
    have g2 : r = true := by rw [← hr]; simp; omega
    clear hr
    go_wp2
    refine bodyPost_ret (results_tmp rfl _ _ _) rfl ⟨by first | rfl | (rw [g2]; rfl), ((below_a _ _).alloc (by simp) _)⟩
  · have g1 : ¬ (a : Int) < (c : Int) := by omega
    by_cases h2 : a = c
    · have g3 : (a : Int) = (c : Int) := by omega
      by_cases h3 : b < d
      · have g4 : (b : Int) < (d : Int) := by omega
        have g2 : r = true := by rw [← hr]; simp; omega
        clear hr
        go_wp2
        refine bodyPost_ret (results_tmp rfl _ _ _) rfl ⟨by first | rfl | (rw [g2]; rfl), ((below_a _ _).alloc (by simp) _)⟩
      · have g4 : ¬ (b : Int) < (d : Int) := by omega
        have g2 : r = false := by rw [← hr]; simp; omega
        clear hr
        go_wp2
        refine bodyPost_ret (results_tmp rfl _ _ _) rfl ⟨by first | rfl | (rw [g2]; rfl), ((below_a _ _).alloc (by simp) _)⟩
    · have g3 : ¬ (a : Int) = (c : Int) := by omega
      have g2 : r = false := by rw [← hr]; simp; omega
      clear hr
      go_wp2
      refine bodyPost_ret (results_tmp rfl _ _ _) rfl ⟨by first | rfl | (rw [g2]; rfl), ((below_a _ _).alloc (by simp) _)⟩
end Go.Proofs.Ytomncopeekegoaa
