/-
  Contract of the law's parts, at equal programmes.
-/
import Derived.Test.YtbcahkklhdnboaaG3
namespace Go.Proofs.Ytbcahkklhdnboaa
open Go.RowKit

theorem eq_prt (p : Prt) (w : World) : Sem.run Try.prog (Op.equalIn 10000 53 (.agg #[.int .i64 p.tk, .int .i64 p.fr, .int .i64 p.to, .int .i64 p.gp, .int .i64 p.fi, .int .i64 p.fo, .int .i64 p.lv]) (.agg #[.int .i64 p.tk, .int .i64 p.fr, .int .i64 p.to, .int .i64 p.gp, .int .i64 p.fi, .int .i64 p.fo, .int .i64 p.lv])) w = .ok true w := by
  simp [go_sem]

set_option maxRecDepth 100000 in
set_option maxHeartbeats 4000000 in
theorem parts_same (B : Nat) (A A' : Option Addr) (n n' c c' : Nat) (F : List Prt) (w : World) (h0 : RP w B A n F) (g0 : RP w B A' n' F) (hB : B ≤ w.heap.size) (hl : n ≤ 9223372036854775807) :
    Calls Try.prog 31 #[.slice A n c, .slice A' n' c'] w fun e w' => e = .returned (.bool true) ∧ Below w.heap.size w w' := by
  have H := Lib.hid (h0.more hB)
  have G := Lib.hid (g0.more hB)
  have HN : Hid (n = F.length) := Lib.hid h0.1
  obtain rfl : n' = n := by rw [g0.1, h0.1]
  clear h0 g0 hB
  go_enter Try.func31, Try.ntmps31
  go_wp2
  go_loopw [5] (fun i wr => ∃ k : Nat, k ≤ n' ∧ i = .int .i64 k ∧ Below w.heap.size w wr) (fun i wr => n' - (intOf i).toNat)
  case atStart => exact ⟨0, Nat.zero_le _, rfl, Below.refl _ _⟩
  case round =>
    obtain ⟨k, hk, rfl, hb⟩ := hrel
    by_cases hlt : k < n'
    · have hkp : k < F.length := by have := HN.out; omega
      obtain ⟨ad, hA, _⟩ := (H.out.2.2 (by omega))
      obtain ⟨ao, hAo, _⟩ := (G.out.2.2 (by omega))
      obtain rfl := hA
      obtain rfl := hAo
      obtain ⟨p, hpp⟩ : ∃ p, p = F[k]'hkp := ⟨_, rfl⟩
      obtain ⟨p0, p1, p2, p3, p4, p5, p6⟩ := (H.out.below hb (Nat.le_refl _)).cells hkp hpp
      obtain ⟨r0, r1, r2, r3, r4, r5, r6⟩ := (G.out.below hb (Nat.le_refl _)).cells hkp hpp
      have HE := eq_prt p
      have k0 : (0 : Int) ≤ (k : Int) := by omega
      have k1 : (k : Int) < (n' : Int) := by omega
      have HB := Lib.hid hb
      clear hpp hb
      go_wp2
      go_big_quiet (fail)
      go_wp2
      go_roundw
      case rel => exact ⟨k + 1, by omega, by go_num, below_drewN_ HB.out _⟩
      case measure => simp [intOf]; omega
    · go_wp2
      go_ret
      exact ⟨rfl, hb⟩
end Go.Proofs.Ytbcahkklhdnboaa
