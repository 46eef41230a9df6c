/-
  The walk of PressMounts.
-/
import Derived.Test.YtomncopeekegoaaIJ
import Derived.Test.YtomncopeekegoaaIC
namespace Go.Proofs.Ytomncopeekegoaa
open Go.RowKit

theorem eqMnt (a b c : Int) (w : World) : Sem.run Try.prog (Op.equalIn 10000 63 (.agg #[.int .i64 a, .int .i64 b, .int .i64 c]) (.agg #[.int .i64 a, .int .i64 b, .int .i64 c])) w = .ok true w := by
  simp [go_sem, Op.eqFields]
theorem mtL_len (a b : List Int) (d : Int) : (mtL a b d).length ≤ 1073742000 := by
  unfold mtL
  split
  · rename_i h
    obtain ⟨hf, h1, h2, h3⟩ := mt_fea h
    have := hf.d0
    exact Nat.le_trans (mnt_len _ _ _ _ _ _) (by omega)
  · simp
set_option maxRecDepth 100000 in
set_option maxHeartbeats 8000000 in
theorem mounts_walk (B : Nat) (A A' : Option Addr) (n c n' c' : Nat) (a b : List Int) (d : Int) (w : World) (h0 : LI w B A n a) (h1 : LI w B A' n' b) (hB : B ≤ w.heap.size) (hn : n ≤ 9223372036854775807) (hn' : n' ≤ 9223372036854775807) :
    Calls Try.prog 6 #[.slice A n c, .slice A' n' c', .int .i64 d] w fun e w' => e = .returned (.bool true) ∧ Below w.heap.size w w' := by
  have H := Lib.hid (h0.more hB)
  have H' := Lib.hid (h1.more hB)
  clear h0 h1 hB
  by_cases c1 : 80 < n
  · have g1 : (80 : Int) < (n : Int) := by omega
    go_enter Try.func6, Try.ntmps6
    go_wp2_with ((refine (works8_any _).mono ?_); rintro e w1 ⟨rfl, hb⟩)
    go_ret
    exact ⟨rfl, hb⟩
  by_cases c2 : 80 < n'
  · have g1 : ¬ (80 : Int) < (n : Int) := by omega
    have g2 : (80 : Int) < (n' : Int) := by omega
    go_enter Try.func6, Try.ntmps6
    go_wp2_with ((refine (works8_any _).mono ?_); rintro e w1 ⟨rfl, hb⟩)
    go_ret
    exact ⟨rfl, hb⟩
  have g1 : ¬ (80 : Int) < (n : Int) := by omega
  have g2 : ¬ (80 : Int) < (n' : Int) := by omega
  obtain ⟨er, her⟩ : ∃ er, mtE a b d = er := ⟨_, rfl⟩
  have hlen := mtL_len a b d
  obtain ⟨R, hR⟩ : ∃ R, mtL a b d = R := ⟨_, rfl⟩
  rw [hR] at hlen
  have HER := Lib.hid (And.intro her hR)
  have q1 : (er != er) = false := by simp
  clear her hR
  go_enter Try.func6, Try.ntmps6
  go_wp2_with fail
  refine (Mounts_any w.heap.size A A' n c n' c' a b d w H.out H'.out (Nat.le_refl _) hn hn').mono ?_
  rintro e w1 ⟨A1, n1, k1, rfl, hr1, hc1, hb1⟩
  rw [HER.out.2] at hr1
  rw [HER.out.1]
  have HR1 := Lib.hid hr1
  have HB1 := Lib.hid hb1
  clear hr1 hb1
  go_wp2_with fail
  refine (refMounts_any w.heap.size A A' n c n' c' a b d w1 (H.out.below HB1.out (Nat.le_refl _)) (H'.out.below HB1.out (Nat.le_refl _)) HB1.out.size hn hn').mono ?_
  rintro e w2 ⟨A2, n2, k2, rfl, hr2, hc2, hb2⟩
  rw [HER.out.2] at hr2
  rw [HER.out.1]
  have hnn : n2 = n1 := by have h1 := HR1.out.1; have h2 := hr2.1; omega
  subst hnn
  have HR2 := Lib.hid hr2
  replace HR1 := Lib.hid (HR1.out.below hb2 (Nat.le_refl _))
  have hs2 := hb2.size
  have HB2 := Lib.hid (HB1.out.trans (hb2.mono HB1.out.size))
  have HLEN := Lib.hid hr2.1
  have hn2 : n2 ≤ 1073742000 := by have := hr2.1; omega
  clear hr2 hb2 HB1 H H'
  have q2 : ((n2 : Int) != (n2 : Int)) = false := by simp
  go_wp2
  go_loopw [11] (fun z wr => ∃ k : Nat, k ≤ n2 ∧ z = .int .i64 k ∧ Hid (Below w2.heap.size w2 wr)) (fun z _ => n2 - (intOf z).toNat)
  case atStart => exact ⟨0, Nat.zero_le _, rfl, Lib.hid (Below.refl _ _)⟩
  case round =>
    obtain ⟨k, hk, rfl, HW⟩ := hrel
    by_cases hlt : k < n2
    · have hkl : k < R.length := by have := HLEN.out; omega
      obtain ⟨ad1, e1, -, p1, p2, p3⟩ := ((HR1.out.more hs2).below HW.out (Nat.le_refl _)).at_ hkl
      obtain ⟨ad2, e2, -, r1, r2, r3⟩ := (HR2.out.below HW.out (Nat.le_refl _)).at_ hkl
      obtain rfl := e1
      obtain rfl := e2
      obtain ⟨⟨x, y, z⟩, hs⟩ : ∃ s, R[k] = s := ⟨_, rfl⟩
      rw [hs] at p1 p2 p3 r1 r2 r3
      dsimp only at p1 p2 p3 r1 r2 r3
      have g3 : (k : Int) < (n2 : Int) := by omega
      have w5 : IntKind.i64.wrap ((k : Int) + 1) = (k : Int) + 1 := IntWalk.i64_in _ (by omega)
      have he := eqMnt x y z
      clear hs
      go_wp2_with fail
      go_quiet (fail)
      go_wp2
      go_roundw
      case rel => exact ⟨k + 1, by omega, by go_num, Lib.hid (below_drewN_ HW.out _)⟩
      case measure => simp [intOf]; omega
    · go_wp2_with ((refine (works8_any _).mono ?_); rintro e w1 ⟨rfl, hb⟩)
      go_ret
      exact ⟨rfl, (HB2.out.trans (HW.out.mono HB2.out.size)).trans (hb.mono (by have := HB2.out.size; have := HW.out.size; omega))⟩
end Go.Proofs.Ytomncopeekegoaa
