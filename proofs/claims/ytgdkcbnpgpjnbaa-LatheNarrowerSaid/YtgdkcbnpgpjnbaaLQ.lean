/-
  Contract of circle: the way from a sample's turn before to the sample, and back.
-/
import Derived.Test.YtgdkcbnpgpjnbaaLP
namespace Go.Proofs.Ytgdkcbnpgpjnbaa
open Go.RowKit

def cirT (k j : Nat) : List Smp := (5, (k : Int)) :: (List.range j).map fun i => (4, ((k - i : Nat) : Int))
theorem cirT_succ (k j : Nat) : cirT k (j + 1) = cirT k j ++ [(4, ((k - j : Nat) : Int))] := by unfold cirT; rw [List.range_succ, List.map_append]; rfl

set_option maxRecDepth 100000 in
set_option maxHeartbeats 8000000 in
theorem circle_any (g n c k : Nat) (A : Option Addr) (b : Bk) (vr vh : Value) (ft : Int) (vp : Value) (w : World) (hC : Blk w g 71 #[.int .i64 b.per, .int .i64 b.rim, .int .i64 b.core, .int .i64 b.land, .int .i64 b.slow, .int .i64 b.fast, .slice A n c, vr, vh, .int .i64 ft, vp]) (hk : k ≤ 1000000) (hb : BkOk b) (hp : b.per ≤ (k : Int)) :
    Calls Try.prog 60 #[.pointer (some ⟨g, 0, none⟩), .int .i64 k] w fun e w' => ∃ v, e = .returned v ∧ w'.ownsRow w.heap.size 52 2 v (1 + b.per.toNat) (smpCells (cirL b k)) ∧ Below w.heap.size w w' := by
  obtain ⟨i1, hi1, hy0, hy1, hy2⟩ := info_partsL info_step
  have HI1 := Lib.hid hi1
  have HY0 := Lib.hid hy0
  have HY1 := Lib.hid hy1
  have HY2 := Lib.hid hy2
  have HFIN : Hid (cirT k b.per.toNat = cirL b k) := Lib.hid rfl
  obtain ⟨p, hpp⟩ : ∃ p : Nat, b.per = (p : Int) := ⟨b.per.toNat, by have := hb.per1; omega⟩
  have hpn : b.per.toNat = p := by omega
  rw [hpn] at HFIN ⊢
  have HC := Lib.hid hC
  obtain ⟨s0, -⟩ := hC.eleven
  rw [hpp] at s0
  have p2 := hb.per2
  rw [hpp] at hp p2
  clear hC hi1 hy0 hy1 hy2 hpn hpp hb
  have s1 : (w.alloc (.cells #[.int .i64 5, .int .i64 (k : Int)] 52)).cell? ⟨g, 0, none⟩ = some (.int .i64 (p : Int)) := cell_al _ s0
  go_enter Try.func60, Try.ntmps60
  go_wp2
  go_loopw [5, 16] (fun v i wr => ∃ j : Nat, j ≤ p ∧ i = .int .i64 j ∧ Hid (wr.ownsRow w.heap.size 52 2 v (1 + j) (smpCells (cirT k j))) ∧ Hid (Below w.heap.size w wr)) (fun v i wr => p - (intOf i).toNat)
  case atStart => exact ⟨0, Nat.zero_le _, rfl, Lib.hid (own_lit w _ w.heap.size 1 2 #[.int .i64 5, .int .i64 k] (Nat.le_refl _) rfl (by simp [maxLen])), Lib.hid (below_a _ _)⟩
  case round =>
    rename_i v i
    obtain ⟨j, hj, rfl, HO, HBW⟩ := hrel
    by_cases hlt : j < p
    · have w1 : IntKind.i64.wrap ((k : Int) - j) = ((k - j : Nat) : Int) := by rw [IntWalk.i64_in _ (by omega)]; omega
      have h1 : (j : Int) < (p : Int) := by omega
      have HSZ := Lib.hid HBW.out.size
      have HRD : Hid (Reads (wr.alloc (.cells #[.int .i64 4, .int .i64 ((k - j : Nat) : Int)] 52)) (wr.heap.size + 1) 2 (some ⟨wr.heap.size, 0, none⟩) 1 [.int .i64 4, .int .i64 ((k - j : Nat) : Int)]) := Lib.hid ⟨rfl, fun _ => ⟨_, rfl, by show wr.heap.size < _; omega, nine_new wr _ _⟩⟩
      go_wp2_with (at_builtin; refine wpList_append_any _ rfl (.tmp 19) (.tmp 24) _ rfl w.heap.size 52 i1 _ 2 16 Try.underlying36 HI1.out HY0.out HY1.out HY2.out rfl (by omega) _ (1 + j) (smpCells (cirT k j)) rfl (own_below HO.out (below_a _ _)) (wr.heap.size + 1) _ 1 _ [.int .i64 4, .int .i64 ((k - j : Nat) : Int)] rfl HRD.out (by intro u hu; simp only [List.mem_cons, List.not_mem_nil, or_false] at hu; rcases hu with rfl | rfl <;> rfl) (by simp only [maxLen]; omega) (by omega) (by have := HSZ.out; simp; omega) ?_)
      intro v' w4 hown hgrow hblk
      have HO4 := Lib.hid hown
      have HB4 := Lib.hid ((HBW.out.alloc HSZ.out _).grown hgrow (by have := HSZ.out; simp; omega) (fun q hq => (HO.out.lt q hq).1))
      clear hown hgrow hblk
      go_wp2
      go_roundw
      case rel => exact ⟨j + 1, by omega, by go_num, Lib.hid (by have h := HO4.out; rw [cirT_succ, smpCells_snoc, show 1 + (j + 1) = 1 + j + 1 by omega]; exact h), HB4⟩
      case measure => simp [intOf]; omega
    · obtain rfl : j = p := by omega
      go_wp2
      go_ret
      exact ⟨_, rfl, by rw [← HFIN.out]; exact HO.out, HBW.out⟩
end Go.Proofs.Ytgdkcbnpgpjnbaa
