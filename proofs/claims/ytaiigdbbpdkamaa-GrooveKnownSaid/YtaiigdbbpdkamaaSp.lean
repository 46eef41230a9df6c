/-
  Slices of points: a part between two indexes.
-/
import Derived.Test.YtaiigdbbpdkamaaK6
import Derived.Test.YtaiigdbbpdkamaaJ2
namespace Go.Proofs.Ytaiigdbbpdkamaa
open Go.RowKit

theorem el_pts : Try.prog.elem 29 = 27 := by kernel_rfl
theorem size_ptN (W : World) : (sizeOf 27).run Try.prog W = .ok 2 W := by kernel_rfl
/-- Where a part begins. -/
def prtA (A : Option Addr) (c fr : Nat) : Option Addr := if c = fr then A else A.map (·.add (fr * 2))
theorem slice_pts (A : Option Addr) (n c fr to : Nat) (h1 : fr ≤ to) (h2 : to ≤ c) (W : World) :
    (Instr.slice 29 (.slice A n c) (some (.int .i64 (fr : Int))) (some (.int .i64 (to : Int))) none).run Try.prog W = .ok (.slice (prtA A c fr) (to - fr) (c - fr)) W := by
  rw [run_slice_lh (P := Try.prog) W 29 A n c (by rw [el_pts]; exact Try.underlying29) .i64 .i64 (fr : Int) (to : Int) (by omega) (by omega) (by omega), el_pts, size_ptN]
  simp [sliced, Result.andThen, prtA]
theorem rs_part {W : World} {B : Nat} {A : Option Addr} {n c : Nat} {xs : List Smp} (h : RS W B A n xs) (hc : n ≤ c) (fr to : Nat) (h1 : fr ≤ to) (h2 : to ≤ n) : RS W B (prtA A c fr) (to - fr) ((xs.drop fr).take (to - fr)) := by
  rcases Nat.lt_or_ge fr to with h3 | h3
  · unfold prtA
    rw [if_neg (by omega)]
    exact rs_mid h fr to h3 h2
  · have : to - fr = 0 := by omega
    rw [this]
    exact ⟨by simp, by simp [smpCells], fun h => absurd h (by omega)⟩

theorem gAt_part (l : List Smp) (fr m i : Nat) (hi : i < m) : gAt ((l.drop fr).take m) i = gAt l (fr + i) := by
  unfold gAt; rw [List.getElem?_take_of_lt hi, List.getElem?_drop]
end Go.Proofs.Ytaiigdbbpdkamaa
