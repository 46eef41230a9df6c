/-
  The law's examples: mathematics.
-/
import Derived.Test.YtgdkcbnpgpjnbaaL7
namespace Go.Proofs.Ytgdkcbnpgpjnbaa
open Go.RowKit

def exB : Bk := ⟨2, 1000, 100, 10, 1, 100⟩
def exP : List Smp := [(-20, 20), (-20, 20), (-20, 20), (-20, 50), (-20, 20)]
def exR : List Int := [980, 979, 930, 899, 880]
def exC : List Int := [980, 979, 930, 900, 880]
theorem ex_sol : sol exB exP exP.length = some exR := by decide
theorem ex_er : erL exB exP = 0 := by decide
theorem ex_outE : outE exB exP = 0 := by unfold outE; rw [if_pos ex_er, ex_sol]
theorem ex_outR : outR exB exP = exR := by unfold outR; rw [if_pos ex_er, ex_sol]
theorem ex_erC : erC exB exP exC = 0 := by decide
theorem ex_brk : brkE exB exP exC = some (5, 3, 1, 3, -80) := by decide
theorem ex_cutE : cutE exB exP exC = 20 := by unfold cutE; rw [if_pos ex_erC, ex_brk]; rfl
theorem ex_cutI : cutI exB exP exC = 3 := by unfold cutI; rw [if_pos ex_erC, ex_brk]
theorem ex_cutQ : cutQ exB exP exC = 5 := by unfold cutQ; rw [if_pos ex_erC, ex_brk]
theorem ex_locE : locE exB exP exR 20 = 0 := by decide
theorem ex_locV : locV exB exP exR 20 = 830 := by decide
end Go.Proofs.Ytgdkcbnpgpjnbaa
