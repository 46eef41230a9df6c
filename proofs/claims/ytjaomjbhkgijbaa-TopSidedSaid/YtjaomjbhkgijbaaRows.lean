/-
  No cell of these rows narrows 'for every input' (looked for: loops, veiled, ifaces, maps, wideKeys, modest, calm, conditions, laid).
  DERIVED. THE GIVEN ROWS OF THIS SEAT. 14 by the template 'for every input the law returns true; each argument reads behind the call as it read before'; 0 by the template 'total and deterministic' (their statements: YtjaomjbhkgijbaaTotals.lean).
  GIVEN WITH THE SEED: the statements are not yours to turn. If you find one false, say at which input.
  Laid BY PROGRAM, IN A SANDBOX (cutbox-rows.mjs): the forced cells as the released guide's own fill.sh prints them over the translation 861c439c8d279277… (all of the seat's roots in one cut). By AI agents, Wed Nov 11 2026. No macro, syntax, notation, axiom, sorry.
-/
import Derived.Test.YtjaomjbhkgijbaaChecked
import GoSem.Claim
import GoSem.ClaimJoined
import GoSem.ClaimMapViews
import Derived.JoinedTies
import Derived.KernelRfl
namespace Go.Proofs.Ytjaomjbhkgijbaa
/- THE CELL 'sum', in the pinned program and in every row, IS THE sha256 OF THE DUMP (.gsa) THAT YtjaomjbhkgijbaaProg.lean LOADS. Nothing in Lean hashes anything: it is a label: what it is worth is what the hold of that sum in a sandbox is worth. -/
noncomputable def Try.pinned : Pinned := { name := "ytjaomjbhkgijbaa", sum := "861c439c8d27927713c3dddc56fbb264551617470f7d6733e0a202f75f588345", checked := Try.checked }
namespace Rows
def none {H : Type} : Left H := { results := [], args := [] }

/-- 'deadwaxlaw01.TakePlaces': WHATEVER THE INPUT: true; the input reads as it did. -/
def takePlacesSpec : ChangeSpec := { name := "takePlaces", fn := fun _ => fun
  | [d1, d2, d3] => { results := [.lit (.bool true)], args := [d1, d2, d3] }
  | _ => none }
def takePlacesRow : OpenClaim := { program := "ytjaomjbhkgijbaa", sum := "861c439c8d27927713c3dddc56fbb264551617470f7d6733e0a202f75f588345", func := "deadwax/deadwaxlaw01.TakePlaces", spec := "takePlaces", unfollowed := true, recurses := true, apart := false }
def TakePlacesSaid : Prop := takePlacesRow.holds Try.pinned (OpenSpec.ofChange takePlacesSpec)

/-- ITS FALSE NEIGHBOUR: 'it returns false'. Refute it at one input. -/
def takePlacesWrong : ChangeSpec := { name := "takePlaces", fn := fun _ => fun
  | [d1, d2, d3] => { results := [.lit (.bool false)], args := [d1, d2, d3] }
  | _ => none }
def TakePlacesWrongFalsely : Prop := takePlacesRow.holds Try.pinned (OpenSpec.ofChange takePlacesWrong)

/-- 'deadwaxlaw01.TakeSplits': WHATEVER THE INPUT: true; the input reads as it did. -/
def takeSplitsSpec : ChangeSpec := { name := "takeSplits", fn := fun _ => fun
  | [d1, d2, d3] => { results := [.lit (.bool true)], args := [d1, d2, d3] }
  | _ => none }
def takeSplitsRow : OpenClaim := { program := "ytjaomjbhkgijbaa", sum := "861c439c8d27927713c3dddc56fbb264551617470f7d6733e0a202f75f588345", func := "deadwax/deadwaxlaw01.TakeSplits", spec := "takeSplits", unfollowed := true, recurses := true, apart := false }
def TakeSplitsSaid : Prop := takeSplitsRow.holds Try.pinned (OpenSpec.ofChange takeSplitsSpec)

/-- ITS FALSE NEIGHBOUR: 'it returns false'. Refute it at one input. -/
def takeSplitsWrong : ChangeSpec := { name := "takeSplits", fn := fun _ => fun
  | [d1, d2, d3] => { results := [.lit (.bool false)], args := [d1, d2, d3] }
  | _ => none }
def TakeSplitsWrongFalsely : Prop := takeSplitsRow.holds Try.pinned (OpenSpec.ofChange takeSplitsWrong)

/-- 'deadwaxlaw02.FilterApplies': WHATEVER THE INPUT: true; the input reads as it did. -/
def filterAppliesSpec : ChangeSpec := { name := "filterApplies", fn := fun _ => fun
  | [d1, d2] => { results := [.lit (.bool true)], args := [d1, d2] }
  | _ => none }
def filterAppliesRow : OpenClaim := { program := "ytjaomjbhkgijbaa", sum := "861c439c8d27927713c3dddc56fbb264551617470f7d6733e0a202f75f588345", func := "deadwax/deadwaxlaw02.FilterApplies", spec := "filterApplies", unfollowed := true, recurses := true, apart := false }
def FilterAppliesSaid : Prop := filterAppliesRow.holds Try.pinned (OpenSpec.ofChange filterAppliesSpec)

/-- ITS FALSE NEIGHBOUR: 'it returns false'. Refute it at one input. -/
def filterAppliesWrong : ChangeSpec := { name := "filterApplies", fn := fun _ => fun
  | [d1, d2] => { results := [.lit (.bool false)], args := [d1, d2] }
  | _ => none }
def FilterAppliesWrongFalsely : Prop := filterAppliesRow.holds Try.pinned (OpenSpec.ofChange filterAppliesWrong)

/-- 'deadwaxlaw02.FilterBounds': WHATEVER THE INPUT: true; the input reads as it did. -/
def filterBoundsSpec : ChangeSpec := { name := "filterBounds", fn := fun _ => fun
  | [d1, d2] => { results := [.lit (.bool true)], args := [d1, d2] }
  | _ => none }
def filterBoundsRow : OpenClaim := { program := "ytjaomjbhkgijbaa", sum := "861c439c8d27927713c3dddc56fbb264551617470f7d6733e0a202f75f588345", func := "deadwax/deadwaxlaw02.FilterBounds", spec := "filterBounds", unfollowed := true, recurses := true, apart := false }
def FilterBoundsSaid : Prop := filterBoundsRow.holds Try.pinned (OpenSpec.ofChange filterBoundsSpec)

/-- ITS FALSE NEIGHBOUR: 'it returns false'. Refute it at one input. -/
def filterBoundsWrong : ChangeSpec := { name := "filterBounds", fn := fun _ => fun
  | [d1, d2] => { results := [.lit (.bool false)], args := [d1, d2] }
  | _ => none }
def FilterBoundsWrongFalsely : Prop := filterBoundsRow.holds Try.pinned (OpenSpec.ofChange filterBoundsWrong)

/-- 'deadwaxlaw02.FilterSplits': WHATEVER THE INPUT: true; the input reads as it did. -/
def filterSplitsSpec : ChangeSpec := { name := "filterSplits", fn := fun _ => fun
  | [d1, d2, d3] => { results := [.lit (.bool true)], args := [d1, d2, d3] }
  | _ => none }
def filterSplitsRow : OpenClaim := { program := "ytjaomjbhkgijbaa", sum := "861c439c8d27927713c3dddc56fbb264551617470f7d6733e0a202f75f588345", func := "deadwax/deadwaxlaw02.FilterSplits", spec := "filterSplits", unfollowed := true, recurses := true, apart := false }
def FilterSplitsSaid : Prop := filterSplitsRow.holds Try.pinned (OpenSpec.ofChange filterSplitsSpec)

/-- ITS FALSE NEIGHBOUR: 'it returns false'. Refute it at one input. -/
def filterSplitsWrong : ChangeSpec := { name := "filterSplits", fn := fun _ => fun
  | [d1, d2, d3] => { results := [.lit (.bool false)], args := [d1, d2, d3] }
  | _ => none }
def FilterSplitsWrongFalsely : Prop := filterSplitsRow.holds Try.pinned (OpenSpec.ofChange filterSplitsWrong)

/-- 'deadwaxlaw02.FilterSides': WHATEVER THE INPUT: true; the input reads as it did. -/
def filterSidesSpec : ChangeSpec := { name := "filterSides", fn := fun _ => fun
  | [d1, d2] => { results := [.lit (.bool true)], args := [d1, d2] }
  | _ => none }
def filterSidesRow : OpenClaim := { program := "ytjaomjbhkgijbaa", sum := "861c439c8d27927713c3dddc56fbb264551617470f7d6733e0a202f75f588345", func := "deadwax/deadwaxlaw02.FilterSides", spec := "filterSides", unfollowed := true, recurses := true, apart := false }
def FilterSidesSaid : Prop := filterSidesRow.holds Try.pinned (OpenSpec.ofChange filterSidesSpec)

/-- ITS FALSE NEIGHBOUR: 'it returns false'. Refute it at one input. -/
def filterSidesWrong : ChangeSpec := { name := "filterSides", fn := fun _ => fun
  | [d1, d2] => { results := [.lit (.bool false)], args := [d1, d2] }
  | _ => none }
def FilterSidesWrongFalsely : Prop := filterSidesRow.holds Try.pinned (OpenSpec.ofChange filterSidesWrong)

/-- 'deadwaxlaw02.FilterChained': WHATEVER THE INPUT: true; the input reads as it did. -/
def filterChainedSpec : ChangeSpec := { name := "filterChained", fn := fun _ => fun
  | [d1, d2, d3, d4] => { results := [.lit (.bool true)], args := [d1, d2, d3, d4] }
  | _ => none }
def filterChainedRow : OpenClaim := { program := "ytjaomjbhkgijbaa", sum := "861c439c8d27927713c3dddc56fbb264551617470f7d6733e0a202f75f588345", func := "deadwax/deadwaxlaw02.FilterChained", spec := "filterChained", unfollowed := true, recurses := true, apart := false }
def FilterChainedSaid : Prop := filterChainedRow.holds Try.pinned (OpenSpec.ofChange filterChainedSpec)

/-- ITS FALSE NEIGHBOUR: 'it returns false'. Refute it at one input. -/
def filterChainedWrong : ChangeSpec := { name := "filterChained", fn := fun _ => fun
  | [d1, d2, d3, d4] => { results := [.lit (.bool false)], args := [d1, d2, d3, d4] }
  | _ => none }
def FilterChainedWrongFalsely : Prop := filterChainedRow.holds Try.pinned (OpenSpec.ofChange filterChainedWrong)

/-- 'deadwaxlaw02.FilterBounded': WHATEVER THE INPUT: true; the input reads as it did. -/
def filterBoundedSpec : ChangeSpec := { name := "filterBounded", fn := fun _ => fun
  | [d1, d2, d3] => { results := [.lit (.bool true)], args := [d1, d2, d3] }
  | _ => none }
def filterBoundedRow : OpenClaim := { program := "ytjaomjbhkgijbaa", sum := "861c439c8d27927713c3dddc56fbb264551617470f7d6733e0a202f75f588345", func := "deadwax/deadwaxlaw02.FilterBounded", spec := "filterBounded", unfollowed := true, recurses := true, apart := false }
def FilterBoundedSaid : Prop := filterBoundedRow.holds Try.pinned (OpenSpec.ofChange filterBoundedSpec)

/-- ITS FALSE NEIGHBOUR: 'it returns false'. Refute it at one input. -/
def filterBoundedWrong : ChangeSpec := { name := "filterBounded", fn := fun _ => fun
  | [d1, d2, d3] => { results := [.lit (.bool false)], args := [d1, d2, d3] }
  | _ => none }
def FilterBoundedWrongFalsely : Prop := filterBoundedRow.holds Try.pinned (OpenSpec.ofChange filterBoundedWrong)

/-- 'deadwaxlaw03.GrooveCuts': WHATEVER THE INPUT: true; the input reads as it did. -/
def grooveCutsSpec : ChangeSpec := { name := "grooveCuts", fn := fun _ => fun
  | [d1, d2, d3, d4, d5] => { results := [.lit (.bool true)], args := [d1, d2, d3, d4, d5] }
  | _ => none }
def grooveCutsRow : OpenClaim := { program := "ytjaomjbhkgijbaa", sum := "861c439c8d27927713c3dddc56fbb264551617470f7d6733e0a202f75f588345", func := "deadwax/deadwaxlaw03.GrooveCuts", spec := "grooveCuts", unfollowed := true, recurses := true, apart := false }
def GrooveCutsSaid : Prop := grooveCutsRow.holds Try.pinned (OpenSpec.ofChange grooveCutsSpec)

/-- ITS FALSE NEIGHBOUR: 'it returns false'. Refute it at one input. -/
def grooveCutsWrong : ChangeSpec := { name := "grooveCuts", fn := fun _ => fun
  | [d1, d2, d3, d4, d5] => { results := [.lit (.bool false)], args := [d1, d2, d3, d4, d5] }
  | _ => none }
def GrooveCutsWrongFalsely : Prop := grooveCutsRow.holds Try.pinned (OpenSpec.ofChange grooveCutsWrong)

/-- 'deadwaxtop.TopHalves': WHATEVER THE INPUT: true; the input reads as it did. -/
def topHalvesSpec : ChangeSpec := { name := "topHalves", fn := fun _ => fun
  | [d1, d2, d3, d4, d5] => { results := [.lit (.bool true)], args := [d1, d2, d3, d4, d5] }
  | _ => none }
def topHalvesRow : OpenClaim := { program := "ytjaomjbhkgijbaa", sum := "861c439c8d27927713c3dddc56fbb264551617470f7d6733e0a202f75f588345", func := "deadwax/deadwaxtop.TopHalves", spec := "topHalves", unfollowed := true, recurses := true, apart := false }
def TopHalvesSaid : Prop := topHalvesRow.holds Try.pinned (OpenSpec.ofChange topHalvesSpec)

/-- ITS FALSE NEIGHBOUR: 'it returns false'. Refute it at one input. -/
def topHalvesWrong : ChangeSpec := { name := "topHalves", fn := fun _ => fun
  | [d1, d2, d3, d4, d5] => { results := [.lit (.bool false)], args := [d1, d2, d3, d4, d5] }
  | _ => none }
def TopHalvesWrongFalsely : Prop := topHalvesRow.holds Try.pinned (OpenSpec.ofChange topHalvesWrong)

/-- 'deadwaxtop.TopSided': WHATEVER THE INPUT: true; the input reads as it did. -/
def topSidedSpec : ChangeSpec := { name := "topSided", fn := fun _ => fun
  | [d1, d2, d3] => { results := [.lit (.bool true)], args := [d1, d2, d3] }
  | _ => none }
def topSidedRow : OpenClaim := { program := "ytjaomjbhkgijbaa", sum := "861c439c8d27927713c3dddc56fbb264551617470f7d6733e0a202f75f588345", func := "deadwax/deadwaxtop.TopSided", spec := "topSided", unfollowed := true, recurses := true, apart := false }
def TopSidedSaid : Prop := topSidedRow.holds Try.pinned (OpenSpec.ofChange topSidedSpec)

/-- ITS FALSE NEIGHBOUR: 'it returns false'. Refute it at one input. -/
def topSidedWrong : ChangeSpec := { name := "topSided", fn := fun _ => fun
  | [d1, d2, d3] => { results := [.lit (.bool false)], args := [d1, d2, d3] }
  | _ => none }
def TopSidedWrongFalsely : Prop := topSidedRow.holds Try.pinned (OpenSpec.ofChange topSidedWrong)

/-- 'deadwaxtop.TopSilent': WHATEVER THE INPUT: true; the input reads as it did. -/
def topSilentSpec : ChangeSpec := { name := "topSilent", fn := fun _ => fun
  | [d1, d2, d3, d4, d5] => { results := [.lit (.bool true)], args := [d1, d2, d3, d4, d5] }
  | _ => none }
def topSilentRow : OpenClaim := { program := "ytjaomjbhkgijbaa", sum := "861c439c8d27927713c3dddc56fbb264551617470f7d6733e0a202f75f588345", func := "deadwax/deadwaxtop.TopSilent", spec := "topSilent", unfollowed := true, recurses := true, apart := false }
def TopSilentSaid : Prop := topSilentRow.holds Try.pinned (OpenSpec.ofChange topSilentSpec)

/-- ITS FALSE NEIGHBOUR: 'it returns false'. Refute it at one input. -/
def topSilentWrong : ChangeSpec := { name := "topSilent", fn := fun _ => fun
  | [d1, d2, d3, d4, d5] => { results := [.lit (.bool false)], args := [d1, d2, d3, d4, d5] }
  | _ => none }
def TopSilentWrongFalsely : Prop := topSilentRow.holds Try.pinned (OpenSpec.ofChange topSilentWrong)

/-- 'deadwaxtop.TopTamed': WHATEVER THE INPUT: true; the input reads as it did. -/
def topTamedSpec : ChangeSpec := { name := "topTamed", fn := fun _ => fun
  | [d1, d2, d3] => { results := [.lit (.bool true)], args := [d1, d2, d3] }
  | _ => none }
def topTamedRow : OpenClaim := { program := "ytjaomjbhkgijbaa", sum := "861c439c8d27927713c3dddc56fbb264551617470f7d6733e0a202f75f588345", func := "deadwax/deadwaxtop.TopTamed", spec := "topTamed", unfollowed := true, recurses := true, apart := false }
def TopTamedSaid : Prop := topTamedRow.holds Try.pinned (OpenSpec.ofChange topTamedSpec)

/-- ITS FALSE NEIGHBOUR: 'it returns false'. Refute it at one input. -/
def topTamedWrong : ChangeSpec := { name := "topTamed", fn := fun _ => fun
  | [d1, d2, d3] => { results := [.lit (.bool false)], args := [d1, d2, d3] }
  | _ => none }
def TopTamedWrongFalsely : Prop := topTamedRow.holds Try.pinned (OpenSpec.ofChange topTamedWrong)

/-- 'deadwaxtop.TopEdges': WHATEVER THE INPUT: true; the input reads as it did. -/
def topEdgesSpec : ChangeSpec := { name := "topEdges", fn := fun _ => fun
  | [d1, d2, d3] => { results := [.lit (.bool true)], args := [d1, d2, d3] }
  | _ => none }
def topEdgesRow : OpenClaim := { program := "ytjaomjbhkgijbaa", sum := "861c439c8d27927713c3dddc56fbb264551617470f7d6733e0a202f75f588345", func := "deadwax/deadwaxtop.TopEdges", spec := "topEdges", unfollowed := true, recurses := true, apart := false }
def TopEdgesSaid : Prop := topEdgesRow.holds Try.pinned (OpenSpec.ofChange topEdgesSpec)

/-- ITS FALSE NEIGHBOUR: 'it returns false'. Refute it at one input. -/
def topEdgesWrong : ChangeSpec := { name := "topEdges", fn := fun _ => fun
  | [d1, d2, d3] => { results := [.lit (.bool false)], args := [d1, d2, d3] }
  | _ => none }
def TopEdgesWrongFalsely : Prop := topEdgesRow.holds Try.pinned (OpenSpec.ofChange topEdgesWrong)

/- THE SECOND FORM. 'bulk': how many values and letters a reading holds, each counted each time it is reached (what is shared counts as often as it is met; a slice's spare places count too). A statement '..UptoSaid' is the law's where the arguments, and the package variables that the reading takes, are together of bulk at most 1048576: NARROWER than '..Said'. Prove '..Said' where nothing that the law and all that it calls make is longer than what came in: it says more and counts as full. Else prove '..UptoSaid'. A law counts once. -/
mutual
def uptoBulk {H : Type} : DataW H → Nat
  | .lit (.string bytes) => bytes.length + 1
  | .lit _ => 1
  | .nil => 1
  | .ptr d => uptoBulk d + 1
  | .slice elems spare => uptoBulkAll elems + uptoBulkAll spare + 1
  | .agg parts => uptoBulkAll parts + 1
  | .iface _ d => uptoBulk d + 1
  | .map entries => uptoBulkEntries entries + 1
  | .held _ => 1
def uptoBulkAll {H : Type} : List (DataW H) → Nat
  | [] => 0
  | d :: r => uptoBulk d + uptoBulkAll r
def uptoBulkEntries {H : Type} : List (Lit × DataW H) → Nat
  | [] => 0
  | x :: r => uptoBulkEntry x + uptoBulkEntries r
def uptoBulkEntry {H : Type} : Lit × DataW H → Nat
  | (.string bytes, d) => bytes.length + uptoBulk d + 1
  | (_, d) => uptoBulk d + 1
 end
def uptoSmall : (H : Type) → List (DataW H) → Bool := fun _ ds => decide (uptoBulkAll ds ≤ 1048576)
def OpenSpec.upto (s : _root_.Go.ChangeSpec) : _root_.Go.OpenSpec := { _root_.Go.OpenSpec.ofChange s with cond := some uptoSmall }

/-- 'deadwaxlaw01.TakePlaces', WHERE WHAT IT READS IS OF BULK AT MOST 1048576: true; the input reads as it did. -/
def takePlacesUptoRow : OpenClaim := { program := "ytjaomjbhkgijbaa", sum := "861c439c8d27927713c3dddc56fbb264551617470f7d6733e0a202f75f588345", func := "deadwax/deadwaxlaw01.TakePlaces", spec := "takePlaces", unfollowed := true, recurses := true, apart := false, narrowed := true }
def TakePlacesUptoSaid : Prop := takePlacesUptoRow.holds Try.pinned (OpenSpec.upto takePlacesSpec)

/-- 'deadwaxlaw01.TakeSplits', WHERE WHAT IT READS IS OF BULK AT MOST 1048576: true; the input reads as it did. -/
def takeSplitsUptoRow : OpenClaim := { program := "ytjaomjbhkgijbaa", sum := "861c439c8d27927713c3dddc56fbb264551617470f7d6733e0a202f75f588345", func := "deadwax/deadwaxlaw01.TakeSplits", spec := "takeSplits", unfollowed := true, recurses := true, apart := false, narrowed := true }
def TakeSplitsUptoSaid : Prop := takeSplitsUptoRow.holds Try.pinned (OpenSpec.upto takeSplitsSpec)

/-- 'deadwaxlaw02.FilterApplies', WHERE WHAT IT READS IS OF BULK AT MOST 1048576: true; the input reads as it did. -/
def filterAppliesUptoRow : OpenClaim := { program := "ytjaomjbhkgijbaa", sum := "861c439c8d27927713c3dddc56fbb264551617470f7d6733e0a202f75f588345", func := "deadwax/deadwaxlaw02.FilterApplies", spec := "filterApplies", unfollowed := true, recurses := true, apart := false, narrowed := true }
def FilterAppliesUptoSaid : Prop := filterAppliesUptoRow.holds Try.pinned (OpenSpec.upto filterAppliesSpec)

/-- 'deadwaxlaw02.FilterBounds', WHERE WHAT IT READS IS OF BULK AT MOST 1048576: true; the input reads as it did. -/
def filterBoundsUptoRow : OpenClaim := { program := "ytjaomjbhkgijbaa", sum := "861c439c8d27927713c3dddc56fbb264551617470f7d6733e0a202f75f588345", func := "deadwax/deadwaxlaw02.FilterBounds", spec := "filterBounds", unfollowed := true, recurses := true, apart := false, narrowed := true }
def FilterBoundsUptoSaid : Prop := filterBoundsUptoRow.holds Try.pinned (OpenSpec.upto filterBoundsSpec)

/-- 'deadwaxlaw02.FilterSplits', WHERE WHAT IT READS IS OF BULK AT MOST 1048576: true; the input reads as it did. -/
def filterSplitsUptoRow : OpenClaim := { program := "ytjaomjbhkgijbaa", sum := "861c439c8d27927713c3dddc56fbb264551617470f7d6733e0a202f75f588345", func := "deadwax/deadwaxlaw02.FilterSplits", spec := "filterSplits", unfollowed := true, recurses := true, apart := false, narrowed := true }
def FilterSplitsUptoSaid : Prop := filterSplitsUptoRow.holds Try.pinned (OpenSpec.upto filterSplitsSpec)

/-- 'deadwaxlaw02.FilterSides', WHERE WHAT IT READS IS OF BULK AT MOST 1048576: true; the input reads as it did. -/
def filterSidesUptoRow : OpenClaim := { program := "ytjaomjbhkgijbaa", sum := "861c439c8d27927713c3dddc56fbb264551617470f7d6733e0a202f75f588345", func := "deadwax/deadwaxlaw02.FilterSides", spec := "filterSides", unfollowed := true, recurses := true, apart := false, narrowed := true }
def FilterSidesUptoSaid : Prop := filterSidesUptoRow.holds Try.pinned (OpenSpec.upto filterSidesSpec)

/-- 'deadwaxlaw02.FilterChained', WHERE WHAT IT READS IS OF BULK AT MOST 1048576: true; the input reads as it did. -/
def filterChainedUptoRow : OpenClaim := { program := "ytjaomjbhkgijbaa", sum := "861c439c8d27927713c3dddc56fbb264551617470f7d6733e0a202f75f588345", func := "deadwax/deadwaxlaw02.FilterChained", spec := "filterChained", unfollowed := true, recurses := true, apart := false, narrowed := true }
def FilterChainedUptoSaid : Prop := filterChainedUptoRow.holds Try.pinned (OpenSpec.upto filterChainedSpec)

/-- 'deadwaxlaw02.FilterBounded', WHERE WHAT IT READS IS OF BULK AT MOST 1048576: true; the input reads as it did. -/
def filterBoundedUptoRow : OpenClaim := { program := "ytjaomjbhkgijbaa", sum := "861c439c8d27927713c3dddc56fbb264551617470f7d6733e0a202f75f588345", func := "deadwax/deadwaxlaw02.FilterBounded", spec := "filterBounded", unfollowed := true, recurses := true, apart := false, narrowed := true }
def FilterBoundedUptoSaid : Prop := filterBoundedUptoRow.holds Try.pinned (OpenSpec.upto filterBoundedSpec)

/-- 'deadwaxlaw03.GrooveCuts', WHERE WHAT IT READS IS OF BULK AT MOST 1048576: true; the input reads as it did. -/
def grooveCutsUptoRow : OpenClaim := { program := "ytjaomjbhkgijbaa", sum := "861c439c8d27927713c3dddc56fbb264551617470f7d6733e0a202f75f588345", func := "deadwax/deadwaxlaw03.GrooveCuts", spec := "grooveCuts", unfollowed := true, recurses := true, apart := false, narrowed := true }
def GrooveCutsUptoSaid : Prop := grooveCutsUptoRow.holds Try.pinned (OpenSpec.upto grooveCutsSpec)

/-- 'deadwaxtop.TopHalves', WHERE WHAT IT READS IS OF BULK AT MOST 1048576: true; the input reads as it did. -/
def topHalvesUptoRow : OpenClaim := { program := "ytjaomjbhkgijbaa", sum := "861c439c8d27927713c3dddc56fbb264551617470f7d6733e0a202f75f588345", func := "deadwax/deadwaxtop.TopHalves", spec := "topHalves", unfollowed := true, recurses := true, apart := false, narrowed := true }
def TopHalvesUptoSaid : Prop := topHalvesUptoRow.holds Try.pinned (OpenSpec.upto topHalvesSpec)

/-- 'deadwaxtop.TopSided', WHERE WHAT IT READS IS OF BULK AT MOST 1048576: true; the input reads as it did. -/
def topSidedUptoRow : OpenClaim := { program := "ytjaomjbhkgijbaa", sum := "861c439c8d27927713c3dddc56fbb264551617470f7d6733e0a202f75f588345", func := "deadwax/deadwaxtop.TopSided", spec := "topSided", unfollowed := true, recurses := true, apart := false, narrowed := true }
def TopSidedUptoSaid : Prop := topSidedUptoRow.holds Try.pinned (OpenSpec.upto topSidedSpec)

/-- 'deadwaxtop.TopSilent', WHERE WHAT IT READS IS OF BULK AT MOST 1048576: true; the input reads as it did. -/
def topSilentUptoRow : OpenClaim := { program := "ytjaomjbhkgijbaa", sum := "861c439c8d27927713c3dddc56fbb264551617470f7d6733e0a202f75f588345", func := "deadwax/deadwaxtop.TopSilent", spec := "topSilent", unfollowed := true, recurses := true, apart := false, narrowed := true }
def TopSilentUptoSaid : Prop := topSilentUptoRow.holds Try.pinned (OpenSpec.upto topSilentSpec)

/-- 'deadwaxtop.TopTamed', WHERE WHAT IT READS IS OF BULK AT MOST 1048576: true; the input reads as it did. -/
def topTamedUptoRow : OpenClaim := { program := "ytjaomjbhkgijbaa", sum := "861c439c8d27927713c3dddc56fbb264551617470f7d6733e0a202f75f588345", func := "deadwax/deadwaxtop.TopTamed", spec := "topTamed", unfollowed := true, recurses := true, apart := false, narrowed := true }
def TopTamedUptoSaid : Prop := topTamedUptoRow.holds Try.pinned (OpenSpec.upto topTamedSpec)

/-- 'deadwaxtop.TopEdges', WHERE WHAT IT READS IS OF BULK AT MOST 1048576: true; the input reads as it did. -/
def topEdgesUptoRow : OpenClaim := { program := "ytjaomjbhkgijbaa", sum := "861c439c8d27927713c3dddc56fbb264551617470f7d6733e0a202f75f588345", func := "deadwax/deadwaxtop.TopEdges", spec := "topEdges", unfollowed := true, recurses := true, apart := false, narrowed := true }
def TopEdgesUptoSaid : Prop := topEdgesUptoRow.holds Try.pinned (OpenSpec.upto topEdgesSpec)

end Rows
end Go.Proofs.Ytjaomjbhkgijbaa
