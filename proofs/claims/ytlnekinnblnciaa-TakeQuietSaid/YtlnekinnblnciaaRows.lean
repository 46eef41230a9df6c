/-
  No cell of these rows narrows 'for every input' (looked for: loops, veiled, ifaces, maps, wideKeys, modest, calm, conditions, laid).
  DERIVED. THE GIVEN ROWS OF THIS SEAT. 12 by the template 'for every input the law returns true; each argument reads behind the call as it read before'; 0 by the template 'total and deterministic' (their statements: YtlnekinnblnciaaTotals.lean).
  GIVEN WITH THE SEED: the statements are not yours to turn. If you find one false, say at which input.
  Laid BY PROGRAM, IN A SANDBOX (cutbox-rows.mjs): the forced cells as the released guide's own fill.sh prints them over the translation f2692de063185d9a… (all of the seat's roots in one cut). By AI agents, Wed Nov 11 2026. No macro, syntax, notation, axiom, sorry.
-/
import Derived.Test.YtlnekinnblnciaaChecked
import GoSem.Claim
import GoSem.ClaimJoined
import GoSem.ClaimMapViews
import Derived.JoinedTies
import Derived.KernelRfl
namespace Go.Proofs.Ytlnekinnblnciaa
/- THE CELL 'sum', in the pinned program and in every row, IS THE sha256 OF THE DUMP (.gsa) THAT YtlnekinnblnciaaProg.lean LOADS. Nothing in Lean hashes anything: it is a label: what it is worth is what the hold of that sum in a sandbox is worth. -/
noncomputable def Try.pinned : Pinned := { name := "ytlnekinnblnciaa", sum := "f2692de063185d9a12b77fbd9605b4a910b8a3faca7b2508d0293154b9bee941", checked := Try.checked }
namespace Rows
def none {H : Type} : Left H := { results := [], args := [] }

/-- 'deadwaxlaw01.TakePlaces': WHATEVER THE INPUT: true; the input reads as it did. -/
def takePlacesSpec : ChangeSpec := { name := "takePlaces", fn := fun _ => fun
  | [d1, d2, d3] => { results := [.lit (.bool true)], args := [d1, d2, d3] }
  | _ => none }
def takePlacesRow : OpenClaim := { program := "ytlnekinnblnciaa", sum := "f2692de063185d9a12b77fbd9605b4a910b8a3faca7b2508d0293154b9bee941", func := "deadwax/deadwaxlaw01.TakePlaces", spec := "takePlaces", unfollowed := true, recurses := true, apart := false }
def TakePlacesSaid : Prop := takePlacesRow.holds Try.pinned (OpenSpec.ofChange takePlacesSpec)

/-- ITS FALSE NEIGHBOUR: 'it returns false'. Refute it at one input. -/
def takePlacesWrong : ChangeSpec := { name := "takePlaces", fn := fun _ => fun
  | [d1, d2, d3] => { results := [.lit (.bool false)], args := [d1, d2, d3] }
  | _ => none }
def TakePlacesWrongFalsely : Prop := takePlacesRow.holds Try.pinned (OpenSpec.ofChange takePlacesWrong)

/-- 'deadwaxlaw01.TakeRenders': WHATEVER THE INPUT: true; the input reads as it did. -/
def takeRendersSpec : ChangeSpec := { name := "takeRenders", fn := fun _ => fun
  | [d1, d2, d3, d4] => { results := [.lit (.bool true)], args := [d1, d2, d3, d4] }
  | _ => none }
def takeRendersRow : OpenClaim := { program := "ytlnekinnblnciaa", sum := "f2692de063185d9a12b77fbd9605b4a910b8a3faca7b2508d0293154b9bee941", func := "deadwax/deadwaxlaw01.TakeRenders", spec := "takeRenders", unfollowed := true, recurses := true, apart := false }
def TakeRendersSaid : Prop := takeRendersRow.holds Try.pinned (OpenSpec.ofChange takeRendersSpec)

/-- ITS FALSE NEIGHBOUR: 'it returns false'. Refute it at one input. -/
def takeRendersWrong : ChangeSpec := { name := "takeRenders", fn := fun _ => fun
  | [d1, d2, d3, d4] => { results := [.lit (.bool false)], args := [d1, d2, d3, d4] }
  | _ => none }
def TakeRendersWrongFalsely : Prop := takeRendersRow.holds Try.pinned (OpenSpec.ofChange takeRendersWrong)

/-- 'deadwaxlaw01.TakeSplits': WHATEVER THE INPUT: true; the input reads as it did. -/
def takeSplitsSpec : ChangeSpec := { name := "takeSplits", fn := fun _ => fun
  | [d1, d2, d3] => { results := [.lit (.bool true)], args := [d1, d2, d3] }
  | _ => none }
def takeSplitsRow : OpenClaim := { program := "ytlnekinnblnciaa", sum := "f2692de063185d9a12b77fbd9605b4a910b8a3faca7b2508d0293154b9bee941", func := "deadwax/deadwaxlaw01.TakeSplits", spec := "takeSplits", unfollowed := true, recurses := true, apart := false }
def TakeSplitsSaid : Prop := takeSplitsRow.holds Try.pinned (OpenSpec.ofChange takeSplitsSpec)

/-- ITS FALSE NEIGHBOUR: 'it returns false'. Refute it at one input. -/
def takeSplitsWrong : ChangeSpec := { name := "takeSplits", fn := fun _ => fun
  | [d1, d2, d3] => { results := [.lit (.bool false)], args := [d1, d2, d3] }
  | _ => none }
def TakeSplitsWrongFalsely : Prop := takeSplitsRow.holds Try.pinned (OpenSpec.ofChange takeSplitsWrong)

/-- 'deadwaxlaw01.TakeMeasures': WHATEVER THE INPUT: true; the input reads as it did. -/
def takeMeasuresSpec : ChangeSpec := { name := "takeMeasures", fn := fun _ => fun
  | [d1, d2, d3] => { results := [.lit (.bool true)], args := [d1, d2, d3] }
  | _ => none }
def takeMeasuresRow : OpenClaim := { program := "ytlnekinnblnciaa", sum := "f2692de063185d9a12b77fbd9605b4a910b8a3faca7b2508d0293154b9bee941", func := "deadwax/deadwaxlaw01.TakeMeasures", spec := "takeMeasures", unfollowed := true, recurses := true, apart := false }
def TakeMeasuresSaid : Prop := takeMeasuresRow.holds Try.pinned (OpenSpec.ofChange takeMeasuresSpec)

/-- ITS FALSE NEIGHBOUR: 'it returns false'. Refute it at one input. -/
def takeMeasuresWrong : ChangeSpec := { name := "takeMeasures", fn := fun _ => fun
  | [d1, d2, d3] => { results := [.lit (.bool false)], args := [d1, d2, d3] }
  | _ => none }
def TakeMeasuresWrongFalsely : Prop := takeMeasuresRow.holds Try.pinned (OpenSpec.ofChange takeMeasuresWrong)

/-- 'deadwaxlaw01.TakeSounds': WHATEVER THE INPUT: true; the input reads as it did. -/
def takeSoundsSpec : ChangeSpec := { name := "takeSounds", fn := fun _ => fun
  | [d1, d2] => { results := [.lit (.bool true)], args := [d1, d2] }
  | _ => none }
def takeSoundsRow : OpenClaim := { program := "ytlnekinnblnciaa", sum := "f2692de063185d9a12b77fbd9605b4a910b8a3faca7b2508d0293154b9bee941", func := "deadwax/deadwaxlaw01.TakeSounds", spec := "takeSounds", unfollowed := true, recurses := true, apart := false }
def TakeSoundsSaid : Prop := takeSoundsRow.holds Try.pinned (OpenSpec.ofChange takeSoundsSpec)

/-- ITS FALSE NEIGHBOUR: 'it returns false'. Refute it at one input. -/
def takeSoundsWrong : ChangeSpec := { name := "takeSounds", fn := fun _ => fun
  | [d1, d2] => { results := [.lit (.bool false)], args := [d1, d2] }
  | _ => none }
def TakeSoundsWrongFalsely : Prop := takeSoundsRow.holds Try.pinned (OpenSpec.ofChange takeSoundsWrong)

/-- 'deadwaxlaw01.TakeParted': WHATEVER THE INPUT: true; the input reads as it did. -/
def takePartedSpec : ChangeSpec := { name := "takeParted", fn := fun _ => fun
  | [d1, d2, d3] => { results := [.lit (.bool true)], args := [d1, d2, d3] }
  | _ => none }
def takePartedRow : OpenClaim := { program := "ytlnekinnblnciaa", sum := "f2692de063185d9a12b77fbd9605b4a910b8a3faca7b2508d0293154b9bee941", func := "deadwax/deadwaxlaw01.TakeParted", spec := "takeParted", unfollowed := true, recurses := true, apart := false }
def TakePartedSaid : Prop := takePartedRow.holds Try.pinned (OpenSpec.ofChange takePartedSpec)

/-- ITS FALSE NEIGHBOUR: 'it returns false'. Refute it at one input. -/
def takePartedWrong : ChangeSpec := { name := "takeParted", fn := fun _ => fun
  | [d1, d2, d3] => { results := [.lit (.bool false)], args := [d1, d2, d3] }
  | _ => none }
def TakePartedWrongFalsely : Prop := takePartedRow.holds Try.pinned (OpenSpec.ofChange takePartedWrong)

/-- 'deadwaxlaw01.TakeQuiet': WHATEVER THE INPUT: true; the input reads as it did. -/
def takeQuietSpec : ChangeSpec := { name := "takeQuiet", fn := fun _ => fun
  | [d1, d2, d3, d4] => { results := [.lit (.bool true)], args := [d1, d2, d3, d4] }
  | _ => none }
def takeQuietRow : OpenClaim := { program := "ytlnekinnblnciaa", sum := "f2692de063185d9a12b77fbd9605b4a910b8a3faca7b2508d0293154b9bee941", func := "deadwax/deadwaxlaw01.TakeQuiet", spec := "takeQuiet", unfollowed := true, recurses := true, apart := false }
def TakeQuietSaid : Prop := takeQuietRow.holds Try.pinned (OpenSpec.ofChange takeQuietSpec)

/-- ITS FALSE NEIGHBOUR: 'it returns false'. Refute it at one input. -/
def takeQuietWrong : ChangeSpec := { name := "takeQuiet", fn := fun _ => fun
  | [d1, d2, d3, d4] => { results := [.lit (.bool false)], args := [d1, d2, d3, d4] }
  | _ => none }
def TakeQuietWrongFalsely : Prop := takeQuietRow.holds Try.pinned (OpenSpec.ofChange takeQuietWrong)

/-- 'deadwaxlaw02.FilterCurves': WHATEVER THE INPUT: true; the input reads as it did. -/
def filterCurvesSpec : ChangeSpec := { name := "filterCurves", fn := fun _ => fun
  | [d1, d2] => { results := [.lit (.bool true)], args := [d1, d2] }
  | _ => none }
def filterCurvesRow : OpenClaim := { program := "ytlnekinnblnciaa", sum := "f2692de063185d9a12b77fbd9605b4a910b8a3faca7b2508d0293154b9bee941", func := "deadwax/deadwaxlaw02.FilterCurves", spec := "filterCurves", unfollowed := true, recurses := true, apart := false }
def FilterCurvesSaid : Prop := filterCurvesRow.holds Try.pinned (OpenSpec.ofChange filterCurvesSpec)

/-- ITS FALSE NEIGHBOUR: 'it returns false'. Refute it at one input. -/
def filterCurvesWrong : ChangeSpec := { name := "filterCurves", fn := fun _ => fun
  | [d1, d2] => { results := [.lit (.bool false)], args := [d1, d2] }
  | _ => none }
def FilterCurvesWrongFalsely : Prop := filterCurvesRow.holds Try.pinned (OpenSpec.ofChange filterCurvesWrong)

/-- 'deadwaxlaw02.FilterApplies': WHATEVER THE INPUT: true; the input reads as it did. -/
def filterAppliesSpec : ChangeSpec := { name := "filterApplies", fn := fun _ => fun
  | [d1, d2] => { results := [.lit (.bool true)], args := [d1, d2] }
  | _ => none }
def filterAppliesRow : OpenClaim := { program := "ytlnekinnblnciaa", sum := "f2692de063185d9a12b77fbd9605b4a910b8a3faca7b2508d0293154b9bee941", func := "deadwax/deadwaxlaw02.FilterApplies", spec := "filterApplies", unfollowed := true, recurses := true, apart := false }
def FilterAppliesSaid : Prop := filterAppliesRow.holds Try.pinned (OpenSpec.ofChange filterAppliesSpec)

/-- ITS FALSE NEIGHBOUR: 'it returns false'. Refute it at one input. -/
def filterAppliesWrong : ChangeSpec := { name := "filterApplies", fn := fun _ => fun
  | [d1, d2] => { results := [.lit (.bool false)], args := [d1, d2] }
  | _ => none }
def FilterAppliesWrongFalsely : Prop := filterAppliesRow.holds Try.pinned (OpenSpec.ofChange filterAppliesWrong)

/-- 'deadwaxlaw02.FilterBounds': WHATEVER THE INPUT: true; the input reads as it did. -/
def filterBoundsSpec : ChangeSpec := { name := "filterBounds", fn := fun _ => fun
  | [d1, d2] => { results := [.lit (.bool true)], args := [d1, d2] }
  | _ => none }
def filterBoundsRow : OpenClaim := { program := "ytlnekinnblnciaa", sum := "f2692de063185d9a12b77fbd9605b4a910b8a3faca7b2508d0293154b9bee941", func := "deadwax/deadwaxlaw02.FilterBounds", spec := "filterBounds", unfollowed := true, recurses := true, apart := false }
def FilterBoundsSaid : Prop := filterBoundsRow.holds Try.pinned (OpenSpec.ofChange filterBoundsSpec)

/-- ITS FALSE NEIGHBOUR: 'it returns false'. Refute it at one input. -/
def filterBoundsWrong : ChangeSpec := { name := "filterBounds", fn := fun _ => fun
  | [d1, d2] => { results := [.lit (.bool false)], args := [d1, d2] }
  | _ => none }
def FilterBoundsWrongFalsely : Prop := filterBoundsRow.holds Try.pinned (OpenSpec.ofChange filterBoundsWrong)

/-- 'deadwaxlaw02.FilterSplits': WHATEVER THE INPUT: true; the input reads as it did. -/
def filterSplitsSpec : ChangeSpec := { name := "filterSplits", fn := fun _ => fun
  | [d1, d2, d3] => { results := [.lit (.bool true)], args := [d1, d2, d3] }
  | _ => none }
def filterSplitsRow : OpenClaim := { program := "ytlnekinnblnciaa", sum := "f2692de063185d9a12b77fbd9605b4a910b8a3faca7b2508d0293154b9bee941", func := "deadwax/deadwaxlaw02.FilterSplits", spec := "filterSplits", unfollowed := true, recurses := true, apart := false }
def FilterSplitsSaid : Prop := filterSplitsRow.holds Try.pinned (OpenSpec.ofChange filterSplitsSpec)

/-- ITS FALSE NEIGHBOUR: 'it returns false'. Refute it at one input. -/
def filterSplitsWrong : ChangeSpec := { name := "filterSplits", fn := fun _ => fun
  | [d1, d2, d3] => { results := [.lit (.bool false)], args := [d1, d2, d3] }
  | _ => none }
def FilterSplitsWrongFalsely : Prop := filterSplitsRow.holds Try.pinned (OpenSpec.ofChange filterSplitsWrong)

/-- 'deadwaxlaw02.FilterGains': WHATEVER THE INPUT: true; the input reads as it did. -/
def filterGainsSpec : ChangeSpec := { name := "filterGains", fn := fun _ => fun
  | [d1, d2, d3, d4] => { results := [.lit (.bool true)], args := [d1, d2, d3, d4] }
  | _ => none }
def filterGainsRow : OpenClaim := { program := "ytlnekinnblnciaa", sum := "f2692de063185d9a12b77fbd9605b4a910b8a3faca7b2508d0293154b9bee941", func := "deadwax/deadwaxlaw02.FilterGains", spec := "filterGains", unfollowed := true, recurses := true, apart := false }
def FilterGainsSaid : Prop := filterGainsRow.holds Try.pinned (OpenSpec.ofChange filterGainsSpec)

/-- ITS FALSE NEIGHBOUR: 'it returns false'. Refute it at one input. -/
def filterGainsWrong : ChangeSpec := { name := "filterGains", fn := fun _ => fun
  | [d1, d2, d3, d4] => { results := [.lit (.bool false)], args := [d1, d2, d3, d4] }
  | _ => none }
def FilterGainsWrongFalsely : Prop := filterGainsRow.holds Try.pinned (OpenSpec.ofChange filterGainsWrong)

/- THE SECOND FORM. 'bulk': how many values and letters a reading holds, each counted each time it is reached (what is shared counts as often as it is met; a slice's spare places count too). A statement '..UptoSaid' is the law's where the arguments, and the package variables that the reading takes, are together of bulk at most 1048576: NARROWER than '..Said'. Prove '..Said' where nothing that the law and all that it calls make is longer than what came in: it says more and counts as full. Else prove '..UptoSaid'. A law counts once. -/
mutual
def uptoBulk {H : Type} : DataW H → Nat
  | .lit (.string bytes) => bytes.length + 1
  | .lit _ => 1
  | .nil => 1
  | .ptr d => uptoBulk d + 1
  | .slice elems spare => uptoBulkAll elems + uptoBulkAll spare + 1
  | .agg parts => uptoBulkAll parts + 1
  | .iface _ d => uptoBulk d + 1
  | .map entries => uptoBulkEntries entries + 1
  | .held _ => 1
def uptoBulkAll {H : Type} : List (DataW H) → Nat
  | [] => 0
  | d :: r => uptoBulk d + uptoBulkAll r
def uptoBulkEntries {H : Type} : List (Lit × DataW H) → Nat
  | [] => 0
  | x :: r => uptoBulkEntry x + uptoBulkEntries r
def uptoBulkEntry {H : Type} : Lit × DataW H → Nat
  | (.string bytes, d) => bytes.length + uptoBulk d + 1
  | (_, d) => uptoBulk d + 1
 end
def uptoSmall : (H : Type) → List (DataW H) → Bool := fun _ ds => decide (uptoBulkAll ds ≤ 1048576)
def OpenSpec.upto (s : _root_.Go.ChangeSpec) : _root_.Go.OpenSpec := { _root_.Go.OpenSpec.ofChange s with cond := some uptoSmall }

/-- 'deadwaxlaw01.TakePlaces', WHERE WHAT IT READS IS OF BULK AT MOST 1048576: true; the input reads as it did. -/
def takePlacesUptoRow : OpenClaim := { program := "ytlnekinnblnciaa", sum := "f2692de063185d9a12b77fbd9605b4a910b8a3faca7b2508d0293154b9bee941", func := "deadwax/deadwaxlaw01.TakePlaces", spec := "takePlaces", unfollowed := true, recurses := true, apart := false, narrowed := true }
def TakePlacesUptoSaid : Prop := takePlacesUptoRow.holds Try.pinned (OpenSpec.upto takePlacesSpec)

/-- 'deadwaxlaw01.TakeRenders', WHERE WHAT IT READS IS OF BULK AT MOST 1048576: true; the input reads as it did. -/
def takeRendersUptoRow : OpenClaim := { program := "ytlnekinnblnciaa", sum := "f2692de063185d9a12b77fbd9605b4a910b8a3faca7b2508d0293154b9bee941", func := "deadwax/deadwaxlaw01.TakeRenders", spec := "takeRenders", unfollowed := true, recurses := true, apart := false, narrowed := true }
def TakeRendersUptoSaid : Prop := takeRendersUptoRow.holds Try.pinned (OpenSpec.upto takeRendersSpec)

/-- 'deadwaxlaw01.TakeSplits', WHERE WHAT IT READS IS OF BULK AT MOST 1048576: true; the input reads as it did. -/
def takeSplitsUptoRow : OpenClaim := { program := "ytlnekinnblnciaa", sum := "f2692de063185d9a12b77fbd9605b4a910b8a3faca7b2508d0293154b9bee941", func := "deadwax/deadwaxlaw01.TakeSplits", spec := "takeSplits", unfollowed := true, recurses := true, apart := false, narrowed := true }
def TakeSplitsUptoSaid : Prop := takeSplitsUptoRow.holds Try.pinned (OpenSpec.upto takeSplitsSpec)

/-- 'deadwaxlaw01.TakeMeasures', WHERE WHAT IT READS IS OF BULK AT MOST 1048576: true; the input reads as it did. -/
def takeMeasuresUptoRow : OpenClaim := { program := "ytlnekinnblnciaa", sum := "f2692de063185d9a12b77fbd9605b4a910b8a3faca7b2508d0293154b9bee941", func := "deadwax/deadwaxlaw01.TakeMeasures", spec := "takeMeasures", unfollowed := true, recurses := true, apart := false, narrowed := true }
def TakeMeasuresUptoSaid : Prop := takeMeasuresUptoRow.holds Try.pinned (OpenSpec.upto takeMeasuresSpec)

/-- 'deadwaxlaw01.TakeSounds', WHERE WHAT IT READS IS OF BULK AT MOST 1048576: true; the input reads as it did. -/
def takeSoundsUptoRow : OpenClaim := { program := "ytlnekinnblnciaa", sum := "f2692de063185d9a12b77fbd9605b4a910b8a3faca7b2508d0293154b9bee941", func := "deadwax/deadwaxlaw01.TakeSounds", spec := "takeSounds", unfollowed := true, recurses := true, apart := false, narrowed := true }
def TakeSoundsUptoSaid : Prop := takeSoundsUptoRow.holds Try.pinned (OpenSpec.upto takeSoundsSpec)

/-- 'deadwaxlaw01.TakeParted', WHERE WHAT IT READS IS OF BULK AT MOST 1048576: true; the input reads as it did. -/
def takePartedUptoRow : OpenClaim := { program := "ytlnekinnblnciaa", sum := "f2692de063185d9a12b77fbd9605b4a910b8a3faca7b2508d0293154b9bee941", func := "deadwax/deadwaxlaw01.TakeParted", spec := "takeParted", unfollowed := true, recurses := true, apart := false, narrowed := true }
def TakePartedUptoSaid : Prop := takePartedUptoRow.holds Try.pinned (OpenSpec.upto takePartedSpec)

/-- 'deadwaxlaw01.TakeQuiet', WHERE WHAT IT READS IS OF BULK AT MOST 1048576: true; the input reads as it did. -/
def takeQuietUptoRow : OpenClaim := { program := "ytlnekinnblnciaa", sum := "f2692de063185d9a12b77fbd9605b4a910b8a3faca7b2508d0293154b9bee941", func := "deadwax/deadwaxlaw01.TakeQuiet", spec := "takeQuiet", unfollowed := true, recurses := true, apart := false, narrowed := true }
def TakeQuietUptoSaid : Prop := takeQuietUptoRow.holds Try.pinned (OpenSpec.upto takeQuietSpec)

/-- 'deadwaxlaw02.FilterCurves', WHERE WHAT IT READS IS OF BULK AT MOST 1048576: true; the input reads as it did. -/
def filterCurvesUptoRow : OpenClaim := { program := "ytlnekinnblnciaa", sum := "f2692de063185d9a12b77fbd9605b4a910b8a3faca7b2508d0293154b9bee941", func := "deadwax/deadwaxlaw02.FilterCurves", spec := "filterCurves", unfollowed := true, recurses := true, apart := false, narrowed := true }
def FilterCurvesUptoSaid : Prop := filterCurvesUptoRow.holds Try.pinned (OpenSpec.upto filterCurvesSpec)

/-- 'deadwaxlaw02.FilterApplies', WHERE WHAT IT READS IS OF BULK AT MOST 1048576: true; the input reads as it did. -/
def filterAppliesUptoRow : OpenClaim := { program := "ytlnekinnblnciaa", sum := "f2692de063185d9a12b77fbd9605b4a910b8a3faca7b2508d0293154b9bee941", func := "deadwax/deadwaxlaw02.FilterApplies", spec := "filterApplies", unfollowed := true, recurses := true, apart := false, narrowed := true }
def FilterAppliesUptoSaid : Prop := filterAppliesUptoRow.holds Try.pinned (OpenSpec.upto filterAppliesSpec)

/-- 'deadwaxlaw02.FilterBounds', WHERE WHAT IT READS IS OF BULK AT MOST 1048576: true; the input reads as it did. -/
def filterBoundsUptoRow : OpenClaim := { program := "ytlnekinnblnciaa", sum := "f2692de063185d9a12b77fbd9605b4a910b8a3faca7b2508d0293154b9bee941", func := "deadwax/deadwaxlaw02.FilterBounds", spec := "filterBounds", unfollowed := true, recurses := true, apart := false, narrowed := true }
def FilterBoundsUptoSaid : Prop := filterBoundsUptoRow.holds Try.pinned (OpenSpec.upto filterBoundsSpec)

/-- 'deadwaxlaw02.FilterSplits', WHERE WHAT IT READS IS OF BULK AT MOST 1048576: true; the input reads as it did. -/
def filterSplitsUptoRow : OpenClaim := { program := "ytlnekinnblnciaa", sum := "f2692de063185d9a12b77fbd9605b4a910b8a3faca7b2508d0293154b9bee941", func := "deadwax/deadwaxlaw02.FilterSplits", spec := "filterSplits", unfollowed := true, recurses := true, apart := false, narrowed := true }
def FilterSplitsUptoSaid : Prop := filterSplitsUptoRow.holds Try.pinned (OpenSpec.upto filterSplitsSpec)

/-- 'deadwaxlaw02.FilterGains', WHERE WHAT IT READS IS OF BULK AT MOST 1048576: true; the input reads as it did. -/
def filterGainsUptoRow : OpenClaim := { program := "ytlnekinnblnciaa", sum := "f2692de063185d9a12b77fbd9605b4a910b8a3faca7b2508d0293154b9bee941", func := "deadwax/deadwaxlaw02.FilterGains", spec := "filterGains", unfollowed := true, recurses := true, apart := false, narrowed := true }
def FilterGainsUptoSaid : Prop := filterGainsUptoRow.holds Try.pinned (OpenSpec.upto filterGainsSpec)

end Rows
end Go.Proofs.Ytlnekinnblnciaa
