/-
  No cell of these rows narrows 'for every input' (looked for: loops, veiled, ifaces, maps, wideKeys, modest, calm, conditions, laid).
  DERIVED. THE GIVEN ROWS OF THIS SEAT. 5 by the template 'for every input the law returns true; each argument reads behind the call as it read before'; 0 by the template 'total and deterministic' (their statements: YthdflofdjhjjhaaTotals.lean).
  GIVEN WITH THE SEED: the statements are not yours to turn. If you find one false, say at which input.
  Laid BY PROGRAM, IN A SANDBOX (cutbox-rows.mjs): the forced cells as the released guide's own fill.sh prints them over the translation a67b38e151075fa9… (all of the seat's roots in one cut). By AI agents, Wed Nov 11 2026. No macro, syntax, notation, axiom, sorry.
-/
import Derived.Test.YthdflofdjhjjhaaChecked
import GoSem.Claim
import GoSem.ClaimJoined
import GoSem.ClaimMapViews
import Derived.JoinedTies
import Derived.KernelRfl
namespace Go.Proofs.Ythdflofdjhjjhaa
/- THE CELL 'sum', in the pinned program and in every row, IS THE sha256 OF THE DUMP (.gsa) THAT YthdflofdjhjjhaaProg.lean LOADS. Nothing in Lean hashes anything: it is a label: what it is worth is what the hold of that sum in a sandbox is worth. -/
noncomputable def Try.pinned : Pinned := { name := "ythdflofdjhjjhaa", sum := "a67b38e151075fa9580cd9cb01c12f82fc39d8cd884a5038ec5dc4d2bc4e5536", checked := Try.checked }
namespace Rows
def none {H : Type} : Left H := { results := [], args := [] }

/-- 'deadwaxlaw02.FilterApplies': WHATEVER THE INPUT: true; the input reads as it did. -/
def filterAppliesSpec : ChangeSpec := { name := "filterApplies", fn := fun _ => fun
  | [d1, d2] => { results := [.lit (.bool true)], args := [d1, d2] }
  | _ => none }
def filterAppliesRow : OpenClaim := { program := "ythdflofdjhjjhaa", sum := "a67b38e151075fa9580cd9cb01c12f82fc39d8cd884a5038ec5dc4d2bc4e5536", func := "deadwax/deadwaxlaw02.FilterApplies", spec := "filterApplies", unfollowed := true, recurses := true, apart := false }
def FilterAppliesSaid : Prop := filterAppliesRow.holds Try.pinned (OpenSpec.ofChange filterAppliesSpec)

/-- ITS FALSE NEIGHBOUR: 'it returns false'. Refute it at one input. -/
def filterAppliesWrong : ChangeSpec := { name := "filterApplies", fn := fun _ => fun
  | [d1, d2] => { results := [.lit (.bool false)], args := [d1, d2] }
  | _ => none }
def FilterAppliesWrongFalsely : Prop := filterAppliesRow.holds Try.pinned (OpenSpec.ofChange filterAppliesWrong)

/-- 'deadwaxlaw02.FilterChains': WHATEVER THE INPUT: true; the input reads as it did. -/
def filterChainsSpec : ChangeSpec := { name := "filterChains", fn := fun _ => fun
  | [d1, d2] => { results := [.lit (.bool true)], args := [d1, d2] }
  | _ => none }
def filterChainsRow : OpenClaim := { program := "ythdflofdjhjjhaa", sum := "a67b38e151075fa9580cd9cb01c12f82fc39d8cd884a5038ec5dc4d2bc4e5536", func := "deadwax/deadwaxlaw02.FilterChains", spec := "filterChains", unfollowed := true, recurses := true, apart := false }
def FilterChainsSaid : Prop := filterChainsRow.holds Try.pinned (OpenSpec.ofChange filterChainsSpec)

/-- ITS FALSE NEIGHBOUR: 'it returns false'. Refute it at one input. -/
def filterChainsWrong : ChangeSpec := { name := "filterChains", fn := fun _ => fun
  | [d1, d2] => { results := [.lit (.bool false)], args := [d1, d2] }
  | _ => none }
def FilterChainsWrongFalsely : Prop := filterChainsRow.holds Try.pinned (OpenSpec.ofChange filterChainsWrong)

/-- 'deadwaxlaw02.FilterMatches': WHATEVER THE INPUT: true; the input reads as it did. -/
def filterMatchesSpec : ChangeSpec := { name := "filterMatches", fn := fun _ => fun
  | [d1, d2, d3] => { results := [.lit (.bool true)], args := [d1, d2, d3] }
  | _ => none }
def filterMatchesRow : OpenClaim := { program := "ythdflofdjhjjhaa", sum := "a67b38e151075fa9580cd9cb01c12f82fc39d8cd884a5038ec5dc4d2bc4e5536", func := "deadwax/deadwaxlaw02.FilterMatches", spec := "filterMatches", unfollowed := true, recurses := true, apart := false }
def FilterMatchesSaid : Prop := filterMatchesRow.holds Try.pinned (OpenSpec.ofChange filterMatchesSpec)

/-- ITS FALSE NEIGHBOUR: 'it returns false'. Refute it at one input. -/
def filterMatchesWrong : ChangeSpec := { name := "filterMatches", fn := fun _ => fun
  | [d1, d2, d3] => { results := [.lit (.bool false)], args := [d1, d2, d3] }
  | _ => none }
def FilterMatchesWrongFalsely : Prop := filterMatchesRow.holds Try.pinned (OpenSpec.ofChange filterMatchesWrong)

/-- 'deadwaxlaw02.FilterUndone': WHATEVER THE INPUT: true; the input reads as it did. -/
def filterUndoneSpec : ChangeSpec := { name := "filterUndone", fn := fun _ => fun
  | [d1, d2, d3] => { results := [.lit (.bool true)], args := [d1, d2, d3] }
  | _ => none }
def filterUndoneRow : OpenClaim := { program := "ythdflofdjhjjhaa", sum := "a67b38e151075fa9580cd9cb01c12f82fc39d8cd884a5038ec5dc4d2bc4e5536", func := "deadwax/deadwaxlaw02.FilterUndone", spec := "filterUndone", unfollowed := true, recurses := true, apart := false }
def FilterUndoneSaid : Prop := filterUndoneRow.holds Try.pinned (OpenSpec.ofChange filterUndoneSpec)

/-- ITS FALSE NEIGHBOUR: 'it returns false'. Refute it at one input. -/
def filterUndoneWrong : ChangeSpec := { name := "filterUndone", fn := fun _ => fun
  | [d1, d2, d3] => { results := [.lit (.bool false)], args := [d1, d2, d3] }
  | _ => none }
def FilterUndoneWrongFalsely : Prop := filterUndoneRow.holds Try.pinned (OpenSpec.ofChange filterUndoneWrong)

/-- 'deadwaxlaw02.FilterBounded': WHATEVER THE INPUT: true; the input reads as it did. -/
def filterBoundedSpec : ChangeSpec := { name := "filterBounded", fn := fun _ => fun
  | [d1, d2, d3] => { results := [.lit (.bool true)], args := [d1, d2, d3] }
  | _ => none }
def filterBoundedRow : OpenClaim := { program := "ythdflofdjhjjhaa", sum := "a67b38e151075fa9580cd9cb01c12f82fc39d8cd884a5038ec5dc4d2bc4e5536", func := "deadwax/deadwaxlaw02.FilterBounded", spec := "filterBounded", unfollowed := true, recurses := true, apart := false }
def FilterBoundedSaid : Prop := filterBoundedRow.holds Try.pinned (OpenSpec.ofChange filterBoundedSpec)

/-- ITS FALSE NEIGHBOUR: 'it returns false'. Refute it at one input. -/
def filterBoundedWrong : ChangeSpec := { name := "filterBounded", fn := fun _ => fun
  | [d1, d2, d3] => { results := [.lit (.bool false)], args := [d1, d2, d3] }
  | _ => none }
def FilterBoundedWrongFalsely : Prop := filterBoundedRow.holds Try.pinned (OpenSpec.ofChange filterBoundedWrong)

/- THE SECOND FORM. 'bulk': how many values and letters a reading holds, each counted each time it is reached (what is shared counts as often as it is met; a slice's spare places count too). A statement '..UptoSaid' is the law's where the arguments, and the package variables that the reading takes, are together of bulk at most 1048576: NARROWER than '..Said'. Prove '..Said' where nothing that the law and all that it calls make is longer than what came in: it says more and counts as full. Else prove '..UptoSaid'. A law counts once. -/
mutual
def uptoBulk {H : Type} : DataW H → Nat
  | .lit (.string bytes) => bytes.length + 1
  | .lit _ => 1
  | .nil => 1
  | .ptr d => uptoBulk d + 1
  | .slice elems spare => uptoBulkAll elems + uptoBulkAll spare + 1
  | .agg parts => uptoBulkAll parts + 1
  | .iface _ d => uptoBulk d + 1
  | .map entries => uptoBulkEntries entries + 1
  | .held _ => 1
def uptoBulkAll {H : Type} : List (DataW H) → Nat
  | [] => 0
  | d :: r => uptoBulk d + uptoBulkAll r
def uptoBulkEntries {H : Type} : List (Lit × DataW H) → Nat
  | [] => 0
  | x :: r => uptoBulkEntry x + uptoBulkEntries r
def uptoBulkEntry {H : Type} : Lit × DataW H → Nat
  | (.string bytes, d) => bytes.length + uptoBulk d + 1
  | (_, d) => uptoBulk d + 1
 end
def uptoSmall : (H : Type) → List (DataW H) → Bool := fun _ ds => decide (uptoBulkAll ds ≤ 1048576)
def OpenSpec.upto (s : _root_.Go.ChangeSpec) : _root_.Go.OpenSpec := { _root_.Go.OpenSpec.ofChange s with cond := some uptoSmall }

/-- 'deadwaxlaw02.FilterApplies', WHERE WHAT IT READS IS OF BULK AT MOST 1048576: true; the input reads as it did. -/
def filterAppliesUptoRow : OpenClaim := { program := "ythdflofdjhjjhaa", sum := "a67b38e151075fa9580cd9cb01c12f82fc39d8cd884a5038ec5dc4d2bc4e5536", func := "deadwax/deadwaxlaw02.FilterApplies", spec := "filterApplies", unfollowed := true, recurses := true, apart := false, narrowed := true }
def FilterAppliesUptoSaid : Prop := filterAppliesUptoRow.holds Try.pinned (OpenSpec.upto filterAppliesSpec)

/-- 'deadwaxlaw02.FilterChains', WHERE WHAT IT READS IS OF BULK AT MOST 1048576: true; the input reads as it did. -/
def filterChainsUptoRow : OpenClaim := { program := "ythdflofdjhjjhaa", sum := "a67b38e151075fa9580cd9cb01c12f82fc39d8cd884a5038ec5dc4d2bc4e5536", func := "deadwax/deadwaxlaw02.FilterChains", spec := "filterChains", unfollowed := true, recurses := true, apart := false, narrowed := true }
def FilterChainsUptoSaid : Prop := filterChainsUptoRow.holds Try.pinned (OpenSpec.upto filterChainsSpec)

/-- 'deadwaxlaw02.FilterMatches', WHERE WHAT IT READS IS OF BULK AT MOST 1048576: true; the input reads as it did. -/
def filterMatchesUptoRow : OpenClaim := { program := "ythdflofdjhjjhaa", sum := "a67b38e151075fa9580cd9cb01c12f82fc39d8cd884a5038ec5dc4d2bc4e5536", func := "deadwax/deadwaxlaw02.FilterMatches", spec := "filterMatches", unfollowed := true, recurses := true, apart := false, narrowed := true }
def FilterMatchesUptoSaid : Prop := filterMatchesUptoRow.holds Try.pinned (OpenSpec.upto filterMatchesSpec)

/-- 'deadwaxlaw02.FilterUndone', WHERE WHAT IT READS IS OF BULK AT MOST 1048576: true; the input reads as it did. -/
def filterUndoneUptoRow : OpenClaim := { program := "ythdflofdjhjjhaa", sum := "a67b38e151075fa9580cd9cb01c12f82fc39d8cd884a5038ec5dc4d2bc4e5536", func := "deadwax/deadwaxlaw02.FilterUndone", spec := "filterUndone", unfollowed := true, recurses := true, apart := false, narrowed := true }
def FilterUndoneUptoSaid : Prop := filterUndoneUptoRow.holds Try.pinned (OpenSpec.upto filterUndoneSpec)

/-- 'deadwaxlaw02.FilterBounded', WHERE WHAT IT READS IS OF BULK AT MOST 1048576: true; the input reads as it did. -/
def filterBoundedUptoRow : OpenClaim := { program := "ythdflofdjhjjhaa", sum := "a67b38e151075fa9580cd9cb01c12f82fc39d8cd884a5038ec5dc4d2bc4e5536", func := "deadwax/deadwaxlaw02.FilterBounded", spec := "filterBounded", unfollowed := true, recurses := true, apart := false, narrowed := true }
def FilterBoundedUptoSaid : Prop := filterBoundedUptoRow.holds Try.pinned (OpenSpec.upto filterBoundedSpec)

end Rows
end Go.Proofs.Ythdflofdjhjjhaa
