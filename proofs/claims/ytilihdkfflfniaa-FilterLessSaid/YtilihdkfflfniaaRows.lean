/-
  No cell of these rows narrows 'for every input' (looked for: loops, veiled, ifaces, maps, wideKeys, modest, calm, conditions, laid).
  DERIVED. THE GIVEN ROWS OF THIS SEAT. 9 by the template 'for every input the law returns true; each argument reads behind the call as it read before'; 0 by the template 'total and deterministic' (their statements: YtilihdkfflfniaaTotals.lean).
  GIVEN WITH THE SEED: the statements are not yours to turn. If you find one false, say at which input.
  Laid BY PROGRAM, IN A SANDBOX (cutbox-rows.mjs): the forced cells as the released guide's own fill.sh prints them over the translation e2ace2e17f78fd87… (all of the seat's roots in one cut). By AI agents, Wed Nov 11 2026. No macro, syntax, notation, axiom, sorry.
-/
import Derived.Test.YtilihdkfflfniaaChecked
import GoSem.Claim
import GoSem.ClaimJoined
import GoSem.ClaimMapViews
import Derived.JoinedTies
import Derived.KernelRfl
namespace Go.Proofs.Ytilihdkfflfniaa
/- THE CELL 'sum', in the pinned program and in every row, IS THE sha256 OF THE DUMP (.gsa) THAT YtilihdkfflfniaaProg.lean LOADS. Nothing in Lean hashes anything: it is a label: what it is worth is what the hold of that sum in a sandbox is worth. -/
noncomputable def Try.pinned : Pinned := { name := "ytilihdkfflfniaa", sum := "e2ace2e17f78fd87db626cad555038ce1e6832f3a4fa3659d2d90fc669aef477", checked := Try.checked }
namespace Rows
def none {H : Type} : Left H := { results := [], args := [] }

/-- 'deadwaxlaw02.FilterApplies': WHATEVER THE INPUT: true; the input reads as it did. -/
def filterAppliesSpec : ChangeSpec := { name := "filterApplies", fn := fun _ => fun
  | [d1, d2] => { results := [.lit (.bool true)], args := [d1, d2] }
  | _ => none }
def filterAppliesRow : OpenClaim := { program := "ytilihdkfflfniaa", sum := "e2ace2e17f78fd87db626cad555038ce1e6832f3a4fa3659d2d90fc669aef477", func := "deadwax/deadwaxlaw02.FilterApplies", spec := "filterApplies", unfollowed := true, recurses := true, apart := false }
def FilterAppliesSaid : Prop := filterAppliesRow.holds Try.pinned (OpenSpec.ofChange filterAppliesSpec)

/-- ITS FALSE NEIGHBOUR: 'it returns false'. Refute it at one input. -/
def filterAppliesWrong : ChangeSpec := { name := "filterApplies", fn := fun _ => fun
  | [d1, d2] => { results := [.lit (.bool false)], args := [d1, d2] }
  | _ => none }
def FilterAppliesWrongFalsely : Prop := filterAppliesRow.holds Try.pinned (OpenSpec.ofChange filterAppliesWrong)

/-- 'deadwaxlaw02.FilterChains': WHATEVER THE INPUT: true; the input reads as it did. -/
def filterChainsSpec : ChangeSpec := { name := "filterChains", fn := fun _ => fun
  | [d1, d2] => { results := [.lit (.bool true)], args := [d1, d2] }
  | _ => none }
def filterChainsRow : OpenClaim := { program := "ytilihdkfflfniaa", sum := "e2ace2e17f78fd87db626cad555038ce1e6832f3a4fa3659d2d90fc669aef477", func := "deadwax/deadwaxlaw02.FilterChains", spec := "filterChains", unfollowed := true, recurses := true, apart := false }
def FilterChainsSaid : Prop := filterChainsRow.holds Try.pinned (OpenSpec.ofChange filterChainsSpec)

/-- ITS FALSE NEIGHBOUR: 'it returns false'. Refute it at one input. -/
def filterChainsWrong : ChangeSpec := { name := "filterChains", fn := fun _ => fun
  | [d1, d2] => { results := [.lit (.bool false)], args := [d1, d2] }
  | _ => none }
def FilterChainsWrongFalsely : Prop := filterChainsRow.holds Try.pinned (OpenSpec.ofChange filterChainsWrong)

/-- 'deadwaxlaw02.FilterSplits': WHATEVER THE INPUT: true; the input reads as it did. -/
def filterSplitsSpec : ChangeSpec := { name := "filterSplits", fn := fun _ => fun
  | [d1, d2, d3] => { results := [.lit (.bool true)], args := [d1, d2, d3] }
  | _ => none }
def filterSplitsRow : OpenClaim := { program := "ytilihdkfflfniaa", sum := "e2ace2e17f78fd87db626cad555038ce1e6832f3a4fa3659d2d90fc669aef477", func := "deadwax/deadwaxlaw02.FilterSplits", spec := "filterSplits", unfollowed := true, recurses := true, apart := false }
def FilterSplitsSaid : Prop := filterSplitsRow.holds Try.pinned (OpenSpec.ofChange filterSplitsSpec)

/-- ITS FALSE NEIGHBOUR: 'it returns false'. Refute it at one input. -/
def filterSplitsWrong : ChangeSpec := { name := "filterSplits", fn := fun _ => fun
  | [d1, d2, d3] => { results := [.lit (.bool false)], args := [d1, d2, d3] }
  | _ => none }
def FilterSplitsWrongFalsely : Prop := filterSplitsRow.holds Try.pinned (OpenSpec.ofChange filterSplitsWrong)

/-- 'deadwaxlaw02.FilterSides': WHATEVER THE INPUT: true; the input reads as it did. -/
def filterSidesSpec : ChangeSpec := { name := "filterSides", fn := fun _ => fun
  | [d1, d2] => { results := [.lit (.bool true)], args := [d1, d2] }
  | _ => none }
def filterSidesRow : OpenClaim := { program := "ytilihdkfflfniaa", sum := "e2ace2e17f78fd87db626cad555038ce1e6832f3a4fa3659d2d90fc669aef477", func := "deadwax/deadwaxlaw02.FilterSides", spec := "filterSides", unfollowed := true, recurses := true, apart := false }
def FilterSidesSaid : Prop := filterSidesRow.holds Try.pinned (OpenSpec.ofChange filterSidesSpec)

/-- ITS FALSE NEIGHBOUR: 'it returns false'. Refute it at one input. -/
def filterSidesWrong : ChangeSpec := { name := "filterSides", fn := fun _ => fun
  | [d1, d2] => { results := [.lit (.bool false)], args := [d1, d2] }
  | _ => none }
def FilterSidesWrongFalsely : Prop := filterSidesRow.holds Try.pinned (OpenSpec.ofChange filterSidesWrong)

/-- 'deadwaxlaw02.FilterGains': WHATEVER THE INPUT: true; the input reads as it did. -/
def filterGainsSpec : ChangeSpec := { name := "filterGains", fn := fun _ => fun
  | [d1, d2, d3, d4] => { results := [.lit (.bool true)], args := [d1, d2, d3, d4] }
  | _ => none }
def filterGainsRow : OpenClaim := { program := "ytilihdkfflfniaa", sum := "e2ace2e17f78fd87db626cad555038ce1e6832f3a4fa3659d2d90fc669aef477", func := "deadwax/deadwaxlaw02.FilterGains", spec := "filterGains", unfollowed := true, recurses := true, apart := false }
def FilterGainsSaid : Prop := filterGainsRow.holds Try.pinned (OpenSpec.ofChange filterGainsSpec)

/-- ITS FALSE NEIGHBOUR: 'it returns false'. Refute it at one input. -/
def filterGainsWrong : ChangeSpec := { name := "filterGains", fn := fun _ => fun
  | [d1, d2, d3, d4] => { results := [.lit (.bool false)], args := [d1, d2, d3, d4] }
  | _ => none }
def FilterGainsWrongFalsely : Prop := filterGainsRow.holds Try.pinned (OpenSpec.ofChange filterGainsWrong)

/-- 'deadwaxlaw02.FilterUndone': WHATEVER THE INPUT: true; the input reads as it did. -/
def filterUndoneSpec : ChangeSpec := { name := "filterUndone", fn := fun _ => fun
  | [d1, d2, d3] => { results := [.lit (.bool true)], args := [d1, d2, d3] }
  | _ => none }
def filterUndoneRow : OpenClaim := { program := "ytilihdkfflfniaa", sum := "e2ace2e17f78fd87db626cad555038ce1e6832f3a4fa3659d2d90fc669aef477", func := "deadwax/deadwaxlaw02.FilterUndone", spec := "filterUndone", unfollowed := true, recurses := true, apart := false }
def FilterUndoneSaid : Prop := filterUndoneRow.holds Try.pinned (OpenSpec.ofChange filterUndoneSpec)

/-- ITS FALSE NEIGHBOUR: 'it returns false'. Refute it at one input. -/
def filterUndoneWrong : ChangeSpec := { name := "filterUndone", fn := fun _ => fun
  | [d1, d2, d3] => { results := [.lit (.bool false)], args := [d1, d2, d3] }
  | _ => none }
def FilterUndoneWrongFalsely : Prop := filterUndoneRow.holds Try.pinned (OpenSpec.ofChange filterUndoneWrong)

/-- 'deadwaxlaw02.FilterIdeal': WHATEVER THE INPUT: true; the input reads as it did. -/
def filterIdealSpec : ChangeSpec := { name := "filterIdeal", fn := fun _ => fun
  | [d1, d2] => { results := [.lit (.bool true)], args := [d1, d2] }
  | _ => none }
def filterIdealRow : OpenClaim := { program := "ytilihdkfflfniaa", sum := "e2ace2e17f78fd87db626cad555038ce1e6832f3a4fa3659d2d90fc669aef477", func := "deadwax/deadwaxlaw02.FilterIdeal", spec := "filterIdeal", unfollowed := true, recurses := true, apart := false }
def FilterIdealSaid : Prop := filterIdealRow.holds Try.pinned (OpenSpec.ofChange filterIdealSpec)

/-- ITS FALSE NEIGHBOUR: 'it returns false'. Refute it at one input. -/
def filterIdealWrong : ChangeSpec := { name := "filterIdeal", fn := fun _ => fun
  | [d1, d2] => { results := [.lit (.bool false)], args := [d1, d2] }
  | _ => none }
def FilterIdealWrongFalsely : Prop := filterIdealRow.holds Try.pinned (OpenSpec.ofChange filterIdealWrong)

/-- 'deadwaxlaw02.FilterFair': WHATEVER THE INPUT: true; the input reads as it did. -/
def filterFairSpec : ChangeSpec := { name := "filterFair", fn := fun _ => fun
  | [d1, d2, d3, d4] => { results := [.lit (.bool true)], args := [d1, d2, d3, d4] }
  | _ => none }
def filterFairRow : OpenClaim := { program := "ytilihdkfflfniaa", sum := "e2ace2e17f78fd87db626cad555038ce1e6832f3a4fa3659d2d90fc669aef477", func := "deadwax/deadwaxlaw02.FilterFair", spec := "filterFair", unfollowed := true, recurses := true, apart := false }
def FilterFairSaid : Prop := filterFairRow.holds Try.pinned (OpenSpec.ofChange filterFairSpec)

/-- ITS FALSE NEIGHBOUR: 'it returns false'. Refute it at one input. -/
def filterFairWrong : ChangeSpec := { name := "filterFair", fn := fun _ => fun
  | [d1, d2, d3, d4] => { results := [.lit (.bool false)], args := [d1, d2, d3, d4] }
  | _ => none }
def FilterFairWrongFalsely : Prop := filterFairRow.holds Try.pinned (OpenSpec.ofChange filterFairWrong)

/-- 'deadwaxlaw02.FilterLess': WHATEVER THE INPUT: true; the input reads as it did. -/
def filterLessSpec : ChangeSpec := { name := "filterLess", fn := fun _ => fun
  | [d1, d2, d3, d4, d5] => { results := [.lit (.bool true)], args := [d1, d2, d3, d4, d5] }
  | _ => none }
def filterLessRow : OpenClaim := { program := "ytilihdkfflfniaa", sum := "e2ace2e17f78fd87db626cad555038ce1e6832f3a4fa3659d2d90fc669aef477", func := "deadwax/deadwaxlaw02.FilterLess", spec := "filterLess", unfollowed := true, recurses := true, apart := false }
def FilterLessSaid : Prop := filterLessRow.holds Try.pinned (OpenSpec.ofChange filterLessSpec)

/-- ITS FALSE NEIGHBOUR: 'it returns false'. Refute it at one input. -/
def filterLessWrong : ChangeSpec := { name := "filterLess", fn := fun _ => fun
  | [d1, d2, d3, d4, d5] => { results := [.lit (.bool false)], args := [d1, d2, d3, d4, d5] }
  | _ => none }
def FilterLessWrongFalsely : Prop := filterLessRow.holds Try.pinned (OpenSpec.ofChange filterLessWrong)

/- THE SECOND FORM. 'bulk': how many values and letters a reading holds, each counted each time it is reached (what is shared counts as often as it is met; a slice's spare places count too). A statement '..UptoSaid' is the law's where the arguments, and the package variables that the reading takes, are together of bulk at most 1048576: NARROWER than '..Said'. Prove '..Said' where nothing that the law and all that it calls make is longer than what came in: it says more and counts as full. Else prove '..UptoSaid'. A law counts once. -/
mutual
def uptoBulk {H : Type} : DataW H → Nat
  | .lit (.string bytes) => bytes.length + 1
  | .lit _ => 1
  | .nil => 1
  | .ptr d => uptoBulk d + 1
  | .slice elems spare => uptoBulkAll elems + uptoBulkAll spare + 1
  | .agg parts => uptoBulkAll parts + 1
  | .iface _ d => uptoBulk d + 1
  | .map entries => uptoBulkEntries entries + 1
  | .held _ => 1
def uptoBulkAll {H : Type} : List (DataW H) → Nat
  | [] => 0
  | d :: r => uptoBulk d + uptoBulkAll r
def uptoBulkEntries {H : Type} : List (Lit × DataW H) → Nat
  | [] => 0
  | x :: r => uptoBulkEntry x + uptoBulkEntries r
def uptoBulkEntry {H : Type} : Lit × DataW H → Nat
  | (.string bytes, d) => bytes.length + uptoBulk d + 1
  | (_, d) => uptoBulk d + 1
 end
def uptoSmall : (H : Type) → List (DataW H) → Bool := fun _ ds => decide (uptoBulkAll ds ≤ 1048576)
def OpenSpec.upto (s : _root_.Go.ChangeSpec) : _root_.Go.OpenSpec := { _root_.Go.OpenSpec.ofChange s with cond := some uptoSmall }

/-- 'deadwaxlaw02.FilterApplies', WHERE WHAT IT READS IS OF BULK AT MOST 1048576: true; the input reads as it did. -/
def filterAppliesUptoRow : OpenClaim := { program := "ytilihdkfflfniaa", sum := "e2ace2e17f78fd87db626cad555038ce1e6832f3a4fa3659d2d90fc669aef477", func := "deadwax/deadwaxlaw02.FilterApplies", spec := "filterApplies", unfollowed := true, recurses := true, apart := false, narrowed := true }
def FilterAppliesUptoSaid : Prop := filterAppliesUptoRow.holds Try.pinned (OpenSpec.upto filterAppliesSpec)

/-- 'deadwaxlaw02.FilterChains', WHERE WHAT IT READS IS OF BULK AT MOST 1048576: true; the input reads as it did. -/
def filterChainsUptoRow : OpenClaim := { program := "ytilihdkfflfniaa", sum := "e2ace2e17f78fd87db626cad555038ce1e6832f3a4fa3659d2d90fc669aef477", func := "deadwax/deadwaxlaw02.FilterChains", spec := "filterChains", unfollowed := true, recurses := true, apart := false, narrowed := true }
def FilterChainsUptoSaid : Prop := filterChainsUptoRow.holds Try.pinned (OpenSpec.upto filterChainsSpec)

/-- 'deadwaxlaw02.FilterSplits', WHERE WHAT IT READS IS OF BULK AT MOST 1048576: true; the input reads as it did. -/
def filterSplitsUptoRow : OpenClaim := { program := "ytilihdkfflfniaa", sum := "e2ace2e17f78fd87db626cad555038ce1e6832f3a4fa3659d2d90fc669aef477", func := "deadwax/deadwaxlaw02.FilterSplits", spec := "filterSplits", unfollowed := true, recurses := true, apart := false, narrowed := true }
def FilterSplitsUptoSaid : Prop := filterSplitsUptoRow.holds Try.pinned (OpenSpec.upto filterSplitsSpec)

/-- 'deadwaxlaw02.FilterSides', WHERE WHAT IT READS IS OF BULK AT MOST 1048576: true; the input reads as it did. -/
def filterSidesUptoRow : OpenClaim := { program := "ytilihdkfflfniaa", sum := "e2ace2e17f78fd87db626cad555038ce1e6832f3a4fa3659d2d90fc669aef477", func := "deadwax/deadwaxlaw02.FilterSides", spec := "filterSides", unfollowed := true, recurses := true, apart := false, narrowed := true }
def FilterSidesUptoSaid : Prop := filterSidesUptoRow.holds Try.pinned (OpenSpec.upto filterSidesSpec)

/-- 'deadwaxlaw02.FilterGains', WHERE WHAT IT READS IS OF BULK AT MOST 1048576: true; the input reads as it did. -/
def filterGainsUptoRow : OpenClaim := { program := "ytilihdkfflfniaa", sum := "e2ace2e17f78fd87db626cad555038ce1e6832f3a4fa3659d2d90fc669aef477", func := "deadwax/deadwaxlaw02.FilterGains", spec := "filterGains", unfollowed := true, recurses := true, apart := false, narrowed := true }
def FilterGainsUptoSaid : Prop := filterGainsUptoRow.holds Try.pinned (OpenSpec.upto filterGainsSpec)

/-- 'deadwaxlaw02.FilterUndone', WHERE WHAT IT READS IS OF BULK AT MOST 1048576: true; the input reads as it did. -/
def filterUndoneUptoRow : OpenClaim := { program := "ytilihdkfflfniaa", sum := "e2ace2e17f78fd87db626cad555038ce1e6832f3a4fa3659d2d90fc669aef477", func := "deadwax/deadwaxlaw02.FilterUndone", spec := "filterUndone", unfollowed := true, recurses := true, apart := false, narrowed := true }
def FilterUndoneUptoSaid : Prop := filterUndoneUptoRow.holds Try.pinned (OpenSpec.upto filterUndoneSpec)

/-- 'deadwaxlaw02.FilterIdeal', WHERE WHAT IT READS IS OF BULK AT MOST 1048576: true; the input reads as it did. -/
def filterIdealUptoRow : OpenClaim := { program := "ytilihdkfflfniaa", sum := "e2ace2e17f78fd87db626cad555038ce1e6832f3a4fa3659d2d90fc669aef477", func := "deadwax/deadwaxlaw02.FilterIdeal", spec := "filterIdeal", unfollowed := true, recurses := true, apart := false, narrowed := true }
def FilterIdealUptoSaid : Prop := filterIdealUptoRow.holds Try.pinned (OpenSpec.upto filterIdealSpec)

/-- 'deadwaxlaw02.FilterFair', WHERE WHAT IT READS IS OF BULK AT MOST 1048576: true; the input reads as it did. -/
def filterFairUptoRow : OpenClaim := { program := "ytilihdkfflfniaa", sum := "e2ace2e17f78fd87db626cad555038ce1e6832f3a4fa3659d2d90fc669aef477", func := "deadwax/deadwaxlaw02.FilterFair", spec := "filterFair", unfollowed := true, recurses := true, apart := false, narrowed := true }
def FilterFairUptoSaid : Prop := filterFairUptoRow.holds Try.pinned (OpenSpec.upto filterFairSpec)

/-- 'deadwaxlaw02.FilterLess', WHERE WHAT IT READS IS OF BULK AT MOST 1048576: true; the input reads as it did. -/
def filterLessUptoRow : OpenClaim := { program := "ytilihdkfflfniaa", sum := "e2ace2e17f78fd87db626cad555038ce1e6832f3a4fa3659d2d90fc669aef477", func := "deadwax/deadwaxlaw02.FilterLess", spec := "filterLess", unfollowed := true, recurses := true, apart := false, narrowed := true }
def FilterLessUptoSaid : Prop := filterLessUptoRow.holds Try.pinned (OpenSpec.upto filterLessSpec)

end Rows
end Go.Proofs.Ytilihdkfflfniaa
