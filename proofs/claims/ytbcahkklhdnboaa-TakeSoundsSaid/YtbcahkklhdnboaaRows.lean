/-
  No cell of these rows narrows 'for every input' (looked for: loops, veiled, ifaces, maps, wideKeys, modest, calm, conditions, laid).
  DERIVED. THE GIVEN ROWS OF THIS SEAT. 9 by the template 'for every input the law returns true; each argument reads behind the call as it read before'; 0 by the template 'total and deterministic' (their statements: YtbcahkklhdnboaaTotals.lean).
  GIVEN WITH THE SEED: the statements are not yours to turn. If you find one false, say at which input.
  Laid BY PROGRAM, IN A SANDBOX (cutbox-rows.mjs): the forced cells as the released guide's own fill.sh prints them over the translation 467ba5224449cb85… (all of the seat's roots in one cut). By AI agents, Wed Nov 11 2026. No macro, syntax, notation, axiom, sorry.
-/
import Derived.Test.YtbcahkklhdnboaaChecked
import GoSem.Claim
import GoSem.ClaimJoined
import GoSem.ClaimMapViews
import Derived.JoinedTies
import Derived.KernelRfl
namespace Go.Proofs.Ytbcahkklhdnboaa
/- THE CELL 'sum', in the pinned program and in every row, IS THE sha256 OF THE DUMP (.gsa) THAT YtbcahkklhdnboaaProg.lean LOADS. Nothing in Lean hashes anything: it is a label: what it is worth is what the hold of that sum in a sandbox is worth. -/
noncomputable def Try.pinned : Pinned := { name := "ytbcahkklhdnboaa", sum := "467ba5224449cb854afd9195df54a877eb3e92e88e2373e8aa14a2bd4d8f2568", checked := Try.checked }
namespace Rows
def none {H : Type} : Left H := { results := [], args := [] }

/-- 'deadwaxlaw01.TakePlaces': WHATEVER THE INPUT: true; the input reads as it did. -/
def takePlacesSpec : ChangeSpec := { name := "takePlaces", fn := fun _ => fun
  | [d1, d2, d3] => { results := [.lit (.bool true)], args := [d1, d2, d3] }
  | _ => none }
def takePlacesRow : OpenClaim := { program := "ytbcahkklhdnboaa", sum := "467ba5224449cb854afd9195df54a877eb3e92e88e2373e8aa14a2bd4d8f2568", func := "deadwax/deadwaxlaw01.TakePlaces", spec := "takePlaces", unfollowed := true, recurses := true, apart := false }
def TakePlacesSaid : Prop := takePlacesRow.holds Try.pinned (OpenSpec.ofChange takePlacesSpec)

/-- ITS FALSE NEIGHBOUR: 'it returns false'. Refute it at one input. -/
def takePlacesWrong : ChangeSpec := { name := "takePlaces", fn := fun _ => fun
  | [d1, d2, d3] => { results := [.lit (.bool false)], args := [d1, d2, d3] }
  | _ => none }
def TakePlacesWrongFalsely : Prop := takePlacesRow.holds Try.pinned (OpenSpec.ofChange takePlacesWrong)

/-- 'deadwaxlaw01.TakeRenders': WHATEVER THE INPUT: true; the input reads as it did. -/
def takeRendersSpec : ChangeSpec := { name := "takeRenders", fn := fun _ => fun
  | [d1, d2, d3, d4] => { results := [.lit (.bool true)], args := [d1, d2, d3, d4] }
  | _ => none }
def takeRendersRow : OpenClaim := { program := "ytbcahkklhdnboaa", sum := "467ba5224449cb854afd9195df54a877eb3e92e88e2373e8aa14a2bd4d8f2568", func := "deadwax/deadwaxlaw01.TakeRenders", spec := "takeRenders", unfollowed := true, recurses := true, apart := false }
def TakeRendersSaid : Prop := takeRendersRow.holds Try.pinned (OpenSpec.ofChange takeRendersSpec)

/-- ITS FALSE NEIGHBOUR: 'it returns false'. Refute it at one input. -/
def takeRendersWrong : ChangeSpec := { name := "takeRenders", fn := fun _ => fun
  | [d1, d2, d3, d4] => { results := [.lit (.bool false)], args := [d1, d2, d3, d4] }
  | _ => none }
def TakeRendersWrongFalsely : Prop := takeRendersRow.holds Try.pinned (OpenSpec.ofChange takeRendersWrong)

/-- 'deadwaxlaw01.TakeSplits': WHATEVER THE INPUT: true; the input reads as it did. -/
def takeSplitsSpec : ChangeSpec := { name := "takeSplits", fn := fun _ => fun
  | [d1, d2, d3] => { results := [.lit (.bool true)], args := [d1, d2, d3] }
  | _ => none }
def takeSplitsRow : OpenClaim := { program := "ytbcahkklhdnboaa", sum := "467ba5224449cb854afd9195df54a877eb3e92e88e2373e8aa14a2bd4d8f2568", func := "deadwax/deadwaxlaw01.TakeSplits", spec := "takeSplits", unfollowed := true, recurses := true, apart := false }
def TakeSplitsSaid : Prop := takeSplitsRow.holds Try.pinned (OpenSpec.ofChange takeSplitsSpec)

/-- ITS FALSE NEIGHBOUR: 'it returns false'. Refute it at one input. -/
def takeSplitsWrong : ChangeSpec := { name := "takeSplits", fn := fun _ => fun
  | [d1, d2, d3] => { results := [.lit (.bool false)], args := [d1, d2, d3] }
  | _ => none }
def TakeSplitsWrongFalsely : Prop := takeSplitsRow.holds Try.pinned (OpenSpec.ofChange takeSplitsWrong)

/-- 'deadwaxlaw01.TakeSounds': WHATEVER THE INPUT: true; the input reads as it did. -/
def takeSoundsSpec : ChangeSpec := { name := "takeSounds", fn := fun _ => fun
  | [d1, d2] => { results := [.lit (.bool true)], args := [d1, d2] }
  | _ => none }
def takeSoundsRow : OpenClaim := { program := "ytbcahkklhdnboaa", sum := "467ba5224449cb854afd9195df54a877eb3e92e88e2373e8aa14a2bd4d8f2568", func := "deadwax/deadwaxlaw01.TakeSounds", spec := "takeSounds", unfollowed := true, recurses := true, apart := false }
def TakeSoundsSaid : Prop := takeSoundsRow.holds Try.pinned (OpenSpec.ofChange takeSoundsSpec)

/-- ITS FALSE NEIGHBOUR: 'it returns false'. Refute it at one input. -/
def takeSoundsWrong : ChangeSpec := { name := "takeSounds", fn := fun _ => fun
  | [d1, d2] => { results := [.lit (.bool false)], args := [d1, d2] }
  | _ => none }
def TakeSoundsWrongFalsely : Prop := takeSoundsRow.holds Try.pinned (OpenSpec.ofChange takeSoundsWrong)

/-- 'deadwaxlaw01.TakeJoined': WHATEVER THE INPUT: true; the input reads as it did. -/
def takeJoinedSpec : ChangeSpec := { name := "takeJoined", fn := fun _ => fun
  | [d1, d2, d3] => { results := [.lit (.bool true)], args := [d1, d2, d3] }
  | _ => none }
def takeJoinedRow : OpenClaim := { program := "ytbcahkklhdnboaa", sum := "467ba5224449cb854afd9195df54a877eb3e92e88e2373e8aa14a2bd4d8f2568", func := "deadwax/deadwaxlaw01.TakeJoined", spec := "takeJoined", unfollowed := true, recurses := true, apart := false }
def TakeJoinedSaid : Prop := takeJoinedRow.holds Try.pinned (OpenSpec.ofChange takeJoinedSpec)

/-- ITS FALSE NEIGHBOUR: 'it returns false'. Refute it at one input. -/
def takeJoinedWrong : ChangeSpec := { name := "takeJoined", fn := fun _ => fun
  | [d1, d2, d3] => { results := [.lit (.bool false)], args := [d1, d2, d3] }
  | _ => none }
def TakeJoinedWrongFalsely : Prop := takeJoinedRow.holds Try.pinned (OpenSpec.ofChange takeJoinedWrong)

/-- 'deadwaxlaw01.TakeParted': WHATEVER THE INPUT: true; the input reads as it did. -/
def takePartedSpec : ChangeSpec := { name := "takeParted", fn := fun _ => fun
  | [d1, d2, d3] => { results := [.lit (.bool true)], args := [d1, d2, d3] }
  | _ => none }
def takePartedRow : OpenClaim := { program := "ytbcahkklhdnboaa", sum := "467ba5224449cb854afd9195df54a877eb3e92e88e2373e8aa14a2bd4d8f2568", func := "deadwax/deadwaxlaw01.TakeParted", spec := "takeParted", unfollowed := true, recurses := true, apart := false }
def TakePartedSaid : Prop := takePartedRow.holds Try.pinned (OpenSpec.ofChange takePartedSpec)

/-- ITS FALSE NEIGHBOUR: 'it returns false'. Refute it at one input. -/
def takePartedWrong : ChangeSpec := { name := "takeParted", fn := fun _ => fun
  | [d1, d2, d3] => { results := [.lit (.bool false)], args := [d1, d2, d3] }
  | _ => none }
def TakePartedWrongFalsely : Prop := takePartedRow.holds Try.pinned (OpenSpec.ofChange takePartedWrong)

/-- 'deadwaxlaw01.TakePlain': WHATEVER THE INPUT: true; the input reads as it did. -/
def takePlainSpec : ChangeSpec := { name := "takePlain", fn := fun _ => fun
  | [d1, d2] => { results := [.lit (.bool true)], args := [d1, d2] }
  | _ => none }
def takePlainRow : OpenClaim := { program := "ytbcahkklhdnboaa", sum := "467ba5224449cb854afd9195df54a877eb3e92e88e2373e8aa14a2bd4d8f2568", func := "deadwax/deadwaxlaw01.TakePlain", spec := "takePlain", unfollowed := true, recurses := true, apart := false }
def TakePlainSaid : Prop := takePlainRow.holds Try.pinned (OpenSpec.ofChange takePlainSpec)

/-- ITS FALSE NEIGHBOUR: 'it returns false'. Refute it at one input. -/
def takePlainWrong : ChangeSpec := { name := "takePlain", fn := fun _ => fun
  | [d1, d2] => { results := [.lit (.bool false)], args := [d1, d2] }
  | _ => none }
def TakePlainWrongFalsely : Prop := takePlainRow.holds Try.pinned (OpenSpec.ofChange takePlainWrong)

/-- 'deadwaxlaw01.TakeHeadroom': WHATEVER THE INPUT: true; the input reads as it did. -/
def takeHeadroomSpec : ChangeSpec := { name := "takeHeadroom", fn := fun _ => fun
  | [d1, d2, d3] => { results := [.lit (.bool true)], args := [d1, d2, d3] }
  | _ => none }
def takeHeadroomRow : OpenClaim := { program := "ytbcahkklhdnboaa", sum := "467ba5224449cb854afd9195df54a877eb3e92e88e2373e8aa14a2bd4d8f2568", func := "deadwax/deadwaxlaw01.TakeHeadroom", spec := "takeHeadroom", unfollowed := true, recurses := true, apart := false }
def TakeHeadroomSaid : Prop := takeHeadroomRow.holds Try.pinned (OpenSpec.ofChange takeHeadroomSpec)

/-- ITS FALSE NEIGHBOUR: 'it returns false'. Refute it at one input. -/
def takeHeadroomWrong : ChangeSpec := { name := "takeHeadroom", fn := fun _ => fun
  | [d1, d2, d3] => { results := [.lit (.bool false)], args := [d1, d2, d3] }
  | _ => none }
def TakeHeadroomWrongFalsely : Prop := takeHeadroomRow.holds Try.pinned (OpenSpec.ofChange takeHeadroomWrong)

/-- 'deadwaxlaw01.TakeMirrored': WHATEVER THE INPUT: true; the input reads as it did. -/
def takeMirroredSpec : ChangeSpec := { name := "takeMirrored", fn := fun _ => fun
  | [d1, d2] => { results := [.lit (.bool true)], args := [d1, d2] }
  | _ => none }
def takeMirroredRow : OpenClaim := { program := "ytbcahkklhdnboaa", sum := "467ba5224449cb854afd9195df54a877eb3e92e88e2373e8aa14a2bd4d8f2568", func := "deadwax/deadwaxlaw01.TakeMirrored", spec := "takeMirrored", unfollowed := true, recurses := true, apart := false }
def TakeMirroredSaid : Prop := takeMirroredRow.holds Try.pinned (OpenSpec.ofChange takeMirroredSpec)

/-- ITS FALSE NEIGHBOUR: 'it returns false'. Refute it at one input. -/
def takeMirroredWrong : ChangeSpec := { name := "takeMirrored", fn := fun _ => fun
  | [d1, d2] => { results := [.lit (.bool false)], args := [d1, d2] }
  | _ => none }
def TakeMirroredWrongFalsely : Prop := takeMirroredRow.holds Try.pinned (OpenSpec.ofChange takeMirroredWrong)

/- THE SECOND FORM. 'bulk': how many values and letters a reading holds, each counted each time it is reached (what is shared counts as often as it is met; a slice's spare places count too). A statement '..UptoSaid' is the law's where the arguments, and the package variables that the reading takes, are together of bulk at most 1048576: NARROWER than '..Said'. Prove '..Said' where nothing that the law and all that it calls make is longer than what came in: it says more and counts as full. Else prove '..UptoSaid'. A law counts once. -/
mutual
def uptoBulk {H : Type} : DataW H → Nat
  | .lit (.string bytes) => bytes.length + 1
  | .lit _ => 1
  | .nil => 1
  | .ptr d => uptoBulk d + 1
  | .slice elems spare => uptoBulkAll elems + uptoBulkAll spare + 1
  | .agg parts => uptoBulkAll parts + 1
  | .iface _ d => uptoBulk d + 1
  | .map entries => uptoBulkEntries entries + 1
  | .held _ => 1
def uptoBulkAll {H : Type} : List (DataW H) → Nat
  | [] => 0
  | d :: r => uptoBulk d + uptoBulkAll r
def uptoBulkEntries {H : Type} : List (Lit × DataW H) → Nat
  | [] => 0
  | x :: r => uptoBulkEntry x + uptoBulkEntries r
def uptoBulkEntry {H : Type} : Lit × DataW H → Nat
  | (.string bytes, d) => bytes.length + uptoBulk d + 1
  | (_, d) => uptoBulk d + 1
 end
def uptoSmall : (H : Type) → List (DataW H) → Bool := fun _ ds => decide (uptoBulkAll ds ≤ 1048576)
def OpenSpec.upto (s : _root_.Go.ChangeSpec) : _root_.Go.OpenSpec := { _root_.Go.OpenSpec.ofChange s with cond := some uptoSmall }

/-- 'deadwaxlaw01.TakePlaces', WHERE WHAT IT READS IS OF BULK AT MOST 1048576: true; the input reads as it did. -/
def takePlacesUptoRow : OpenClaim := { program := "ytbcahkklhdnboaa", sum := "467ba5224449cb854afd9195df54a877eb3e92e88e2373e8aa14a2bd4d8f2568", func := "deadwax/deadwaxlaw01.TakePlaces", spec := "takePlaces", unfollowed := true, recurses := true, apart := false, narrowed := true }
def TakePlacesUptoSaid : Prop := takePlacesUptoRow.holds Try.pinned (OpenSpec.upto takePlacesSpec)

/-- 'deadwaxlaw01.TakeRenders', WHERE WHAT IT READS IS OF BULK AT MOST 1048576: true; the input reads as it did. -/
def takeRendersUptoRow : OpenClaim := { program := "ytbcahkklhdnboaa", sum := "467ba5224449cb854afd9195df54a877eb3e92e88e2373e8aa14a2bd4d8f2568", func := "deadwax/deadwaxlaw01.TakeRenders", spec := "takeRenders", unfollowed := true, recurses := true, apart := false, narrowed := true }
def TakeRendersUptoSaid : Prop := takeRendersUptoRow.holds Try.pinned (OpenSpec.upto takeRendersSpec)

/-- 'deadwaxlaw01.TakeSplits', WHERE WHAT IT READS IS OF BULK AT MOST 1048576: true; the input reads as it did. -/
def takeSplitsUptoRow : OpenClaim := { program := "ytbcahkklhdnboaa", sum := "467ba5224449cb854afd9195df54a877eb3e92e88e2373e8aa14a2bd4d8f2568", func := "deadwax/deadwaxlaw01.TakeSplits", spec := "takeSplits", unfollowed := true, recurses := true, apart := false, narrowed := true }
def TakeSplitsUptoSaid : Prop := takeSplitsUptoRow.holds Try.pinned (OpenSpec.upto takeSplitsSpec)

/-- 'deadwaxlaw01.TakeSounds', WHERE WHAT IT READS IS OF BULK AT MOST 1048576: true; the input reads as it did. -/
def takeSoundsUptoRow : OpenClaim := { program := "ytbcahkklhdnboaa", sum := "467ba5224449cb854afd9195df54a877eb3e92e88e2373e8aa14a2bd4d8f2568", func := "deadwax/deadwaxlaw01.TakeSounds", spec := "takeSounds", unfollowed := true, recurses := true, apart := false, narrowed := true }
def TakeSoundsUptoSaid : Prop := takeSoundsUptoRow.holds Try.pinned (OpenSpec.upto takeSoundsSpec)

/-- 'deadwaxlaw01.TakeJoined', WHERE WHAT IT READS IS OF BULK AT MOST 1048576: true; the input reads as it did. -/
def takeJoinedUptoRow : OpenClaim := { program := "ytbcahkklhdnboaa", sum := "467ba5224449cb854afd9195df54a877eb3e92e88e2373e8aa14a2bd4d8f2568", func := "deadwax/deadwaxlaw01.TakeJoined", spec := "takeJoined", unfollowed := true, recurses := true, apart := false, narrowed := true }
def TakeJoinedUptoSaid : Prop := takeJoinedUptoRow.holds Try.pinned (OpenSpec.upto takeJoinedSpec)

/-- 'deadwaxlaw01.TakeParted', WHERE WHAT IT READS IS OF BULK AT MOST 1048576: true; the input reads as it did. -/
def takePartedUptoRow : OpenClaim := { program := "ytbcahkklhdnboaa", sum := "467ba5224449cb854afd9195df54a877eb3e92e88e2373e8aa14a2bd4d8f2568", func := "deadwax/deadwaxlaw01.TakeParted", spec := "takeParted", unfollowed := true, recurses := true, apart := false, narrowed := true }
def TakePartedUptoSaid : Prop := takePartedUptoRow.holds Try.pinned (OpenSpec.upto takePartedSpec)

/-- 'deadwaxlaw01.TakePlain', WHERE WHAT IT READS IS OF BULK AT MOST 1048576: true; the input reads as it did. -/
def takePlainUptoRow : OpenClaim := { program := "ytbcahkklhdnboaa", sum := "467ba5224449cb854afd9195df54a877eb3e92e88e2373e8aa14a2bd4d8f2568", func := "deadwax/deadwaxlaw01.TakePlain", spec := "takePlain", unfollowed := true, recurses := true, apart := false, narrowed := true }
def TakePlainUptoSaid : Prop := takePlainUptoRow.holds Try.pinned (OpenSpec.upto takePlainSpec)

/-- 'deadwaxlaw01.TakeHeadroom', WHERE WHAT IT READS IS OF BULK AT MOST 1048576: true; the input reads as it did. -/
def takeHeadroomUptoRow : OpenClaim := { program := "ytbcahkklhdnboaa", sum := "467ba5224449cb854afd9195df54a877eb3e92e88e2373e8aa14a2bd4d8f2568", func := "deadwax/deadwaxlaw01.TakeHeadroom", spec := "takeHeadroom", unfollowed := true, recurses := true, apart := false, narrowed := true }
def TakeHeadroomUptoSaid : Prop := takeHeadroomUptoRow.holds Try.pinned (OpenSpec.upto takeHeadroomSpec)

/-- 'deadwaxlaw01.TakeMirrored', WHERE WHAT IT READS IS OF BULK AT MOST 1048576: true; the input reads as it did. -/
def takeMirroredUptoRow : OpenClaim := { program := "ytbcahkklhdnboaa", sum := "467ba5224449cb854afd9195df54a877eb3e92e88e2373e8aa14a2bd4d8f2568", func := "deadwax/deadwaxlaw01.TakeMirrored", spec := "takeMirrored", unfollowed := true, recurses := true, apart := false, narrowed := true }
def TakeMirroredUptoSaid : Prop := takeMirroredUptoRow.holds Try.pinned (OpenSpec.upto takeMirroredSpec)

end Rows
end Go.Proofs.Ytbcahkklhdnboaa
