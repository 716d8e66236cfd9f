/-
  No cell of these rows narrows 'for every input' (looked for: loops, veiled, ifaces, maps, wideKeys, modest, calm, conditions, laid).
  DERIVED. THE GIVEN ROWS OF THIS SEAT. 7 by the template 'for every input the law returns true; each argument reads behind the call as it read before'; 0 by the template 'total and deterministic' (their statements: YtgmoedjdfjloiaaTotals.lean).
  GIVEN WITH THE SEED: the statements are not yours to turn. If you find one false, say at which input.
  Laid BY PROGRAM, IN A SANDBOX (cutbox-rows.mjs): the forced cells as the released guide's own fill.sh prints them over the translation 2e16f75f48882cf5… (all of the seat's roots in one cut). By AI agents, Wed Nov 11 2026. No macro, syntax, notation, axiom, sorry.
-/
import Derived.Test.YtgmoedjdfjloiaaChecked
import GoSem.Claim
import GoSem.ClaimJoined
import GoSem.ClaimMapViews
import Derived.JoinedTies
import Derived.KernelRfl
namespace Go.Proofs.Ytgmoedjdfjloiaa
/- THE CELL 'sum', in the pinned program and in every row, IS THE sha256 OF THE DUMP (.gsa) THAT YtgmoedjdfjloiaaProg.lean LOADS. Nothing in Lean hashes anything: it is a label: what it is worth is what the hold of that sum in a sandbox is worth. -/
noncomputable def Try.pinned : Pinned := { name := "ytgmoedjdfjloiaa", sum := "2e16f75f48882cf5a16100d57d88ce469b9033a6faea028ee17906c9ae905c0f", checked := Try.checked }
namespace Rows
def none {H : Type} : Left H := { results := [], args := [] }

/-- 'reedlaw.KnowSays': WHATEVER THE INPUT: true; the input reads as it did. -/
def knowSaysSpec : ChangeSpec := { name := "knowSays", fn := fun _ => fun
  | [d1, d2] => { results := [.lit (.bool true)], args := [d1, d2] }
  | _ => none }
def knowSaysRow : OpenClaim := { program := "ytgmoedjdfjloiaa", sum := "2e16f75f48882cf5a16100d57d88ce469b9033a6faea028ee17906c9ae905c0f", func := "reedmace/reedlaw.KnowSays", spec := "knowSays", unfollowed := true, recurses := true, apart := false }
def KnowSaysSaid : Prop := knowSaysRow.holds Try.pinned (OpenSpec.ofChange knowSaysSpec)

/-- ITS FALSE NEIGHBOUR: 'it returns false'. Refute it at one input. -/
def knowSaysWrong : ChangeSpec := { name := "knowSays", fn := fun _ => fun
  | [d1, d2] => { results := [.lit (.bool false)], args := [d1, d2] }
  | _ => none }
def KnowSaysWrongFalsely : Prop := knowSaysRow.holds Try.pinned (OpenSpec.ofChange knowSaysWrong)

/-- 'reedlaw.KnowSets': WHATEVER THE INPUT: true; the input reads as it did. -/
def knowSetsSpec : ChangeSpec := { name := "knowSets", fn := fun _ => fun
  | [d1, d2] => { results := [.lit (.bool true)], args := [d1, d2] }
  | _ => none }
def knowSetsRow : OpenClaim := { program := "ytgmoedjdfjloiaa", sum := "2e16f75f48882cf5a16100d57d88ce469b9033a6faea028ee17906c9ae905c0f", func := "reedmace/reedlaw.KnowSets", spec := "knowSets", unfollowed := true, recurses := true, apart := false }
def KnowSetsSaid : Prop := knowSetsRow.holds Try.pinned (OpenSpec.ofChange knowSetsSpec)

/-- ITS FALSE NEIGHBOUR: 'it returns false'. Refute it at one input. -/
def knowSetsWrong : ChangeSpec := { name := "knowSets", fn := fun _ => fun
  | [d1, d2] => { results := [.lit (.bool false)], args := [d1, d2] }
  | _ => none }
def KnowSetsWrongFalsely : Prop := knowSetsRow.holds Try.pinned (OpenSpec.ofChange knowSetsWrong)

/-- 'reedkeep.KnowLattice': WHATEVER THE INPUT: true; the input reads as it did. -/
def knowLatticeSpec : ChangeSpec := { name := "knowLattice", fn := fun _ => fun
  | [d1, d2, d3] => { results := [.lit (.bool true)], args := [d1, d2, d3] }
  | _ => none }
def knowLatticeRow : OpenClaim := { program := "ytgmoedjdfjloiaa", sum := "2e16f75f48882cf5a16100d57d88ce469b9033a6faea028ee17906c9ae905c0f", func := "reedmace/reedkeep.KnowLattice", spec := "knowLattice", unfollowed := true, recurses := true, apart := false }
def KnowLatticeSaid : Prop := knowLatticeRow.holds Try.pinned (OpenSpec.ofChange knowLatticeSpec)

/-- ITS FALSE NEIGHBOUR: 'it returns false'. Refute it at one input. -/
def knowLatticeWrong : ChangeSpec := { name := "knowLattice", fn := fun _ => fun
  | [d1, d2, d3] => { results := [.lit (.bool false)], args := [d1, d2, d3] }
  | _ => none }
def KnowLatticeWrongFalsely : Prop := knowLatticeRow.holds Try.pinned (OpenSpec.ofChange knowLatticeWrong)

/-- 'reedkeep.KnowCounts': WHATEVER THE INPUT: true; the input reads as it did. -/
def knowCountsSpec : ChangeSpec := { name := "knowCounts", fn := fun _ => fun
  | [d1, d2, d3, d4] => { results := [.lit (.bool true)], args := [d1, d2, d3, d4] }
  | _ => none }
def knowCountsRow : OpenClaim := { program := "ytgmoedjdfjloiaa", sum := "2e16f75f48882cf5a16100d57d88ce469b9033a6faea028ee17906c9ae905c0f", func := "reedmace/reedkeep.KnowCounts", spec := "knowCounts", unfollowed := true, recurses := true, apart := false }
def KnowCountsSaid : Prop := knowCountsRow.holds Try.pinned (OpenSpec.ofChange knowCountsSpec)

/-- ITS FALSE NEIGHBOUR: 'it returns false'. Refute it at one input. -/
def knowCountsWrong : ChangeSpec := { name := "knowCounts", fn := fun _ => fun
  | [d1, d2, d3, d4] => { results := [.lit (.bool false)], args := [d1, d2, d3, d4] }
  | _ => none }
def KnowCountsWrongFalsely : Prop := knowCountsRow.holds Try.pinned (OpenSpec.ofChange knowCountsWrong)

/-- 'reedkeep.KnowWithin': WHATEVER THE INPUT: true; the input reads as it did. -/
def knowWithinSpec : ChangeSpec := { name := "knowWithin", fn := fun _ => fun
  | [d1, d2, d3, d4] => { results := [.lit (.bool true)], args := [d1, d2, d3, d4] }
  | _ => none }
def knowWithinRow : OpenClaim := { program := "ytgmoedjdfjloiaa", sum := "2e16f75f48882cf5a16100d57d88ce469b9033a6faea028ee17906c9ae905c0f", func := "reedmace/reedkeep.KnowWithin", spec := "knowWithin", unfollowed := true, recurses := true, apart := false }
def KnowWithinSaid : Prop := knowWithinRow.holds Try.pinned (OpenSpec.ofChange knowWithinSpec)

/-- ITS FALSE NEIGHBOUR: 'it returns false'. Refute it at one input. -/
def knowWithinWrong : ChangeSpec := { name := "knowWithin", fn := fun _ => fun
  | [d1, d2, d3, d4] => { results := [.lit (.bool false)], args := [d1, d2, d3, d4] }
  | _ => none }
def KnowWithinWrongFalsely : Prop := knowWithinRow.holds Try.pinned (OpenSpec.ofChange knowWithinWrong)

/-- 'reedkeep.KnowVectors': WHATEVER THE INPUT: true; the input reads as it did. -/
def knowVectorsSpec : ChangeSpec := { name := "knowVectors", fn := fun _ => fun
  | [d1, d2] => { results := [.lit (.bool true)], args := [d1, d2] }
  | _ => none }
def knowVectorsRow : OpenClaim := { program := "ytgmoedjdfjloiaa", sum := "2e16f75f48882cf5a16100d57d88ce469b9033a6faea028ee17906c9ae905c0f", func := "reedmace/reedkeep.KnowVectors", spec := "knowVectors", unfollowed := true, recurses := true, apart := false }
def KnowVectorsSaid : Prop := knowVectorsRow.holds Try.pinned (OpenSpec.ofChange knowVectorsSpec)

/-- ITS FALSE NEIGHBOUR: 'it returns false'. Refute it at one input. -/
def knowVectorsWrong : ChangeSpec := { name := "knowVectors", fn := fun _ => fun
  | [d1, d2] => { results := [.lit (.bool false)], args := [d1, d2] }
  | _ => none }
def KnowVectorsWrongFalsely : Prop := knowVectorsRow.holds Try.pinned (OpenSpec.ofChange knowVectorsWrong)

/-- 'reedkeep.KnowDots': WHATEVER THE INPUT: true; the input reads as it did. -/
def knowDotsSpec : ChangeSpec := { name := "knowDots", fn := fun _ => fun
  | [d1, d2, d3] => { results := [.lit (.bool true)], args := [d1, d2, d3] }
  | _ => none }
def knowDotsRow : OpenClaim := { program := "ytgmoedjdfjloiaa", sum := "2e16f75f48882cf5a16100d57d88ce469b9033a6faea028ee17906c9ae905c0f", func := "reedmace/reedkeep.KnowDots", spec := "knowDots", unfollowed := true, recurses := true, apart := false }
def KnowDotsSaid : Prop := knowDotsRow.holds Try.pinned (OpenSpec.ofChange knowDotsSpec)

/-- ITS FALSE NEIGHBOUR: 'it returns false'. Refute it at one input. -/
def knowDotsWrong : ChangeSpec := { name := "knowDots", fn := fun _ => fun
  | [d1, d2, d3] => { results := [.lit (.bool false)], args := [d1, d2, d3] }
  | _ => none }
def KnowDotsWrongFalsely : Prop := knowDotsRow.holds Try.pinned (OpenSpec.ofChange knowDotsWrong)

/- THE SECOND FORM. 'bulk': how many values and letters a reading holds, each counted each time it is reached (what is shared counts as often as it is met; a slice's spare places count too). A statement '..UptoSaid' is the law's where the arguments, and the package variables that the reading takes, are together of bulk at most 1048576: NARROWER than '..Said'. Prove '..Said' where nothing that the law and all that it calls make is longer than what came in: it says more and counts as full. Else prove '..UptoSaid'. A law counts once. -/
mutual
def uptoBulk {H : Type} : DataW H → Nat
  | .lit (.string bytes) => bytes.length + 1
  | .lit _ => 1
  | .nil => 1
  | .ptr d => uptoBulk d + 1
  | .slice elems spare => uptoBulkAll elems + uptoBulkAll spare + 1
  | .agg parts => uptoBulkAll parts + 1
  | .iface _ d => uptoBulk d + 1
  | .map entries => uptoBulkEntries entries + 1
  | .held _ => 1
def uptoBulkAll {H : Type} : List (DataW H) → Nat
  | [] => 0
  | d :: r => uptoBulk d + uptoBulkAll r
def uptoBulkEntries {H : Type} : List (Lit × DataW H) → Nat
  | [] => 0
  | x :: r => uptoBulkEntry x + uptoBulkEntries r
def uptoBulkEntry {H : Type} : Lit × DataW H → Nat
  | (.string bytes, d) => bytes.length + uptoBulk d + 1
  | (_, d) => uptoBulk d + 1
 end
def uptoSmall : (H : Type) → List (DataW H) → Bool := fun _ ds => decide (uptoBulkAll ds ≤ 1048576)
def OpenSpec.upto (s : _root_.Go.ChangeSpec) : _root_.Go.OpenSpec := { _root_.Go.OpenSpec.ofChange s with cond := some uptoSmall }

/-- 'reedlaw.KnowSays', WHERE WHAT IT READS IS OF BULK AT MOST 1048576: true; the input reads as it did. -/
def knowSaysUptoRow : OpenClaim := { program := "ytgmoedjdfjloiaa", sum := "2e16f75f48882cf5a16100d57d88ce469b9033a6faea028ee17906c9ae905c0f", func := "reedmace/reedlaw.KnowSays", spec := "knowSays", unfollowed := true, recurses := true, apart := false, narrowed := true }
def KnowSaysUptoSaid : Prop := knowSaysUptoRow.holds Try.pinned (OpenSpec.upto knowSaysSpec)

/-- 'reedlaw.KnowSets', WHERE WHAT IT READS IS OF BULK AT MOST 1048576: true; the input reads as it did. -/
def knowSetsUptoRow : OpenClaim := { program := "ytgmoedjdfjloiaa", sum := "2e16f75f48882cf5a16100d57d88ce469b9033a6faea028ee17906c9ae905c0f", func := "reedmace/reedlaw.KnowSets", spec := "knowSets", unfollowed := true, recurses := true, apart := false, narrowed := true }
def KnowSetsUptoSaid : Prop := knowSetsUptoRow.holds Try.pinned (OpenSpec.upto knowSetsSpec)

/-- 'reedkeep.KnowLattice', WHERE WHAT IT READS IS OF BULK AT MOST 1048576: true; the input reads as it did. -/
def knowLatticeUptoRow : OpenClaim := { program := "ytgmoedjdfjloiaa", sum := "2e16f75f48882cf5a16100d57d88ce469b9033a6faea028ee17906c9ae905c0f", func := "reedmace/reedkeep.KnowLattice", spec := "knowLattice", unfollowed := true, recurses := true, apart := false, narrowed := true }
def KnowLatticeUptoSaid : Prop := knowLatticeUptoRow.holds Try.pinned (OpenSpec.upto knowLatticeSpec)

/-- 'reedkeep.KnowCounts', WHERE WHAT IT READS IS OF BULK AT MOST 1048576: true; the input reads as it did. -/
def knowCountsUptoRow : OpenClaim := { program := "ytgmoedjdfjloiaa", sum := "2e16f75f48882cf5a16100d57d88ce469b9033a6faea028ee17906c9ae905c0f", func := "reedmace/reedkeep.KnowCounts", spec := "knowCounts", unfollowed := true, recurses := true, apart := false, narrowed := true }
def KnowCountsUptoSaid : Prop := knowCountsUptoRow.holds Try.pinned (OpenSpec.upto knowCountsSpec)

/-- 'reedkeep.KnowWithin', WHERE WHAT IT READS IS OF BULK AT MOST 1048576: true; the input reads as it did. -/
def knowWithinUptoRow : OpenClaim := { program := "ytgmoedjdfjloiaa", sum := "2e16f75f48882cf5a16100d57d88ce469b9033a6faea028ee17906c9ae905c0f", func := "reedmace/reedkeep.KnowWithin", spec := "knowWithin", unfollowed := true, recurses := true, apart := false, narrowed := true }
def KnowWithinUptoSaid : Prop := knowWithinUptoRow.holds Try.pinned (OpenSpec.upto knowWithinSpec)

/-- 'reedkeep.KnowVectors', WHERE WHAT IT READS IS OF BULK AT MOST 1048576: true; the input reads as it did. -/
def knowVectorsUptoRow : OpenClaim := { program := "ytgmoedjdfjloiaa", sum := "2e16f75f48882cf5a16100d57d88ce469b9033a6faea028ee17906c9ae905c0f", func := "reedmace/reedkeep.KnowVectors", spec := "knowVectors", unfollowed := true, recurses := true, apart := false, narrowed := true }
def KnowVectorsUptoSaid : Prop := knowVectorsUptoRow.holds Try.pinned (OpenSpec.upto knowVectorsSpec)

/-- 'reedkeep.KnowDots', WHERE WHAT IT READS IS OF BULK AT MOST 1048576: true; the input reads as it did. -/
def knowDotsUptoRow : OpenClaim := { program := "ytgmoedjdfjloiaa", sum := "2e16f75f48882cf5a16100d57d88ce469b9033a6faea028ee17906c9ae905c0f", func := "reedmace/reedkeep.KnowDots", spec := "knowDots", unfollowed := true, recurses := true, apart := false, narrowed := true }
def KnowDotsUptoSaid : Prop := knowDotsUptoRow.holds Try.pinned (OpenSpec.upto knowDotsSpec)

end Rows
end Go.Proofs.Ytgmoedjdfjloiaa
