/-
  No cell of these rows narrows 'for every input' (looked for: loops, veiled, ifaces, maps, wideKeys, modest, calm, conditions, laid).
  DERIVED. THE GIVEN ROWS OF THIS SEAT. 12 by the template 'for every input the law returns true; each argument reads behind the call as it read before'; 0 by the template 'total and deterministic' (their statements: YtphcjjhfgpdhcaaTotals.lean).
  GIVEN WITH THE SEED: the statements are not yours to turn. If you find one false, say at which input.
  Laid BY PROGRAM, IN A SANDBOX (cutbox-rows.mjs): the forced cells as the released guide's own fill.sh prints them over the translation 0a50e697375af964… (all of the seat's roots in one cut). By AI agents, Wed Nov 11 2026. No macro, syntax, notation, axiom, sorry.
-/
import Derived.Test.YtphcjjhfgpdhcaaChecked
import GoSem.Claim
import GoSem.ClaimJoined
import GoSem.ClaimMapViews
import Derived.JoinedTies
import Derived.KernelRfl
namespace Go.Proofs.Ytphcjjhfgpdhcaa
/- THE CELL 'sum', in the pinned program and in every row, IS THE sha256 OF THE DUMP (.gsa) THAT YtphcjjhfgpdhcaaProg.lean LOADS. Nothing in Lean hashes anything: it is a label: what it is worth is what the hold of that sum in a sandbox is worth. -/
noncomputable def Try.pinned : Pinned := { name := "ytphcjjhfgpdhcaa", sum := "0a50e697375af96460089f8717223ba6defbb68958a2f90d9a68e9c512696431", checked := Try.checked }
namespace Rows
def none {H : Type} : Left H := { results := [], args := [] }

/-- 'reedlaw.FilterSays': WHATEVER THE INPUT: true; the input reads as it did. -/
def filterSaysSpec : ChangeSpec := { name := "filterSays", fn := fun _ => fun
  | [d1, d2, d3] => { results := [.lit (.bool true)], args := [d1, d2, d3] }
  | _ => none }
def filterSaysRow : OpenClaim := { program := "ytphcjjhfgpdhcaa", sum := "0a50e697375af96460089f8717223ba6defbb68958a2f90d9a68e9c512696431", func := "reedmace/reedlaw.FilterSays", spec := "filterSays", unfollowed := true, recurses := true, apart := false }
def FilterSaysSaid : Prop := filterSaysRow.holds Try.pinned (OpenSpec.ofChange filterSaysSpec)

/-- ITS FALSE NEIGHBOUR: 'it returns false'. Refute it at one input. -/
def filterSaysWrong : ChangeSpec := { name := "filterSays", fn := fun _ => fun
  | [d1, d2, d3] => { results := [.lit (.bool false)], args := [d1, d2, d3] }
  | _ => none }
def FilterSaysWrongFalsely : Prop := filterSaysRow.holds Try.pinned (OpenSpec.ofChange filterSaysWrong)

/-- 'reedlaw.FilterSets': WHATEVER THE INPUT: true; the input reads as it did. -/
def filterSetsSpec : ChangeSpec := { name := "filterSets", fn := fun _ => fun
  | [d1, d2] => { results := [.lit (.bool true)], args := [d1, d2] }
  | _ => none }
def filterSetsRow : OpenClaim := { program := "ytphcjjhfgpdhcaa", sum := "0a50e697375af96460089f8717223ba6defbb68958a2f90d9a68e9c512696431", func := "reedmace/reedlaw.FilterSets", spec := "filterSets", unfollowed := true, recurses := true, apart := false }
def FilterSetsSaid : Prop := filterSetsRow.holds Try.pinned (OpenSpec.ofChange filterSetsSpec)

/-- ITS FALSE NEIGHBOUR: 'it returns false'. Refute it at one input. -/
def filterSetsWrong : ChangeSpec := { name := "filterSets", fn := fun _ => fun
  | [d1, d2] => { results := [.lit (.bool false)], args := [d1, d2] }
  | _ => none }
def FilterSetsWrongFalsely : Prop := filterSetsRow.holds Try.pinned (OpenSpec.ofChange filterSetsWrong)

/-- 'reedkeep.FilterBoole': WHATEVER THE INPUT: true; the input reads as it did. -/
def filterBooleSpec : ChangeSpec := { name := "filterBoole", fn := fun _ => fun
  | [d1, d2, d3] => { results := [.lit (.bool true)], args := [d1, d2, d3] }
  | _ => none }
def filterBooleRow : OpenClaim := { program := "ytphcjjhfgpdhcaa", sum := "0a50e697375af96460089f8717223ba6defbb68958a2f90d9a68e9c512696431", func := "reedmace/reedkeep.FilterBoole", spec := "filterBoole", unfollowed := true, recurses := true, apart := false }
def FilterBooleSaid : Prop := filterBooleRow.holds Try.pinned (OpenSpec.ofChange filterBooleSpec)

/-- ITS FALSE NEIGHBOUR: 'it returns false'. Refute it at one input. -/
def filterBooleWrong : ChangeSpec := { name := "filterBoole", fn := fun _ => fun
  | [d1, d2, d3] => { results := [.lit (.bool false)], args := [d1, d2, d3] }
  | _ => none }
def FilterBooleWrongFalsely : Prop := filterBooleRow.holds Try.pinned (OpenSpec.ofChange filterBooleWrong)

/-- 'reedkeep.FilterMorgan': WHATEVER THE INPUT: true; the input reads as it did. -/
def filterMorganSpec : ChangeSpec := { name := "filterMorgan", fn := fun _ => fun
  | [d1, d2] => { results := [.lit (.bool true)], args := [d1, d2] }
  | _ => none }
def filterMorganRow : OpenClaim := { program := "ytphcjjhfgpdhcaa", sum := "0a50e697375af96460089f8717223ba6defbb68958a2f90d9a68e9c512696431", func := "reedmace/reedkeep.FilterMorgan", spec := "filterMorgan", unfollowed := true, recurses := true, apart := false }
def FilterMorganSaid : Prop := filterMorganRow.holds Try.pinned (OpenSpec.ofChange filterMorganSpec)

/-- ITS FALSE NEIGHBOUR: 'it returns false'. Refute it at one input. -/
def filterMorganWrong : ChangeSpec := { name := "filterMorgan", fn := fun _ => fun
  | [d1, d2] => { results := [.lit (.bool false)], args := [d1, d2] }
  | _ => none }
def FilterMorganWrongFalsely : Prop := filterMorganRow.holds Try.pinned (OpenSpec.ofChange filterMorganWrong)

/-- 'reedkeep.FilterWithin': WHATEVER THE INPUT: true; the input reads as it did. -/
def filterWithinSpec : ChangeSpec := { name := "filterWithin", fn := fun _ => fun
  | [d1, d2, d3, d4] => { results := [.lit (.bool true)], args := [d1, d2, d3, d4] }
  | _ => none }
def filterWithinRow : OpenClaim := { program := "ytphcjjhfgpdhcaa", sum := "0a50e697375af96460089f8717223ba6defbb68958a2f90d9a68e9c512696431", func := "reedmace/reedkeep.FilterWithin", spec := "filterWithin", unfollowed := true, recurses := true, apart := false }
def FilterWithinSaid : Prop := filterWithinRow.holds Try.pinned (OpenSpec.ofChange filterWithinSpec)

/-- ITS FALSE NEIGHBOUR: 'it returns false'. Refute it at one input. -/
def filterWithinWrong : ChangeSpec := { name := "filterWithin", fn := fun _ => fun
  | [d1, d2, d3, d4] => { results := [.lit (.bool false)], args := [d1, d2, d3, d4] }
  | _ => none }
def FilterWithinWrongFalsely : Prop := filterWithinRow.holds Try.pinned (OpenSpec.ofChange filterWithinWrong)

/-- 'reedkeep.FilterMoves': WHATEVER THE INPUT: true; the input reads as it did. -/
def filterMovesSpec : ChangeSpec := { name := "filterMoves", fn := fun _ => fun
  | [d1, d2, d3] => { results := [.lit (.bool true)], args := [d1, d2, d3] }
  | _ => none }
def filterMovesRow : OpenClaim := { program := "ytphcjjhfgpdhcaa", sum := "0a50e697375af96460089f8717223ba6defbb68958a2f90d9a68e9c512696431", func := "reedmace/reedkeep.FilterMoves", spec := "filterMoves", unfollowed := true, recurses := true, apart := false }
def FilterMovesSaid : Prop := filterMovesRow.holds Try.pinned (OpenSpec.ofChange filterMovesSpec)

/-- ITS FALSE NEIGHBOUR: 'it returns false'. Refute it at one input. -/
def filterMovesWrong : ChangeSpec := { name := "filterMoves", fn := fun _ => fun
  | [d1, d2, d3] => { results := [.lit (.bool false)], args := [d1, d2, d3] }
  | _ => none }
def FilterMovesWrongFalsely : Prop := filterMovesRow.holds Try.pinned (OpenSpec.ofChange filterMovesWrong)

/-- 'reedkeep.FilterPoints': WHATEVER THE INPUT: true; the input reads as it did. -/
def filterPointsSpec : ChangeSpec := { name := "filterPoints", fn := fun _ => fun
  | [d1, d2, d3] => { results := [.lit (.bool true)], args := [d1, d2, d3] }
  | _ => none }
def filterPointsRow : OpenClaim := { program := "ytphcjjhfgpdhcaa", sum := "0a50e697375af96460089f8717223ba6defbb68958a2f90d9a68e9c512696431", func := "reedmace/reedkeep.FilterPoints", spec := "filterPoints", unfollowed := true, recurses := true, apart := false }
def FilterPointsSaid : Prop := filterPointsRow.holds Try.pinned (OpenSpec.ofChange filterPointsSpec)

/-- ITS FALSE NEIGHBOUR: 'it returns false'. Refute it at one input. -/
def filterPointsWrong : ChangeSpec := { name := "filterPoints", fn := fun _ => fun
  | [d1, d2, d3] => { results := [.lit (.bool false)], args := [d1, d2, d3] }
  | _ => none }
def FilterPointsWrongFalsely : Prop := filterPointsRow.holds Try.pinned (OpenSpec.ofChange filterPointsWrong)

/-- 'reedkeep.FilterParts': WHATEVER THE INPUT: true; the input reads as it did. -/
def filterPartsSpec : ChangeSpec := { name := "filterParts", fn := fun _ => fun
  | [d1, d2] => { results := [.lit (.bool true)], args := [d1, d2] }
  | _ => none }
def filterPartsRow : OpenClaim := { program := "ytphcjjhfgpdhcaa", sum := "0a50e697375af96460089f8717223ba6defbb68958a2f90d9a68e9c512696431", func := "reedmace/reedkeep.FilterParts", spec := "filterParts", unfollowed := true, recurses := true, apart := false }
def FilterPartsSaid : Prop := filterPartsRow.holds Try.pinned (OpenSpec.ofChange filterPartsSpec)

/-- ITS FALSE NEIGHBOUR: 'it returns false'. Refute it at one input. -/
def filterPartsWrong : ChangeSpec := { name := "filterParts", fn := fun _ => fun
  | [d1, d2] => { results := [.lit (.bool false)], args := [d1, d2] }
  | _ => none }
def FilterPartsWrongFalsely : Prop := filterPartsRow.holds Try.pinned (OpenSpec.ofChange filterPartsWrong)

/-- 'reedkeep.FilterGrows': WHATEVER THE INPUT: true; the input reads as it did. -/
def filterGrowsSpec : ChangeSpec := { name := "filterGrows", fn := fun _ => fun
  | [d1, d2, d3] => { results := [.lit (.bool true)], args := [d1, d2, d3] }
  | _ => none }
def filterGrowsRow : OpenClaim := { program := "ytphcjjhfgpdhcaa", sum := "0a50e697375af96460089f8717223ba6defbb68958a2f90d9a68e9c512696431", func := "reedmace/reedkeep.FilterGrows", spec := "filterGrows", unfollowed := true, recurses := true, apart := false }
def FilterGrowsSaid : Prop := filterGrowsRow.holds Try.pinned (OpenSpec.ofChange filterGrowsSpec)

/-- ITS FALSE NEIGHBOUR: 'it returns false'. Refute it at one input. -/
def filterGrowsWrong : ChangeSpec := { name := "filterGrows", fn := fun _ => fun
  | [d1, d2, d3] => { results := [.lit (.bool false)], args := [d1, d2, d3] }
  | _ => none }
def FilterGrowsWrongFalsely : Prop := filterGrowsRow.holds Try.pinned (OpenSpec.ofChange filterGrowsWrong)

/-- 'reedkeep.FilterBox': WHATEVER THE INPUT: true; the input reads as it did. -/
def filterBoxSpec : ChangeSpec := { name := "filterBox", fn := fun _ => fun
  | [d1, d2, d3, d4] => { results := [.lit (.bool true)], args := [d1, d2, d3, d4] }
  | _ => none }
def filterBoxRow : OpenClaim := { program := "ytphcjjhfgpdhcaa", sum := "0a50e697375af96460089f8717223ba6defbb68958a2f90d9a68e9c512696431", func := "reedmace/reedkeep.FilterBox", spec := "filterBox", unfollowed := true, recurses := true, apart := false }
def FilterBoxSaid : Prop := filterBoxRow.holds Try.pinned (OpenSpec.ofChange filterBoxSpec)

/-- ITS FALSE NEIGHBOUR: 'it returns false'. Refute it at one input. -/
def filterBoxWrong : ChangeSpec := { name := "filterBox", fn := fun _ => fun
  | [d1, d2, d3, d4] => { results := [.lit (.bool false)], args := [d1, d2, d3, d4] }
  | _ => none }
def FilterBoxWrongFalsely : Prop := filterBoxRow.holds Try.pinned (OpenSpec.ofChange filterBoxWrong)

/-- 'reedlaw.SpanSays': WHATEVER THE INPUT: true; the input reads as it did. -/
def spanSaysSpec : ChangeSpec := { name := "spanSays", fn := fun _ => fun
  | [d1, d2, d3] => { results := [.lit (.bool true)], args := [d1, d2, d3] }
  | _ => none }
def spanSaysRow : OpenClaim := { program := "ytphcjjhfgpdhcaa", sum := "0a50e697375af96460089f8717223ba6defbb68958a2f90d9a68e9c512696431", func := "reedmace/reedlaw.SpanSays", spec := "spanSays", apart := false }
def SpanSaysSaid : Prop := spanSaysRow.holds Try.pinned (OpenSpec.ofChange spanSaysSpec)

/-- ITS FALSE NEIGHBOUR: 'it returns false'. Refute it at one input. -/
def spanSaysWrong : ChangeSpec := { name := "spanSays", fn := fun _ => fun
  | [d1, d2, d3] => { results := [.lit (.bool false)], args := [d1, d2, d3] }
  | _ => none }
def SpanSaysWrongFalsely : Prop := spanSaysRow.holds Try.pinned (OpenSpec.ofChange spanSaysWrong)

/-- 'reedlaw.SpanSets': WHATEVER THE INPUT: true; the input reads as it did. -/
def spanSetsSpec : ChangeSpec := { name := "spanSets", fn := fun _ => fun
  | [d1, d2] => { results := [.lit (.bool true)], args := [d1, d2] }
  | _ => none }
def spanSetsRow : OpenClaim := { program := "ytphcjjhfgpdhcaa", sum := "0a50e697375af96460089f8717223ba6defbb68958a2f90d9a68e9c512696431", func := "reedmace/reedlaw.SpanSets", spec := "spanSets", unfollowed := true, recurses := true, apart := false }
def SpanSetsSaid : Prop := spanSetsRow.holds Try.pinned (OpenSpec.ofChange spanSetsSpec)

/-- ITS FALSE NEIGHBOUR: 'it returns false'. Refute it at one input. -/
def spanSetsWrong : ChangeSpec := { name := "spanSets", fn := fun _ => fun
  | [d1, d2] => { results := [.lit (.bool false)], args := [d1, d2] }
  | _ => none }
def SpanSetsWrongFalsely : Prop := spanSetsRow.holds Try.pinned (OpenSpec.ofChange spanSetsWrong)

/- THE SECOND FORM. 'bulk': how many values and letters a reading holds, each counted each time it is reached (what is shared counts as often as it is met; a slice's spare places count too). A statement '..UptoSaid' is the law's where the arguments, and the package variables that the reading takes, are together of bulk at most 1048576: NARROWER than '..Said'. Prove '..Said' where nothing that the law and all that it calls make is longer than what came in: it says more and counts as full. Else prove '..UptoSaid'. A law counts once. -/
mutual
def uptoBulk {H : Type} : DataW H → Nat
  | .lit (.string bytes) => bytes.length + 1
  | .lit _ => 1
  | .nil => 1
  | .ptr d => uptoBulk d + 1
  | .slice elems spare => uptoBulkAll elems + uptoBulkAll spare + 1
  | .agg parts => uptoBulkAll parts + 1
  | .iface _ d => uptoBulk d + 1
  | .map entries => uptoBulkEntries entries + 1
  | .held _ => 1
def uptoBulkAll {H : Type} : List (DataW H) → Nat
  | [] => 0
  | d :: r => uptoBulk d + uptoBulkAll r
def uptoBulkEntries {H : Type} : List (Lit × DataW H) → Nat
  | [] => 0
  | x :: r => uptoBulkEntry x + uptoBulkEntries r
def uptoBulkEntry {H : Type} : Lit × DataW H → Nat
  | (.string bytes, d) => bytes.length + uptoBulk d + 1
  | (_, d) => uptoBulk d + 1
 end
def uptoSmall : (H : Type) → List (DataW H) → Bool := fun _ ds => decide (uptoBulkAll ds ≤ 1048576)
def OpenSpec.upto (s : _root_.Go.ChangeSpec) : _root_.Go.OpenSpec := { _root_.Go.OpenSpec.ofChange s with cond := some uptoSmall }

/-- 'reedlaw.FilterSays', WHERE WHAT IT READS IS OF BULK AT MOST 1048576: true; the input reads as it did. -/
def filterSaysUptoRow : OpenClaim := { program := "ytphcjjhfgpdhcaa", sum := "0a50e697375af96460089f8717223ba6defbb68958a2f90d9a68e9c512696431", func := "reedmace/reedlaw.FilterSays", spec := "filterSays", unfollowed := true, recurses := true, apart := false, narrowed := true }
def FilterSaysUptoSaid : Prop := filterSaysUptoRow.holds Try.pinned (OpenSpec.upto filterSaysSpec)

/-- 'reedlaw.FilterSets', WHERE WHAT IT READS IS OF BULK AT MOST 1048576: true; the input reads as it did. -/
def filterSetsUptoRow : OpenClaim := { program := "ytphcjjhfgpdhcaa", sum := "0a50e697375af96460089f8717223ba6defbb68958a2f90d9a68e9c512696431", func := "reedmace/reedlaw.FilterSets", spec := "filterSets", unfollowed := true, recurses := true, apart := false, narrowed := true }
def FilterSetsUptoSaid : Prop := filterSetsUptoRow.holds Try.pinned (OpenSpec.upto filterSetsSpec)

/-- 'reedkeep.FilterBoole', WHERE WHAT IT READS IS OF BULK AT MOST 1048576: true; the input reads as it did. -/
def filterBooleUptoRow : OpenClaim := { program := "ytphcjjhfgpdhcaa", sum := "0a50e697375af96460089f8717223ba6defbb68958a2f90d9a68e9c512696431", func := "reedmace/reedkeep.FilterBoole", spec := "filterBoole", unfollowed := true, recurses := true, apart := false, narrowed := true }
def FilterBooleUptoSaid : Prop := filterBooleUptoRow.holds Try.pinned (OpenSpec.upto filterBooleSpec)

/-- 'reedkeep.FilterMorgan', WHERE WHAT IT READS IS OF BULK AT MOST 1048576: true; the input reads as it did. -/
def filterMorganUptoRow : OpenClaim := { program := "ytphcjjhfgpdhcaa", sum := "0a50e697375af96460089f8717223ba6defbb68958a2f90d9a68e9c512696431", func := "reedmace/reedkeep.FilterMorgan", spec := "filterMorgan", unfollowed := true, recurses := true, apart := false, narrowed := true }
def FilterMorganUptoSaid : Prop := filterMorganUptoRow.holds Try.pinned (OpenSpec.upto filterMorganSpec)

/-- 'reedkeep.FilterWithin', WHERE WHAT IT READS IS OF BULK AT MOST 1048576: true; the input reads as it did. -/
def filterWithinUptoRow : OpenClaim := { program := "ytphcjjhfgpdhcaa", sum := "0a50e697375af96460089f8717223ba6defbb68958a2f90d9a68e9c512696431", func := "reedmace/reedkeep.FilterWithin", spec := "filterWithin", unfollowed := true, recurses := true, apart := false, narrowed := true }
def FilterWithinUptoSaid : Prop := filterWithinUptoRow.holds Try.pinned (OpenSpec.upto filterWithinSpec)

/-- 'reedkeep.FilterMoves', WHERE WHAT IT READS IS OF BULK AT MOST 1048576: true; the input reads as it did. -/
def filterMovesUptoRow : OpenClaim := { program := "ytphcjjhfgpdhcaa", sum := "0a50e697375af96460089f8717223ba6defbb68958a2f90d9a68e9c512696431", func := "reedmace/reedkeep.FilterMoves", spec := "filterMoves", unfollowed := true, recurses := true, apart := false, narrowed := true }
def FilterMovesUptoSaid : Prop := filterMovesUptoRow.holds Try.pinned (OpenSpec.upto filterMovesSpec)

/-- 'reedkeep.FilterPoints', WHERE WHAT IT READS IS OF BULK AT MOST 1048576: true; the input reads as it did. -/
def filterPointsUptoRow : OpenClaim := { program := "ytphcjjhfgpdhcaa", sum := "0a50e697375af96460089f8717223ba6defbb68958a2f90d9a68e9c512696431", func := "reedmace/reedkeep.FilterPoints", spec := "filterPoints", unfollowed := true, recurses := true, apart := false, narrowed := true }
def FilterPointsUptoSaid : Prop := filterPointsUptoRow.holds Try.pinned (OpenSpec.upto filterPointsSpec)

/-- 'reedkeep.FilterParts', WHERE WHAT IT READS IS OF BULK AT MOST 1048576: true; the input reads as it did. -/
def filterPartsUptoRow : OpenClaim := { program := "ytphcjjhfgpdhcaa", sum := "0a50e697375af96460089f8717223ba6defbb68958a2f90d9a68e9c512696431", func := "reedmace/reedkeep.FilterParts", spec := "filterParts", unfollowed := true, recurses := true, apart := false, narrowed := true }
def FilterPartsUptoSaid : Prop := filterPartsUptoRow.holds Try.pinned (OpenSpec.upto filterPartsSpec)

/-- 'reedkeep.FilterGrows', WHERE WHAT IT READS IS OF BULK AT MOST 1048576: true; the input reads as it did. -/
def filterGrowsUptoRow : OpenClaim := { program := "ytphcjjhfgpdhcaa", sum := "0a50e697375af96460089f8717223ba6defbb68958a2f90d9a68e9c512696431", func := "reedmace/reedkeep.FilterGrows", spec := "filterGrows", unfollowed := true, recurses := true, apart := false, narrowed := true }
def FilterGrowsUptoSaid : Prop := filterGrowsUptoRow.holds Try.pinned (OpenSpec.upto filterGrowsSpec)

/-- 'reedkeep.FilterBox', WHERE WHAT IT READS IS OF BULK AT MOST 1048576: true; the input reads as it did. -/
def filterBoxUptoRow : OpenClaim := { program := "ytphcjjhfgpdhcaa", sum := "0a50e697375af96460089f8717223ba6defbb68958a2f90d9a68e9c512696431", func := "reedmace/reedkeep.FilterBox", spec := "filterBox", unfollowed := true, recurses := true, apart := false, narrowed := true }
def FilterBoxUptoSaid : Prop := filterBoxUptoRow.holds Try.pinned (OpenSpec.upto filterBoxSpec)

/-- 'reedlaw.SpanSays', WHERE WHAT IT READS IS OF BULK AT MOST 1048576: true; the input reads as it did. -/
def spanSaysUptoRow : OpenClaim := { program := "ytphcjjhfgpdhcaa", sum := "0a50e697375af96460089f8717223ba6defbb68958a2f90d9a68e9c512696431", func := "reedmace/reedlaw.SpanSays", spec := "spanSays", apart := false, narrowed := true }
def SpanSaysUptoSaid : Prop := spanSaysUptoRow.holds Try.pinned (OpenSpec.upto spanSaysSpec)

/-- 'reedlaw.SpanSets', WHERE WHAT IT READS IS OF BULK AT MOST 1048576: true; the input reads as it did. -/
def spanSetsUptoRow : OpenClaim := { program := "ytphcjjhfgpdhcaa", sum := "0a50e697375af96460089f8717223ba6defbb68958a2f90d9a68e9c512696431", func := "reedmace/reedlaw.SpanSets", spec := "spanSets", unfollowed := true, recurses := true, apart := false, narrowed := true }
def SpanSetsUptoSaid : Prop := spanSetsUptoRow.holds Try.pinned (OpenSpec.upto spanSetsSpec)

end Rows
end Go.Proofs.Ytphcjjhfgpdhcaa
