/-
  No cell of these rows narrows 'for every input' (looked for: loops, veiled, ifaces, maps, wideKeys, modest, calm, conditions, laid).
  DERIVED. THE GIVEN ROWS OF THIS SEAT. 12 by the template 'for every input the law returns true; each argument reads behind the call as it read before'; 0 by the template 'total and deterministic' (their statements: YtkdhfpdpbledcaaTotals.lean).
  GIVEN WITH THE SEED: the statements are not yours to turn. If you find one false, say at which input.
  Laid BY PROGRAM, IN A SANDBOX (cutbox-rows.mjs): the forced cells as the released guide's own fill.sh prints them over the translation 136e0b1e921f6911… (all of the seat's roots in one cut). By AI agents, Wed Nov 11 2026. No macro, syntax, notation, axiom, sorry.
-/
import Derived.Test.YtkdhfpdpbledcaaChecked
import GoSem.Claim
import GoSem.ClaimJoined
import GoSem.ClaimMapViews
import Derived.JoinedTies
import Derived.KernelRfl
namespace Go.Proofs.Ytkdhfpdpbledcaa
/- THE CELL 'sum', in the pinned program and in every row, IS THE sha256 OF THE DUMP (.gsa) THAT YtkdhfpdpbledcaaProg.lean LOADS. Nothing in Lean hashes anything: it is a label: what it is worth is what the hold of that sum in a sandbox is worth. -/
noncomputable def Try.pinned : Pinned := { name := "ytkdhfpdpbledcaa", sum := "136e0b1e921f6911cda08a5b65e5997f627e7bf30b5fcc1aeb4c9a030a3882ac", checked := Try.checked }
namespace Rows
def none {H : Type} : Left H := { results := [], args := [] }

/-- 'reedlaw.SpanSays': WHATEVER THE INPUT: true; the input reads as it did. -/
def spanSaysSpec : ChangeSpec := { name := "spanSays", fn := fun _ => fun
  | [d1, d2, d3] => { results := [.lit (.bool true)], args := [d1, d2, d3] }
  | _ => none }
def spanSaysRow : OpenClaim := { program := "ytkdhfpdpbledcaa", sum := "136e0b1e921f6911cda08a5b65e5997f627e7bf30b5fcc1aeb4c9a030a3882ac", func := "reedmace/reedlaw.SpanSays", spec := "spanSays", apart := false }
def SpanSaysSaid : Prop := spanSaysRow.holds Try.pinned (OpenSpec.ofChange spanSaysSpec)

/-- ITS FALSE NEIGHBOUR: 'it returns false'. Refute it at one input. -/
def spanSaysWrong : ChangeSpec := { name := "spanSays", fn := fun _ => fun
  | [d1, d2, d3] => { results := [.lit (.bool false)], args := [d1, d2, d3] }
  | _ => none }
def SpanSaysWrongFalsely : Prop := spanSaysRow.holds Try.pinned (OpenSpec.ofChange spanSaysWrong)

/-- 'reedlaw.SpanSets': WHATEVER THE INPUT: true; the input reads as it did. -/
def spanSetsSpec : ChangeSpec := { name := "spanSets", fn := fun _ => fun
  | [d1, d2] => { results := [.lit (.bool true)], args := [d1, d2] }
  | _ => none }
def spanSetsRow : OpenClaim := { program := "ytkdhfpdpbledcaa", sum := "136e0b1e921f6911cda08a5b65e5997f627e7bf30b5fcc1aeb4c9a030a3882ac", func := "reedmace/reedlaw.SpanSets", spec := "spanSets", unfollowed := true, recurses := true, apart := false }
def SpanSetsSaid : Prop := spanSetsRow.holds Try.pinned (OpenSpec.ofChange spanSetsSpec)

/-- ITS FALSE NEIGHBOUR: 'it returns false'. Refute it at one input. -/
def spanSetsWrong : ChangeSpec := { name := "spanSets", fn := fun _ => fun
  | [d1, d2] => { results := [.lit (.bool false)], args := [d1, d2] }
  | _ => none }
def SpanSetsWrongFalsely : Prop := spanSetsRow.holds Try.pinned (OpenSpec.ofChange spanSetsWrong)

/-- 'reedlaw.CubeSays': WHATEVER THE INPUT: true; the input reads as it did. -/
def cubeSaysSpec : ChangeSpec := { name := "cubeSays", fn := fun _ => fun
  | [d1, d2, d3] => { results := [.lit (.bool true)], args := [d1, d2, d3] }
  | _ => none }
def cubeSaysRow : OpenClaim := { program := "ytkdhfpdpbledcaa", sum := "136e0b1e921f6911cda08a5b65e5997f627e7bf30b5fcc1aeb4c9a030a3882ac", func := "reedmace/reedlaw.CubeSays", spec := "cubeSays", apart := false }
def CubeSaysSaid : Prop := cubeSaysRow.holds Try.pinned (OpenSpec.ofChange cubeSaysSpec)

/-- ITS FALSE NEIGHBOUR: 'it returns false'. Refute it at one input. -/
def cubeSaysWrong : ChangeSpec := { name := "cubeSays", fn := fun _ => fun
  | [d1, d2, d3] => { results := [.lit (.bool false)], args := [d1, d2, d3] }
  | _ => none }
def CubeSaysWrongFalsely : Prop := cubeSaysRow.holds Try.pinned (OpenSpec.ofChange cubeSaysWrong)

/-- 'reedkeep.SpanBoole': WHATEVER THE INPUT: true; the input reads as it did. -/
def spanBooleSpec : ChangeSpec := { name := "spanBoole", fn := fun _ => fun
  | [d1, d2, d3] => { results := [.lit (.bool true)], args := [d1, d2, d3] }
  | _ => none }
def spanBooleRow : OpenClaim := { program := "ytkdhfpdpbledcaa", sum := "136e0b1e921f6911cda08a5b65e5997f627e7bf30b5fcc1aeb4c9a030a3882ac", func := "reedmace/reedkeep.SpanBoole", spec := "spanBoole", unfollowed := true, recurses := true, apart := false }
def SpanBooleSaid : Prop := spanBooleRow.holds Try.pinned (OpenSpec.ofChange spanBooleSpec)

/-- ITS FALSE NEIGHBOUR: 'it returns false'. Refute it at one input. -/
def spanBooleWrong : ChangeSpec := { name := "spanBoole", fn := fun _ => fun
  | [d1, d2, d3] => { results := [.lit (.bool false)], args := [d1, d2, d3] }
  | _ => none }
def SpanBooleWrongFalsely : Prop := spanBooleRow.holds Try.pinned (OpenSpec.ofChange spanBooleWrong)

/-- 'reedkeep.SpanMorgan': WHATEVER THE INPUT: true; the input reads as it did. -/
def spanMorganSpec : ChangeSpec := { name := "spanMorgan", fn := fun _ => fun
  | [d1, d2] => { results := [.lit (.bool true)], args := [d1, d2] }
  | _ => none }
def spanMorganRow : OpenClaim := { program := "ytkdhfpdpbledcaa", sum := "136e0b1e921f6911cda08a5b65e5997f627e7bf30b5fcc1aeb4c9a030a3882ac", func := "reedmace/reedkeep.SpanMorgan", spec := "spanMorgan", unfollowed := true, recurses := true, apart := false }
def SpanMorganSaid : Prop := spanMorganRow.holds Try.pinned (OpenSpec.ofChange spanMorganSpec)

/-- ITS FALSE NEIGHBOUR: 'it returns false'. Refute it at one input. -/
def spanMorganWrong : ChangeSpec := { name := "spanMorgan", fn := fun _ => fun
  | [d1, d2] => { results := [.lit (.bool false)], args := [d1, d2] }
  | _ => none }
def SpanMorganWrongFalsely : Prop := spanMorganRow.holds Try.pinned (OpenSpec.ofChange spanMorganWrong)

/-- 'reedkeep.SpanOf': WHATEVER THE INPUT: true; the input reads as it did. -/
def spanOfSpec : ChangeSpec := { name := "spanOf", fn := fun _ => fun
  | [d1, d2, d3] => { results := [.lit (.bool true)], args := [d1, d2, d3] }
  | _ => none }
def spanOfRow : OpenClaim := { program := "ytkdhfpdpbledcaa", sum := "136e0b1e921f6911cda08a5b65e5997f627e7bf30b5fcc1aeb4c9a030a3882ac", func := "reedmace/reedkeep.SpanOf", spec := "spanOf", apart := false }
def SpanOfSaid : Prop := spanOfRow.holds Try.pinned (OpenSpec.ofChange spanOfSpec)

/-- ITS FALSE NEIGHBOUR: 'it returns false'. Refute it at one input. -/
def spanOfWrong : ChangeSpec := { name := "spanOf", fn := fun _ => fun
  | [d1, d2, d3] => { results := [.lit (.bool false)], args := [d1, d2, d3] }
  | _ => none }
def SpanOfWrongFalsely : Prop := spanOfRow.holds Try.pinned (OpenSpec.ofChange spanOfWrong)

/-- 'reedkeep.SpanWithin': WHATEVER THE INPUT: true; the input reads as it did. -/
def spanWithinSpec : ChangeSpec := { name := "spanWithin", fn := fun _ => fun
  | [d1, d2, d3] => { results := [.lit (.bool true)], args := [d1, d2, d3] }
  | _ => none }
def spanWithinRow : OpenClaim := { program := "ytkdhfpdpbledcaa", sum := "136e0b1e921f6911cda08a5b65e5997f627e7bf30b5fcc1aeb4c9a030a3882ac", func := "reedmace/reedkeep.SpanWithin", spec := "spanWithin", unfollowed := true, recurses := true, apart := false }
def SpanWithinSaid : Prop := spanWithinRow.holds Try.pinned (OpenSpec.ofChange spanWithinSpec)

/-- ITS FALSE NEIGHBOUR: 'it returns false'. Refute it at one input. -/
def spanWithinWrong : ChangeSpec := { name := "spanWithin", fn := fun _ => fun
  | [d1, d2, d3] => { results := [.lit (.bool false)], args := [d1, d2, d3] }
  | _ => none }
def SpanWithinWrongFalsely : Prop := spanWithinRow.holds Try.pinned (OpenSpec.ofChange spanWithinWrong)

/-- 'reedkeep.CubeMeets': WHATEVER THE INPUT: true; the input reads as it did. -/
def cubeMeetsSpec : ChangeSpec := { name := "cubeMeets", fn := fun _ => fun
  | [d1, d2, d3, d4] => { results := [.lit (.bool true)], args := [d1, d2, d3, d4] }
  | _ => none }
def cubeMeetsRow : OpenClaim := { program := "ytkdhfpdpbledcaa", sum := "136e0b1e921f6911cda08a5b65e5997f627e7bf30b5fcc1aeb4c9a030a3882ac", func := "reedmace/reedkeep.CubeMeets", spec := "cubeMeets", apart := false }
def CubeMeetsSaid : Prop := cubeMeetsRow.holds Try.pinned (OpenSpec.ofChange cubeMeetsSpec)

/-- ITS FALSE NEIGHBOUR: 'it returns false'. Refute it at one input. -/
def cubeMeetsWrong : ChangeSpec := { name := "cubeMeets", fn := fun _ => fun
  | [d1, d2, d3, d4] => { results := [.lit (.bool false)], args := [d1, d2, d3, d4] }
  | _ => none }
def CubeMeetsWrongFalsely : Prop := cubeMeetsRow.holds Try.pinned (OpenSpec.ofChange cubeMeetsWrong)

/-- 'reedkeep.CubeParts': WHATEVER THE INPUT: true; the input reads as it did. -/
def cubePartsSpec : ChangeSpec := { name := "cubeParts", fn := fun _ => fun
  | [d1, d2] => { results := [.lit (.bool true)], args := [d1, d2] }
  | _ => none }
def cubePartsRow : OpenClaim := { program := "ytkdhfpdpbledcaa", sum := "136e0b1e921f6911cda08a5b65e5997f627e7bf30b5fcc1aeb4c9a030a3882ac", func := "reedmace/reedkeep.CubeParts", spec := "cubeParts", apart := false }
def CubePartsSaid : Prop := cubePartsRow.holds Try.pinned (OpenSpec.ofChange cubePartsSpec)

/-- ITS FALSE NEIGHBOUR: 'it returns false'. Refute it at one input. -/
def cubePartsWrong : ChangeSpec := { name := "cubeParts", fn := fun _ => fun
  | [d1, d2] => { results := [.lit (.bool false)], args := [d1, d2] }
  | _ => none }
def CubePartsWrongFalsely : Prop := cubePartsRow.holds Try.pinned (OpenSpec.ofChange cubePartsWrong)

/-- 'reedkeep.SpanPoints': WHATEVER THE INPUT: true; the input reads as it did. -/
def spanPointsSpec : ChangeSpec := { name := "spanPoints", fn := fun _ => fun
  | [d1, d2, d3] => { results := [.lit (.bool true)], args := [d1, d2, d3] }
  | _ => none }
def spanPointsRow : OpenClaim := { program := "ytkdhfpdpbledcaa", sum := "136e0b1e921f6911cda08a5b65e5997f627e7bf30b5fcc1aeb4c9a030a3882ac", func := "reedmace/reedkeep.SpanPoints", spec := "spanPoints", unfollowed := true, recurses := true, apart := false }
def SpanPointsSaid : Prop := spanPointsRow.holds Try.pinned (OpenSpec.ofChange spanPointsSpec)

/-- ITS FALSE NEIGHBOUR: 'it returns false'. Refute it at one input. -/
def spanPointsWrong : ChangeSpec := { name := "spanPoints", fn := fun _ => fun
  | [d1, d2, d3] => { results := [.lit (.bool false)], args := [d1, d2, d3] }
  | _ => none }
def SpanPointsWrongFalsely : Prop := spanPointsRow.holds Try.pinned (OpenSpec.ofChange spanPointsWrong)

/-- 'reedkeep.SpanParts': WHATEVER THE INPUT: true; the input reads as it did. -/
def spanPartsSpec : ChangeSpec := { name := "spanParts", fn := fun _ => fun
  | [d1, d2] => { results := [.lit (.bool true)], args := [d1, d2] }
  | _ => none }
def spanPartsRow : OpenClaim := { program := "ytkdhfpdpbledcaa", sum := "136e0b1e921f6911cda08a5b65e5997f627e7bf30b5fcc1aeb4c9a030a3882ac", func := "reedmace/reedkeep.SpanParts", spec := "spanParts", unfollowed := true, recurses := true, apart := false }
def SpanPartsSaid : Prop := spanPartsRow.holds Try.pinned (OpenSpec.ofChange spanPartsSpec)

/-- ITS FALSE NEIGHBOUR: 'it returns false'. Refute it at one input. -/
def spanPartsWrong : ChangeSpec := { name := "spanParts", fn := fun _ => fun
  | [d1, d2] => { results := [.lit (.bool false)], args := [d1, d2] }
  | _ => none }
def SpanPartsWrongFalsely : Prop := spanPartsRow.holds Try.pinned (OpenSpec.ofChange spanPartsWrong)

/-- 'reedkeep.CubeOrder': WHATEVER THE INPUT: true; the input reads as it did. -/
def cubeOrderSpec : ChangeSpec := { name := "cubeOrder", fn := fun _ => fun
  | [d1, d2, d3, d4] => { results := [.lit (.bool true)], args := [d1, d2, d3, d4] }
  | _ => none }
def cubeOrderRow : OpenClaim := { program := "ytkdhfpdpbledcaa", sum := "136e0b1e921f6911cda08a5b65e5997f627e7bf30b5fcc1aeb4c9a030a3882ac", func := "reedmace/reedkeep.CubeOrder", spec := "cubeOrder", apart := false }
def CubeOrderSaid : Prop := cubeOrderRow.holds Try.pinned (OpenSpec.ofChange cubeOrderSpec)

/-- ITS FALSE NEIGHBOUR: 'it returns false'. Refute it at one input. -/
def cubeOrderWrong : ChangeSpec := { name := "cubeOrder", fn := fun _ => fun
  | [d1, d2, d3, d4] => { results := [.lit (.bool false)], args := [d1, d2, d3, d4] }
  | _ => none }
def CubeOrderWrongFalsely : Prop := cubeOrderRow.holds Try.pinned (OpenSpec.ofChange cubeOrderWrong)

/- THE SECOND FORM. 'bulk': how many values and letters a reading holds, each counted each time it is reached (what is shared counts as often as it is met; a slice's spare places count too). A statement '..UptoSaid' is the law's where the arguments, and the package variables that the reading takes, are together of bulk at most 1048576: NARROWER than '..Said'. Prove '..Said' where nothing that the law and all that it calls make is longer than what came in: it says more and counts as full. Else prove '..UptoSaid'. A law counts once. -/
mutual
def uptoBulk {H : Type} : DataW H → Nat
  | .lit (.string bytes) => bytes.length + 1
  | .lit _ => 1
  | .nil => 1
  | .ptr d => uptoBulk d + 1
  | .slice elems spare => uptoBulkAll elems + uptoBulkAll spare + 1
  | .agg parts => uptoBulkAll parts + 1
  | .iface _ d => uptoBulk d + 1
  | .map entries => uptoBulkEntries entries + 1
  | .held _ => 1
def uptoBulkAll {H : Type} : List (DataW H) → Nat
  | [] => 0
  | d :: r => uptoBulk d + uptoBulkAll r
def uptoBulkEntries {H : Type} : List (Lit × DataW H) → Nat
  | [] => 0
  | x :: r => uptoBulkEntry x + uptoBulkEntries r
def uptoBulkEntry {H : Type} : Lit × DataW H → Nat
  | (.string bytes, d) => bytes.length + uptoBulk d + 1
  | (_, d) => uptoBulk d + 1
 end
def uptoSmall : (H : Type) → List (DataW H) → Bool := fun _ ds => decide (uptoBulkAll ds ≤ 1048576)
def OpenSpec.upto (s : _root_.Go.ChangeSpec) : _root_.Go.OpenSpec := { _root_.Go.OpenSpec.ofChange s with cond := some uptoSmall }

/-- 'reedlaw.SpanSays', WHERE WHAT IT READS IS OF BULK AT MOST 1048576: true; the input reads as it did. -/
def spanSaysUptoRow : OpenClaim := { program := "ytkdhfpdpbledcaa", sum := "136e0b1e921f6911cda08a5b65e5997f627e7bf30b5fcc1aeb4c9a030a3882ac", func := "reedmace/reedlaw.SpanSays", spec := "spanSays", apart := false, narrowed := true }
def SpanSaysUptoSaid : Prop := spanSaysUptoRow.holds Try.pinned (OpenSpec.upto spanSaysSpec)

/-- 'reedlaw.SpanSets', WHERE WHAT IT READS IS OF BULK AT MOST 1048576: true; the input reads as it did. -/
def spanSetsUptoRow : OpenClaim := { program := "ytkdhfpdpbledcaa", sum := "136e0b1e921f6911cda08a5b65e5997f627e7bf30b5fcc1aeb4c9a030a3882ac", func := "reedmace/reedlaw.SpanSets", spec := "spanSets", unfollowed := true, recurses := true, apart := false, narrowed := true }
def SpanSetsUptoSaid : Prop := spanSetsUptoRow.holds Try.pinned (OpenSpec.upto spanSetsSpec)

/-- 'reedlaw.CubeSays', WHERE WHAT IT READS IS OF BULK AT MOST 1048576: true; the input reads as it did. -/
def cubeSaysUptoRow : OpenClaim := { program := "ytkdhfpdpbledcaa", sum := "136e0b1e921f6911cda08a5b65e5997f627e7bf30b5fcc1aeb4c9a030a3882ac", func := "reedmace/reedlaw.CubeSays", spec := "cubeSays", apart := false, narrowed := true }
def CubeSaysUptoSaid : Prop := cubeSaysUptoRow.holds Try.pinned (OpenSpec.upto cubeSaysSpec)

/-- 'reedkeep.SpanBoole', WHERE WHAT IT READS IS OF BULK AT MOST 1048576: true; the input reads as it did. -/
def spanBooleUptoRow : OpenClaim := { program := "ytkdhfpdpbledcaa", sum := "136e0b1e921f6911cda08a5b65e5997f627e7bf30b5fcc1aeb4c9a030a3882ac", func := "reedmace/reedkeep.SpanBoole", spec := "spanBoole", unfollowed := true, recurses := true, apart := false, narrowed := true }
def SpanBooleUptoSaid : Prop := spanBooleUptoRow.holds Try.pinned (OpenSpec.upto spanBooleSpec)

/-- 'reedkeep.SpanMorgan', WHERE WHAT IT READS IS OF BULK AT MOST 1048576: true; the input reads as it did. -/
def spanMorganUptoRow : OpenClaim := { program := "ytkdhfpdpbledcaa", sum := "136e0b1e921f6911cda08a5b65e5997f627e7bf30b5fcc1aeb4c9a030a3882ac", func := "reedmace/reedkeep.SpanMorgan", spec := "spanMorgan", unfollowed := true, recurses := true, apart := false, narrowed := true }
def SpanMorganUptoSaid : Prop := spanMorganUptoRow.holds Try.pinned (OpenSpec.upto spanMorganSpec)

/-- 'reedkeep.SpanOf', WHERE WHAT IT READS IS OF BULK AT MOST 1048576: true; the input reads as it did. -/
def spanOfUptoRow : OpenClaim := { program := "ytkdhfpdpbledcaa", sum := "136e0b1e921f6911cda08a5b65e5997f627e7bf30b5fcc1aeb4c9a030a3882ac", func := "reedmace/reedkeep.SpanOf", spec := "spanOf", apart := false, narrowed := true }
def SpanOfUptoSaid : Prop := spanOfUptoRow.holds Try.pinned (OpenSpec.upto spanOfSpec)

/-- 'reedkeep.SpanWithin', WHERE WHAT IT READS IS OF BULK AT MOST 1048576: true; the input reads as it did. -/
def spanWithinUptoRow : OpenClaim := { program := "ytkdhfpdpbledcaa", sum := "136e0b1e921f6911cda08a5b65e5997f627e7bf30b5fcc1aeb4c9a030a3882ac", func := "reedmace/reedkeep.SpanWithin", spec := "spanWithin", unfollowed := true, recurses := true, apart := false, narrowed := true }
def SpanWithinUptoSaid : Prop := spanWithinUptoRow.holds Try.pinned (OpenSpec.upto spanWithinSpec)

/-- 'reedkeep.CubeMeets', WHERE WHAT IT READS IS OF BULK AT MOST 1048576: true; the input reads as it did. -/
def cubeMeetsUptoRow : OpenClaim := { program := "ytkdhfpdpbledcaa", sum := "136e0b1e921f6911cda08a5b65e5997f627e7bf30b5fcc1aeb4c9a030a3882ac", func := "reedmace/reedkeep.CubeMeets", spec := "cubeMeets", apart := false, narrowed := true }
def CubeMeetsUptoSaid : Prop := cubeMeetsUptoRow.holds Try.pinned (OpenSpec.upto cubeMeetsSpec)

/-- 'reedkeep.CubeParts', WHERE WHAT IT READS IS OF BULK AT MOST 1048576: true; the input reads as it did. -/
def cubePartsUptoRow : OpenClaim := { program := "ytkdhfpdpbledcaa", sum := "136e0b1e921f6911cda08a5b65e5997f627e7bf30b5fcc1aeb4c9a030a3882ac", func := "reedmace/reedkeep.CubeParts", spec := "cubeParts", apart := false, narrowed := true }
def CubePartsUptoSaid : Prop := cubePartsUptoRow.holds Try.pinned (OpenSpec.upto cubePartsSpec)

/-- 'reedkeep.SpanPoints', WHERE WHAT IT READS IS OF BULK AT MOST 1048576: true; the input reads as it did. -/
def spanPointsUptoRow : OpenClaim := { program := "ytkdhfpdpbledcaa", sum := "136e0b1e921f6911cda08a5b65e5997f627e7bf30b5fcc1aeb4c9a030a3882ac", func := "reedmace/reedkeep.SpanPoints", spec := "spanPoints", unfollowed := true, recurses := true, apart := false, narrowed := true }
def SpanPointsUptoSaid : Prop := spanPointsUptoRow.holds Try.pinned (OpenSpec.upto spanPointsSpec)

/-- 'reedkeep.SpanParts', WHERE WHAT IT READS IS OF BULK AT MOST 1048576: true; the input reads as it did. -/
def spanPartsUptoRow : OpenClaim := { program := "ytkdhfpdpbledcaa", sum := "136e0b1e921f6911cda08a5b65e5997f627e7bf30b5fcc1aeb4c9a030a3882ac", func := "reedmace/reedkeep.SpanParts", spec := "spanParts", unfollowed := true, recurses := true, apart := false, narrowed := true }
def SpanPartsUptoSaid : Prop := spanPartsUptoRow.holds Try.pinned (OpenSpec.upto spanPartsSpec)

/-- 'reedkeep.CubeOrder', WHERE WHAT IT READS IS OF BULK AT MOST 1048576: true; the input reads as it did. -/
def cubeOrderUptoRow : OpenClaim := { program := "ytkdhfpdpbledcaa", sum := "136e0b1e921f6911cda08a5b65e5997f627e7bf30b5fcc1aeb4c9a030a3882ac", func := "reedmace/reedkeep.CubeOrder", spec := "cubeOrder", apart := false, narrowed := true }
def CubeOrderUptoSaid : Prop := cubeOrderUptoRow.holds Try.pinned (OpenSpec.upto cubeOrderSpec)

end Rows
end Go.Proofs.Ytkdhfpdpbledcaa
