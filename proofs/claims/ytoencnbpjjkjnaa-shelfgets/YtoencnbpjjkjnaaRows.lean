/-
  No cell of these rows narrows 'for every input' (looked for: loops, veiled, ifaces, maps, wideKeys, modest, calm, conditions, laid).
  DERIVED. THE GIVEN ROWS OF THIS SEAT. 7 by the template 'for every input the law returns true; each argument reads behind the call as it read before'; 0 by the template 'total and deterministic' (their statements: YtoencnbpjjkjnaaTotals.lean).
  GIVEN WITH THE SEED: the statements are not yours to turn. If you find one false, say at which input.
  Laid BY PROGRAM, IN A SANDBOX (cutbox-rows.mjs): the forced cells as the released guide's own fill.sh prints them over the translation d4013a4432dc5752… (all of the seat's roots in one cut). By AI agents, Wed Nov 11 2026. No macro, syntax, notation, axiom, sorry.
-/
import Derived.Test.YtoencnbpjjkjnaaChecked
import GoSem.Claim
import GoSem.ClaimJoined
import GoSem.ClaimMapViews
import Derived.JoinedTies
import Derived.KernelRfl
namespace Go.Proofs.Ytoencnbpjjkjnaa
/- THE CELL 'sum', in the pinned program and in every row, IS THE sha256 OF THE DUMP (.gsa) THAT YtoencnbpjjkjnaaProg.lean LOADS. Nothing in Lean hashes anything: it is a label: what it is worth is what the hold of that sum in a sandbox is worth. -/
noncomputable def Try.pinned : Pinned := { name := "ytoencnbpjjkjnaa", sum := "d4013a4432dc57529b3e1903ac5ae01017cf908337a16f89d6aeec54d1491158", checked := Try.checked }
namespace Rows
def none {H : Type} : Left H := { results := [], args := [] }

/-- 'reedlaw.ShelfSays': WHATEVER THE INPUT: true; the input reads as it did. -/
def shelfSaysSpec : ChangeSpec := { name := "shelfSays", fn := fun _ => fun
  | [d1, d2, d3] => { results := [.lit (.bool true)], args := [d1, d2, d3] }
  | _ => none }
def shelfSaysRow : OpenClaim := { program := "ytoencnbpjjkjnaa", sum := "d4013a4432dc57529b3e1903ac5ae01017cf908337a16f89d6aeec54d1491158", func := "reedmace/reedlaw.ShelfSays", spec := "shelfSays", unfollowed := true, recurses := true, apart := false }
def ShelfSaysSaid : Prop := shelfSaysRow.holds Try.pinned (OpenSpec.ofChange shelfSaysSpec)

/-- ITS FALSE NEIGHBOUR: 'it returns false'. Refute it at one input. -/
def shelfSaysWrong : ChangeSpec := { name := "shelfSays", fn := fun _ => fun
  | [d1, d2, d3] => { results := [.lit (.bool false)], args := [d1, d2, d3] }
  | _ => none }
def ShelfSaysWrongFalsely : Prop := shelfSaysRow.holds Try.pinned (OpenSpec.ofChange shelfSaysWrong)

/-- 'reedkeep.ShelfOrder': WHATEVER THE INPUT: true; the input reads as it did. -/
def shelfOrderSpec : ChangeSpec := { name := "shelfOrder", fn := fun _ => fun
  | [d1, d2] => { results := [.lit (.bool true)], args := [d1, d2] }
  | _ => none }
def shelfOrderRow : OpenClaim := { program := "ytoencnbpjjkjnaa", sum := "d4013a4432dc57529b3e1903ac5ae01017cf908337a16f89d6aeec54d1491158", func := "reedmace/reedkeep.ShelfOrder", spec := "shelfOrder", inPlace := ["slices.overlaps[reedmace/api.Version]"], unfollowed := true, recurses := true, apart := false }
def ShelfOrderSaid : Prop := shelfOrderRow.holds Try.pinned (OpenSpec.ofChange shelfOrderSpec)

/-- ITS FALSE NEIGHBOUR: 'it returns false'. Refute it at one input. -/
def shelfOrderWrong : ChangeSpec := { name := "shelfOrder", fn := fun _ => fun
  | [d1, d2] => { results := [.lit (.bool false)], args := [d1, d2] }
  | _ => none }
def ShelfOrderWrongFalsely : Prop := shelfOrderRow.holds Try.pinned (OpenSpec.ofChange shelfOrderWrong)

/-- 'reedkeep.ShelfPast': WHATEVER THE INPUT: true; the input reads as it did. -/
def shelfPastSpec : ChangeSpec := { name := "shelfPast", fn := fun _ => fun
  | [d1, d2, d3] => { results := [.lit (.bool true)], args := [d1, d2, d3] }
  | _ => none }
def shelfPastRow : OpenClaim := { program := "ytoencnbpjjkjnaa", sum := "d4013a4432dc57529b3e1903ac5ae01017cf908337a16f89d6aeec54d1491158", func := "reedmace/reedkeep.ShelfPast", spec := "shelfPast", inPlace := ["slices.overlaps[reedmace/api.Version]"], unfollowed := true, recurses := true, apart := false }
def ShelfPastSaid : Prop := shelfPastRow.holds Try.pinned (OpenSpec.ofChange shelfPastSpec)

/-- ITS FALSE NEIGHBOUR: 'it returns false'. Refute it at one input. -/
def shelfPastWrong : ChangeSpec := { name := "shelfPast", fn := fun _ => fun
  | [d1, d2, d3] => { results := [.lit (.bool false)], args := [d1, d2, d3] }
  | _ => none }
def ShelfPastWrongFalsely : Prop := shelfPastRow.holds Try.pinned (OpenSpec.ofChange shelfPastWrong)

/-- 'reedkeep.ShelfDrops': WHATEVER THE INPUT: true; the input reads as it did. -/
def shelfDropsSpec : ChangeSpec := { name := "shelfDrops", fn := fun _ => fun
  | [d1, d2, d3, d4] => { results := [.lit (.bool true)], args := [d1, d2, d3, d4] }
  | _ => none }
def shelfDropsRow : OpenClaim := { program := "ytoencnbpjjkjnaa", sum := "d4013a4432dc57529b3e1903ac5ae01017cf908337a16f89d6aeec54d1491158", func := "reedmace/reedkeep.ShelfDrops", spec := "shelfDrops", inPlace := ["slices.overlaps[reedmace/api.Version]"], unfollowed := true, recurses := true, apart := false }
def ShelfDropsSaid : Prop := shelfDropsRow.holds Try.pinned (OpenSpec.ofChange shelfDropsSpec)

/-- ITS FALSE NEIGHBOUR: 'it returns false'. Refute it at one input. -/
def shelfDropsWrong : ChangeSpec := { name := "shelfDrops", fn := fun _ => fun
  | [d1, d2, d3, d4] => { results := [.lit (.bool false)], args := [d1, d2, d3, d4] }
  | _ => none }
def ShelfDropsWrongFalsely : Prop := shelfDropsRow.holds Try.pinned (OpenSpec.ofChange shelfDropsWrong)

/-- 'reedkeep.ShelfTwice': WHATEVER THE INPUT: true; the input reads as it did. -/
def shelfTwiceSpec : ChangeSpec := { name := "shelfTwice", fn := fun _ => fun
  | [d1, d2, d3] => { results := [.lit (.bool true)], args := [d1, d2, d3] }
  | _ => none }
def shelfTwiceRow : OpenClaim := { program := "ytoencnbpjjkjnaa", sum := "d4013a4432dc57529b3e1903ac5ae01017cf908337a16f89d6aeec54d1491158", func := "reedmace/reedkeep.ShelfTwice", spec := "shelfTwice", inPlace := ["slices.overlaps[reedmace/api.Version]"], unfollowed := true, recurses := true, apart := false }
def ShelfTwiceSaid : Prop := shelfTwiceRow.holds Try.pinned (OpenSpec.ofChange shelfTwiceSpec)

/-- ITS FALSE NEIGHBOUR: 'it returns false'. Refute it at one input. -/
def shelfTwiceWrong : ChangeSpec := { name := "shelfTwice", fn := fun _ => fun
  | [d1, d2, d3] => { results := [.lit (.bool false)], args := [d1, d2, d3] }
  | _ => none }
def ShelfTwiceWrongFalsely : Prop := shelfTwiceRow.holds Try.pinned (OpenSpec.ofChange shelfTwiceWrong)

/-- 'reedkeep.ShelfJoins': WHATEVER THE INPUT: true; the input reads as it did. -/
def shelfJoinsSpec : ChangeSpec := { name := "shelfJoins", fn := fun _ => fun
  | [d1, d2] => { results := [.lit (.bool true)], args := [d1, d2] }
  | _ => none }
def shelfJoinsRow : OpenClaim := { program := "ytoencnbpjjkjnaa", sum := "d4013a4432dc57529b3e1903ac5ae01017cf908337a16f89d6aeec54d1491158", func := "reedmace/reedkeep.ShelfJoins", spec := "shelfJoins", inPlace := ["slices.overlaps[reedmace/api.Version]"], unfollowed := true, recurses := true, apart := false }
def ShelfJoinsSaid : Prop := shelfJoinsRow.holds Try.pinned (OpenSpec.ofChange shelfJoinsSpec)

/-- ITS FALSE NEIGHBOUR: 'it returns false'. Refute it at one input. -/
def shelfJoinsWrong : ChangeSpec := { name := "shelfJoins", fn := fun _ => fun
  | [d1, d2] => { results := [.lit (.bool false)], args := [d1, d2] }
  | _ => none }
def ShelfJoinsWrongFalsely : Prop := shelfJoinsRow.holds Try.pinned (OpenSpec.ofChange shelfJoinsWrong)

/-- 'reedkeep.ShelfGets': WHATEVER THE INPUT: true; the input reads as it did. -/
def shelfGetsSpec : ChangeSpec := { name := "shelfGets", fn := fun _ => fun
  | [d] => { results := [.lit (.bool true)], args := [d] }
  | _ => none }
def shelfGetsRow : OpenClaim := { program := "ytoencnbpjjkjnaa", sum := "d4013a4432dc57529b3e1903ac5ae01017cf908337a16f89d6aeec54d1491158", func := "reedmace/reedkeep.ShelfGets", spec := "shelfGets", inPlace := ["slices.overlaps[reedmace/api.Version]"], unfollowed := true, recurses := true, apart := false }
def ShelfGetsSaid : Prop := shelfGetsRow.holds Try.pinned (OpenSpec.ofChange shelfGetsSpec)

/-- ITS FALSE NEIGHBOUR: 'it returns false'. Refute it at one input. -/
def shelfGetsWrong : ChangeSpec := { name := "shelfGets", fn := fun _ => fun
  | [d] => { results := [.lit (.bool false)], args := [d] }
  | _ => none }
def ShelfGetsWrongFalsely : Prop := shelfGetsRow.holds Try.pinned (OpenSpec.ofChange shelfGetsWrong)

/- THE SECOND FORM. 'bulk': how many values and letters a reading holds, each counted each time it is reached (what is shared counts as often as it is met; a slice's spare places count too). A statement '..UptoSaid' is the law's where the arguments, and the package variables that the reading takes, are together of bulk at most 1048576: NARROWER than '..Said'. Prove '..Said' where nothing that the law and all that it calls make is longer than what came in: it says more and counts as full. Else prove '..UptoSaid'. A law counts once. -/
mutual
def uptoBulk {H : Type} : DataW H → Nat
  | .lit (.string bytes) => bytes.length + 1
  | .lit _ => 1
  | .nil => 1
  | .ptr d => uptoBulk d + 1
  | .slice elems spare => uptoBulkAll elems + uptoBulkAll spare + 1
  | .agg parts => uptoBulkAll parts + 1
  | .iface _ d => uptoBulk d + 1
  | .map entries => uptoBulkEntries entries + 1
  | .held _ => 1
def uptoBulkAll {H : Type} : List (DataW H) → Nat
  | [] => 0
  | d :: r => uptoBulk d + uptoBulkAll r
def uptoBulkEntries {H : Type} : List (Lit × DataW H) → Nat
  | [] => 0
  | x :: r => uptoBulkEntry x + uptoBulkEntries r
def uptoBulkEntry {H : Type} : Lit × DataW H → Nat
  | (.string bytes, d) => bytes.length + uptoBulk d + 1
  | (_, d) => uptoBulk d + 1
 end
def uptoSmall : (H : Type) → List (DataW H) → Bool := fun _ ds => decide (uptoBulkAll ds ≤ 1048576)
def OpenSpec.upto (s : _root_.Go.ChangeSpec) : _root_.Go.OpenSpec := { _root_.Go.OpenSpec.ofChange s with cond := some uptoSmall }

/-- 'reedlaw.ShelfSays', WHERE WHAT IT READS IS OF BULK AT MOST 1048576: true; the input reads as it did. -/
def shelfSaysUptoRow : OpenClaim := { program := "ytoencnbpjjkjnaa", sum := "d4013a4432dc57529b3e1903ac5ae01017cf908337a16f89d6aeec54d1491158", func := "reedmace/reedlaw.ShelfSays", spec := "shelfSays", unfollowed := true, recurses := true, apart := false, narrowed := true }
def ShelfSaysUptoSaid : Prop := shelfSaysUptoRow.holds Try.pinned (OpenSpec.upto shelfSaysSpec)

/-- 'reedkeep.ShelfOrder', WHERE WHAT IT READS IS OF BULK AT MOST 1048576: true; the input reads as it did. -/
def shelfOrderUptoRow : OpenClaim := { program := "ytoencnbpjjkjnaa", sum := "d4013a4432dc57529b3e1903ac5ae01017cf908337a16f89d6aeec54d1491158", func := "reedmace/reedkeep.ShelfOrder", spec := "shelfOrder", inPlace := ["slices.overlaps[reedmace/api.Version]"], unfollowed := true, recurses := true, apart := false, narrowed := true }
def ShelfOrderUptoSaid : Prop := shelfOrderUptoRow.holds Try.pinned (OpenSpec.upto shelfOrderSpec)

/-- 'reedkeep.ShelfPast', WHERE WHAT IT READS IS OF BULK AT MOST 1048576: true; the input reads as it did. -/
def shelfPastUptoRow : OpenClaim := { program := "ytoencnbpjjkjnaa", sum := "d4013a4432dc57529b3e1903ac5ae01017cf908337a16f89d6aeec54d1491158", func := "reedmace/reedkeep.ShelfPast", spec := "shelfPast", inPlace := ["slices.overlaps[reedmace/api.Version]"], unfollowed := true, recurses := true, apart := false, narrowed := true }
def ShelfPastUptoSaid : Prop := shelfPastUptoRow.holds Try.pinned (OpenSpec.upto shelfPastSpec)

/-- 'reedkeep.ShelfDrops', WHERE WHAT IT READS IS OF BULK AT MOST 1048576: true; the input reads as it did. -/
def shelfDropsUptoRow : OpenClaim := { program := "ytoencnbpjjkjnaa", sum := "d4013a4432dc57529b3e1903ac5ae01017cf908337a16f89d6aeec54d1491158", func := "reedmace/reedkeep.ShelfDrops", spec := "shelfDrops", inPlace := ["slices.overlaps[reedmace/api.Version]"], unfollowed := true, recurses := true, apart := false, narrowed := true }
def ShelfDropsUptoSaid : Prop := shelfDropsUptoRow.holds Try.pinned (OpenSpec.upto shelfDropsSpec)

/-- 'reedkeep.ShelfTwice', WHERE WHAT IT READS IS OF BULK AT MOST 1048576: true; the input reads as it did. -/
def shelfTwiceUptoRow : OpenClaim := { program := "ytoencnbpjjkjnaa", sum := "d4013a4432dc57529b3e1903ac5ae01017cf908337a16f89d6aeec54d1491158", func := "reedmace/reedkeep.ShelfTwice", spec := "shelfTwice", inPlace := ["slices.overlaps[reedmace/api.Version]"], unfollowed := true, recurses := true, apart := false, narrowed := true }
def ShelfTwiceUptoSaid : Prop := shelfTwiceUptoRow.holds Try.pinned (OpenSpec.upto shelfTwiceSpec)

/-- 'reedkeep.ShelfJoins', WHERE WHAT IT READS IS OF BULK AT MOST 1048576: true; the input reads as it did. -/
def shelfJoinsUptoRow : OpenClaim := { program := "ytoencnbpjjkjnaa", sum := "d4013a4432dc57529b3e1903ac5ae01017cf908337a16f89d6aeec54d1491158", func := "reedmace/reedkeep.ShelfJoins", spec := "shelfJoins", inPlace := ["slices.overlaps[reedmace/api.Version]"], unfollowed := true, recurses := true, apart := false, narrowed := true }
def ShelfJoinsUptoSaid : Prop := shelfJoinsUptoRow.holds Try.pinned (OpenSpec.upto shelfJoinsSpec)

/-- 'reedkeep.ShelfGets', WHERE WHAT IT READS IS OF BULK AT MOST 1048576: true; the input reads as it did. -/
def shelfGetsUptoRow : OpenClaim := { program := "ytoencnbpjjkjnaa", sum := "d4013a4432dc57529b3e1903ac5ae01017cf908337a16f89d6aeec54d1491158", func := "reedmace/reedkeep.ShelfGets", spec := "shelfGets", inPlace := ["slices.overlaps[reedmace/api.Version]"], unfollowed := true, recurses := true, apart := false, narrowed := true }
def ShelfGetsUptoSaid : Prop := shelfGetsUptoRow.holds Try.pinned (OpenSpec.upto shelfGetsSpec)

end Rows
end Go.Proofs.Ytoencnbpjjkjnaa
