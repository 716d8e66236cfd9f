/-
  No cell of these rows narrows 'for every input' (looked for: loops, veiled, ifaces, maps, wideKeys, modest, calm, conditions, laid).
  DERIVED. THE GIVEN ROWS OF THIS SEAT. 12 by the template 'for every input the law returns true; each argument reads behind the call as it read before'; 0 by the template 'total and deterministic' (their statements: YtglbnggkkjhokaaGreatTotals.lean).
  GIVEN WITH THE SEED: the statements are not yours to turn. If you find one false, say at which input.
  Laid BY PROGRAM, IN A SANDBOX (cutbox-rows.mjs): the forced cells as the released guide's own fill.sh prints them over the translation 3a46a5c24232cb95… (all of the seat's roots in one cut). By AI agents, Wed Nov 11 2026. No macro, syntax, notation, axiom, sorry.
-/
import Derived.Test.YtglbnggkkjhokaaGreatChecked
import GoSem.Claim
import GoSem.ClaimJoined
import GoSem.ClaimMapViews
import Derived.JoinedTies
import Derived.KernelRfl
namespace Go.Proofs.YtglbnggkkjhokaaGreat
/- THE CELL 'sum', in the pinned program and in every row, IS THE sha256 OF THE DUMP (.gsa) THAT YtglbnggkkjhokaaGreatProg.lean LOADS. Nothing in Lean hashes anything: it is a label: what it is worth is what the hold of that sum in a sandbox is worth. -/
noncomputable def Tryz.pinned : Pinned := { name := "ytglbnggkkjhokaagreat", sum := "3a46a5c24232cb954442c452c423569a4e63f007a0900bf14c5c554f026e604c", checked := Tryz.checked }
namespace Rows
def none {H : Type} : Left H := { results := [], args := [] }

/-- 'reedlaw.SitePlays': WHATEVER THE INPUT: true; the input reads as it did. -/
def sitePlaysSpec : ChangeSpec := { name := "sitePlays", fn := fun _ => fun
  | [d1, d2, d3, d4, d5, d6, d7] => { results := [.lit (.bool true)], args := [d1, d2, d3, d4, d5, d6, d7] }
  | _ => none }
def sitePlaysRow : OpenClaim := { program := "ytglbnggkkjhokaagreat", sum := "3a46a5c24232cb954442c452c423569a4e63f007a0900bf14c5c554f026e604c", func := "reedmace/reedlaw.SitePlays", spec := "sitePlays", inPlace := ["slices.overlaps[reedmace/api.Version]", "internal/reflectlite.ValueOf", "internal/reflectlite.Swapper", "(internal/reflectlite.Value).Len"], unfollowed := true, recurses := true, apart := false }
def SitePlaysSaid : Prop := sitePlaysRow.holds Tryz.pinned (OpenSpec.ofChange sitePlaysSpec)

/-- ITS FALSE NEIGHBOUR: 'it returns false'. Refute it at one input. -/
def sitePlaysWrong : ChangeSpec := { name := "sitePlays", fn := fun _ => fun
  | [d1, d2, d3, d4, d5, d6, d7] => { results := [.lit (.bool false)], args := [d1, d2, d3, d4, d5, d6, d7] }
  | _ => none }
def SitePlaysWrongFalsely : Prop := sitePlaysRow.holds Tryz.pinned (OpenSpec.ofChange sitePlaysWrong)

/-- 'reedkeep.SiteAsks': WHATEVER THE INPUT: true; the input reads as it did. -/
def siteAsksSpec : ChangeSpec := { name := "siteAsks", fn := fun _ => fun
  | [d1, d2, d3] => { results := [.lit (.bool true)], args := [d1, d2, d3] }
  | _ => none }
def siteAsksRow : OpenClaim := { program := "ytglbnggkkjhokaagreat", sum := "3a46a5c24232cb954442c452c423569a4e63f007a0900bf14c5c554f026e604c", func := "reedmace/reedkeep.SiteAsks", spec := "siteAsks", inPlace := ["slices.overlaps[reedmace/api.Version]"], unfollowed := true, recurses := true, apart := false }
def SiteAsksSaid : Prop := siteAsksRow.holds Tryz.pinned (OpenSpec.ofChange siteAsksSpec)

/-- ITS FALSE NEIGHBOUR: 'it returns false'. Refute it at one input. -/
def siteAsksWrong : ChangeSpec := { name := "siteAsks", fn := fun _ => fun
  | [d1, d2, d3] => { results := [.lit (.bool false)], args := [d1, d2, d3] }
  | _ => none }
def SiteAsksWrongFalsely : Prop := siteAsksRow.holds Tryz.pinned (OpenSpec.ofChange siteAsksWrong)

/-- 'reedkeep.SiteKnows': WHATEVER THE INPUT: true; the input reads as it did. -/
def siteKnowsSpec : ChangeSpec := { name := "siteKnows", fn := fun _ => fun
  | [d1, d2, d3, d4] => { results := [.lit (.bool true)], args := [d1, d2, d3, d4] }
  | _ => none }
def siteKnowsRow : OpenClaim := { program := "ytglbnggkkjhokaagreat", sum := "3a46a5c24232cb954442c452c423569a4e63f007a0900bf14c5c554f026e604c", func := "reedmace/reedkeep.SiteKnows", spec := "siteKnows", inPlace := ["slices.overlaps[reedmace/api.Version]"], unfollowed := true, recurses := true, apart := false }
def SiteKnowsSaid : Prop := siteKnowsRow.holds Tryz.pinned (OpenSpec.ofChange siteKnowsSpec)

/-- ITS FALSE NEIGHBOUR: 'it returns false'. Refute it at one input. -/
def siteKnowsWrong : ChangeSpec := { name := "siteKnows", fn := fun _ => fun
  | [d1, d2, d3, d4] => { results := [.lit (.bool false)], args := [d1, d2, d3, d4] }
  | _ => none }
def SiteKnowsWrongFalsely : Prop := siteKnowsRow.holds Tryz.pinned (OpenSpec.ofChange siteKnowsWrong)

/-- 'reedkeep.SiteWants': WHATEVER THE INPUT: true; the input reads as it did. -/
def siteWantsSpec : ChangeSpec := { name := "siteWants", fn := fun _ => fun
  | [d1, d2, d3, d4, d5] => { results := [.lit (.bool true)], args := [d1, d2, d3, d4, d5] }
  | _ => none }
def siteWantsRow : OpenClaim := { program := "ytglbnggkkjhokaagreat", sum := "3a46a5c24232cb954442c452c423569a4e63f007a0900bf14c5c554f026e604c", func := "reedmace/reedkeep.SiteWants", spec := "siteWants", inPlace := ["slices.overlaps[reedmace/api.Version]"], unfollowed := true, recurses := true, apart := false }
def SiteWantsSaid : Prop := siteWantsRow.holds Tryz.pinned (OpenSpec.ofChange siteWantsSpec)

/-- ITS FALSE NEIGHBOUR: 'it returns false'. Refute it at one input. -/
def siteWantsWrong : ChangeSpec := { name := "siteWants", fn := fun _ => fun
  | [d1, d2, d3, d4, d5] => { results := [.lit (.bool false)], args := [d1, d2, d3, d4, d5] }
  | _ => none }
def SiteWantsWrongFalsely : Prop := siteWantsRow.holds Tryz.pinned (OpenSpec.ofChange siteWantsWrong)

/-- 'reedkeep.SiteLate': WHATEVER THE INPUT: true; the input reads as it did. -/
def siteLateSpec : ChangeSpec := { name := "siteLate", fn := fun _ => fun
  | [d1, d2, d3] => { results := [.lit (.bool true)], args := [d1, d2, d3] }
  | _ => none }
def siteLateRow : OpenClaim := { program := "ytglbnggkkjhokaagreat", sum := "3a46a5c24232cb954442c452c423569a4e63f007a0900bf14c5c554f026e604c", func := "reedmace/reedkeep.SiteLate", spec := "siteLate", inPlace := ["slices.overlaps[reedmace/api.Version]"], unfollowed := true, recurses := true, apart := false }
def SiteLateSaid : Prop := siteLateRow.holds Tryz.pinned (OpenSpec.ofChange siteLateSpec)

/-- ITS FALSE NEIGHBOUR: 'it returns false'. Refute it at one input. -/
def siteLateWrong : ChangeSpec := { name := "siteLate", fn := fun _ => fun
  | [d1, d2, d3] => { results := [.lit (.bool false)], args := [d1, d2, d3] }
  | _ => none }
def SiteLateWrongFalsely : Prop := siteLateRow.holds Tryz.pinned (OpenSpec.ofChange siteLateWrong)

/-- 'reedkeep.SiteTwice': WHATEVER THE INPUT: true; the input reads as it did. -/
def siteTwiceSpec : ChangeSpec := { name := "siteTwice", fn := fun _ => fun
  | [d1, d2, d3] => { results := [.lit (.bool true)], args := [d1, d2, d3] }
  | _ => none }
def siteTwiceRow : OpenClaim := { program := "ytglbnggkkjhokaagreat", sum := "3a46a5c24232cb954442c452c423569a4e63f007a0900bf14c5c554f026e604c", func := "reedmace/reedkeep.SiteTwice", spec := "siteTwice", inPlace := ["slices.overlaps[reedmace/api.Version]"], unfollowed := true, recurses := true, apart := false }
def SiteTwiceSaid : Prop := siteTwiceRow.holds Tryz.pinned (OpenSpec.ofChange siteTwiceSpec)

/-- ITS FALSE NEIGHBOUR: 'it returns false'. Refute it at one input. -/
def siteTwiceWrong : ChangeSpec := { name := "siteTwice", fn := fun _ => fun
  | [d1, d2, d3] => { results := [.lit (.bool false)], args := [d1, d2, d3] }
  | _ => none }
def SiteTwiceWrongFalsely : Prop := siteTwiceRow.holds Tryz.pinned (OpenSpec.ofChange siteTwiceWrong)

/-- 'reedkeep.SiteDots': WHATEVER THE INPUT: true; the input reads as it did. -/
def siteDotsSpec : ChangeSpec := { name := "siteDots", fn := fun _ => fun
  | [d1, d2, d3] => { results := [.lit (.bool true)], args := [d1, d2, d3] }
  | _ => none }
def siteDotsRow : OpenClaim := { program := "ytglbnggkkjhokaagreat", sum := "3a46a5c24232cb954442c452c423569a4e63f007a0900bf14c5c554f026e604c", func := "reedmace/reedkeep.SiteDots", spec := "siteDots", inPlace := ["slices.overlaps[reedmace/api.Version]"], unfollowed := true, recurses := true, apart := false }
def SiteDotsSaid : Prop := siteDotsRow.holds Tryz.pinned (OpenSpec.ofChange siteDotsSpec)

/-- ITS FALSE NEIGHBOUR: 'it returns false'. Refute it at one input. -/
def siteDotsWrong : ChangeSpec := { name := "siteDots", fn := fun _ => fun
  | [d1, d2, d3] => { results := [.lit (.bool false)], args := [d1, d2, d3] }
  | _ => none }
def SiteDotsWrongFalsely : Prop := siteDotsRow.holds Tryz.pinned (OpenSpec.ofChange siteDotsWrong)

/-- 'reedkeep.SiteReads': WHATEVER THE INPUT: true; the input reads as it did. -/
def siteReadsSpec : ChangeSpec := { name := "siteReads", fn := fun _ => fun
  | [d1, d2, d3, d4, d5] => { results := [.lit (.bool true)], args := [d1, d2, d3, d4, d5] }
  | _ => none }
def siteReadsRow : OpenClaim := { program := "ytglbnggkkjhokaagreat", sum := "3a46a5c24232cb954442c452c423569a4e63f007a0900bf14c5c554f026e604c", func := "reedmace/reedkeep.SiteReads", spec := "siteReads", inPlace := ["slices.overlaps[reedmace/api.Version]"], unfollowed := true, recurses := true, apart := false }
def SiteReadsSaid : Prop := siteReadsRow.holds Tryz.pinned (OpenSpec.ofChange siteReadsSpec)

/-- ITS FALSE NEIGHBOUR: 'it returns false'. Refute it at one input. -/
def siteReadsWrong : ChangeSpec := { name := "siteReads", fn := fun _ => fun
  | [d1, d2, d3, d4, d5] => { results := [.lit (.bool false)], args := [d1, d2, d3, d4, d5] }
  | _ => none }
def SiteReadsWrongFalsely : Prop := siteReadsRow.holds Tryz.pinned (OpenSpec.ofChange siteReadsWrong)

/-- 'reedkeep.SiteNothing': WHATEVER THE INPUT: true; the input reads as it did. -/
def siteNothingSpec : ChangeSpec := { name := "siteNothing", fn := fun _ => fun
  | [d] => { results := [.lit (.bool true)], args := [d] }
  | _ => none }
def siteNothingRow : OpenClaim := { program := "ytglbnggkkjhokaagreat", sum := "3a46a5c24232cb954442c452c423569a4e63f007a0900bf14c5c554f026e604c", func := "reedmace/reedkeep.SiteNothing", spec := "siteNothing", inPlace := ["slices.overlaps[reedmace/api.Version]"], unfollowed := true, recurses := true, apart := false }
def SiteNothingSaid : Prop := siteNothingRow.holds Tryz.pinned (OpenSpec.ofChange siteNothingSpec)

/-- ITS FALSE NEIGHBOUR: 'it returns false'. Refute it at one input. -/
def siteNothingWrong : ChangeSpec := { name := "siteNothing", fn := fun _ => fun
  | [d] => { results := [.lit (.bool false)], args := [d] }
  | _ => none }
def SiteNothingWrongFalsely : Prop := siteNothingRow.holds Tryz.pinned (OpenSpec.ofChange siteNothingWrong)

/-- 'reedkeep.SiteChain': WHATEVER THE INPUT: true; the input reads as it did. -/
def siteChainSpec : ChangeSpec := { name := "siteChain", fn := fun _ => fun
  | [d1, d2, d3] => { results := [.lit (.bool true)], args := [d1, d2, d3] }
  | _ => none }
def siteChainRow : OpenClaim := { program := "ytglbnggkkjhokaagreat", sum := "3a46a5c24232cb954442c452c423569a4e63f007a0900bf14c5c554f026e604c", func := "reedmace/reedkeep.SiteChain", spec := "siteChain", inPlace := ["slices.overlaps[reedmace/api.Version]"], unfollowed := true, recurses := true, apart := false }
def SiteChainSaid : Prop := siteChainRow.holds Tryz.pinned (OpenSpec.ofChange siteChainSpec)

/-- ITS FALSE NEIGHBOUR: 'it returns false'. Refute it at one input. -/
def siteChainWrong : ChangeSpec := { name := "siteChain", fn := fun _ => fun
  | [d1, d2, d3] => { results := [.lit (.bool false)], args := [d1, d2, d3] }
  | _ => none }
def SiteChainWrongFalsely : Prop := siteChainRow.holds Tryz.pinned (OpenSpec.ofChange siteChainWrong)

/-- 'reedkeep.SiteBoth': WHATEVER THE INPUT: true; the input reads as it did. -/
def siteBothSpec : ChangeSpec := { name := "siteBoth", fn := fun _ => fun
  | [d1, d2] => { results := [.lit (.bool true)], args := [d1, d2] }
  | _ => none }
def siteBothRow : OpenClaim := { program := "ytglbnggkkjhokaagreat", sum := "3a46a5c24232cb954442c452c423569a4e63f007a0900bf14c5c554f026e604c", func := "reedmace/reedkeep.SiteBoth", spec := "siteBoth", inPlace := ["slices.overlaps[reedmace/api.Version]"], unfollowed := true, recurses := true, apart := false }
def SiteBothSaid : Prop := siteBothRow.holds Tryz.pinned (OpenSpec.ofChange siteBothSpec)

/-- ITS FALSE NEIGHBOUR: 'it returns false'. Refute it at one input. -/
def siteBothWrong : ChangeSpec := { name := "siteBoth", fn := fun _ => fun
  | [d1, d2] => { results := [.lit (.bool false)], args := [d1, d2] }
  | _ => none }
def SiteBothWrongFalsely : Prop := siteBothRow.holds Tryz.pinned (OpenSpec.ofChange siteBothWrong)

/-- 'reedkeep.SiteWider': WHATEVER THE INPUT: true; the input reads as it did. -/
def siteWiderSpec : ChangeSpec := { name := "siteWider", fn := fun _ => fun
  | [d1, d2, d3, d4] => { results := [.lit (.bool true)], args := [d1, d2, d3, d4] }
  | _ => none }
def siteWiderRow : OpenClaim := { program := "ytglbnggkkjhokaagreat", sum := "3a46a5c24232cb954442c452c423569a4e63f007a0900bf14c5c554f026e604c", func := "reedmace/reedkeep.SiteWider", spec := "siteWider", inPlace := ["slices.overlaps[reedmace/api.Version]"], unfollowed := true, recurses := true, apart := false }
def SiteWiderSaid : Prop := siteWiderRow.holds Tryz.pinned (OpenSpec.ofChange siteWiderSpec)

/-- ITS FALSE NEIGHBOUR: 'it returns false'. Refute it at one input. -/
def siteWiderWrong : ChangeSpec := { name := "siteWider", fn := fun _ => fun
  | [d1, d2, d3, d4] => { results := [.lit (.bool false)], args := [d1, d2, d3, d4] }
  | _ => none }
def SiteWiderWrongFalsely : Prop := siteWiderRow.holds Tryz.pinned (OpenSpec.ofChange siteWiderWrong)

/- THE SECOND FORM. 'bulk': how many values and letters a reading holds, each counted each time it is reached (what is shared counts as often as it is met; a slice's spare places count too). A statement '..UptoSaid' is the law's where the arguments, and the package variables that the reading takes, are together of bulk at most 1048576: NARROWER than '..Said'. Prove '..Said' where nothing that the law and all that it calls make is longer than what came in: it says more and counts as full. Else prove '..UptoSaid'. A law counts once. -/
mutual
def uptoBulk {H : Type} : DataW H → Nat
  | .lit (.string bytes) => bytes.length + 1
  | .lit _ => 1
  | .nil => 1
  | .ptr d => uptoBulk d + 1
  | .slice elems spare => uptoBulkAll elems + uptoBulkAll spare + 1
  | .agg parts => uptoBulkAll parts + 1
  | .iface _ d => uptoBulk d + 1
  | .map entries => uptoBulkEntries entries + 1
  | .held _ => 1
def uptoBulkAll {H : Type} : List (DataW H) → Nat
  | [] => 0
  | d :: r => uptoBulk d + uptoBulkAll r
def uptoBulkEntries {H : Type} : List (Lit × DataW H) → Nat
  | [] => 0
  | x :: r => uptoBulkEntry x + uptoBulkEntries r
def uptoBulkEntry {H : Type} : Lit × DataW H → Nat
  | (.string bytes, d) => bytes.length + uptoBulk d + 1
  | (_, d) => uptoBulk d + 1
 end
def uptoSmall : (H : Type) → List (DataW H) → Bool := fun _ ds => decide (uptoBulkAll ds ≤ 1048576)
def OpenSpec.upto (s : _root_.Go.ChangeSpec) : _root_.Go.OpenSpec := { _root_.Go.OpenSpec.ofChange s with cond := some uptoSmall }

/-- 'reedlaw.SitePlays', WHERE WHAT IT READS IS OF BULK AT MOST 1048576: true; the input reads as it did. -/
def sitePlaysUptoRow : OpenClaim := { program := "ytglbnggkkjhokaagreat", sum := "3a46a5c24232cb954442c452c423569a4e63f007a0900bf14c5c554f026e604c", func := "reedmace/reedlaw.SitePlays", spec := "sitePlays", inPlace := ["slices.overlaps[reedmace/api.Version]", "internal/reflectlite.ValueOf", "internal/reflectlite.Swapper", "(internal/reflectlite.Value).Len"], unfollowed := true, recurses := true, apart := false, narrowed := true }
def SitePlaysUptoSaid : Prop := sitePlaysUptoRow.holds Tryz.pinned (OpenSpec.upto sitePlaysSpec)

/-- 'reedkeep.SiteAsks', WHERE WHAT IT READS IS OF BULK AT MOST 1048576: true; the input reads as it did. -/
def siteAsksUptoRow : OpenClaim := { program := "ytglbnggkkjhokaagreat", sum := "3a46a5c24232cb954442c452c423569a4e63f007a0900bf14c5c554f026e604c", func := "reedmace/reedkeep.SiteAsks", spec := "siteAsks", inPlace := ["slices.overlaps[reedmace/api.Version]"], unfollowed := true, recurses := true, apart := false, narrowed := true }
def SiteAsksUptoSaid : Prop := siteAsksUptoRow.holds Tryz.pinned (OpenSpec.upto siteAsksSpec)

/-- 'reedkeep.SiteKnows', WHERE WHAT IT READS IS OF BULK AT MOST 1048576: true; the input reads as it did. -/
def siteKnowsUptoRow : OpenClaim := { program := "ytglbnggkkjhokaagreat", sum := "3a46a5c24232cb954442c452c423569a4e63f007a0900bf14c5c554f026e604c", func := "reedmace/reedkeep.SiteKnows", spec := "siteKnows", inPlace := ["slices.overlaps[reedmace/api.Version]"], unfollowed := true, recurses := true, apart := false, narrowed := true }
def SiteKnowsUptoSaid : Prop := siteKnowsUptoRow.holds Tryz.pinned (OpenSpec.upto siteKnowsSpec)

/-- 'reedkeep.SiteWants', WHERE WHAT IT READS IS OF BULK AT MOST 1048576: true; the input reads as it did. -/
def siteWantsUptoRow : OpenClaim := { program := "ytglbnggkkjhokaagreat", sum := "3a46a5c24232cb954442c452c423569a4e63f007a0900bf14c5c554f026e604c", func := "reedmace/reedkeep.SiteWants", spec := "siteWants", inPlace := ["slices.overlaps[reedmace/api.Version]"], unfollowed := true, recurses := true, apart := false, narrowed := true }
def SiteWantsUptoSaid : Prop := siteWantsUptoRow.holds Tryz.pinned (OpenSpec.upto siteWantsSpec)

/-- 'reedkeep.SiteLate', WHERE WHAT IT READS IS OF BULK AT MOST 1048576: true; the input reads as it did. -/
def siteLateUptoRow : OpenClaim := { program := "ytglbnggkkjhokaagreat", sum := "3a46a5c24232cb954442c452c423569a4e63f007a0900bf14c5c554f026e604c", func := "reedmace/reedkeep.SiteLate", spec := "siteLate", inPlace := ["slices.overlaps[reedmace/api.Version]"], unfollowed := true, recurses := true, apart := false, narrowed := true }
def SiteLateUptoSaid : Prop := siteLateUptoRow.holds Tryz.pinned (OpenSpec.upto siteLateSpec)

/-- 'reedkeep.SiteTwice', WHERE WHAT IT READS IS OF BULK AT MOST 1048576: true; the input reads as it did. -/
def siteTwiceUptoRow : OpenClaim := { program := "ytglbnggkkjhokaagreat", sum := "3a46a5c24232cb954442c452c423569a4e63f007a0900bf14c5c554f026e604c", func := "reedmace/reedkeep.SiteTwice", spec := "siteTwice", inPlace := ["slices.overlaps[reedmace/api.Version]"], unfollowed := true, recurses := true, apart := false, narrowed := true }
def SiteTwiceUptoSaid : Prop := siteTwiceUptoRow.holds Tryz.pinned (OpenSpec.upto siteTwiceSpec)

/-- 'reedkeep.SiteDots', WHERE WHAT IT READS IS OF BULK AT MOST 1048576: true; the input reads as it did. -/
def siteDotsUptoRow : OpenClaim := { program := "ytglbnggkkjhokaagreat", sum := "3a46a5c24232cb954442c452c423569a4e63f007a0900bf14c5c554f026e604c", func := "reedmace/reedkeep.SiteDots", spec := "siteDots", inPlace := ["slices.overlaps[reedmace/api.Version]"], unfollowed := true, recurses := true, apart := false, narrowed := true }
def SiteDotsUptoSaid : Prop := siteDotsUptoRow.holds Tryz.pinned (OpenSpec.upto siteDotsSpec)

/-- 'reedkeep.SiteReads', WHERE WHAT IT READS IS OF BULK AT MOST 1048576: true; the input reads as it did. -/
def siteReadsUptoRow : OpenClaim := { program := "ytglbnggkkjhokaagreat", sum := "3a46a5c24232cb954442c452c423569a4e63f007a0900bf14c5c554f026e604c", func := "reedmace/reedkeep.SiteReads", spec := "siteReads", inPlace := ["slices.overlaps[reedmace/api.Version]"], unfollowed := true, recurses := true, apart := false, narrowed := true }
def SiteReadsUptoSaid : Prop := siteReadsUptoRow.holds Tryz.pinned (OpenSpec.upto siteReadsSpec)

/-- 'reedkeep.SiteNothing', WHERE WHAT IT READS IS OF BULK AT MOST 1048576: true; the input reads as it did. -/
def siteNothingUptoRow : OpenClaim := { program := "ytglbnggkkjhokaagreat", sum := "3a46a5c24232cb954442c452c423569a4e63f007a0900bf14c5c554f026e604c", func := "reedmace/reedkeep.SiteNothing", spec := "siteNothing", inPlace := ["slices.overlaps[reedmace/api.Version]"], unfollowed := true, recurses := true, apart := false, narrowed := true }
def SiteNothingUptoSaid : Prop := siteNothingUptoRow.holds Tryz.pinned (OpenSpec.upto siteNothingSpec)

/-- 'reedkeep.SiteChain', WHERE WHAT IT READS IS OF BULK AT MOST 1048576: true; the input reads as it did. -/
def siteChainUptoRow : OpenClaim := { program := "ytglbnggkkjhokaagreat", sum := "3a46a5c24232cb954442c452c423569a4e63f007a0900bf14c5c554f026e604c", func := "reedmace/reedkeep.SiteChain", spec := "siteChain", inPlace := ["slices.overlaps[reedmace/api.Version]"], unfollowed := true, recurses := true, apart := false, narrowed := true }
def SiteChainUptoSaid : Prop := siteChainUptoRow.holds Tryz.pinned (OpenSpec.upto siteChainSpec)

/-- 'reedkeep.SiteBoth', WHERE WHAT IT READS IS OF BULK AT MOST 1048576: true; the input reads as it did. -/
def siteBothUptoRow : OpenClaim := { program := "ytglbnggkkjhokaagreat", sum := "3a46a5c24232cb954442c452c423569a4e63f007a0900bf14c5c554f026e604c", func := "reedmace/reedkeep.SiteBoth", spec := "siteBoth", inPlace := ["slices.overlaps[reedmace/api.Version]"], unfollowed := true, recurses := true, apart := false, narrowed := true }
def SiteBothUptoSaid : Prop := siteBothUptoRow.holds Tryz.pinned (OpenSpec.upto siteBothSpec)

/-- 'reedkeep.SiteWider', WHERE WHAT IT READS IS OF BULK AT MOST 1048576: true; the input reads as it did. -/
def siteWiderUptoRow : OpenClaim := { program := "ytglbnggkkjhokaagreat", sum := "3a46a5c24232cb954442c452c423569a4e63f007a0900bf14c5c554f026e604c", func := "reedmace/reedkeep.SiteWider", spec := "siteWider", inPlace := ["slices.overlaps[reedmace/api.Version]"], unfollowed := true, recurses := true, apart := false, narrowed := true }
def SiteWiderUptoSaid : Prop := siteWiderUptoRow.holds Tryz.pinned (OpenSpec.upto siteWiderSpec)

end Rows
end Go.Proofs.YtglbnggkkjhokaaGreat
