/-
  No cell of these rows narrows 'for every input' (looked for: loops, veiled, ifaces, maps, wideKeys, modest, calm, conditions, laid).
  DERIVED. THE GIVEN ROWS OF THIS SEAT. 6 by the template 'for every input the law returns true; each argument reads behind the call as it read before'; 0 by the template 'total and deterministic' (their statements: YthnoafmdecehcaaTotals.lean).
  GIVEN WITH THE SEED: the statements are not yours to turn. If you find one false, say at which input.
  Laid BY PROGRAM, IN A SANDBOX (cutbox-rows.mjs): the forced cells as the released guide's own fill.sh prints them over the translation 7bf8b47b12257e09… (all of the seat's roots in one cut). By AI agents, Wed Nov 11 2026. No macro, syntax, notation, axiom, sorry.
-/
import Derived.Test.YthnoafmdecehcaaChecked
import GoSem.Claim
import GoSem.ClaimJoined
import GoSem.ClaimMapViews
import Derived.JoinedTies
import Derived.KernelRfl
namespace Go.Proofs.Ythnoafmdecehcaa
/- THE CELL 'sum', in the pinned program and in every row, IS THE sha256 OF THE DUMP (.gsa) THAT YthnoafmdecehcaaProg.lean LOADS. Nothing in Lean hashes anything: it is a label: what it is worth is what the hold of that sum in a sandbox is worth. -/
noncomputable def Try.pinned : Pinned := { name := "ythnoafmdecehcaa", sum := "7bf8b47b12257e0948c17cefc1c4b991c19ba6a2915e688ac14527696f20e7a8", checked := Try.checked }
namespace Rows
def none {H : Type} : Left H := { results := [], args := [] }

/-- 'reedlaw.FormSays': WHATEVER THE INPUT: true; the input reads as it did. -/
def formSaysSpec : ChangeSpec := { name := "formSays", fn := fun _ => fun
  | [d1, d2] => { results := [.lit (.bool true)], args := [d1, d2] }
  | _ => none }
def formSaysRow : OpenClaim := { program := "ythnoafmdecehcaa", sum := "7bf8b47b12257e0948c17cefc1c4b991c19ba6a2915e688ac14527696f20e7a8", func := "reedmace/reedlaw.FormSays", spec := "formSays", unfollowed := true, recurses := true, apart := false }
def FormSaysSaid : Prop := formSaysRow.holds Try.pinned (OpenSpec.ofChange formSaysSpec)

/-- ITS FALSE NEIGHBOUR: 'it returns false'. Refute it at one input. -/
def formSaysWrong : ChangeSpec := { name := "formSays", fn := fun _ => fun
  | [d1, d2] => { results := [.lit (.bool false)], args := [d1, d2] }
  | _ => none }
def FormSaysWrongFalsely : Prop := formSaysRow.holds Try.pinned (OpenSpec.ofChange formSaysWrong)

/-- 'reedlaw.FormTells': WHATEVER THE INPUT: true; the input reads as it did. -/
def formTellsSpec : ChangeSpec := { name := "formTells", fn := fun _ => fun
  | [d] => { results := [.lit (.bool true)], args := [d] }
  | _ => none }
def formTellsRow : OpenClaim := { program := "ythnoafmdecehcaa", sum := "7bf8b47b12257e0948c17cefc1c4b991c19ba6a2915e688ac14527696f20e7a8", func := "reedmace/reedlaw.FormTells", spec := "formTells", unfollowed := true, recurses := true, apart := false }
def FormTellsSaid : Prop := formTellsRow.holds Try.pinned (OpenSpec.ofChange formTellsSpec)

/-- ITS FALSE NEIGHBOUR: 'it returns false'. Refute it at one input. -/
def formTellsWrong : ChangeSpec := { name := "formTells", fn := fun _ => fun
  | [d] => { results := [.lit (.bool false)], args := [d] }
  | _ => none }
def FormTellsWrongFalsely : Prop := formTellsRow.holds Try.pinned (OpenSpec.ofChange formTellsWrong)

/-- 'reedkeep.FormBoole': WHATEVER THE INPUT: true; the input reads as it did. -/
def formBooleSpec : ChangeSpec := { name := "formBoole", fn := fun _ => fun
  | [d1, d2] => { results := [.lit (.bool true)], args := [d1, d2] }
  | _ => none }
def formBooleRow : OpenClaim := { program := "ythnoafmdecehcaa", sum := "7bf8b47b12257e0948c17cefc1c4b991c19ba6a2915e688ac14527696f20e7a8", func := "reedmace/reedkeep.FormBoole", spec := "formBoole", unfollowed := true, recurses := true, apart := false }
def FormBooleSaid : Prop := formBooleRow.holds Try.pinned (OpenSpec.ofChange formBooleSpec)

/-- ITS FALSE NEIGHBOUR: 'it returns false'. Refute it at one input. -/
def formBooleWrong : ChangeSpec := { name := "formBoole", fn := fun _ => fun
  | [d1, d2] => { results := [.lit (.bool false)], args := [d1, d2] }
  | _ => none }
def FormBooleWrongFalsely : Prop := formBooleRow.holds Try.pinned (OpenSpec.ofChange formBooleWrong)

/-- 'reedkeep.FormBack': WHATEVER THE INPUT: true; the input reads as it did. -/
def formBackSpec : ChangeSpec := { name := "formBack", fn := fun _ => fun
  | [d1, d2] => { results := [.lit (.bool true)], args := [d1, d2] }
  | _ => none }
def formBackRow : OpenClaim := { program := "ythnoafmdecehcaa", sum := "7bf8b47b12257e0948c17cefc1c4b991c19ba6a2915e688ac14527696f20e7a8", func := "reedmace/reedkeep.FormBack", spec := "formBack", unfollowed := true, recurses := true, apart := false }
def FormBackSaid : Prop := formBackRow.holds Try.pinned (OpenSpec.ofChange formBackSpec)

/-- ITS FALSE NEIGHBOUR: 'it returns false'. Refute it at one input. -/
def formBackWrong : ChangeSpec := { name := "formBack", fn := fun _ => fun
  | [d1, d2] => { results := [.lit (.bool false)], args := [d1, d2] }
  | _ => none }
def FormBackWrongFalsely : Prop := formBackRow.holds Try.pinned (OpenSpec.ofChange formBackWrong)

/-- 'reedkeep.FormGrows': WHATEVER THE INPUT: true; the input reads as it did. -/
def formGrowsSpec : ChangeSpec := { name := "formGrows", fn := fun _ => fun
  | [d1, d2, d3, d4] => { results := [.lit (.bool true)], args := [d1, d2, d3, d4] }
  | _ => none }
def formGrowsRow : OpenClaim := { program := "ythnoafmdecehcaa", sum := "7bf8b47b12257e0948c17cefc1c4b991c19ba6a2915e688ac14527696f20e7a8", func := "reedmace/reedkeep.FormGrows", spec := "formGrows", apart := false }
def FormGrowsSaid : Prop := formGrowsRow.holds Try.pinned (OpenSpec.ofChange formGrowsSpec)

/-- ITS FALSE NEIGHBOUR: 'it returns false'. Refute it at one input. -/
def formGrowsWrong : ChangeSpec := { name := "formGrows", fn := fun _ => fun
  | [d1, d2, d3, d4] => { results := [.lit (.bool false)], args := [d1, d2, d3, d4] }
  | _ => none }
def FormGrowsWrongFalsely : Prop := formGrowsRow.holds Try.pinned (OpenSpec.ofChange formGrowsWrong)

/-- 'reedkeep.FilterOwn': WHATEVER THE INPUT: true; the input reads as it did. -/
def filterOwnSpec : ChangeSpec := { name := "filterOwn", fn := fun _ => fun
  | [d1, d2, d3, d4] => { results := [.lit (.bool true)], args := [d1, d2, d3, d4] }
  | _ => none }
def filterOwnRow : OpenClaim := { program := "ythnoafmdecehcaa", sum := "7bf8b47b12257e0948c17cefc1c4b991c19ba6a2915e688ac14527696f20e7a8", func := "reedmace/reedkeep.FilterOwn", spec := "filterOwn", unfollowed := true, recurses := true, apart := false }
def FilterOwnSaid : Prop := filterOwnRow.holds Try.pinned (OpenSpec.ofChange filterOwnSpec)

/-- ITS FALSE NEIGHBOUR: 'it returns false'. Refute it at one input. -/
def filterOwnWrong : ChangeSpec := { name := "filterOwn", fn := fun _ => fun
  | [d1, d2, d3, d4] => { results := [.lit (.bool false)], args := [d1, d2, d3, d4] }
  | _ => none }
def FilterOwnWrongFalsely : Prop := filterOwnRow.holds Try.pinned (OpenSpec.ofChange filterOwnWrong)

/- THE SECOND FORM. 'bulk': how many values and letters a reading holds, each counted each time it is reached (what is shared counts as often as it is met; a slice's spare places count too). A statement '..UptoSaid' is the law's where the arguments, and the package variables that the reading takes, are together of bulk at most 1048576: NARROWER than '..Said'. Prove '..Said' where nothing that the law and all that it calls make is longer than what came in: it says more and counts as full. Else prove '..UptoSaid'. A law counts once. -/
mutual
def uptoBulk {H : Type} : DataW H → Nat
  | .lit (.string bytes) => bytes.length + 1
  | .lit _ => 1
  | .nil => 1
  | .ptr d => uptoBulk d + 1
  | .slice elems spare => uptoBulkAll elems + uptoBulkAll spare + 1
  | .agg parts => uptoBulkAll parts + 1
  | .iface _ d => uptoBulk d + 1
  | .map entries => uptoBulkEntries entries + 1
  | .held _ => 1
def uptoBulkAll {H : Type} : List (DataW H) → Nat
  | [] => 0
  | d :: r => uptoBulk d + uptoBulkAll r
def uptoBulkEntries {H : Type} : List (Lit × DataW H) → Nat
  | [] => 0
  | x :: r => uptoBulkEntry x + uptoBulkEntries r
def uptoBulkEntry {H : Type} : Lit × DataW H → Nat
  | (.string bytes, d) => bytes.length + uptoBulk d + 1
  | (_, d) => uptoBulk d + 1
 end
def uptoSmall : (H : Type) → List (DataW H) → Bool := fun _ ds => decide (uptoBulkAll ds ≤ 1048576)
def OpenSpec.upto (s : _root_.Go.ChangeSpec) : _root_.Go.OpenSpec := { _root_.Go.OpenSpec.ofChange s with cond := some uptoSmall }

/-- 'reedlaw.FormSays', WHERE WHAT IT READS IS OF BULK AT MOST 1048576: true; the input reads as it did. -/
def formSaysUptoRow : OpenClaim := { program := "ythnoafmdecehcaa", sum := "7bf8b47b12257e0948c17cefc1c4b991c19ba6a2915e688ac14527696f20e7a8", func := "reedmace/reedlaw.FormSays", spec := "formSays", unfollowed := true, recurses := true, apart := false, narrowed := true }
def FormSaysUptoSaid : Prop := formSaysUptoRow.holds Try.pinned (OpenSpec.upto formSaysSpec)

/-- 'reedlaw.FormTells', WHERE WHAT IT READS IS OF BULK AT MOST 1048576: true; the input reads as it did. -/
def formTellsUptoRow : OpenClaim := { program := "ythnoafmdecehcaa", sum := "7bf8b47b12257e0948c17cefc1c4b991c19ba6a2915e688ac14527696f20e7a8", func := "reedmace/reedlaw.FormTells", spec := "formTells", unfollowed := true, recurses := true, apart := false, narrowed := true }
def FormTellsUptoSaid : Prop := formTellsUptoRow.holds Try.pinned (OpenSpec.upto formTellsSpec)

/-- 'reedkeep.FormBoole', WHERE WHAT IT READS IS OF BULK AT MOST 1048576: true; the input reads as it did. -/
def formBooleUptoRow : OpenClaim := { program := "ythnoafmdecehcaa", sum := "7bf8b47b12257e0948c17cefc1c4b991c19ba6a2915e688ac14527696f20e7a8", func := "reedmace/reedkeep.FormBoole", spec := "formBoole", unfollowed := true, recurses := true, apart := false, narrowed := true }
def FormBooleUptoSaid : Prop := formBooleUptoRow.holds Try.pinned (OpenSpec.upto formBooleSpec)

/-- 'reedkeep.FormBack', WHERE WHAT IT READS IS OF BULK AT MOST 1048576: true; the input reads as it did. -/
def formBackUptoRow : OpenClaim := { program := "ythnoafmdecehcaa", sum := "7bf8b47b12257e0948c17cefc1c4b991c19ba6a2915e688ac14527696f20e7a8", func := "reedmace/reedkeep.FormBack", spec := "formBack", unfollowed := true, recurses := true, apart := false, narrowed := true }
def FormBackUptoSaid : Prop := formBackUptoRow.holds Try.pinned (OpenSpec.upto formBackSpec)

/-- 'reedkeep.FormGrows', WHERE WHAT IT READS IS OF BULK AT MOST 1048576: true; the input reads as it did. -/
def formGrowsUptoRow : OpenClaim := { program := "ythnoafmdecehcaa", sum := "7bf8b47b12257e0948c17cefc1c4b991c19ba6a2915e688ac14527696f20e7a8", func := "reedmace/reedkeep.FormGrows", spec := "formGrows", apart := false, narrowed := true }
def FormGrowsUptoSaid : Prop := formGrowsUptoRow.holds Try.pinned (OpenSpec.upto formGrowsSpec)

/-- 'reedkeep.FilterOwn', WHERE WHAT IT READS IS OF BULK AT MOST 1048576: true; the input reads as it did. -/
def filterOwnUptoRow : OpenClaim := { program := "ythnoafmdecehcaa", sum := "7bf8b47b12257e0948c17cefc1c4b991c19ba6a2915e688ac14527696f20e7a8", func := "reedmace/reedkeep.FilterOwn", spec := "filterOwn", unfollowed := true, recurses := true, apart := false, narrowed := true }
def FilterOwnUptoSaid : Prop := filterOwnUptoRow.holds Try.pinned (OpenSpec.upto filterOwnSpec)

end Rows
end Go.Proofs.Ythnoafmdecehcaa
