/- The contracts of package span's maskOf and list. -/
import Derived.Test.YthnoafmdecehcaaSpanA
namespace Rm
open Go Go.RowKit
theorem or_eq (m n : Nat) (hm : m < 2 ^ 32) (hn : n < 32) : bits .or .u32 (m : Int) (IntKind.u32.wrap (2 ^ n)) = ((m ||| 2 ^ n : Nat) : Int) := by
  rw [u32_pow n hn, u32_or_nat m (2 ^ n) hm (Nat.pow_lt_pow_right (by omega) hn)]
theorem maskL_take {l : List (Nat × Nat)} {k : Nat} {p : Nat × Nat} (h : l[k]? = some p) : maskL (l.take (k + 1)) = orTo (maskL (l.take k)) p.1 (p.2 - p.1) := by
  obtain ⟨hk, e⟩ := List.getElem?_eq_some_iff.1 h
  rw [List.take_succ_eq_append_getElem hk, e, maskL_snoc]
theorem orTo_step (m f n : Nat) (h : f ≤ n) : orTo m f (n + 1 - f) = orTo m f (n - f) ||| 2 ^ n := by
  have e : n + 1 - f = (n - f) + 1 := by omega
  rw [e]
  show orTo m f (n - f) ||| 2 ^ (f + (n - f)) = _
  rw [show f + (n - f) = n from by omega]
theorem VF.pre {lo : Nat} {l r : List (Nat × Nat)} (h : VF lo (l ++ r)) : VF lo l := by
  induction l generalizing lo with
  | nil => trivial
  | cons p l ih => exact ⟨h.1, h.2.1, h.2.2.1, ih h.2.2.2⟩
end Rm
namespace Go.Proofs.Ythnoafmdecehcaa
open Go.RowKit Rm
set_option linter.unusedVariables false

end Go.Proofs.Ythnoafmdecehcaa
