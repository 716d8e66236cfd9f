/- Arguments: slices of integers. -/
import Derived.Test.YtghjfakellaecaaKmF
import Derived.Test.YtghjfakellaecaaOpenK
set_option linter.unusedVariables false
namespace Go.Proofs.Ytghjfakellaecaa
open Go.ChangeShapes Go.WideShapes Go.ChangeAt Go.RowKit Go.Deep Rm Gx
section
variable {H : Type} {enc : TypeId × Value → H} {W : World} {base : Nat} {spare : Nat → Bool} {held : Bool}
set_option maxRecDepth 100000 in
theorem open_kints {r : Reach} {b0 : Nat} {v : Value} {d : DataW H} {p : List MemPlace}
    (hv : Value.okWide Try.prog W r b0 32 v) (h : DataW.Trod enc Try.prog W base spare held 32 v d p) : ∃ (a : Option Addr) (l : List Int) (c : Nat), v = .slice a l.length c ∧ RdI1 W a l := by
  obtain ⟨a0, len0, cap0, rfl⟩ := okWide_slice Try.underlying32 hv
  obtain ⟨fuel, hf⟩ := h
  obtain ⟨v, l, e, hl⟩ := kints_trod hf
  simp [Value.cells] at e
  subst e
  obtain ⟨a, c, h1, -, h2⟩ := RdI1.of hl
  exact ⟨a, l, c, h1, h2⟩
end
end Go.Proofs.Ytghjfakellaecaa
