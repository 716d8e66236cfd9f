/- Sets of small dots: dot by dot. -/
import Derived.Test.YtgmoedjdfjloiaaKmG
set_option linter.unusedVariables false
set_option linter.unusedSimpArgs false
namespace Rm
open Go Go.RowKit Gx
theorem hasD_or (D E : DS) (x y : Int) : hasD (orD D E) x y = (hasD D x y || hasD E x y) := by
  unfold hasD orD
  cases dotB (x, y) <;> rfl
theorem hasD_and (D E : DS) (x y : Int) : hasD (andD D E) x y = (hasD D x y && hasD E x y) := by
  unfold hasD andD
  cases dotB (x, y) <;> simp
/-- the two say the same of the dots ahead of (i, j) -/
def upTo (A B : DS) (i j : Nat) : Prop := ∀ s c, 1 ≤ c → c ≤ 12 → (s < i ∨ s = i ∧ c < j) → A s c = B s c
theorem up_zero (A B : DS) : true = true ↔ upTo A B 0 1 := ⟨fun _ s c h1 _ h => by omega, fun _ => rfl⟩
theorem up_T {A B : DS} {i j : Nat} {z : Bool} (hz : z = true ↔ upTo A B i j) (h : z = true) (h1 : 1 ≤ j) (h2 : j ≤ 12) : (A i j == B i j) = true ↔ upTo A B i (j + 1) := by
  have hp := hz.1 h
  rw [beq_iff_eq]
  constructor
  · intro e s c a b q
    rcases q with q | ⟨rfl, q⟩
    · exact hp s c a b (.inl q)
    · by_cases hc : c = j
      · subst hc; exact e
      · exact hp s c a b (.inr ⟨rfl, by omega⟩)
  · intro q
    exact q i j h1 h2 (.inr ⟨rfl, by omega⟩)
theorem up_F {A B : DS} {i j : Nat} {z : Bool} (hz : z = true ↔ upTo A B i j) (h : z = false) : false = true ↔ upTo A B i (j + 1) := by
  subst h
  exact ⟨fun e => (by cases e), fun q => hz.2 fun s c a b k => q s c a b (k.imp id fun ⟨x, y⟩ => ⟨x, by omega⟩)⟩
theorem up_next {A B : DS} {i j : Nat} {z : Bool} (hj : j = 13) (hz : z = true ↔ upTo A B i j) : z = true ↔ upTo A B (i + 1) 1 := by
  subst hj
  refine hz.trans ⟨fun q s c a b k => q s c a b (by omega), fun q s c a b k => q s c a b (by omega)⟩
theorem up_end {A B : DS} (sA : Sm A) (sB : Sm B) {z : Bool} {i : Nat} (hi : i = 5) (hz : z = true ↔ upTo A B i 1) : (wS A B && wS B A) = z := by
  subst hi
  rw [Bool.eq_iff_iff, wS_same, hz]
  constructor
  · intro q s c a b k
    exact q s c ⟨by omega, a, by omega⟩
  · intro q s c hi
    by_cases hc : c ≤ 12
    · exact q s c hi.2.1 hc (.inl hi.1)
    · have e1 : A s c = false := by
        cases e : A s c
        · rfl
        · have := (sA s c e).2.2; omega
      have e2 : B s c = false := by
        cases e : B s c
        · rfl
        · have := (sB s c e).2.2; omega
      rw [e1, e2]
end Rm
namespace Go.Proofs.Ytgmoedjdfjloiaa
open Go.RowKit Rm Gx
theorem shasB (k : Value) (D : DS) (x y : Int) (w : World) (hk : KnD w k D) (sD : Sm D) {b : Bool} (hb : hasD D x y = b) :
    Calls Try.prog 10 #[k, .agg #[.int .i64 x, .int .i64 y]] w fun e w' => e = .returned (.tuple #[.bool b, .int .i64 (dotE x y)]) ∧ Gr w w' := by
  subst hb
  exact shas k D x y w hk sD
theorem shasN (k : Value) (D : DS) (s c : Nat) (w : World) (hk : KnD w k D) (sD : Sm D) (hi : inR s c) :
    Calls Try.prog 10 #[k, .agg #[.int .i64 (s : Int), .int .i64 (c : Int)]] w fun e w' => e = .returned (.tuple #[.bool (D s c), .int .i64 0]) ∧ Gr w w' := by
  have h := hasf_ok k _ _ s c w hk (form_ok D) (small_form sD) hi
  rw [form_mem D s c hi] at h
  exact h
end Go.Proofs.Ytgmoedjdfjloiaa
