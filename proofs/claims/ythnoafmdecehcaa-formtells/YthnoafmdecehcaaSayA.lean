/- What SpanSays' loops reckon. -/
import Derived.Test.YthnoafmdecehcaaSetC
import Derived.Test.YthnoafmdecehcaaSpanD
namespace Rm
open Go Go.RowKit
/-- is n one of the bits below k? -/
def hasTo (m : Nat) (n : Int) : Nat → Bool
  | 0 => false
  | k + 1 => hasTo m n k || (m.testBit k && ((k : Int) == n))
theorem hasTo_iff (m : Nat) (n : Int) : ∀ k, hasTo m n k = true ↔ ∃ i : Nat, i < k ∧ m.testBit i = true ∧ (i : Int) = n
  | 0 => by simp [hasTo]
  | k + 1 => by
    simp only [hasTo, Bool.or_eq_true, Bool.and_eq_true, beq_iff_eq, hasTo_iff m n k]
    constructor
    · rintro (⟨i, a, b, c⟩ | ⟨b, c⟩)
      · exact ⟨i, by omega, b, c⟩
      · exact ⟨k, by omega, b, c⟩
    · rintro ⟨i, a, b, c⟩
      rcases Nat.lt_or_ge i k with d | d
      · exact .inl ⟨i, d, b, c⟩
      · obtain rfl : i = k := by omega
        exact .inr ⟨b, c⟩
theorem hasTo_eq (m : Nat) (n : Int) : hasTo m n 32 = Go.Proofs.Ythnoafmdecehcaa.bitB m n := by
  rw [Bool.eq_iff_iff, hasTo_iff]
  unfold Go.Proofs.Ythnoafmdecehcaa.bitB
  simp only [Bool.and_eq_true]
  constructor
  · rintro ⟨i, a, b, rfl⟩
    exact ⟨by simp [numB]; omega, by simpa using b⟩
  · rintro ⟨a, b⟩
    simp [numB] at a
    exact ⟨n.toNat, by omega, b, by omega⟩
theorem maskI_bitN {l : List Int} {k : Nat} {x : Nat} (h : l[k]? = some (x : Int)) (hx : x < 32) (i : Nat) : (if i = x then true else (maskI (l.take k)).testBit i) = (maskI (l.take (k + 1))).testBit i := by
  rw [maskI_take h, Nat.testBit_or, Int.toNat_natCast, Nat.testBit_two_pow]
  by_cases e : i = x
  · subst e; simp
  · have : ¬ x = i := fun h => e h.symm
    simp [e, this]
end Rm
namespace Go.Proofs.Ythnoafmdecehcaa
open Go.RowKit Rm
set_option linter.unusedVariables false
theorem bool_info : (Try.prog.info? 4).map (·.size) = some 1 := by kernel_rfl
theorem index_nums (f : Nat → Bool) (k : Nat) (hk : k < 32) (w : World) : (Instr.index 97 (.agg (bArr f)) (.int .i64 (k : Int))).run Try.prog w = .ok (.bool (f k)) w := by
  have hz : (sizeOf 4).run Try.prog w = .ok 1 w := by
    cases hq : Try.prog.info? 4 with
    | none => have := bool_info; rw [hq] at this; simp at this
    | some i =>
      have hs : i.size = 1 := by have := bool_info; rw [hq] at this; simpa using this
      simp [sizeOf, typeInfo, hq, hs]
  have hc := bArr_at f k hk
  simp [Instr.index, Sem.run_bind, run_underlying Try.underlying97, asIntOf, part, hz, hc]
  intro h
  omega
/-- a whole array written where it lies, out of a literal -/
theorem nums_one : (bArr fun _ => false).all (·.oneCell') = true := bArr_one _
end Go.Proofs.Ythnoafmdecehcaa
