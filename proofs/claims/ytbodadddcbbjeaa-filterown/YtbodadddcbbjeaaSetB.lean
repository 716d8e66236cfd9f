/- The contracts of the document's own Spans and Set. -/
import Derived.Test.YtbodadddcbbjeaaSpanD
namespace Rm
open Go Go.RowKit
theorem bArr_one (s : Nat → Bool) : (bArr s).all (·.oneCell') = true := by
  rw [Array.all_eq_true_iff_forall_mem]
  intro x hx
  simp [bArr] at hx
  obtain ⟨i, _, rfl⟩ := hx
  rfl
theorem Gr.setRow {a w : World} (h : Gr a w) {g : Nat} (hg : a.heap.size ≤ g) (cs : Array Value) : Gr a (w.setRow g cs) :=
  ⟨h.os, h.tape, h.output, by have := h.le; simpa using this, fun k hk => (setRow_other w g k cs (by omega)).trans (h.block k hk)⟩
end Rm
namespace Go.Proofs.Ytbodadddcbbjeaa
open Go.RowKit Rm
set_option linter.unusedVariables false

theorem mem_step (m n : Nat) (i : Nat) : (if i = n then true else m.testBit i) = (m ||| 2 ^ n).testBit i := by
  rw [Nat.testBit_or, Nat.testBit_two_pow]
  by_cases h : i = n
  · subst h; simp
  · have : ¬ n = i := fun e => h e.symm
    simp [h, this]

end Go.Proofs.Ytbodadddcbbjeaa
