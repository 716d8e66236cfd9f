/- Slices that read as lists of cells. -/
import Derived.Test.YtghjfakellaecaaPure
namespace Rm
open Go Go.RowKit
/-- a slice of n elements of s cells each reads as a list of cells -/
def RdC (s : Nat) (w : World) (v : Value) (n : Nat) (xs : List Value) : Prop := xs.length = n * s ∧ (∀ u ∈ xs, u.oneCell' = true) ∧
  ((v = .slice none 0 0 ∧ n = 0) ∨ ∃ ad c, v = .slice (some ad) n c ∧ n ≤ c ∧ (n ≠ 0 → ad.block < w.heap.size) ∧ ∀ j u, xs[j]? = some u → w.cell? (ad.add j) = some u)
theorem RdC.gr {s n : Nat} {w w' : World} {v : Value} {xs : List Value} (h : RdC s w v n xs) (g : Gr w w') : RdC s w' v n xs := by
  obtain ⟨h1, h2, h3 | ⟨ad, c, e, hc, hb, hx⟩⟩ := h
  · exact ⟨h1, h2, .inl h3⟩
  · refine ⟨h1, h2, .inr ⟨ad, c, e, hc, fun hn => Nat.lt_of_lt_of_le (hb hn) g.le, fun j u hj => ?_⟩⟩
    have hn : n ≠ 0 := by rintro rfl; rw [Nat.zero_mul] at h1; rw [List.eq_nil_of_length_eq_zero h1] at hj; simp at hj
    have hb' : (ad.add j).block < w.heap.size := by have := hb hn; unfold Addr.add; split <;> simpa using this
    exact (World.cell?_of_block (Below.block g _ hb')).trans (hx j u hj)
end Rm
