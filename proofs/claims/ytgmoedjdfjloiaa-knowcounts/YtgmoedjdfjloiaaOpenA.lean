/- An argument that is a slice of structs of two integers reads as a list. -/
import Derived.Test.YtgmoedjdfjloiaaProg
import Derived.Test.YtgmoedjdfjloiaaPure
import Derived.Deep.SlicePairs
import Derived.ProofKit
import Derived.KernelRfl
namespace Go.Proofs.Ytgmoedjdfjloiaa
open Go.ChangeShapes Go.WideShapes Go.ChangeAt Go.RowKit Go.Deep Rm

theorem add_none {b off k : Nat} : (⟨b, off, none⟩ : Addr).add k = ⟨b, off + k, none⟩ := by
  unfold Addr.add
  by_cases h : k = 0 <;> simp [h]

theorem rd2_of {W : World} {a : Addr} {len cap : Nat} {V0 V1 : Nat → Value} (hl : len ≤ cap)
    (hc : ∀ i, i < len → W.cell? (a.add (i * 2)) = some (V0 i) ∧ W.cell? (a.add (i * 2 + 1)) = some (V1 i))
    (hi : ∀ i, i < len → ∃ x y : Int, V0 i = .int .i64 x ∧ V1 i = .int .i64 y) : ∃ l, Rd2 W (.slice (some a) len cap) l ∧ l.length = len := by
  have hi' : ∀ i, ∃ p : Int × Int, i < len → V0 i = .int .i64 p.1 ∧ V1 i = .int .i64 p.2 := by
    intro i
    by_cases h : i < len
    · obtain ⟨x, y, e⟩ := hi i h
      exact ⟨(x, y), fun _ => e⟩
    · exact ⟨(0, 0), fun h' => absurd h' h⟩
  refine ⟨(List.range len).map fun i => Classical.choose (hi' i), ⟨some a, cap, by simp, by simpa using hl, fun hne => ?_⟩, by simp⟩
  have h0 : 0 < len := by
    rcases Nat.eq_zero_or_pos len with h | h
    · subst h; simp at hne
    · exact h
  obtain ⟨b, off, spot⟩ := a
  have hc0 := (hc 0 h0).1
  have hspot : spot = none := by simpa [Addr.add] using World.cell?_spot hc0
  subst hspot
  have hlt : b < W.heap.size := by
    have := block_lt_of_cell hc0
    simpa [Addr.add] using this
  refine ⟨b, off, rfl, hlt, fun i p hp => ?_⟩
  have hil : i < len := by
    have := (List.getElem?_eq_some_iff.1 hp).1
    simpa using this
  have hp' : p = Classical.choose (hi' i) := by
    simp [List.getElem?_map, List.getElem?_range hil] at hp
    exact hp.symm
  obtain ⟨e1, e2⟩ := Classical.choose_spec (hi' i) hil
  obtain ⟨q1, q2⟩ := hc i hil
  rw [add_none] at q1 q2
  rw [hp']
  exact ⟨q1.trans (congrArg some e1), by rw [Nat.add_assoc]; exact q2.trans (congrArg some e2)⟩

end Go.Proofs.Ytgmoedjdfjloiaa
