/- The contracts of the document's own sets: Told, and the statements' spans and every. -/
import Derived.Test.YthnoafmdecehcaaSpanF
import Derived.Laws.AppendOwnNone
import Derived.Laws.Rows
namespace Rm
open Go Go.RowKit
/-- a set of numbers, one by one, as an array of bools -/
def bArr (s : Nat → Bool) : Array Value := ((List.range 32).map fun i => Value.bool (s i)).toArray
theorem bArr_size (s : Nat → Bool) : (bArr s).size = 32 := by simp [bArr]
theorem bArr_at (s : Nat → Bool) (i : Nat) (h : i < 32) : (bArr s)[i]? = some (.bool (s i)) := by simp [bArr, h]
theorem told_yes {s : Nat → Bool} {n : Nat} (hn : n < 32) (h : s n = true) : toldTo s (32 - n) = pre (toldTo s (32 - (n + 1))) n := by
  have e : 32 - n = (32 - (n + 1)) + 1 := by omega
  have e2 : 31 - (32 - (n + 1)) = n := by omega
  rw [e]
  simp only [toldTo]
  rw [e2, h]
  rfl
theorem told_no {s : Nat → Bool} {n : Nat} (hn : n < 32) (h : s n = false) : toldTo s (32 - n) = toldTo s (32 - (n + 1)) := by
  have e : 32 - n = (32 - (n + 1)) + 1 := by omega
  have e2 : 31 - (32 - (n + 1)) = n := by omega
  rw [e]
  simp only [toldTo]
  rw [e2, h]
  simp
theorem Blk_lt {w : World} {g : Nat} {o : Obj} (h : w.heap[g]? = some o) : g < w.heap.size := by
  rcases Nat.lt_or_ge g w.heap.size with c | c
  · exact c
  · rw [Array.getElem?_eq_none c] at h; cases h
theorem flat_set0 (l : List (Int × Int)) (a b a' : Int) : (flat ((a, b) :: l)).set 0 (.int .i64 a') = flat ((a', b) :: l) := rfl
end Rm
namespace Go.Proofs.Ythnoafmdecehcaa
open Go.RowKit Rm
set_option linter.unusedVariables false

/-- where Told's loop stands: n + 1 numbers are still to come -/
def ToldAt (s : Nat → Bool) (w wr : World) (m : Nat) (v : Value) : Prop :=
  Gr w wr ∧ wr.heap[w.heap.size]? = some (.cells (bArr s) 97 (0, 0)) ∧ wr.ownsRow (w.heap.size + 1) 53 2 v (pairs (toldTo s (32 - m))).length (flat (pairs (toldTo s (32 - m)))) ∧ (toldTo s (32 - m) = [] → v = .slice none 0 0)

end Go.Proofs.Ythnoafmdecehcaa
