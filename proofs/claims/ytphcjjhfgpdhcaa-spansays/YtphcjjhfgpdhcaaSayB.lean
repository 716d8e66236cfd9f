/- The contracts of span.Of by cases; a slice of one interval that is written out. -/
import Derived.Test.YtphcjjhfgpdhcaaSayA
namespace Go.Proofs.Ytphcjjhfgpdhcaa
open Go.RowKit Rm
set_option linter.unusedVariables false
theorem of_bad (v : Value) (l : List Int) (w : World) (hr : Rd1 w v l) (hlen : l.length ≤ 400) (h : l.all numB = false) :
    Calls Try.prog 46 #[v] w fun e w' => e = .returned (.tuple #[.slice none 0 0, .int .i64 1]) ∧ Gr w w' :=
  (of_any v l w hr hlen).mono fun e w' hh => by
    rcases hh with ⟨_, he, g⟩ | ⟨h1, _⟩
    · exact ⟨he, g⟩
    · rw [h] at h1; cases h1
theorem of_ok (v : Value) (l : List Int) (w : World) (hr : Rd1 w v l) (hlen : l.length ≤ 400) (h : l.all numB = true) :
    Calls Try.prog 46 #[v] w fun e w' => ∃ u, e = .returned (.tuple #[u, .int .i64 0]) ∧ MS w' u (maskI l) ∧ Gr w w' :=
  (of_any v l w hr hlen).mono fun e w' hh => by
    rcases hh with ⟨h1, _⟩ | ⟨_, u, he, hu, hm⟩
    · rw [h] at h1; cases h1
    · exact ⟨u, he, hu.ms hm, hu.1⟩
theorem litR (w : World) (f t : Int) (T : TypeId) : Rd2 (w.alloc (.cells #[.int .i64 f, .int .i64 t] T)) (.slice (some ⟨w.heap.size, 0, none⟩) 1 1) [(f, t)] := by
  refine ⟨_, 1, rfl, by simp, fun _ => ⟨w.heap.size, 0, rfl, by simp, ?_⟩⟩
  intro i p hp
  cases i with
  | zero => simp at hp; subst hp; simp [go_sem]
  | succ i => simp at hp
theorem chk00 : chkS [(0, 0)] = 1 := by decide +kernel
/-- the error so far -/
def oneTo (l : List Int) (k : Nat) : Int := if (l.take k).all numB then 0 else 1
theorem sequal_nil {v v' : Value} {w : World} (h : Rd2 w v []) (h' : Rd2 w v' []) : Calls Try.prog 50 #[v, v'] w fun e w' => e = .returned (.bool true) ∧ Gr w w' :=
  sequal_any v v' [] [] w h h' (by simp)
end Go.Proofs.Ytphcjjhfgpdhcaa
