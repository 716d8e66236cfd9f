/- Joined: SpanA, SpanB, SpanC. -/
import Derived.Test.YtgmoedjdfjloiaaProg
import Derived.Test.YtgmoedjdfjloiaaPure
import Derived.WalkKit
import Derived.WalkSpells
import Derived.WalkLawsBesides
import Derived.Deep.QuietTactic
import Derived.BigQuiet
import Derived.Lib.Hide
import Derived.LoopTactic
import Derived.RegionTactic
import Derived.Laws.BitsAllLaws
/- The contracts of package span's small functions: isNum, has, Check, checkBoth. -/
namespace Rm
open Go Go.RowKit
/-- is it a number of 0 to 31? -/
def numB (x : Int) : Bool := decide (0 ≤ x) && decide (x < 32)
theorem u32_pow (n : Nat) (h : n < 32) : IntKind.u32.wrap (2 ^ n) = ((2 ^ n : Nat) : Int) := by
  rw [IntKind.wrap_u32']
  have h1 : (2 : Nat) ^ n < 2 ^ 32 := Nat.pow_lt_pow_right (by omega) h
  have h2 : ((2 ^ n : Nat) : Int) = (2 : Int) ^ n := by simp
  rw [← h2]
  generalize 2 ^ n = x at *
  omega
theorem and_pow_bne (m n : Nat) : (m &&& 2 ^ n != 0) = m.testBit n := by
  cases h : m.testBit n
  · have : m &&& 2 ^ n = 0 := by
      apply Nat.eq_of_testBit_eq
      intro i
      rw [Nat.testBit_and, Nat.testBit_two_pow, Nat.zero_testBit]
      by_cases e : n = i
      · subst e; simp [h]
      · simp [e]
    simp [this]
  · have : m &&& 2 ^ n ≠ 0 := by
      intro e
      have h2 : (m &&& 2 ^ n).testBit n = true := by rw [Nat.testBit_and, h, Nat.testBit_two_pow]; simp
      rw [e] at h2
      simp at h2
    simpa using this
theorem bit_eq (m n : Nat) (hm : m < 2 ^ 32) (hn : n < 32) : (bits .and .u32 (m : Int) (IntKind.u32.wrap (2 ^ n)) != 0) = m.testBit n := by
  rw [u32_pow n hn, u32_and_nat m (2 ^ n) hm (Nat.pow_lt_pow_right (by omega) hn), ← and_pow_bne]
  rw [Bool.eq_iff_iff]
  simp only [bne_iff_ne, ne_eq]
  omega
/-- what Check of a set answers -/
def chkGo : Int → List (Int × Int) → Int
  | _, [] => 0
  | last, p :: r => if p.1 < 0 ∨ 32 < p.2 ∨ p.2 ≤ p.1 then 1 else if p.1 ≤ last then 3 else chkGo p.2 r
def chkS (l : List (Int × Int)) : Int := if 16 < l.length then 2 else chkGo (-1) l
/-- the end of the interval ahead of the k-th one -/
def lastAt (l : List (Int × Int)) (k : Nat) : Int := match k with | 0 => -1 | k + 1 => (l.getD k (0, 0)).2
theorem drop_at {l : List (Int × Int)} {k : Nat} {p : Int × Int} (h : l[k]? = some p) : l.drop k = p :: l.drop (k + 1) := by
  obtain ⟨hk, e⟩ := List.getElem?_eq_some_iff.1 h
  rw [List.drop_eq_getElem_cons hk, e]
theorem last_at {l : List (Int × Int)} {k : Nat} {p : Int × Int} (h : l[k]? = some p) : lastAt l (k + 1) = p.2 := by simp [lastAt, List.getD, h]
end Rm
namespace Go.Proofs.Ytgmoedjdfjloiaa
open Go.RowKit Rm
set_option linter.unusedVariables false

end Go.Proofs.Ytgmoedjdfjloiaa
/- The contracts of package span's maskOf and list. -/
namespace Rm
open Go Go.RowKit
theorem or_eq (m n : Nat) (hm : m < 2 ^ 32) (hn : n < 32) : bits .or .u32 (m : Int) (IntKind.u32.wrap (2 ^ n)) = ((m ||| 2 ^ n : Nat) : Int) := by
  rw [u32_pow n hn, u32_or_nat m (2 ^ n) hm (Nat.pow_lt_pow_right (by omega) hn)]
theorem maskL_take {l : List (Nat × Nat)} {k : Nat} {p : Nat × Nat} (h : l[k]? = some p) : maskL (l.take (k + 1)) = orTo (maskL (l.take k)) p.1 (p.2 - p.1) := by
  obtain ⟨hk, e⟩ := List.getElem?_eq_some_iff.1 h
  rw [List.take_succ_eq_append_getElem hk, e, maskL_snoc]
theorem orTo_step (m f n : Nat) (h : f ≤ n) : orTo m f (n + 1 - f) = orTo m f (n - f) ||| 2 ^ n := by
  have e : n + 1 - f = (n - f) + 1 := by omega
  rw [e]
  show orTo m f (n - f) ||| 2 ^ (f + (n - f)) = _
  rw [show f + (n - f) = n from by omega]
theorem VF.pre {lo : Nat} {l r : List (Nat × Nat)} (h : VF lo (l ++ r)) : VF lo l := by
  induction l generalizing lo with
  | nil => trivial
  | cons p l ih => exact ⟨h.1, h.2.1, h.2.2.1, ih h.2.2.2⟩
end Rm
namespace Go.Proofs.Ytgmoedjdfjloiaa
open Go.RowKit Rm
set_option linter.unusedVariables false

end Go.Proofs.Ytgmoedjdfjloiaa
/- The contract of package span's list. -/
namespace Rm
open Go Go.RowKit
theorem own_form {w : World} {base : Nat} {e : TypeId} {size : Nat} {v : Value} {n : Nat} {xs : List Value} (h : w.ownsRow base e size v n xs) : ∃ a c, v = .slice a n c ∧ n ≤ c := by
  rcases h.2 with ⟨rfl, rfl⟩ | ⟨g, cap, _, rfl, _, _, h, _⟩
  · exact ⟨_, _, rfl, Nat.le_refl _⟩
  · exact ⟨_, _, rfl, h⟩
theorem own_pos {w : World} {base : Nat} {e : TypeId} {size : Nat} {v : Value} {n : Nat} {xs : List Value} (h : w.ownsRow base e size v n xs) (hn : 0 < n) : ∃ g cap, v = .slice (some ⟨g, 0, none⟩) n cap ∧ base ≤ g ∧ g < w.heap.size ∧ n ≤ cap := by
  rcases h.2 with ⟨rfl, rfl⟩ | ⟨g, cap, cur, rfl, hb, hg, hc, _⟩
  · omega
  · refine ⟨g, cap, rfl, hb, ?_, hc⟩
    rcases Nat.lt_or_ge g w.heap.size with h | h
    · exact h
    · rw [Array.getElem?_eq_none h] at hg; cases hg
theorem flat_set (l : List (Int × Int)) (a b b' : Int) : (flat (l ++ [(a, b)])).set (l.length * 2 + 1) (.int .i64 b') = flat (l ++ [(a, b')]) := by
  rw [flat_app, flat_app, ← flat_len]
  rw [List.set_append_right _ _ (by omega)]
  congr 1
  simp [flat]
theorem listTo_len (s : Nat → Bool) (n : Nat) (h : n ≤ 32) : (listTo s n).length ≤ 16 := (listTo_ok s n h).1.len16
theorem listTo_yes {s : Nat → Bool} {n : Nat} (h : s n = true) : listTo s (n + 1) = push (listTo s n) n := by simp [listTo, h]
theorem listTo_no {s : Nat → Bool} {n : Nat} (h : s n = false) : listTo s (n + 1) = listTo s n := by simp [listTo, h]
end Rm
namespace Go.Proofs.Ytgmoedjdfjloiaa
open Go.RowKit Rm
set_option linter.unusedVariables false
end Go.Proofs.Ytgmoedjdfjloiaa
