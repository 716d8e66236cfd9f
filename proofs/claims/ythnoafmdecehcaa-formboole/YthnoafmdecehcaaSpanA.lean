/- The contracts of package span's small functions: isNum, has, Check, checkBoth. -/
import Derived.Test.YthnoafmdecehcaaProg
import Derived.Test.YthnoafmdecehcaaSpanM
import Derived.Test.YthnoafmdecehcaaRows2
import Derived.WalkKit
import Derived.WalkSpells
import Derived.WalkLawsBesides
import Derived.Deep.QuietTactic
import Derived.BigQuiet
import Derived.Lib.Hide
import Derived.LoopTactic
import Derived.RegionTactic
import Derived.Laws.BitsAllLaws
namespace Rm
open Go Go.RowKit
/-- is it a number of 0 to 31? -/
def numB (x : Int) : Bool := decide (0 ≤ x) && decide (x < 32)
theorem u32_pow (n : Nat) (h : n < 32) : IntKind.u32.wrap (2 ^ n) = ((2 ^ n : Nat) : Int) := by
  rw [IntKind.wrap_u32']
  have h1 : (2 : Nat) ^ n < 2 ^ 32 := Nat.pow_lt_pow_right (by omega) h
  have h2 : ((2 ^ n : Nat) : Int) = (2 : Int) ^ n := by simp
  rw [← h2]
  generalize 2 ^ n = x at *
  omega
theorem and_pow_bne (m n : Nat) : (m &&& 2 ^ n != 0) = m.testBit n := by
  cases h : m.testBit n
  · have : m &&& 2 ^ n = 0 := by
      apply Nat.eq_of_testBit_eq
      intro i
      rw [Nat.testBit_and, Nat.testBit_two_pow, Nat.zero_testBit]
      by_cases e : n = i
      · subst e; simp [h]
      · simp [e]
    simp [this]
  · have : m &&& 2 ^ n ≠ 0 := by
      intro e
      have h2 : (m &&& 2 ^ n).testBit n = true := by rw [Nat.testBit_and, h, Nat.testBit_two_pow]; simp
      rw [e] at h2
      simp at h2
    simpa using this
theorem bit_eq (m n : Nat) (hm : m < 2 ^ 32) (hn : n < 32) : (bits .and .u32 (m : Int) (IntKind.u32.wrap (2 ^ n)) != 0) = m.testBit n := by
  rw [u32_pow n hn, u32_and_nat m (2 ^ n) hm (Nat.pow_lt_pow_right (by omega) hn), ← and_pow_bne]
  rw [Bool.eq_iff_iff]
  simp only [bne_iff_ne, ne_eq]
  omega
/-- what Check of a set answers -/
def chkGo : Int → List (Int × Int) → Int
  | _, [] => 0
  | last, p :: r => if p.1 < 0 ∨ 32 < p.2 ∨ p.2 ≤ p.1 then 1 else if p.1 ≤ last then 3 else chkGo p.2 r
def chkS (l : List (Int × Int)) : Int := if 16 < l.length then 2 else chkGo (-1) l
/-- the end of the interval ahead of the k-th one -/
def lastAt (l : List (Int × Int)) (k : Nat) : Int := match k with | 0 => -1 | k + 1 => (l.getD k (0, 0)).2
theorem drop_at {l : List (Int × Int)} {k : Nat} {p : Int × Int} (h : l[k]? = some p) : l.drop k = p :: l.drop (k + 1) := by
  obtain ⟨hk, e⟩ := List.getElem?_eq_some_iff.1 h
  rw [List.drop_eq_getElem_cons hk, e]
theorem last_at {l : List (Int × Int)} {k : Nat} {p : Int × Int} (h : l[k]? = some p) : lastAt l (k + 1) = p.2 := by simp [lastAt, List.getD, h]
end Rm
namespace Go.Proofs.Ythnoafmdecehcaa
open Go.RowKit Rm
set_option linter.unusedVariables false

set_option maxHeartbeats 400000 in
set_option maxRecDepth 100000 in
theorem isNum_any (x : Int) (w : World) :
    Calls Try.prog 74 #[.int .i64 x] w fun e w' => e = .returned (.bool (numB x)) ∧ w = w' := by
  by_cases h0 : 0 ≤ x
  · by_cases h1 : x < 32
    · have ht : numB x = true := by simp [numB, h0, h1]
      rw [ht]
      go_enter Try.func74, Try.ntmps74
      go_wp2
      go_ret
      exact ⟨rfl, rfl⟩
    · have ht : numB x = false := by simp [numB, h1]
      rw [ht]
      go_enter Try.func74, Try.ntmps74
      go_wp2
      go_ret
      exact ⟨rfl, rfl⟩
  · have ht : numB x = false := by simp [numB, h0]
    rw [ht]
    go_enter Try.func74, Try.ntmps74
    go_wp2
    go_ret
    exact ⟨rfl, rfl⟩

set_option maxHeartbeats 400000 in
set_option maxRecDepth 100000 in
theorem shas_any (m n : Nat) (w : World) (hm : m < 2 ^ 32) (hn : n < 32) :
    Calls Try.prog 92 #[.int .u32 m, .int .i64 n] w fun e w' => e = .returned (.bool (m.testBit n)) ∧ w = w' := by
  have h1 : ((n : Nat) : Int) < 32 := by omega
  have HB := Lib.hid (bit_eq m n hm hn)
  clear hm
  go_enter Try.func92, Try.ntmps92
  go_wp2
  go_ret
  exact ⟨by rw [← HB.out]; rfl, rfl⟩

set_option maxHeartbeats 1000000 in
set_option maxRecDepth 100000 in
theorem scheck_any (v : Value) (l : List (Int × Int)) (w : World) (hr : Rd2 w v l) :
    Calls Try.prog 84 #[v] w fun e w' => e = .returned (.int .i64 (chkS l)) ∧ Gr w w' := by
  obtain ⟨a, cp, rfl, hcp, hx⟩ := hr
  by_cases h16 : 16 < l.length
  · have e : chkS l = 2 := by simp [chkS, h16]
    rw [e]
    have hz : (16 : Int) < (l.length : Int) := by omega
    go_enter Try.func84, Try.ntmps84
    go_wp2
    go_ret
    exact ⟨rfl, Gr.refl _⟩
  · have e : chkS l = chkGo (-1) l := by simp [chkS, h16]
    rw [e]
    clear e
    have hz : ¬ (16 : Int) < (l.length : Int) := by omega
    have HX := Lib.hid hx
    clear hx
    go_enter Try.func84, Try.ntmps84
    go_wp2
    go_loopw [10] (fun i wr => ∃ k : Nat, k ≤ l.length ∧ i = .int .i64 k ∧ Hid (chkGo (-1) l = chkGo (lastAt l k) (l.drop k)) ∧ Gr w wr) (fun i _ => l.length - (intOf i).toNat)
    case atStart => exact ⟨0, by omega, rfl, rfl, Gr.refl _⟩
    case round =>
      obtain ⟨k, hk, rfl, hh, hg⟩ := hrel
      by_cases hlt : k < l.length
      · obtain ⟨⟨f, t⟩, hp⟩ : ∃ p, l[k]? = some p := ⟨_, List.getElem?_eq_getElem hlt⟩
        obtain ⟨b, off, rfl, hb, hcell⟩ := HX.out (by intro e; rw [e] at hlt; simp at hlt)
        obtain ⟨c1, c2⟩ := hcell k _ hp
        rw [← hg.cells.1 b _ hb] at c1 c2
        simp only at c1 c2
        have hbr : b < wr.heap.size := Nat.lt_of_lt_of_le hb hg.le
        have HH : Hid (chkGo (-1) l = if f < 0 ∨ 32 < t ∨ t ≤ f then 1 else if f ≤ lastAt l k then 3 else chkGo t (l.drop (k + 1))) := by
          rw [hh.out, drop_at hp]; rfl
        clear hh
        have hk16 : (k : Int) ≤ 16 := by omega
        by_cases hbad : f < 0 ∨ 32 < t ∨ t ≤ f
        · have E1 : Hid (chkGo (-1) l = 1) := by rw [HH.out, if_pos hbad]; rfl
          clear hcell HH
          by_cases q1 : f < 0
          · go_wp2
            go_ret
            exact ⟨by rw [E1.out]; rfl, hg.alloc _⟩
          · by_cases q2 : 32 < t
            · go_wp2
              go_ret
              exact ⟨by rw [E1.out]; rfl, hg.alloc _⟩
            · have q3 : t ≤ f := by omega
              go_wp2
              go_ret
              exact ⟨by rw [E1.out]; rfl, hg.alloc _⟩
        · have q1 : ¬ f < 0 := by omega
          have q2 : ¬ 32 < t := by omega
          have q3 : ¬ t ≤ f := by omega
          have e1 : Hid (chkGo (-1) l = if f ≤ lastAt l k then 3 else chkGo t (l.drop (k + 1))) := by rw [HH.out, if_neg hbad]; rfl
          have HC := Lib.hid hcell
          clear HH hbad hcell
          cases k with
          | zero =>
            have e2 : Hid (chkGo (-1) l = chkGo (lastAt l (0 + 1)) (l.drop (0 + 1))) := by
              have := e1.out
              rw [if_neg (by simp [lastAt]; omega)] at this
              rw [last_at hp]
              exact this
            simp only [Nat.zero_mul, Nat.add_zero] at c1 c2
            clear e1 hk16
            go_wp2
            go_quiet (fail)
            go_wp2
            go_roundw
            case rel => exact ⟨0 + 1, by omega, by go_num, e2, (hg.alloc _).drewN _⟩
            case measure => simp [intOf]; omega
          | succ k =>
            obtain ⟨⟨f0, t0⟩, hp0⟩ : ∃ p, l[k]? = some p := ⟨_, List.getElem?_eq_getElem (by omega)⟩
            have d2 : w.cell? ⟨b, off + k * 2 + 1, none⟩ = some (.int .i64 t0) := (HC.out k _ hp0).2
            rw [← hg.cells.1 b _ hb] at d2
            have hl0 := last_at hp0
            simp only at hl0
            have e2 : Hid (chkGo (-1) l = if f ≤ t0 then 3 else chkGo (lastAt l (k + 1 + 1)) (l.drop (k + 1 + 1))) := by
              rw [last_at hp, ← hl0]; exact e1
            clear e1 hl0
            by_cases q4 : f ≤ t0
            · have E1 : Hid (chkGo (-1) l = 3) := by rw [e2.out, if_pos q4]; rfl
              clear e2
              go_wp2
              go_quiet (fail)
              go_wp2
              go_ret
              exact ⟨by rw [E1.out]; rfl, (hg.alloc _).drewN _⟩
            · have E1 : Hid (chkGo (-1) l = chkGo (lastAt l (k + 1 + 1)) (l.drop (k + 1 + 1))) := by rw [e2.out, if_neg q4]; rfl
              clear e2
              go_wp2
              go_quiet (fail)
              go_wp2
              go_roundw
              case rel => exact ⟨k + 1 + 1, by omega, by go_num, E1, (hg.alloc _).drewN _⟩
              case measure => simp [intOf]; omega
      · obtain rfl : k = l.length := by omega
        have E1 : Hid (chkGo (-1) l = 0) := by rw [hh.out, List.drop_length]; rfl
        clear hh
        go_wp2
        go_ret
        exact ⟨by rw [E1.out]; rfl, hg⟩
end Go.Proofs.Ythnoafmdecehcaa
