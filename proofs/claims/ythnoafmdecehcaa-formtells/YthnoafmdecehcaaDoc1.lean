/- The contracts of the document's own within, Cube and In. -/
import Derived.Test.YthnoafmdecehcaaCubeA
import Derived.Test.YthnoafmdecehcaaIn16
import Derived.Test.YthnoafmdecehcaaPure3
import Derived.LoopTactic
namespace Rm
open Go Go.RowKit
def inTo (y n t : Nat) : Nat → Bool
  | 0 => true
  | k + 1 => inTo y n t k && !(y.testBit k && !t.testBit k || n.testBit k && t.testBit k)
theorem inTo_all : ∀ y < 16, ∀ n < 16, ∀ t < 16, inTo y n t 4 = in16 y n t := by decide +kernel
theorem inTo_false {y n t : Nat} : ∀ {k j : Nat}, k ≤ j → inTo y n t k = false → inTo y n t j = false
  | k, 0, h, e => by
    have : k = 0 := by omega
    subst this
    exact e
  | k, j + 1, h, e => by
    rcases Nat.lt_or_ge k (j + 1) with c | c
    · simp only [inTo, inTo_false (show k ≤ j by omega) e, Bool.false_and]
    · have : k = j + 1 := by omega
      subst this
      exact e
theorem shr_bit : ∀ a < 16, ∀ i < 4, ((((a : Nat) : Int) / 2 ^ i).tmod 2 == 1) = a.testBit i := by decide +kernel
end Rm
namespace Go.Proofs.Ythnoafmdecehcaa
open Go.RowKit Rm
set_option linter.unusedVariables false

set_option maxHeartbeats 400000 in
set_option maxRecDepth 100000 in
theorem rwithin_any (x : Int) (w : World) :
    Calls Try.prog 48 #[.int .i64 x, .int .i64 0, .int .i64 15] w fun e w' => e = .returned (.bool (tagsB x)) ∧ w = w' := by
  by_cases h0 : 0 ≤ x
  · by_cases h1 : x ≤ 15
    · have ht : tagsB x = true := by simp [tagsB, h0, h1]
      rw [ht]
      go_enter Try.func48, Try.ntmps48
      go_wp2
      go_ret
      exact ⟨rfl, rfl⟩
    · have ht : tagsB x = false := by simp [tagsB, h1]
      rw [ht]
      go_enter Try.func48, Try.ntmps48
      go_wp2
      go_ret
      exact ⟨rfl, rfl⟩
  · have ht : tagsB x = false := by simp [tagsB, h0]
    rw [ht]
    go_enter Try.func48, Try.ntmps48
    go_wp2
    go_ret
    exact ⟨rfl, rfl⟩

set_option maxHeartbeats 400000 in
set_option maxRecDepth 100000 in
theorem rcube_any (y n : Int) (w : World) :
    Calls Try.prog 59 #[.agg #[.int .i64 y, .int .i64 n]] w fun e w' => e = .returned (.int .i64 (chk y n)) ∧ Gr w w' := by
  cases hy : tagsB y
  · have hc : chk y n = 1 := by simp [chk, hy]
    rw [hc]
    go_enter Try.func59, Try.ntmps59
    go_wp2_with (go_at_call 48; refine (rwithin_any _ _).mono ?_; rintro e w' ⟨rfl, rfl⟩)
    go_ret
    exact ⟨rfl, (Gr.refl _).alloc _⟩
  cases hn : tagsB n
  · have hc : chk y n = 1 := by simp [chk, hn]
    rw [hc]
    go_enter Try.func59, Try.ntmps59
    go_wp2_with (go_at_call 48; refine (rwithin_any _ _).mono ?_; rintro e w' ⟨rfl, rfl⟩)
    go_ret
    exact ⟨rfl, (Gr.refl _).alloc _⟩
  obtain ⟨a, ha, rfl⟩ := of_tags hy
  obtain ⟨b, hb, rfl⟩ := of_tags hn
  have h0 : 0 ≤ bits .and .i64 (a : Int) (b : Int) := by rw [and16 a ha b hb]; omega
  by_cases hz : bits .and .i64 (a : Int) (b : Int) = 0
  · have hc : chk a b = 0 := by simp [chk, hy, hn, hz]
    rw [hc]
    have hb' : ¬ (0 : Int) < bits .and .i64 (a : Int) (b : Int) := by omega
    have HZ := Lib.hid hz
    clear hz
    go_enter Try.func59, Try.ntmps59
    go_wp2_with (go_at_call 48; refine (rwithin_any _ _).mono ?_; rintro e w' ⟨rfl, rfl⟩)
    go_ret
    exact ⟨rfl, (Gr.refl _).alloc _⟩
  · have hc : chk a b = 3 := by simp [chk, hy, hn, hz]
    rw [hc]
    have hb' : (0 : Int) < bits .and .i64 (a : Int) (b : Int) := by omega
    go_enter Try.func59, Try.ntmps59
    go_wp2_with (go_at_call 48; refine (rwithin_any _ _).mono ?_; rintro e w' ⟨rfl, rfl⟩)
    go_ret
    exact ⟨rfl, (Gr.refl _).alloc _⟩

set_option maxHeartbeats 1000000 in
set_option maxRecDepth 100000 in
theorem rin_any (y n t : Nat) (w : World) (h : Vld y n) (ht : t < 16) :
    Calls Try.prog 62 #[.agg #[.int .i64 y, .int .i64 n], .int .i64 t] w fun e w' => e = .returned (.bool (in16 y n t)) ∧ Gr w w' := by
  have HI := Lib.hid (inTo_all y h.1 n h.2.1 t ht)
  have h15 : (t : Int) ≤ 15 := by omega
  have y15 : (y : Int) ≤ 15 := by have := h.1; omega
  have n15 : (n : Int) ≤ 15 := by have := h.2.1; omega
  go_enter Try.func62, Try.ntmps62
  go_wp2
  go_loop [7] (fun i => ∃ k : Nat, k ≤ 4 ∧ i = .int .i64 k ∧ Hid (inTo y n t k = true)) (fun i => 4 - (intOf i).toNat)
  case atStart => exact ⟨0, by omega, rfl, rfl⟩
  case round =>
    obtain ⟨k, hk, rfl, hh⟩ := hrel
    by_cases hlt : k < 4
    · have bt := shr_bit t ht k hlt
      have by_ := shr_bit y h.1 k hlt
      have bn := shr_bit n h.2.1 k hlt
      have hk' : (k : Int) < 4 := by omega
      have hst : inTo y n t (k + 1) = !(y.testBit k && !t.testBit k || n.testBit k && t.testBit k) := by simp [inTo, hh.out]
      have HST := Lib.hid hst
      have fin : ∀ b, inTo y n t (k + 1) = false → b = false → b = in16 y n t := by
        intro b hf hb
        rw [← HI.out, inTo_false (show k + 1 ≤ 4 by omega) hf, hb]
      have HFI := Lib.hid fin
      clear hst fin hh
      cases ct : t.testBit k <;> cases cy : y.testBit k <;> cases cn : n.testBit k
      all_goals
        rw [ct] at bt
        rw [cy] at by_
        rw [cn] at bn
        have hs := HST.out
        rw [ct, cy, cn] at hs
        have HS := Lib.hid hs
        clear hs ct cy cn HST
        go_wp2
        first
          | (go_round
             case rel => exact ⟨k + 1, by omega, by go_num, HS.out⟩
             case measure => simp [intOf]; omega)
          | (go_ret
             exact ⟨by rw [← HFI.out false HS.out rfl]; rfl, (Gr.refl _).alloc _⟩)
    · obtain rfl : k = 4 := by omega
      have e := hh.out
      rw [HI.out] at e
      have HE := Lib.hid e
      clear e hh
      go_wp2
      go_ret
      exact ⟨by rw [HE.out]; rfl, (Gr.refl _).alloc _⟩
end Go.Proofs.Ythnoafmdecehcaa
