/- The parser of package text: a number, an operator; a node is added. -/
import Derived.Test.YtbodadddcbbjeaaDoorTextA
import Derived.IntWalk
namespace Go.Proofs.YtbodadddcbbjeaaDoor
open Go.RowKit Rm
set_option linter.unusedVariables false
set_option linter.unusedSimpArgs false

theorem PAt.cell {w0 w : World} {B : Nat} {s : List UInt8} {l : List Nd} (h : PAt w0 w B s l) : w.cell? ⟨B, 0, none⟩ = some (.string (str s)) := by
  obtain ⟨h1, h2, u, h3, h4⟩ := h
  rw [cell_of_row _ _ _ _ _ _ h3]; rfl

set_option maxHeartbeats 400000 in
set_option maxRecDepth 100000 in
theorem operator_any {w0 w : World} {B : Nat} {s : List UInt8} {l : List Nd} (h : PAt w0 w B s l) :
    Calls Tryd.prog 72 #[.pointer (some ⟨B, 0, none⟩)] w fun e w' => match pOp s with | none => Raised w0 w e w' | some (k, r) => Took w0 w B (.int .i64 k) r l e w' := by
  cases s with
  | nil =>
    simp only [pOp]
    go_enter Tryd.func72, Tryd.ntmps72
    go_wp2_with (go_at_call 55; refine (next_nil h).mono ?_; rintro e w1 ⟨rfl, g1, t1⟩)
    exact ⟨rfl, rfl, g1, t1⟩
  | cons c r =>
    by_cases hc : c = 38
    · simp only [pOp, if_pos hc]
      subst hc
      have hb : ((38 : UInt8).toNat : Int) = 38 := rfl
      go_enter Tryd.func72, Tryd.ntmps72
      go_wp2_with (go_at_call 55; refine (next_cons h).mono ?_; rintro e w1 ⟨rfl, g1, t1⟩)
      go_ret
      exact ⟨rfl, g1, t1⟩
    · by_cases hd : c = 124
      · simp only [pOp, if_neg hc, if_pos hd]
        subst hd
        clear hc
        have hb : ((124 : UInt8).toNat : Int) = 124 := rfl
        go_enter Tryd.func72, Tryd.ntmps72
        go_wp2_with (go_at_call 55; refine (next_cons h).mono ?_; rintro e w1 ⟨rfl, g1, t1⟩)
        go_ret
        exact ⟨rfl, g1, t1⟩
      · simp only [pOp, if_neg hc, if_neg hd]
        have hb : ((c.toNat : Int) == 38) = false := by simp; intro e; exact hc (UInt8.toNat_inj.1 (by simp; omega))
        have hb2 : ((c.toNat : Int) == 124) = false := by simp; intro e; exact hd (UInt8.toNat_inj.1 (by simp; omega))
        clear hc hd
        go_enter Tryd.func72, Tryd.ntmps72
        go_wp2_with (go_at_call 55; refine (next_cons h).mono ?_; rintro e w1 ⟨rfl, g1, t1⟩)
        exact ⟨rfl, rfl, g1.1, t1⟩

set_option maxHeartbeats 1000000 in
set_option maxRecDepth 100000 in
theorem number_any {w0 w : World} {B : Nat} {s : List UInt8} {l : List Nd} (h : PAt w0 w B s l) :
    Calls Tryd.prog 57 #[.pointer (some ⟨B, 0, none⟩)] w fun e w' => match pNum s with | none => Raised w0 w e w' | some (a, r) => Took w0 w B (.int .i64 (a : Int)) r l e w' := by
  have hnn : (ByteArray.mk #[]).toList = [] := str_list []
  cases s with
  | nil =>
    simp only [pNum]
    go_enter Tryd.func57, Tryd.ntmps57
    go_wp2_with (go_at_call 69; refine (digit_nil h).mono ?_; rintro e w1 ⟨rfl, g1, t1⟩)
    exact ⟨rfl, rfl, g1, t1⟩
  | cons c r =>
    cases hc : digB c with
    | false =>
      simp only [pNum, hc, Bool.false_eq_true, if_false]
      go_enter Tryd.func57, Tryd.ntmps57
      go_wp2_with (go_at_call 69; refine (digit_no h hc).mono ?_; rintro e w1 ⟨rfl, g1, t1⟩)
      exact ⟨rfl, rfl, g1, t1⟩
    | true =>
      have HY := Lib.hid (digit_yes h hc)
      have hb : 48 ≤ (c.toNat : Int) ∧ (c.toNat : Int) ≤ 57 := by simpa [digB] using hc
      have h48 : c.toNat ≠ 48 ↔ c.toNat - 48 ≠ 0 := by omega
      have h9 : ((c.toNat - 48 : Nat) : Int) ≤ 9 := by omega
      simp only [pNum, hc, if_true, h48]
      generalize c.toNat - 48 = n at *
      clear h48 hb hc
      by_cases hn : n = 0
      · subst hn
        have e2 : (match (match r with | [] => some (0, []) | d :: r' => if (0 : Nat) ≠ 0 ∧ digB d = true then some (10 * 0 + (d.toNat - 48), r') else some (0, d :: r') : Option (Nat × List UInt8)) with | none => Raised w0 w | some (a, r) => Took w0 w B (.int .i64 (a : Int)) r l) = Took w0 w B (.int .i64 ((0 : Nat) : Int)) r l := by
          cases r <;> simp
        suffices hh : Calls Tryd.prog 57 #[.pointer (some ⟨B, 0, none⟩)] w (Took w0 w B (.int .i64 ((0 : Nat) : Int)) r l) by
          refine hh.mono fun e w' ht => ?_
          cases r with
          | nil => simpa using ht
          | cons d r' => simpa using ht
        clear e2
        go_enter Tryd.func57, Tryd.ntmps57
        go_wp2_with (go_at_call 69; refine HY.out.mono ?_; rintro e w1 ⟨rfl, g1, t1⟩)
        go_ret
        exact ⟨rfl, g1, t1⟩
      · have hn0 : ((n : Int) != 0) = true := by simp; omega
        cases r with
        | nil =>
          simp only
          have hs := str_list []
          go_enter Tryd.func57, Tryd.ntmps57
          go_wp2_with (go_at_call 69; refine HY.out.mono ?_; rintro e w1 ⟨rfl, g1, t1⟩; have c1 := g1.cell)
          go_ret
          exact ⟨rfl, g1, t1⟩
        | cons d r' =>
          have hs := str_list (d :: r')
          have hi := fun w => run_str_at (P := Tryd.prog) 9 d r' w Tryd.underlying9
          cases hd : digB d with
          | false =>
            simp only [hd, Bool.false_eq_true, and_false, if_false]
            go_enter Tryd.func57, Tryd.ntmps57
            go_wp2_with (first | (go_at_call 69; refine HY.out.mono ?_; rintro e w1 ⟨rfl, g1, t1⟩; have c1 := g1.cell) | (go_at_call 70; refine (isDigit_any d _).mono ?_; rintro e w2 ⟨rfl, rfl⟩; rw [hd]))
            go_ret
            exact ⟨rfl, g1, t1⟩
          | true =>
            have hp : n ≠ 0 ∧ digB d = true := ⟨hn, hd⟩
            simp only [if_pos hp]
            clear hp
            have hb : 48 ≤ (d.toNat : Int) ∧ (d.toNat : Int) ≤ 57 := by simpa [digB] using hd
            have h9' : ((d.toNat - 48 : Nat) : Int) ≤ 9 := by omega
            have HD : Hid (∀ w2, PAt w0 w2 B (d :: r') l → Calls Tryd.prog 69 #[.pointer (some ⟨B, 0, none⟩)] w2 fun e w' => Took w0 w2 B (.int .i64 ((d.toNat - 48 : Nat) : Int)) r' l e w') := fun w2 hp => digit_yes hp hd
            generalize d.toNat - 48 = m at *
            clear hb
            have e10 : ((10 * n + m : Nat) : Int) = 10 * (n : Int) + (m : Int) := by omega
            go_enter Tryd.func57, Tryd.ntmps57
            go_wp2_with (first | (go_at_call 69; refine HY.out.mono ?_; rintro e w1 ⟨rfl, g1, t1⟩; have c1 := g1.cell; clear HY) | (go_at_call 69; refine (HD.out _ g1).mono ?_; rintro e w2 ⟨rfl, g2, t2⟩) | (go_at_call 70; refine (isDigit_any d _).mono ?_; rintro e w2 ⟨rfl, rfl⟩; rw [hd]))
            go_ret
            exact ⟨by first | rfl | (rw [e10]; rfl) | (simp [e10]), g2, t1.trans t2⟩
end Go.Proofs.YtbodadddcbbjeaaDoor
