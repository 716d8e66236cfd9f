/- The parser of package text: an interval, a pair, a node. -/
import Derived.Test.YtbodadddcbbjeaaDoorTextC
namespace Rm
open Go Go.RowKit
/-- the rest of a pair, where N reads a node -/
def pPair (N : List UInt8 → List Nd → Option (List UInt8 × List Nd)) (r : List UInt8) (l : List Nd) : Option (List UInt8 × List Nd) :=
  match N r l with
  | none => none
  | some (s1, l1) => match pOp s1 with
    | none => none
    | some (k, s2) => match N s2 l1 with
      | none => none
      | some (s3, l2) => match pExp 41 s3 with
        | none => none
        | some s4 => some (s4, l2 ++ [(k, ((l1.length - 1 : Nat) : Int), ((l2.length - 1 : Nat) : Int))])
theorem pNode_pair (f : Nat) (r : List UInt8) (l : List Nd) : pNode (f + 1) (40 :: r) l = pPair (pNode f) r l := rfl
theorem len_snoc (l : List Nd) (n : Nd) : (((l ++ [n]).length - 1 : Nat) : Int) = (l.length : Int) := by simp
theorem byte_ne {c x : UInt8} {n : Int} (h : ¬ c = x) (hx : (x.toNat : Int) = n) : ((c.toNat : Int) == n) = false := by
  rw [beq_eq_false_iff_ne]
  intro e
  exact h (UInt8.toNat_inj.1 (by omega))
end Rm
namespace Go.Proofs.YtbodadddcbbjeaaDoor
open Go.RowKit Rm
set_option linter.unusedVariables false
set_option linter.unusedSimpArgs false
/-- what a call says that reads a node -/
def NodeSays (w0 w : World) (B : Nat) (o : Option (List UInt8 × List Nd)) (e : Ending) (w' : World) : Prop :=
  match o with
  | none => Raised w0 w e w'
  | some (r, m) => Took w0 w B (.int .i64 ((m.length - 1 : Nat) : Int)) r m e w'
/-- the contract of node, at texts shorter than f -/
def NodeTo (w0 : World) (B f : Nat) : Prop := ∀ (s : List UInt8) (l : List Nd) (w : World), s.length < f → l.length + s.length ≤ 1000 → PAt w0 w B s l → Calls Tryd.prog 42 #[.pointer (some ⟨B, 0, none⟩)] w fun e w' => NodeSays w0 w B (pNode f s l) e w'

set_option maxHeartbeats 1000000 in
set_option maxRecDepth 100000 in
theorem interval_any {w0 w : World} {B : Nat} {s : List UInt8} {l : List Nd} (h : PAt w0 w B s l) (hl : l.length ≤ 5000) :
    Calls Tryd.prog 58 #[.pointer (some ⟨B, 0, none⟩)] w fun e w' => NodeSays w0 w B (pIn s l) e w' := by
  have H1 := Lib.hid (number_any h)
  unfold pIn
  cases h1 : pNum s with
  | none =>
    rw [h1] at H1
    simp only [NodeSays]
    go_enter Tryd.func58, Tryd.ntmps58
    go_wp2_with (first | (go_at_call 57; refine (H1.out).mono ?_; rintro e w1 ⟨rfl, g1, t1⟩))
    exact ⟨rfl, rfl, g1, t1⟩
  | some p =>
    obtain ⟨a, s1⟩ := p
    rw [h1] at H1
    simp only at H1
    have H2 : Hid (∀ w1, PAt w0 w1 B s1 l → _) := fun w1 h => expect_any 44 h
    simp only
    cases h2 : pExp 44 s1 with
    | none =>
      simp only [h2] at H2
      simp only [NodeSays]
      go_enter Tryd.func58, Tryd.ntmps58
      go_wp2_with (first | (go_at_call 57; refine (H1.out).mono ?_; rintro e w1 ⟨rfl, g1, t1⟩) | (go_at_call 71; refine (H2.out _ g1).mono ?_; rintro e w2 ⟨rfl, g2, t2⟩))
      exact ⟨rfl, rfl, g2, (t1.trans t2)⟩
    | some s2 =>
      simp only [h2] at H2
      have H3 : Hid (∀ w1, PAt w0 w1 B s2 l → _) := fun w1 h => number_any h
      simp only
      cases h3 : pNum s2 with
      | none =>
        simp only [h3] at H3
        simp only [NodeSays]
        go_enter Tryd.func58, Tryd.ntmps58
        go_wp2_with (first | (go_at_call 57; refine (H1.out).mono ?_; rintro e w1 ⟨rfl, g1, t1⟩) | (go_at_call 71; refine (H2.out _ g1).mono ?_; rintro e w2 ⟨rfl, g2, t2⟩) | (go_at_call 57; refine (H3.out _ g2).mono ?_; rintro e w3 ⟨rfl, g3, t3⟩))
        exact ⟨rfl, rfl, g3, ((t1.trans t2).trans t3)⟩
      | some p =>
        obtain ⟨b, s3⟩ := p
        simp only [h3] at H3
        have H4 : Hid (∀ w1, PAt w0 w1 B s3 l → _) := fun w1 h => expect_any 41 h
        simp only
        cases h4 : pExp 41 s3 with
        | none =>
          simp only [h4] at H4
          simp only [NodeSays]
          go_enter Tryd.func58, Tryd.ntmps58
          go_wp2_with (first | (go_at_call 57; refine (H1.out).mono ?_; rintro e w1 ⟨rfl, g1, t1⟩) | (go_at_call 71; refine (H2.out _ g1).mono ?_; rintro e w2 ⟨rfl, g2, t2⟩) | (go_at_call 57; refine (H3.out _ g2).mono ?_; rintro e w3 ⟨rfl, g3, t3⟩) | (go_at_call 71; refine (H4.out _ g3).mono ?_; rintro e w4 ⟨rfl, g4, t4⟩))
          exact ⟨rfl, rfl, g4, (((t1.trans t2).trans t3).trans t4)⟩
        | some s4 =>
          simp only [h4] at H4
          have H5 : Hid (∀ w1, PAt w0 w1 B s4 l → _) := fun w1 h => padd_any h hl 3 (a : Int) (b : Int)
          simp only [NodeSays]
          rw [len_snoc]
          go_enter Tryd.func58, Tryd.ntmps58
          go_wp2_with (first | (go_at_call 57; refine (H1.out).mono ?_; rintro e w1 ⟨rfl, g1, t1⟩) | (go_at_call 71; refine (H2.out _ g1).mono ?_; rintro e w2 ⟨rfl, g2, t2⟩) | (go_at_call 57; refine (H3.out _ g2).mono ?_; rintro e w3 ⟨rfl, g3, t3⟩) | (go_at_call 71; refine (H4.out _ g3).mono ?_; rintro e w4 ⟨rfl, g4, t4⟩) | (go_at_call 56; refine (H5.out _ g4).mono ?_; rintro e w5 ⟨rfl, g5, t5⟩))
          go_ret
          exact ⟨rfl, g5, ((((t1.trans t2).trans t3).trans t4).trans t5)⟩

set_option maxHeartbeats 1000000 in
set_option maxRecDepth 100000 in
theorem pair_any {w0 w : World} {B f : Nat} (IH : NodeTo w0 B f) {s : List UInt8} {l : List Nd} (h : PAt w0 w B s l) (hs : s.length < f) (hl : l.length + s.length ≤ 1000) :
    Calls Tryd.prog 59 #[.pointer (some ⟨B, 0, none⟩)] w fun e w' => NodeSays w0 w B (pPair (pNode f) s l) e w' := by
  have H1 := Lib.hid (IH s l w hs hl h)
  unfold pPair
  cases h1 : pNode f s l with
  | none =>
    rw [h1] at H1
    simp only [NodeSays] at H1 ⊢
    go_enter Tryd.func59, Tryd.ntmps59
    go_wp2_with (first | (go_at_call 42; refine (H1.out).mono ?_; rintro e w1 ⟨rfl, g1, t1⟩))
    exact ⟨rfl, rfl, g1, t1⟩
  | some p =>
    obtain ⟨s1, l1⟩ := p
    rw [h1] at H1
    simp only [NodeSays] at H1
    have n1 := pNode_len f h1
    have H2 : Hid (∀ w1, PAt w0 w1 B s1 l1 → _) := fun w1 h => operator_any h
    simp only
    cases h2 : pOp s1 with
    | none =>
      simp only [h2] at H2
      simp only [NodeSays]
      generalize ((l1.length - 1 : Nat) : Int) = i1 at *
      go_enter Tryd.func59, Tryd.ntmps59
      go_wp2_with (first | (go_at_call 42; refine (H1.out).mono ?_; rintro e w1 ⟨rfl, g1, t1⟩) | (go_at_call 72; refine (H2.out _ g1).mono ?_; rintro e w2 ⟨rfl, g2, t2⟩))
      exact ⟨rfl, rfl, g2, (t1.trans t2)⟩
    | some p =>
      obtain ⟨k, s2⟩ := p
      simp only [h2] at H2
      have n2 := pOp_len h2
      have H3 : Hid (∀ w1, PAt w0 w1 B s2 l1 → _) := fun w1 h => IH s2 l1 w1 (by omega) (by omega) h
      simp only
      cases h3 : pNode f s2 l1 with
      | none =>
        simp only [h3, NodeSays] at H3
        simp only [NodeSays]
        generalize ((l1.length - 1 : Nat) : Int) = i1 at *
        go_enter Tryd.func59, Tryd.ntmps59
        go_wp2_with (first | (go_at_call 42; refine (H1.out).mono ?_; rintro e w1 ⟨rfl, g1, t1⟩) | (go_at_call 72; refine (H2.out _ g1).mono ?_; rintro e w2 ⟨rfl, g2, t2⟩) | (go_at_call 42; refine (H3.out _ g2).mono ?_; rintro e w3 ⟨rfl, g3, t3⟩))
        exact ⟨rfl, rfl, g3, ((t1.trans t2).trans t3)⟩
      | some p =>
        obtain ⟨s3, l2⟩ := p
        simp only [h3, NodeSays] at H3
        have n3 := pNode_len f h3
        have H4 : Hid (∀ w1, PAt w0 w1 B s3 l2 → _) := fun w1 h => expect_any 41 h
        simp only
        cases h4 : pExp 41 s3 with
        | none =>
          simp only [h4] at H4
          simp only [NodeSays]
          generalize ((l1.length - 1 : Nat) : Int) = i1 at *
          generalize ((l2.length - 1 : Nat) : Int) = i2 at *
          go_enter Tryd.func59, Tryd.ntmps59
          go_wp2_with (first | (go_at_call 42; refine (H1.out).mono ?_; rintro e w1 ⟨rfl, g1, t1⟩) | (go_at_call 72; refine (H2.out _ g1).mono ?_; rintro e w2 ⟨rfl, g2, t2⟩) | (go_at_call 42; refine (H3.out _ g2).mono ?_; rintro e w3 ⟨rfl, g3, t3⟩) | (go_at_call 71; refine (H4.out _ g3).mono ?_; rintro e w4 ⟨rfl, g4, t4⟩))
          exact ⟨rfl, rfl, g4, (((t1.trans t2).trans t3).trans t4)⟩
        | some s4 =>
          simp only [h4] at H4
          have H5 : Hid (∀ w1, PAt w0 w1 B s4 l2 → _) := fun w1 h => padd_any h (by omega) k ((l1.length - 1 : Nat) : Int) ((l2.length - 1 : Nat) : Int)
          simp only [NodeSays]
          rw [len_snoc]
          generalize ((l1.length - 1 : Nat) : Int) = i1 at *
          generalize ((l2.length - 1 : Nat) : Int) = i2 at *
          go_enter Tryd.func59, Tryd.ntmps59
          go_wp2_with (first | (go_at_call 42; refine (H1.out).mono ?_; rintro e w1 ⟨rfl, g1, t1⟩) | (go_at_call 72; refine (H2.out _ g1).mono ?_; rintro e w2 ⟨rfl, g2, t2⟩) | (go_at_call 42; refine (H3.out _ g2).mono ?_; rintro e w3 ⟨rfl, g3, t3⟩) | (go_at_call 71; refine (H4.out _ g3).mono ?_; rintro e w4 ⟨rfl, g4, t4⟩) | (go_at_call 56; refine (H5.out _ g4).mono ?_; rintro e w5 ⟨rfl, g5, t5⟩))
          go_ret
          exact ⟨rfl, g5, ((((t1.trans t2).trans t3).trans t4).trans t5)⟩

set_option maxHeartbeats 2000000 in
set_option maxRecDepth 100000 in
theorem node_any {w0 : World} {B : Nat} : ∀ f, NodeTo w0 B f := by
  intro f
  induction f with
  | zero => intro s l w hs; omega
  | succ f IH =>
    intro s l w hs hl h
    cases s with
    | nil =>
      simp only [pNode, NodeSays]
      go_enter Tryd.func42, Tryd.ntmps42
      go_wp2_with (first | (go_at_call 55; refine (next_nil h).mono ?_; rintro e w1 ⟨rfl, g1, t1⟩))
      exact ⟨rfl, rfl, g1, t1⟩
    | cons c r =>
      simp only [List.length_cons] at hs hl
      by_cases hc42 : c = 42
      · subst hc42
        have hb : ((42 : UInt8).toNat : Int) = 42 := rfl
        have e : pNode (f + 1) (42 :: r) l = some (r, l ++ [(1, 0, 0)]) := rfl
        rw [e]
        simp only [NodeSays]
        rw [len_snoc]
        have H2 : Hid (∀ w1, PAt w0 w1 B r l → _) := fun w1 h => padd_any h (by omega) 1 0 0
        clear e
        go_enter Tryd.func42, Tryd.ntmps42
        go_wp2_with (first | (go_at_call 55; refine (next_cons h).mono ?_; rintro e w1 ⟨rfl, g1, t1⟩) | (go_at_call 56; refine (H2.out _ g1).mono ?_; rintro e w2 ⟨rfl, g2, t2⟩))
        go_ret
        exact ⟨rfl, g2, (t1.trans t2)⟩
      · skip
        by_cases hc35 : c = 35
        · subst hc35
          have hb : ((35 : UInt8).toNat : Int) = 35 := rfl
          clear hc42
          have e : pNode (f + 1) (35 :: r) l = (match pNum r with | none => none | some (a, s1) => some (s1, l ++ [(2, (a : Int), 0)])) := rfl
          rw [e]
          clear e
          have H2 : Hid (∀ w1, PAt w0 w1 B r l → _) := fun w1 h => number_any h
          cases h1 : pNum r with
          | none =>
            simp only [h1] at H2
            simp only [NodeSays]
            go_enter Tryd.func42, Tryd.ntmps42
            go_wp2_with (first | (go_at_call 55; refine (next_cons h).mono ?_; rintro e w1 ⟨rfl, g1, t1⟩) | (go_at_call 57; refine (H2.out _ g1).mono ?_; rintro e w2 ⟨rfl, g2, t2⟩))
            exact ⟨rfl, rfl, g2, (t1.trans t2)⟩
          | some p =>
            obtain ⟨a, s1⟩ := p
            simp only [h1] at H2
            simp only [NodeSays]
            rw [len_snoc]
            have H3 : Hid (∀ w1, PAt w0 w1 B s1 l → _) := fun w1 h => padd_any h (by omega) 2 (a : Int) 0
            go_enter Tryd.func42, Tryd.ntmps42
            go_wp2_with (first | (go_at_call 55; refine (next_cons h).mono ?_; rintro e w1 ⟨rfl, g1, t1⟩) | (go_at_call 57; refine (H2.out _ g1).mono ?_; rintro e w2 ⟨rfl, g2, t2⟩) | (go_at_call 56; refine (H3.out _ g2).mono ?_; rintro e w3 ⟨rfl, g3, t3⟩))
            go_ret
            exact ⟨rfl, g3, ((t1.trans t2).trans t3)⟩
        · skip
          by_cases hc91 : c = 91
          · subst hc91
            have hb : ((91 : UInt8).toNat : Int) = 91 := rfl
            clear hc42 hc35
            have e : pNode (f + 1) (91 :: r) l = pIn r l := rfl
            rw [e]
            clear e
            have H2 : Hid (∀ w1, PAt w0 w1 B r l → _) := fun w1 h => interval_any h (by omega)
            cases h1 : pIn r l with
            | none =>
              simp only [h1, NodeSays] at H2
              simp only [NodeSays]
              go_enter Tryd.func42, Tryd.ntmps42
              go_wp2_with (first | (go_at_call 55; refine (next_cons h).mono ?_; rintro e w1 ⟨rfl, g1, t1⟩) | (go_at_call 58; refine (H2.out _ g1).mono ?_; rintro e w2 ⟨rfl, g2, t2⟩))
              exact ⟨rfl, rfl, g2, (t1.trans t2)⟩
            | some p =>
              obtain ⟨s1, l1⟩ := p
              simp only [h1, NodeSays] at H2
              simp only [NodeSays]
              generalize ((l1.length - 1 : Nat) : Int) = i1 at *
              go_enter Tryd.func42, Tryd.ntmps42
              go_wp2_with (first | (go_at_call 55; refine (next_cons h).mono ?_; rintro e w1 ⟨rfl, g1, t1⟩) | (go_at_call 58; refine (H2.out _ g1).mono ?_; rintro e w2 ⟨rfl, g2, t2⟩))
              go_ret
              exact ⟨rfl, g2, (t1.trans t2)⟩
          · skip
            by_cases hc33 : c = 33
            · subst hc33
              have hb : ((33 : UInt8).toNat : Int) = 33 := rfl
              clear hc42 hc35 hc91
              have e : pNode (f + 1) (33 :: r) l = (match pNode f r l with | none => none | some (s1, l1) => some (s1, l1 ++ [(4, ((l1.length - 1 : Nat) : Int), 0)])) := rfl
              rw [e]
              clear e
              have H2 : Hid (∀ w1, PAt w0 w1 B r l → _) := fun w1 h => IH r l w1 (by omega) (by omega) h
              cases h1 : pNode f r l with
              | none =>
                simp only [h1, NodeSays] at H2
                simp only [NodeSays]
                go_enter Tryd.func42, Tryd.ntmps42
                go_wp2_with (first | (go_at_call 55; refine (next_cons h).mono ?_; rintro e w1 ⟨rfl, g1, t1⟩) | (go_at_call 42; refine (H2.out _ g1).mono ?_; rintro e w2 ⟨rfl, g2, t2⟩))
                exact ⟨rfl, rfl, g2, (t1.trans t2)⟩
              | some p =>
                obtain ⟨s1, l1⟩ := p
                have n1 := pNode_len f h1
                simp only [h1, NodeSays] at H2
                simp only [NodeSays]
                rw [len_snoc]
                have H3 : Hid (∀ w1, PAt w0 w1 B s1 l1 → _) := fun w1 h => padd_any h (by omega) 4 ((l1.length - 1 : Nat) : Int) 0
                generalize ((l1.length - 1 : Nat) : Int) = i1 at *
                go_enter Tryd.func42, Tryd.ntmps42
                go_wp2_with (first | (go_at_call 55; refine (next_cons h).mono ?_; rintro e w1 ⟨rfl, g1, t1⟩) | (go_at_call 42; refine (H2.out _ g1).mono ?_; rintro e w2 ⟨rfl, g2, t2⟩) | (go_at_call 56; refine (H3.out _ g2).mono ?_; rintro e w3 ⟨rfl, g3, t3⟩))
                go_ret
                exact ⟨rfl, g3, ((t1.trans t2).trans t3)⟩
            · skip
              by_cases hc40 : c = 40
              · subst hc40
                rw [pNode_pair]
                have hb : ((40 : UInt8).toNat : Int) = 40 := rfl
                clear hc42 hc35 hc91 hc33
                have H2 : Hid (∀ w1, PAt w0 w1 B r l → _) := fun w1 h => pair_any IH h (by omega) (by omega)
                cases h1 : pPair (pNode f) r l with
                | none =>
                  simp only [h1, NodeSays] at H2
                  simp only [NodeSays]
                  go_enter Tryd.func42, Tryd.ntmps42
                  go_wp2_with (first | (go_at_call 55; refine (next_cons h).mono ?_; rintro e w1 ⟨rfl, g1, t1⟩) | (go_at_call 59; refine (H2.out _ g1).mono ?_; rintro e w2 ⟨rfl, g2, t2⟩))
                  exact ⟨rfl, rfl, g2, (t1.trans t2)⟩
                | some p =>
                  obtain ⟨s1, l1⟩ := p
                  simp only [h1, NodeSays] at H2
                  simp only [NodeSays]
                  generalize ((l1.length - 1 : Nat) : Int) = i1 at *
                  go_enter Tryd.func42, Tryd.ntmps42
                  go_wp2_with (first | (go_at_call 55; refine (next_cons h).mono ?_; rintro e w1 ⟨rfl, g1, t1⟩) | (go_at_call 59; refine (H2.out _ g1).mono ?_; rintro e w2 ⟨rfl, g2, t2⟩))
                  go_ret
                  exact ⟨rfl, g2, (t1.trans t2)⟩
              · have e : pNode (f + 1) (c :: r) l = none := by simp only [pNode, if_neg hc42, if_neg hc35, if_neg hc91, if_neg hc33, if_neg hc40]
                rw [e]
                clear e
                simp only [NodeSays]
                have b42 := byte_ne hc42 (n := 42) rfl
                have b35 := byte_ne hc35 (n := 35) rfl
                have b91 := byte_ne hc91 (n := 91) rfl
                have b33 := byte_ne hc33 (n := 33) rfl
                have b40 := byte_ne hc40 (n := 40) rfl
                clear hc42 hc35 hc91 hc33 hc40
                go_enter Tryd.func42, Tryd.ntmps42
                go_wp2_with (first | (go_at_call 55; refine (next_cons h).mono ?_; rintro e w1 ⟨rfl, g1, t1⟩))
                exact ⟨rfl, rfl, g1.1, t1⟩
end Go.Proofs.YtbodadddcbbjeaaDoor
