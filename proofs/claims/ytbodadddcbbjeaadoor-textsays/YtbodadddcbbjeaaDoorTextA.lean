/- The parser of package text: what it reads, and the contracts of its small methods. -/
import Derived.Test.YtbodadddcbbjeaaDoorFormH
import Derived.Defers
import Derived.Recover
import Derived.Laws.Strings3
import Derived.Laws.Concat
import Derived.Test.YtbodadddcbbjeaaDoorReg
namespace Rm
open Go Go.RowKit

/-- a string, given by its bytes -/
def str (l : List UInt8) : ByteArray := ⟨l.toArray⟩
theorem str_list (l : List UInt8) : (str l).toList = l := ByteArray.toList_mk l
theorem str_size (l : List UInt8) : (str l).size = l.length := by simp [str, ByteArray.size]
theorem str_of (s : ByteArray) : s = str s.toList := by rw [ByteArray.toList_eq]; rfl
theorem str_inj {a b : List UInt8} (h : str a = str b) : a = b := by rw [← str_list a, h, str_list]
theorem str_nil : ByteArray.mk #[] = str [] := rfl
theorem str_app (a b : List UInt8) : str a ++ str b = str (a ++ b) := ByteArray.mk_append_mk a b
theorem str_at (c : UInt8) (r : List UInt8) (h : 0 < (str (c :: r)).size) : (str (c :: r))[0]'h = c := rfl
theorem str_tail (c : UInt8) (r : List UInt8) : (str (c :: r)).extract 1 (r.length + 1) = str r := by
  unfold str
  rw [ByteArray.extract_mk]
  simp
section
variable {P : Program}
theorem run_str_at (t : TypeId) (c : UInt8) (r : List UInt8) (w : World) (h : P.underlying t = some .string) : (Instr.index t (.string (str (c :: r))) (.int .i64 0)).run P w = .ok (.int .u8 (c.toNat : Int)) w := by
  rw [run_index_string _ _ _ _ _ h, dif_pos ⟨by omega, by rw [str_size]; simp⟩]
  rfl
theorem run_str_tail (t : TypeId) (c : UInt8) (r : List UInt8) (w : World) (h : P.underlying t = some .string) : (Instr.slice t (.string (str (c :: r))) (some (.int .i64 1)) none none).run P w = .ok (.string (str r)) w := by
  rw [run_slice_string_from_if _ _ _ _ _ h, if_pos ⟨by omega, by rw [str_size]; simp; omega⟩, str_size]
  rw [show ((1 : Int).toNat) = 1 from rfl, List.length_cons, str_tail]
end

/-- is a byte a digit? -/
def digB (c : UInt8) : Bool := decide (48 ≤ (c.toNat : Int)) && decide ((c.toNat : Int) ≤ 57)
/-- a number, as it is read: one digit, or two of which the first is not 0 -/
def pNum : List UInt8 → Option (Nat × List UInt8)
  | [] => none
  | c :: r => if digB c then
      match r with
      | [] => some (c.toNat - 48, [])
      | d :: r' => if c.toNat ≠ 48 ∧ digB d = true then some (10 * (c.toNat - 48) + (d.toNat - 48), r') else some (c.toNat - 48, d :: r')
    else none
def pExp (x : UInt8) : List UInt8 → Option (List UInt8)
  | [] => none
  | c :: r => if c = x then some r else none
def pOp : List UInt8 → Option (Int × List UInt8)
  | [] => none
  | c :: r => if c = 38 then some (5, r) else if c = 124 then some (6, r) else none
/-- the rest of an interval -/
def pIn (s : List UInt8) (l : List Nd) : Option (List UInt8 × List Nd) :=
  match pNum s with
  | none => none
  | some (a, s1) => match pExp 44 s1 with
    | none => none
    | some s2 => match pNum s2 with
      | none => none
      | some (b, s3) => match pExp 41 s3 with
        | none => none
        | some s4 => some (s4, l ++ [(3, (a : Int), (b : Int))])
/-- a node, as it is read: what is left of the text, and the nodes -/
def pNode : Nat → List UInt8 → List Nd → Option (List UInt8 × List Nd)
  | 0, _, _ => none
  | _ + 1, [], _ => none
  | f + 1, c :: r, l =>
    if c = 42 then some (r, l ++ [(1, 0, 0)])
    else if c = 35 then match pNum r with
      | none => none
      | some (a, s1) => some (s1, l ++ [(2, (a : Int), 0)])
    else if c = 91 then pIn r l
    else if c = 33 then match pNode f r l with
      | none => none
      | some (s1, l1) => some (s1, l1 ++ [(4, ((l1.length - 1 : Nat) : Int), 0)])
    else if c = 40 then match pNode f r l with
      | none => none
      | some (s1, l1) => match pOp s1 with
        | none => none
        | some (k, s2) => match pNode f s2 l1 with
          | none => none
          | some (s3, l2) => match pExp 41 s3 with
            | none => none
            | some s4 => some (s4, l2 ++ [(k, ((l1.length - 1 : Nat) : Int), ((l2.length - 1 : Nat) : Int))])
    else none
theorem pNum_len {s : List UInt8} {a : Nat} {r : List UInt8} (h : pNum s = some (a, r)) : r.length < s.length := by
  unfold pNum at h
  split at h
  · cases h
  · split at h
    · split at h
      · cases h; simp
      · split at h <;> cases h <;> simp <;> omega
    · cases h
theorem pExp_len {x : UInt8} {s r : List UInt8} (h : pExp x s = some r) : r.length < s.length := by
  unfold pExp at h
  split at h
  · cases h
  · split at h <;> cases h
    simp
theorem pOp_len {s r : List UInt8} {k : Int} (h : pOp s = some (k, r)) : r.length < s.length := by
  unfold pOp at h
  split at h
  · cases h
  · split at h
    · cases h; simp
    · split at h <;> cases h
      simp
theorem pIn_len {s r : List UInt8} {l m : List Nd} (h : pIn s l = some (r, m)) : r.length + 4 ≤ s.length ∧ m.length = l.length + 1 := by
  unfold pIn at h
  cases h1 : pNum s with
  | none => rw [h1] at h; cases h
  | some p =>
    rw [h1] at h
    obtain ⟨a, s1⟩ := p
    simp only at h
    cases h2 : pExp 44 s1 with
    | none => rw [h2] at h; cases h
    | some s2 =>
      rw [h2] at h
      simp only at h
      cases h3 : pNum s2 with
      | none => rw [h3] at h; cases h
      | some p =>
        rw [h3] at h
        obtain ⟨b, s3⟩ := p
        simp only at h
        cases h4 : pExp 41 s3 with
        | none => rw [h4] at h; cases h
        | some s4 =>
          rw [h4] at h
          cases h
          have := pNum_len h1
          have := pExp_len h2
          have := pNum_len h3
          have := pExp_len h4
          exact ⟨by omega, by simp⟩
theorem pNode_len : ∀ (f : Nat) {s r : List UInt8} {l m : List Nd}, pNode f s l = some (r, m) → m.length + r.length ≤ l.length + s.length ∧ l.length < m.length ∧ r.length < s.length
  | 0, s, r, l, m, h => by simp [pNode] at h
  | f + 1, [], r, l, m, h => by simp [pNode] at h
  | f + 1, c :: s, r, l, m, h => by
    unfold pNode at h
    split at h
    · cases h; simp; omega
    · split at h
      · cases h1 : pNum s with
        | none => rw [h1] at h; cases h
        | some p =>
          rw [h1] at h
          cases h
          have := pNum_len h1
          simp; omega
      · split at h
        · have := pIn_len h
          simp; omega
        · split at h
          · cases h1 : pNode f s l with
            | none => rw [h1] at h; cases h
            | some p =>
              rw [h1] at h
              cases h
              have := pNode_len f h1
              simp; omega
          · split at h
            · cases h1 : pNode f s l with
              | none => rw [h1] at h; cases h
              | some p =>
                rw [h1] at h
                obtain ⟨s1, l1⟩ := p
                simp only at h
                cases h2 : pOp s1 with
                | none => rw [h2] at h; cases h
                | some p =>
                  rw [h2] at h
                  obtain ⟨k, s2⟩ := p
                  simp only at h
                  cases h3 : pNode f s2 l1 with
                  | none => rw [h3] at h; cases h
                  | some p =>
                    rw [h3] at h
                    obtain ⟨s3, l2⟩ := p
                    simp only at h
                    cases h4 : pExp 41 s3 with
                    | none => rw [h4] at h; cases h
                    | some s4 =>
                      rw [h4] at h
                      cases h
                      have := pNode_len f h1
                      have := pOp_len h2
                      have := pNode_len f h3
                      have := pExp_len h4
                      simp; omega
            · cases h
end Rm
namespace Go.Proofs.YtbodadddcbbjeaaDoor
open Go.RowKit Rm
set_option linter.unusedVariables false

/-- what the parser raises -/
def errW : PanicEntry := { v := .iface 23 (.int .i64 9), recovered := false }
/-- every block but the parser's and those of its nodes is as it was -/
def PTyp (w w' : World) : Prop := ∀ (k : Nat) (cs : Array Value) (t : TypeId) (fr : Nat × Nat), w.heap[k]? = some (.cells cs t fr) → t ≠ 78 → t ≠ 30 → w'.heap[k]? = some (.cells cs t fr)
theorem PTyp.refl (w : World) : PTyp w w := fun _ _ _ _ h _ _ => h
theorem PTyp.trans {a b c : World} (h : PTyp a b) (h' : PTyp b c) : PTyp a c := fun k cs t fr e h1 h2 => h' k cs t fr (h k cs t fr e h1 h2) h1 h2
theorem PTyp.of {w w' : World} (g : Gr w w') : PTyp w w' := fun k cs t fr h _ _ => (Below.block g k (Blk_lt h)).trans h
/-- the parser: its block is B, it has still to read s, and has read the nodes l -/
def PAt (w0 w : World) (B : Nat) (s : List UInt8) (l : List Nd) : Prop := Gr w0 w ∧ w0.heap.size ≤ B ∧ ∃ u, w.heap[B]? = some (.cells #[.string (str s), u] 78 (0, 0)) ∧ OwnN w0.heap.size w u l
theorem PAt.gr {w0 w w' : World} {B : Nat} {s : List UInt8} {l : List Nd} (h : PAt w0 w B s l) (g : Gr w w') : PAt w0 w' B s l := by
  obtain ⟨h1, h2, u, h3, h4⟩ := h
  exact ⟨h1.trans g, h2, u, (Below.block g _ (Blk_lt h3)).trans h3, h4.gr g⟩
/-- a call of the parser raises its error -/
def Raised (w0 w : World) (e : Ending) (w' : World) : Prop := e = .panicked [errW] ∧ Gr w0 w' ∧ PTyp w w'

set_option maxHeartbeats 400000 in
set_option maxRecDepth 100000 in
theorem next_nil {w0 w : World} {B : Nat} {l : List Nd} (h : PAt w0 w B [] l) :
    Calls Tryd.prog 55 #[.pointer (some ⟨B, 0, none⟩)] w fun e w' => Raised w0 w e w' := by
  obtain ⟨h1, h2, u, h3, h4⟩ := h
  have c1 : w.cell? ⟨B, 0, none⟩ = some (.string (str [])) := by rw [cell_of_row _ _ _ _ _ _ h3]; rfl
  have hs := str_list []
  have hn : (ByteArray.mk #[]).toList = [] := str_list []
  clear h3 h4
  go_enter Tryd.func55, Tryd.ntmps55
  go_wp2
  exact ⟨rfl, rfl, h1, PTyp.refl _⟩

/-- a call of the parser takes what is ahead -/
def Took (w0 w : World) (B : Nat) (v : Value) (s : List UInt8) (l : List Nd) (e : Ending) (w' : World) : Prop := e = .returned v ∧ PAt w0 w' B s l ∧ PTyp w w'
theorem PAt.set {w0 w : World} {B : Nat} {s : List UInt8} {l : List Nd} (h : PAt w0 w B s l) (r : List UInt8) : PAt w0 (w.setCell ⟨B, 0, none⟩ (.string (str r))) B r l ∧ PTyp w (w.setCell ⟨B, 0, none⟩ (.string (str r))) := by
  obtain ⟨h1, h2, u, h3, h4⟩ := h
  refine ⟨⟨h1.setCell (p := ⟨B, 0, none⟩) h2 _, h2, u, heap_setCell_same _ _ _ _ _ _ h3, own_far h4 (own_ne h4 h3 (by decide))⟩, ?_⟩
  intro j cs t fr hj ht1 ht2
  have hjB : j ≠ B := by rintro rfl; rw [h3] at hj; simp at hj; exact ht1 hj.2.1.symm
  rw [heap_setCell_other _ _ _ _ (by simpa using hjB)]
  exact hj

set_option maxHeartbeats 400000 in
set_option maxRecDepth 100000 in
theorem next_cons {w0 w : World} {B : Nat} {c : UInt8} {r : List UInt8} {l : List Nd} (h : PAt w0 w B (c :: r) l) :
    Calls Tryd.prog 55 #[.pointer (some ⟨B, 0, none⟩)] w fun e w' => Took w0 w B (.int .u8 (c.toNat : Int)) r l e w' := by
  have HS := Lib.hid (h.set r)
  obtain ⟨h1, h2, u, h3, h4⟩ := h
  have c1 : w.cell? ⟨B, 0, none⟩ = some (.string (str (c :: r))) := by rw [cell_of_row _ _ _ _ _ _ h3]; rfl
  have d1 := frozen_of_row w B 0 _ _ h3
  have hs := str_list (c :: r)
  have hn : (ByteArray.mk #[]).toList = [] := str_list []
  have hi := fun w => run_str_at (P := Tryd.prog) 9 c r w Tryd.underlying9
  have ht := fun w => run_str_tail (P := Tryd.prog) 9 c r w Tryd.underlying9
  clear h3 h4
  go_enter Tryd.func55, Tryd.ntmps55
  go_wp2
  go_ret
  exact ⟨rfl, HS.out⟩

set_option maxHeartbeats 400000 in
set_option maxRecDepth 100000 in
theorem isDigit_any (c : UInt8) (w : World) :
    Calls Tryd.prog 70 #[.int .u8 (c.toNat : Int)] w fun e w' => e = .returned (.bool (digB c)) ∧ w' = w := by
  by_cases h1 : 48 ≤ (c.toNat : Int)
  · by_cases h2 : (c.toNat : Int) ≤ 57
    · have e : digB c = true := by simp only [digB, decide_eq_true h1, decide_eq_true h2]; rfl
      rw [e]
      go_enter Tryd.func70, Tryd.ntmps70
      go_wp2
      go_ret
      exact ⟨rfl, rfl⟩
    · have e : digB c = false := by simp only [digB, decide_eq_false h2, Bool.and_false]
      rw [e]
      go_enter Tryd.func70, Tryd.ntmps70
      go_wp2
      go_ret
      exact ⟨rfl, rfl⟩
  · have e : digB c = false := by simp only [digB, decide_eq_false h1, Bool.false_and]
    rw [e]
    go_enter Tryd.func70, Tryd.ntmps70
    go_wp2
    go_ret
    exact ⟨rfl, rfl⟩

set_option maxHeartbeats 400000 in
set_option maxRecDepth 100000 in
theorem digit_nil {w0 w : World} {B : Nat} {l : List Nd} (h : PAt w0 w B [] l) :
    Calls Tryd.prog 69 #[.pointer (some ⟨B, 0, none⟩)] w fun e w' => Raised w0 w e w' := by
  go_enter Tryd.func69, Tryd.ntmps69
  go_wp2_with (go_at_call 55; refine (next_nil h).mono ?_; rintro e w1 ⟨rfl, g1, t1⟩)
  exact ⟨rfl, rfl, g1, t1⟩
set_option maxHeartbeats 400000 in
set_option maxRecDepth 100000 in
theorem digit_no {w0 w : World} {B : Nat} {c : UInt8} {r : List UInt8} {l : List Nd} (h : PAt w0 w B (c :: r) l) (hc : digB c = false) :
    Calls Tryd.prog 69 #[.pointer (some ⟨B, 0, none⟩)] w fun e w' => Raised w0 w e w' := by
  go_enter Tryd.func69, Tryd.ntmps69
  go_wp2_with (first | (go_at_call 55; refine (next_cons h).mono ?_; rintro e w1 ⟨rfl, g1, t1⟩) | (go_at_call 70; refine (isDigit_any c _).mono ?_; rintro e w2 ⟨rfl, rfl⟩; rw [hc]))
  exact ⟨rfl, rfl, g1.1, t1⟩
set_option maxHeartbeats 400000 in
set_option maxRecDepth 100000 in
theorem digit_yes {w0 w : World} {B : Nat} {c : UInt8} {r : List UInt8} {l : List Nd} (h : PAt w0 w B (c :: r) l) (hc : digB c = true) :
    Calls Tryd.prog 69 #[.pointer (some ⟨B, 0, none⟩)] w fun e w' => Took w0 w B (.int .i64 ((c.toNat - 48 : Nat) : Int)) r l e w' := by
  have hb : 48 ≤ (c.toNat : Int) ∧ (c.toNat : Int) ≤ 57 := by simpa [digB] using hc
  obtain ⟨hb1, hb2⟩ := hb
  have hz : (c.toNat : Int) - 48 = ((c.toNat - 48 : Nat) : Int) := by omega
  go_enter Tryd.func69, Tryd.ntmps69
  go_wp2_with (first | (go_at_call 55; refine (next_cons h).mono ?_; rintro e w1 ⟨rfl, g1, t1⟩) | (go_at_call 70; refine (isDigit_any c _).mono ?_; rintro e w2 ⟨rfl, rfl⟩; rw [hc]))
  go_ret
  exact ⟨rfl, g1, t1⟩

set_option maxHeartbeats 400000 in
set_option maxRecDepth 100000 in
theorem expect_any {w0 w : World} {B : Nat} {s : List UInt8} {l : List Nd} (x : UInt8) (h : PAt w0 w B s l) :
    Calls Tryd.prog 71 #[.pointer (some ⟨B, 0, none⟩), .int .u8 (x.toNat : Int)] w fun e w' => match pExp x s with | none => Raised w0 w e w' | some r => Took w0 w B (.tuple #[]) r l e w' := by
  cases s with
  | nil =>
    simp only [pExp]
    go_enter Tryd.func71, Tryd.ntmps71
    go_wp2_with (go_at_call 55; refine (next_nil h).mono ?_; rintro e w1 ⟨rfl, g1, t1⟩)
    exact ⟨rfl, rfl, g1, t1⟩
  | cons c r =>
    by_cases hc : c = x
    · simp only [pExp, if_pos hc]
      have hb : (c.toNat : Int) = (x.toNat : Int) := by rw [hc]
      have hq : ((c.toNat : Int) != (x.toNat : Int)) = false := by rw [hc]; simp
      clear hc
      go_enter Tryd.func71, Tryd.ntmps71
      go_wp2_with (go_at_call 55; refine (next_cons h).mono ?_; rintro e w1 ⟨rfl, g1, t1⟩)
      go_end0
      exact ⟨rfl, g1, t1⟩
    · simp only [pExp, if_neg hc]
      have hb : ¬ (c.toNat : Int) = (x.toNat : Int) := by intro e; exact hc (UInt8.toNat_inj.1 (by omega))
      have hq : ((c.toNat : Int) != (x.toNat : Int)) = true := by simpa using hb
      clear hc
      go_enter Tryd.func71, Tryd.ntmps71
      go_wp2_with (go_at_call 55; refine (next_cons h).mono ?_; rintro e w1 ⟨rfl, g1, t1⟩)
      exact ⟨rfl, rfl, g1.1, t1⟩
end Go.Proofs.YtbodadddcbbjeaaDoor
