/- The document's own read: by induction on the length of the text. -/
import Derived.Test.YtbodadddcbbjeaaDoorTsF
namespace Go.Proofs.YtbodadddcbbjeaaDoor
open Go.RowKit Rm
set_option linter.unusedVariables false
set_option linter.unusedSimpArgs false

def ReadTo (f : Nat) : Prop := ∀ (s : List UInt8) (l : List Nd) (u : Value) (b : Nat) (w : World), s.length < f → l.length + s.length ≤ 1000 → s.length ≤ 400 → OwnN b w u l → b ≤ w.heap.size →
    Calls Tryd.prog 27 #[.string (str s), u] w fun e w' => RSays b u (rNode f s l) w e w'
theorem num_ok {s : List UInt8} {a : Nat} {r : List UInt8} (h : rNum s = some (a, r)) (hs : s.length ≤ 400) : NumOk s a r := fun w => by
  have := number_ref s w hs
  simp only [NumSays, h] at this
  exact this
theorem num_no {s : List UInt8} (h : rNum s = none) (hs : s.length ≤ 400) : NumNo s := fun w => by
  have := number_ref s w hs
  simp only [NumSays, h] at this
  exact this
theorem pre_no {s : List UInt8} {x : UInt8} (h : pExp x s = none) : PreIs s x false := fun w => by
  have := hasPrefix_any s x w
  rwa [h] at this
theorem pre_ok {s : List UInt8} {x : UInt8} : PreIs (x :: s) x true := fun w => by
  have := hasPrefix_any (x :: s) x w
  rwa [pExp_cons] at this
theorem rd_ok {f : Nat} (IH : ReadTo f) {s : List UInt8} {l : List Nd} {r : List UInt8} {m : List Nd} (h : rNode f s l = some (r, m)) (h1 : s.length < f) (h2 : l.length + s.length ≤ 1000) (h3 : s.length ≤ 400) : RdOk s l r m := fun W b u ho hb => by
  have := IH s l u b W h1 h2 h3 ho hb
  simp only [RSays, h] at this
  exact this
theorem rd_no {f : Nat} (IH : ReadTo f) {s : List UInt8} {l : List Nd} (h : rNode f s l = none) (h1 : s.length < f) (h2 : l.length + s.length ≤ 1000) (h3 : s.length ≤ 400) : RdNo s l := fun W b u ho hb => by
  have := IH s l u b W h1 h2 h3 ho hb
  simp only [RSays, h] at this
  exact this
theorem read_to : ∀ f, ReadTo f := by
  intro f
  induction f with
  | zero => intro s l u b w hs; omega
  | succ f IH =>
    intro s l u b w hs hl h4 ho hb
    cases s with
    | nil => exact rd_nil b u w
    | cons c r =>
      obtain ⟨ua, uc, rfl, huc⟩ := own_form ho
      simp only [List.length_cons] at hs hl h4
      have hl0 : l.length ≤ 1000 := by omega
      by_cases h42 : c = 42
      · subst h42
        exact rd_all r l ua uc b w ho hl0 hb
      by_cases h35 : c = 35
      · subst h35
        show Calls Tryd.prog _ _ w fun e w' => RSays b _ (match rNum r with | none => none | some (a, s1) => some (s1, l ++ [(2, (a : Int), 0)])) w e w'
        cases h : rNum r with
        | none => exact rd_tagno r l ua uc b w ho hl0 hb (num_no h (by omega))
        | some p => exact rd_tag r l ua uc b w ho hl0 hb p.1 p.2 (num_ok h (by omega))
      by_cases h91 : c = 91
      · subst h91
        show Calls Tryd.prog _ _ w fun e w' => RSays b _ (rIn r l) w e w'
        unfold rIn
        cases h1 : rNum r with
        | none => exact rd_in1 r l ua uc b w ho hl0 hb (num_no h1 (by omega))
        | some p =>
          obtain ⟨a, s1⟩ := p
          have n1 := rNum_len h1
          simp only
          cases h2 : pExp 44 s1 with
          | none => exact rd_in2 r l ua uc b w ho hl0 hb a s1 (num_ok h1 (by omega)) (pre_no h2)
          | some s2 =>
            obtain rfl := pExp_of h2
            simp only [List.length_cons] at n1
            simp only
            cases h3 : rNum s2 with
            | none => exact rd_in3 r l ua uc b w ho hl0 hb a s2 (num_ok h1 (by omega)) pre_ok (num_no h3 (by omega))
            | some p =>
              obtain ⟨b2, s3⟩ := p
              have n3 := rNum_len h3
              simp only
              cases h5 : pExp 41 s3 with
              | none => exact rd_in4 r l ua uc b w ho hl0 hb a b2 s2 s3 (num_ok h1 (by omega)) pre_ok (num_ok h3 (by omega)) (pre_no h5)
              | some s4 =>
                obtain rfl := pExp_of h5
                exact rd_in5 r l ua uc b w ho hl0 hb a b2 s2 s4 (num_ok h1 (by omega)) pre_ok (num_ok h3 (by omega)) pre_ok
      by_cases h33 : c = 33
      · subst h33
        show Calls Tryd.prog _ _ w fun e w' => RSays b _ (match rNode f r l with | none => none | some (s1, l1) => some (s1, l1 ++ [(4, ((l1.length - 1 : Nat) : Int), 0)])) w e w'
        cases h : rNode f r l with
        | none => exact rd_not1 r l ua uc b w ho hl0 hb (rd_no IH h (by omega) (by omega) (by omega))
        | some p =>
          have n1 := rNode_len f (r := p.1) (m := p.2) h
          exact rd_not2 r l ua uc b w ho hl0 hb p.1 p.2 (rd_ok IH h (by omega) (by omega) (by omega)) (by omega) (by omega)
      by_cases h40 : c = 40
      · subst h40
        rw [rNode_pair]
        unfold pPair
        cases h : rNode f r l with
        | none => exact rd_p1 r l ua uc b w ho hl0 hb (rd_no IH h (by omega) (by omega) (by omega))
        | some p =>
          obtain ⟨s1, m⟩ := p
          have n1 := rNode_len f h
          have H := rd_ok IH h (by omega) (by omega) (by omega)
          simp only
          cases s1 with
          | nil => exact rd_p2a r l ua uc b w ho hl0 hb m H (by omega) (by omega)
          | cons cc s2 =>
            simp only [List.length_cons] at n1
            by_cases q38 : cc = 38
            · subst q38
              simp only [show pOp (38 :: s2) = some (5, s2) from rfl]
              cases h2 : rNode f s2 m with
              | none => exact rd_p3_5 r l ua uc b w ho hl0 hb s2 m H (by omega) (by omega) (rd_no IH h2 (by omega) (by omega) (by omega))
              | some p =>
                obtain ⟨s3, m2⟩ := p
                have n2 := rNode_len f h2
                have H2 := rd_ok IH h2 (by omega) (by omega) (by omega)
                simp only
                cases h3 : pExp 41 s3 with
                | none => exact rd_p4_5 r l ua uc b w ho hl0 hb s2 m H (by omega) (by omega) s3 m2 H2 (by omega) (by omega) (pre_no h3)
                | some s4 =>
                  obtain rfl := pExp_of h3
                  exact rd_p5_5 r l ua uc b w ho hl0 hb s2 m H (by omega) (by omega) s4 m2 H2 (by omega) (by omega) pre_ok
            · by_cases q124 : cc = 124
              · subst q124
                simp only [show pOp (124 :: s2) = some (6, s2) from rfl]
                cases h2 : rNode f s2 m with
                | none => exact rd_p3_6 r l ua uc b w ho hl0 hb s2 m H (by omega) (by omega) (rd_no IH h2 (by omega) (by omega) (by omega))
                | some p =>
                  obtain ⟨s3, m2⟩ := p
                  have n2 := rNode_len f h2
                  have H2 := rd_ok IH h2 (by omega) (by omega) (by omega)
                  simp only
                  cases h3 : pExp 41 s3 with
                  | none => exact rd_p4_6 r l ua uc b w ho hl0 hb s2 m H (by omega) (by omega) s3 m2 H2 (by omega) (by omega) (pre_no h3)
                  | some s4 =>
                    obtain rfl := pExp_of h3
                    exact rd_p5_6 r l ua uc b w ho hl0 hb s2 m H (by omega) (by omega) s4 m2 H2 (by omega) (by omega) pre_ok
              · have e : pOp (cc :: s2) = none := by simp only [pOp, if_neg q38, if_neg q124]
                simp only [e]
                exact rd_p2b r l ua uc b w ho hl0 hb cc s2 m H (by omega) (by omega) q38 q124
      · have e : rNode (f + 1) (c :: r) l = none := by simp only [rNode, if_neg h42, if_neg h35, if_neg h91, if_neg h33, if_neg h40]
        rw [e]
        exact rd_else c r l ua uc b w ho hl0 hb h42 h35 h91 h33 h40
end Go.Proofs.YtbodadddcbbjeaaDoor
