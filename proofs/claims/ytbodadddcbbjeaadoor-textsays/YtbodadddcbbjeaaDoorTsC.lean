/- The document's own reading of texts: a node, as it reads it. -/
import Derived.Test.YtbodadddcbbjeaaDoorTsB
namespace Rm
open Go Go.RowKit
def rIn (s : List UInt8) (l : List Nd) : Option (List UInt8 × List Nd) :=
  match rNum s with
  | none => none
  | some (a, s1) => match pExp 44 s1 with
    | none => none
    | some s2 => match rNum s2 with
      | none => none
      | some (b, s3) => match pExp 41 s3 with
        | none => none
        | some s4 => some (s4, l ++ [(3, (a : Int), (b : Int))])
def rNode : Nat → List UInt8 → List Nd → Option (List UInt8 × List Nd)
  | 0, _, _ => none
  | _ + 1, [], _ => none
  | f + 1, c :: r, l =>
    if c = 42 then some (r, l ++ [(1, 0, 0)])
    else if c = 35 then match rNum r with
      | none => none
      | some (a, s1) => some (s1, l ++ [(2, (a : Int), 0)])
    else if c = 91 then rIn r l
    else if c = 33 then match rNode f r l with
      | none => none
      | some (s1, l1) => some (s1, l1 ++ [(4, ((l1.length - 1 : Nat) : Int), 0)])
    else if c = 40 then match rNode f r l with
      | none => none
      | some (s1, l1) => match pOp s1 with
        | none => none
        | some (k, s2) => match rNode f s2 l1 with
          | none => none
          | some (s3, l2) => match pExp 41 s3 with
            | none => none
            | some s4 => some (s4, l2 ++ [(k, ((l1.length - 1 : Nat) : Int), ((l2.length - 1 : Nat) : Int))])
    else none
theorem rIn_len {s r : List UInt8} {l m : List Nd} (h : rIn s l = some (r, m)) : r.length + 4 ≤ s.length ∧ m.length = l.length + 1 := by
  unfold rIn at h
  cases h1 : rNum s with
  | none => rw [h1] at h; cases h
  | some p =>
    rw [h1] at h
    obtain ⟨a, s1⟩ := p
    simp only at h
    cases h2 : pExp 44 s1 with
    | none => rw [h2] at h; cases h
    | some s2 =>
      rw [h2] at h
      simp only at h
      cases h3 : rNum s2 with
      | none => rw [h3] at h; cases h
      | some p =>
        rw [h3] at h
        obtain ⟨b, s3⟩ := p
        simp only at h
        cases h4 : pExp 41 s3 with
        | none => rw [h4] at h; cases h
        | some s4 =>
          rw [h4] at h
          cases h
          have := rNum_len h1
          have := pExp_len h2
          have := rNum_len h3
          have := pExp_len h4
          exact ⟨by omega, by simp⟩
theorem rNode_len : ∀ (f : Nat) {s r : List UInt8} {l m : List Nd}, rNode f s l = some (r, m) → m.length + r.length ≤ l.length + s.length ∧ l.length < m.length ∧ r.length < s.length
  | 0, s, r, l, m, h => by simp [rNode] at h
  | f + 1, [], r, l, m, h => by simp [rNode] at h
  | f + 1, c :: s, r, l, m, h => by
    unfold rNode at h
    split at h
    · cases h; simp; omega
    · split at h
      · cases h1 : rNum s with
        | none => rw [h1] at h; cases h
        | some p =>
          rw [h1] at h
          cases h
          have := rNum_len h1
          simp; omega
      · split at h
        · have := rIn_len h
          simp; omega
        · split at h
          · cases h1 : rNode f s l with
            | none => rw [h1] at h; cases h
            | some p =>
              rw [h1] at h
              cases h
              have := rNode_len f h1
              simp; omega
          · split at h
            · cases h1 : rNode f s l with
              | none => rw [h1] at h; cases h
              | some p =>
                rw [h1] at h
                obtain ⟨s1, l1⟩ := p
                simp only at h
                cases h2 : pOp s1 with
                | none => rw [h2] at h; cases h
                | some p =>
                  rw [h2] at h
                  obtain ⟨k, s2⟩ := p
                  simp only at h
                  cases h3 : rNode f s2 l1 with
                  | none => rw [h3] at h; cases h
                  | some p =>
                    rw [h3] at h
                    obtain ⟨s3, l2⟩ := p
                    simp only at h
                    cases h4 : pExp 41 s3 with
                    | none => rw [h4] at h; cases h
                    | some s4 =>
                      rw [h4] at h
                      cases h
                      have := rNode_len f h1
                      have := pOp_len h2
                      have := rNode_len f h3
                      have := pExp_len h4
                      simp; omega
            · cases h
theorem rIn_of {s r : List UInt8} {l m : List Nd} (h : rIn s l = some (r, m)) : ∃ a b, a ≤ 99 ∧ b ≤ 99 ∧ s = dec a ++ 44 :: (dec b ++ 41 :: r) ∧ m = l ++ [(3, (a : Int), (b : Int))] := by
  unfold rIn at h
  cases h1 : rNum s with
  | none => rw [h1] at h; cases h
  | some p =>
    rw [h1] at h
    obtain ⟨a, s1⟩ := p
    simp only at h
    cases h2 : pExp 44 s1 with
    | none => rw [h2] at h; cases h
    | some s2 =>
      rw [h2] at h
      simp only at h
      cases h3 : rNum s2 with
      | none => rw [h3] at h; cases h
      | some p =>
        rw [h3] at h
        obtain ⟨b, s3⟩ := p
        simp only at h
        cases h4 : pExp 41 s3 with
        | none => rw [h4] at h; cases h
        | some s4 =>
          rw [h4] at h
          cases h
          obtain ⟨a9, e1⟩ := rNum_of h1
          obtain ⟨b9, e3⟩ := rNum_of h3
          exact ⟨a, b, a9, b9, by rw [e1, pExp_of h2, e3, pExp_of h4], rfl⟩
theorem rNode_of : ∀ (f : Nat) {s r : List UInt8} {l m : List Nd}, rNode f s l = some (r, m) → ∃ T, Two99 T ∧ s = text T ++ r ∧ m = l ++ nodesAt l.length T
  | 0, s, r, l, m, h => by simp [rNode] at h
  | f + 1, [], r, l, m, h => by simp [rNode] at h
  | f + 1, c :: s, r, l, m, h => by
    unfold rNode at h
    split at h
    · rename_i e; cases h; exact ⟨.all, trivial, by rw [e]; rfl, rfl⟩
    · split at h
      · rename_i e
        cases h1 : rNum s with
        | none => rw [h1] at h; cases h
        | some p =>
          rw [h1] at h
          cases h
          obtain ⟨a9, e1⟩ := rNum_of h1
          exact ⟨.tag _, a9, by rw [e, e1]; rfl, rfl⟩
      · split at h
        · rename_i e
          obtain ⟨a, b, a9, b9, e1, e2⟩ := rIn_of h
          exact ⟨.num a b, ⟨a9, b9⟩, by rw [e, e1]; simp [text], e2⟩
        · split at h
          · rename_i e
            cases h1 : rNode f s l with
            | none => rw [h1] at h; cases h
            | some p =>
              rw [h1] at h
              cases h
              obtain ⟨T, hT, e1, e2⟩ := rNode_of f h1
              refine ⟨.not T, hT, by rw [e, e1]; rfl, ?_⟩
              rw [e2]
              simp [nodesAt, nodesAt_len]
          · split at h
            · rename_i e
              cases h1 : rNode f s l with
              | none => rw [h1] at h; cases h
              | some p =>
                rw [h1] at h
                obtain ⟨s1, l1⟩ := p
                simp only at h
                cases h2 : pOp s1 with
                | none => rw [h2] at h; cases h
                | some p =>
                  rw [h2] at h
                  obtain ⟨k, s2⟩ := p
                  simp only at h
                  cases h3 : rNode f s2 l1 with
                  | none => rw [h3] at h; cases h
                  | some p =>
                    rw [h3] at h
                    obtain ⟨s3, l2⟩ := p
                    simp only at h
                    cases h4 : pExp 41 s3 with
                    | none => rw [h4] at h; cases h
                    | some s4 =>
                      rw [h4] at h
                      cases h
                      obtain ⟨T, hT, e1, e2⟩ := rNode_of f h1
                      obtain ⟨U, hU, e3, e4⟩ := rNode_of f h3
                      have e5 := pExp_of h4
                      have hl1 : l1.length = l.length + cnt T := by rw [e2]; simp [nodesAt_len]
                      rw [hl1] at e4
                      have hl2 : l2.length = l.length + cnt T + cnt U := by rw [e4]; simp [nodesAt_len, hl1]
                      rcases pOp_of h2 with ⟨rfl, e6⟩ | ⟨rfl, e6⟩
                      · refine ⟨.both T U, ⟨hT, hU⟩, by rw [e, e1, e6, e3, e5]; simp [text], ?_⟩
                        rw [hl2, hl1, e4, e2]
                        simp [nodesAt]
                      · refine ⟨.any T U, ⟨hT, hU⟩, by rw [e, e1, e6, e3, e5]; simp [text], ?_⟩
                        rw [hl2, hl1, e4, e2]
                        simp [nodesAt]
            · cases h
theorem rNode_pair (f : Nat) (r : List UInt8) (l : List Nd) : rNode (f + 1) (40 :: r) l = pPair (rNode f) r l := rfl
theorem rNode_text : ∀ (T : Tr) (f : Nat) (r : List UInt8) (l : List Nd), Two99 T → NoDig r → (text T).length < f → rNode f (text T ++ r) l = some (r, l ++ nodesAt l.length T)
  | T, 0, r, l, _, _, hf => by omega
  | .all, f + 1, r, l, _, _, _ => rfl
  | .tag a, f + 1, r, l, h, hr, _ => by
    show (match rNum (dec a ++ r) with | none => none | some (a, s1) => some (s1, l ++ [(2, (a : Int), 0)])) = _
    rw [rNum_dec h hr]
    rfl
  | .num a b, f + 1, r, l, h, hr, _ => by
    have e : text (.num a b) ++ r = 91 :: (dec a ++ 44 :: (dec b ++ 41 :: r)) := by simp [text]
    rw [e]
    show rIn (dec a ++ 44 :: (dec b ++ 41 :: r)) l = _
    unfold rIn
    rw [rNum_dec h.1 (NoDig.cons (by decide) _)]
    simp only [pExp_cons]
    rw [rNum_dec h.2 (NoDig.cons (by decide) _)]
    simp only [pExp_cons]
    rfl
  | .not T, f + 1, r, l, h, hr, hf => by
    show (match rNode f (text T ++ r) l with | none => none | some (s1, l1) => some (s1, l1 ++ [(4, ((l1.length - 1 : Nat) : Int), 0)])) = _
    rw [rNode_text T f r l h hr (by simp [text] at hf; omega)]
    simp [nodesAt, nodesAt_len]
  | .both T U, f + 1, r, l, h, hr, hf => by
    have e : text (.both T U) ++ r = 40 :: (text T ++ 38 :: (text U ++ 41 :: r)) := by simp [text]
    simp [text] at hf
    rw [e, rNode_pair]
    unfold pPair
    rw [rNode_text T f _ l h.1 (NoDig.cons (by decide) _) (by omega)]
    simp only [show ∀ x, pOp (38 :: x) = some (5, x) from fun x => rfl]
    rw [rNode_text U f _ _ h.2 (NoDig.cons (by decide) _) (by omega)]
    simp only [pExp_cons]
    simp [nodesAt, nodesAt_len, Nat.add_assoc]
  | .any T U, f + 1, r, l, h, hr, hf => by
    have e : text (.any T U) ++ r = 40 :: (text T ++ 124 :: (text U ++ 41 :: r)) := by simp [text]
    simp [text] at hf
    rw [e, rNode_pair]
    unfold pPair
    rw [rNode_text T f _ l h.1 (NoDig.cons (by decide) _) (by omega)]
    simp only [show ∀ x, pOp (124 :: x) = some (6, x) from fun x => rfl]
    rw [rNode_text U f _ _ h.2 (NoDig.cons (by decide) _) (by omega)]
    simp only [pExp_cons]
    simp [nodesAt, nodesAt_len, Nat.add_assoc]
def rParse (s : List UInt8) : Option (List Nd) :=
  match rNode (s.length + 1) s [] with
  | some ([], m) => some m
  | _ => none
/-- both read the same texts as the same nodes -/
theorem rParse_eq (s : List UInt8) : rParse s = parseL s := by
  have one : ∀ m, parseL s = some m → rParse s = some m := by
    intro m h
    obtain ⟨T, hT, rfl, rfl⟩ := parseL_of h
    have := rNode_text T ((text T).length + 1) [] [] hT NoDig.nil (by omega)
    unfold rParse
    simp only [List.append_nil] at this
    rw [this]
    simp
  have two : ∀ m, rParse s = some m → parseL s = some m := by
    intro m h
    unfold rParse at h
    split at h
    · rename_i m' e
      cases h
      obtain ⟨T, h1, h2, h3⟩ := rNode_of _ e
      have e1 : s = text T := by simpa using h2
      have e2 : m = nodesAt 0 T := by simpa using h3
      rw [e1, e2]
      exact parseL_text h1
    · cases h
  cases h : parseL s with
  | some m => exact one m h
  | none =>
    cases h2 : rParse s with
    | none => rfl
    | some m => rw [two m h2] at h; cases h
end Rm
