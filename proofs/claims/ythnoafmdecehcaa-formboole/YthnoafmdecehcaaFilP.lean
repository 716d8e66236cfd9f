/- The plain mathematics of filters: boxes as they are read, valid boxes, the table of a filter. -/
import Derived.Test.YthnoafmdecehcaaMaskM
import Derived.Test.YthnoafmdecehcaaPure2
namespace Rm
open Go Go.RowKit

/-- a box, as it is read -/
abbrev BoxI := (Int × Int) × List (Int × Int)
/-- what Check says of a box -/
def chkB (b : BoxI) : Int := if chk b.1.1 b.1.2 == 0 then chkS b.2 else chk b.1.1 b.1.2
def chkFGo : List BoxI → Int
  | [] => 0
  | b :: r => if chkB b == 0 then chkFGo r else chkB b
/-- what Check says of a filter -/
def chkF (l : List BoxI) : Int := if 40 < l.length then 2 else chkFGo l
def chkF2 (l r : List BoxI) : Int := if chkF l == 0 then chkF r else chkF l
/-- a valid box: the tags that must be, the tags that must not be, the numbers as a mask -/
abbrev Bx := (Nat × Nat) × Nat
def OkB (b : Bx) : Prop := Vld b.1.1 b.1.2 ∧ b.2 < 2 ^ 32
def OkF (F : List Bx) : Prop := ∀ b ∈ F, OkB b
def boxI (b : Bx) : BoxI := (((b.1.1 : Nat), (b.1.2 : Nat)), pairs (canon b.2))
theorem chkB_of {b : Bx} (h : OkB b) : chkB (boxI b) = 0 := by
  unfold chkB boxI
  simp only
  rw [h.1.chk, chkS_of (canon_VF b.2)]
  rfl
theorem okB_of {b : BoxI} (h : chkB b = 0) : ∃ B : Bx, b = boxI B ∧ OkB B := by
  obtain ⟨⟨y, n⟩, s⟩ := b
  unfold chkB at h
  simp only at h
  split at h
  · rename_i h0
    obtain ⟨a, c, hv, rfl, rfl⟩ := Vld.of (by simpa using h0)
    obtain ⟨L, rfl, hL⟩ := valid_of h
    exact ⟨((a, c), maskL L), by simp [boxI, canon_maskL hL], hv, maskL_lt hL.le⟩
  · rename_i h0
    rw [h] at h0
    simp at h0
theorem chkFGo_of {F : List Bx} (h : OkF F) : chkFGo (F.map boxI) = 0 := by
  induction F with
  | nil => rfl
  | cons b F ih =>
    show (if chkB (boxI b) == 0 then chkFGo (F.map boxI) else chkB (boxI b)) = 0
    rw [chkB_of (h b (List.mem_cons_self ..)), ih (fun c hc => h c (List.mem_cons_of_mem _ hc))]
    rfl
theorem okFGo_of {l : List BoxI} (h : chkFGo l = 0) : ∃ F, l = F.map boxI ∧ OkF F := by
  induction l with
  | nil => exact ⟨[], rfl, fun b hb => by cases hb⟩
  | cons b l ih =>
    unfold chkFGo at h
    split at h
    · rename_i h0
      obtain ⟨B, rfl, hB⟩ := okB_of (by simpa using h0)
      obtain ⟨F, rfl, hF⟩ := ih h
      refine ⟨B :: F, rfl, fun c hc => ?_⟩
      rcases List.mem_cons.1 hc with rfl | hc
      · exact hB
      · exact hF c hc
    · rename_i h0
      rw [h] at h0
      simp at h0
theorem chkF_of {F : List Bx} (h : OkF F) (hl : F.length ≤ 40) : chkF (F.map boxI) = 0 := by
  unfold chkF
  rw [if_neg (by simp; omega)]
  exact chkFGo_of h
theorem okF_of {l : List BoxI} (h : chkF l = 0) : ∃ F, l = F.map boxI ∧ OkF F ∧ F.length ≤ 40 := by
  unfold chkF at h
  split at h
  · omega
  · rename_i h0
    obtain ⟨F, rfl, hF⟩ := okFGo_of h
    exact ⟨F, rfl, hF, by simpa using h0⟩

/-- is a combination of tags in the cube of a box? -/
def inC (b : Bx) (t : Nat) : Bool := hasR (b.1.1 : Nat) (b.1.2 : Nat) (t : Nat)
/-- the numbers that a filter has for a combination of tags -/
def addB (t m : Nat) (b : Bx) : Nat := if inC b t then m ||| b.2 else m
def tabF (F : List Bx) (t : Nat) : Nat := F.foldl (addB t) 0
theorem tabF_nil (t : Nat) : tabF [] t = 0 := rfl
theorem tabF_snoc (F : List Bx) (b : Bx) (t : Nat) : tabF (F ++ [b]) t = addB t (tabF F t) b := by simp [tabF]
theorem tabF_take {F : List Bx} {k : Nat} {b : Bx} (h : F[k]? = some b) (t : Nat) : tabF (F.take (k + 1)) t = addB t (tabF (F.take k) t) b := by
  obtain ⟨hk, e⟩ := List.getElem?_eq_some_iff.1 h
  rw [List.take_succ_eq_append_getElem hk, e, tabF_snoc]
theorem foldB_bit (F : List Bx) (t m n : Nat) : (F.foldl (addB t) m).testBit n = true ↔ m.testBit n = true ∨ ∃ b ∈ F, inC b t = true ∧ b.2.testBit n = true := by
  induction F generalizing m with
  | nil => simp
  | cons b F ih =>
    rw [List.foldl_cons, ih]
    unfold addB
    split
    · rename_i h
      rw [Nat.testBit_or, Bool.or_eq_true]
      constructor
      · rintro ((h1 | h1) | ⟨c, hc, h2⟩)
        · exact .inl h1
        · exact .inr ⟨b, List.mem_cons_self .., h, h1⟩
        · exact .inr ⟨c, List.mem_cons_of_mem _ hc, h2⟩
      · rintro (h1 | ⟨c, hc, h2⟩)
        · exact .inl (.inl h1)
        · rcases List.mem_cons.1 hc with rfl | hc
          · exact .inl (.inr h2.2)
          · exact .inr ⟨c, hc, h2⟩
    · rename_i h
      constructor
      · rintro (h1 | ⟨c, hc, h2⟩)
        · exact .inl h1
        · exact .inr ⟨c, List.mem_cons_of_mem _ hc, h2⟩
      · rintro (h1 | ⟨c, hc, h2⟩)
        · exact .inl h1
        · rcases List.mem_cons.1 hc with rfl | hc
          · exact absurd h2.1 h
          · exact .inr ⟨c, hc, h2⟩
theorem tabF_bit (F : List Bx) (t n : Nat) : (tabF F t).testBit n = true ↔ ∃ b ∈ F, inC b t = true ∧ b.2.testBit n = true := by
  unfold tabF
  rw [foldB_bit]
  simp
theorem foldB_lt (F : List Bx) (t m : Nat) (hm : m < 2 ^ 32) (h : OkF F) : F.foldl (addB t) m < 2 ^ 32 := by
  induction F generalizing m with
  | nil => exact hm
  | cons b F ih =>
    refine ih _ ?_ (fun c hc => h c (List.mem_cons_of_mem _ hc))
    unfold addB
    split
    · exact Nat.or_lt_two_pow hm (h b (List.mem_cons_self ..)).2
    · exact hm
theorem tabF_lt {F : List Bx} (h : OkF F) (t : Nat) : tabF F t < 2 ^ 32 := foldB_lt F t 0 (by decide) h
/-- two filters that have the same boxes, in whatever order and however often, have the same table -/
theorem tabF_same {F G : List Bx} (h : ∀ b, b ∈ F ↔ b ∈ G) (t : Nat) : tabF F t = tabF G t := by
  apply Nat.eq_of_testBit_eq
  intro n
  rw [Bool.eq_iff_iff, tabF_bit, tabF_bit]
  simp only [h]
theorem OkF.take {F : List Bx} (h : OkF F) (k : Nat) : OkF (F.take k) := fun b hb => h b (List.mem_of_mem_take hb)
end Rm
