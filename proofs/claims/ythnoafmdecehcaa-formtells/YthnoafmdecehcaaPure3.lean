/- The plain mathematics of two valid cubes' intersection. -/
import Derived.Test.YthnoafmdecehcaaPure
namespace Rm
open Go Go.RowKit

theorem land_comm' (a b : Nat) : Nat.land a b = Nat.land b a := Nat.and_comm a b
theorem lor_comm' (a b : Nat) : Nat.lor a b = Nat.lor b a := Nat.or_comm a b
theorem lor_lt16 : ∀ a < 16, ∀ b < 16, Nat.lor a b < 16 := by decide +kernel
theorem sub_lor16 : ∀ a < 16, ∀ b < 16, ∀ c < 16, sub (Nat.lor a b) c = (sub a c && sub b c) := by decide +kernel
theorem off_lor16 : ∀ a < 16, ∀ b < 16, ∀ c < 16, (Nat.land (Nat.lor a b) c == 0) = ((Nat.land a c == 0) && (Nat.land b c == 0)) := by decide +kernel
theorem off_lor16' : ∀ a < 16, ∀ b < 16, ∀ c < 16, (Nat.land a (Nat.lor b c) == 0) = ((Nat.land a b == 0) && (Nat.land a c == 0)) := by decide +kernel

theorem nat_bne (a : Nat) : (((a : Nat) : Int) != 0) = (a != 0) := by rw [Bool.eq_iff_iff]; simp
theorem nat_beq (a : Nat) : (((a : Nat) : Int) == 0) = (a == 0) := by rw [Bool.eq_iff_iff]; simp
theorem and_bne {a b : Nat} (ha : a < 16) (hb : b < 16) : (bits .and .i64 (a : Int) (b : Int) != 0) = (Nat.land a b != 0) := by rw [and16 a ha b hb, nat_bne]
theorem apart_eq {y n y' n' : Nat} (h : Vld y n) (h' : Vld y' n') : apartB y n y' n' = (Nat.land y n' != 0 || Nat.land n y' != 0) := by
  unfold apartB
  rw [and_bne h.1 h'.2.1, and_bne h.2.1 h'.1]
theorem apart_comm {y n y' n' : Nat} (h : Vld y n) (h' : Vld y' n') : apartB y' n' y n = apartB y n y' n' := by
  rw [apart_eq h h', apart_eq h' h, land_comm' y' n, land_comm' n' y, Bool.or_comm]

/-- nothing in common -/
theorem meet_none {y n y' n' : Nat} (h : Vld y n) (h' : Vld y' n') (ha : apartB y n y' n' = true) :
    meetE y n y' n' = 4 ∧ meetY y n y' n' = 0 ∧ meetN y n y' n' = 0 := by
  have e : meetE y n y' n' = 4 := by simp [meetE, h.chk2 h', ha]
  exact ⟨e, by simp [meetY, e], by simp [meetN, e]⟩
theorem none_within {y n y' n' z m : Nat} (h : Vld y n) (h' : Vld y' n') (hz : Vld z m) (ha : apartB y n y' n' = true) : (withinB z m y n && withinB z m y' n') = false := by
  rw [within_eq hz h, within_eq hz h']
  rw [Bool.eq_false_iff]
  intro hc
  simp only [Bool.and_eq_true] at hc
  obtain ⟨⟨a, b⟩, c, d⟩ := hc
  rw [apart_eq h h'] at ha
  simp only [Bool.or_eq_true, bne_iff_ne] at ha
  have h1 := sub_off16 _ h.1 _ hz.1 _ hz.2.1 a hz.2.2
  have h2 := sub_off16 _ h'.2.1 _ hz.2.1 _ h.1 d (by rw [land_comm']; exact h1)
  have h3 := sub_off16 _ h'.1 _ hz.1 _ hz.2.1 c hz.2.2
  have h4 := sub_off16 _ h.2.1 _ hz.2.1 _ h'.1 b (by rw [land_comm']; exact h3)
  rcases ha with e | e
  · exact e (by rw [land_comm']; exact h2)
  · exact e h4

/-- something in common -/
theorem meet_some {y n y' n' : Nat} (h : Vld y n) (h' : Vld y' n') (ha : apartB y n y' n' = false) :
    ∃ a b : Nat, Vld a b ∧ meetE y n y' n' = 0 ∧ meetY y n y' n' = (a : Int) ∧ meetN y n y' n' = (b : Int) ∧ meetE y' n' y n = 0 ∧ meetY y' n' y n = (a : Int) ∧ meetN y' n' y n = (b : Int) ∧
      (∀ z m, Vld z m → withinB z m a b = (withinB z m y n && withinB z m y' n')) ∧ (∀ t : Nat, t < 16 → hasR a b t = (hasR y n t && hasR y' n' t)) ∧
      a = Nat.lor y y' ∧ b = Nat.lor n n' := by
  have hab := ha
  rw [apart_eq h h'] at hab
  have hv : Vld (Nat.lor y y') (Nat.lor n n') := by
    refine ⟨lor_lt16 _ h.1 _ h'.1, lor_lt16 _ h.2.1 _ h'.2.1, ?_⟩
    have e := off_lor16 _ h.1 _ h'.1 _ (lor_lt16 _ h.2.1 _ h'.2.1)
    rw [off_lor16' _ h.1 _ h.2.1 _ h'.2.1, off_lor16' _ h'.1 _ h.2.1 _ h'.2.1, h.2.2, h'.2.2] at e
    simp only [Bool.or_eq_false_iff, bne_eq_false_iff_eq] at hab
    rw [hab.1, land_comm' y' n, hab.2] at e
    simpa using e
  have e1 : meetE y n y' n' = 0 := by simp [meetE, h.chk2 h', ha]
  have e2 : meetE y' n' y n = 0 := by simp [meetE, h'.chk2 h, apart_comm h h', ha]
  refine ⟨Nat.lor y y', Nat.lor n n', hv, e1, ?_, ?_, e2, ?_, ?_, ?_, ?_, rfl, rfl⟩
  · unfold meetY; rw [e1, or16 _ h.1 _ h'.1]; rfl
  · unfold meetN; rw [e1, or16 _ h.2.1 _ h'.2.1]; rfl
  · unfold meetY; rw [e2, or16 _ h'.1 _ h.1, lor_comm']; rfl
  · unfold meetN; rw [e2, or16 _ h'.2.1 _ h.2.1, lor_comm']; rfl
  · intro z m hz
    rw [within_eq hz hv, within_eq hz h, within_eq hz h', sub_lor16 _ h.1 _ h'.1 _ hz.1, sub_lor16 _ h.2.1 _ h'.2.1 _ hz.2.1]
    generalize sub y z = a1; generalize sub y' z = a2; generalize sub n m = a3; generalize sub n' m = a4
    cases a1 <;> cases a2 <;> cases a3 <;> cases a4 <;> rfl
  · intro t ht
    rw [has_eq hv ht, has_eq h ht, has_eq h' ht, sub_lor16 _ h.1 _ h'.1 _ ht, off_lor16 _ h.2.1 _ h'.2.1 _ ht]
    generalize sub y t = a1; generalize sub y' t = a2; generalize (Nat.land n t == 0) = a3; generalize (Nat.land n' t == 0) = a4
    cases a1 <;> cases a2 <;> cases a3 <;> cases a4 <;> rfl

end Rm
