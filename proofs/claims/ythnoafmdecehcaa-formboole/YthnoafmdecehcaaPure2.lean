/- The plain mathematics of valid cubes: tag by tag, out of small tables. -/
import Derived.Test.YthnoafmdecehcaaPure
namespace Rm
open Go Go.RowKit

theorem and16 : ∀ a < 16, ∀ b < 16, bits .and .i64 ((a : Nat) : Int) ((b : Nat) : Int) = ((Nat.land a b : Nat) : Int) := by decide +kernel
theorem or16 : ∀ a < 16, ∀ b < 16, bits .or .i64 ((a : Nat) : Int) ((b : Nat) : Int) = ((Nat.lor a b : Nat) : Int) := by decide +kernel
theorem andNot16 : ∀ a < 16, ∀ b < 16, (bits .andNot .i64 ((a : Nat) : Int) ((b : Nat) : Int) == 0) = (Nat.land a b == a) := by decide +kernel
theorem tags_of {a : Nat} (h : a < 16) : tagsB (a : Int) = true := by simp [tagsB]; omega
theorem of_tags {x : Int} (h : tagsB x = true) : ∃ a : Nat, a < 16 ∧ x = a := by
  simp [tagsB] at h
  exact ⟨x.toNat, by omega, by omega⟩

/-- a valid cube -/
def Vld (y n : Nat) : Prop := y < 16 ∧ n < 16 ∧ Nat.land y n = 0
theorem Vld.chk {y n : Nat} (h : Vld y n) : chk y n = 0 := by
  obtain ⟨h1, h2, h3⟩ := h
  simp [Rm.chk, tags_of h1, tags_of h2, and16 y h1 n h2]
  exact h3
theorem Vld.chk2 {y n y' n' : Nat} (h : Vld y n) (h' : Vld y' n') : chk2 y n y' n' = 0 := by
  simp [Rm.chk2, h.chk, h'.chk]
theorem Vld.of {y n : Int} (h : Rm.chk y n = 0) : ∃ a b : Nat, Vld a b ∧ y = a ∧ n = b := by
  unfold Rm.chk at h
  split at h
  · rename_i ht
    simp only [Bool.and_eq_true] at ht
    obtain ⟨a, ha, rfl⟩ := of_tags ht.1
    obtain ⟨b, hb, rfl⟩ := of_tags ht.2
    rw [and16 a ha b hb] at h
    refine ⟨a, b, ⟨ha, hb, ?_⟩, rfl, rfl⟩
    split at h
    · rename_i h0; simpa using h0
    · omega
  · omega

/-- is every tag of a one of b? -/
def sub (a b : Nat) : Bool := Nat.land a b == a
theorem within_eq {y n y' n' : Nat} (h : Vld y n) (h' : Vld y' n') : withinB y n y' n' = (sub y' y && sub n' n) := by
  unfold withinB inB
  rw [h.chk2 h', andNot16 y' h'.1 y h.1, andNot16 n' h'.2.1 n h.2.1]
  rfl
theorem hasE_eq {y n t : Nat} (h : Vld y n) (ht : t < 16) : hasE y n t = 0 := by simp [hasE, h.chk, tags_of ht]
theorem has_eq {y n t : Nat} (h : Vld y n) (ht : t < 16) : hasR y n t = (sub y t && Nat.land n t == 0) := by
  unfold hasR hasB
  rw [hasE_eq h ht, andNot16 y h.1 t ht, and16 n h.2.1 t ht]
  have e : (((Nat.land n t : Nat) : Int) == 0) = (Nat.land n t == 0) := by rw [Bool.eq_iff_iff]; simp
  rw [e]
  rfl

theorem sub_trans16 : ∀ a < 16, ∀ b < 16, ∀ c < 16, sub a b = true → sub b c = true → sub a c = true := by decide +kernel
theorem sub_anti16 : ∀ a < 16, ∀ b < 16, sub a b = true → sub b a = true → a = b := by decide +kernel
theorem sub_refl16 : ∀ a < 16, sub a a = true := by decide +kernel
theorem sub_off16 : ∀ a < 16, ∀ b < 16, ∀ c < 16, sub a b = true → Nat.land b c = 0 → Nat.land a c = 0 := by decide +kernel

/-- CubeOrder's last line -/
theorem order_anti {y n y' n' : Nat} (h : Vld y n) (h' : Vld y' n') :
    (withinB y n y' n' && withinB y' n' y n) = (decide (y = y') && decide (n = n')) := by
  rw [within_eq h h', within_eq h' h, Bool.eq_iff_iff]
  simp only [Bool.and_eq_true, decide_eq_true_eq]
  constructor
  · rintro ⟨⟨a, b⟩, c, d⟩
    exact ⟨(sub_anti16 _ h'.1 _ h.1 a c).symm, (sub_anti16 _ h'.2.1 _ h.2.1 b d).symm⟩
  · rintro ⟨rfl, rfl⟩
    exact ⟨⟨sub_refl16 _ h.1, sub_refl16 _ h.2.1⟩, sub_refl16 _ h.1, sub_refl16 _ h.2.1⟩
theorem order_trans {y n y' n' y'' n'' : Nat} (h : Vld y n) (h' : Vld y' n') (h'' : Vld y'' n'') (p : withinB y n y' n' = true) (q : withinB y' n' y'' n'' = true) :
    withinB y n y'' n'' = true := by
  rw [within_eq h h'] at p
  rw [within_eq h' h''] at q
  rw [within_eq h h'']
  simp only [Bool.and_eq_true] at *
  exact ⟨sub_trans16 _ h''.1 _ h'.1 _ h.1 q.1 p.1, sub_trans16 _ h''.2.1 _ h'.2.1 _ h.2.1 q.2 p.2⟩
theorem order_has {y n y' n' t : Nat} (h : Vld y n) (h' : Vld y' n') (ht : t < 16) (p : withinB y n y' n' = true) (q : hasR y n t = true) : hasR y' n' t = true := by
  rw [within_eq h h'] at p
  rw [has_eq h ht] at q
  rw [has_eq h' ht]
  simp only [Bool.and_eq_true, beq_iff_eq] at *
  exact ⟨sub_trans16 _ h'.1 _ h.1 _ ht p.1 q.1, sub_off16 _ h'.2.1 _ h.2.1 _ ht p.2 q.2⟩

end Rm
