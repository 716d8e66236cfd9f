/- Answers of the sets of dots in one form. -/
import Derived.Test.YtghjfakellaecaaKmB
import Derived.Test.YtghjfakellaecaaKnN
import Derived.Test.YtghjfakellaecaaKnT
import Derived.Test.YtghjfakellaecaaKnY
set_option linter.unusedVariables false
set_option linter.unusedSimpArgs false
namespace Rm
/-- what build answers: the error, the vector, the dots behind it -/
def frE (D : DS) : Int := if (formM D).length ≤ 60 then 0 else 2
def frV (D : DS) : List Nat := if (formM D).length ≤ 60 then formV D else []
def frM (D : DS) : List (Nat × Nat) := if (formM D).length ≤ 60 then formM D else []
theorem frV_small (D : DS) : (ints (frV D)).length ≤ 100000 := by
  rw [ints_len]; unfold frV; split
  · have := (form_ok D).len; omega
  · simp
theorem frM_small (D : DS) : (pairs (frM D)).length ≤ 100000 := by
  rw [pairs_len]; unfold frM; split
  · omega
  · simp
theorem fr_ok (D : DS) : OkV (frV D) (frM D) ∧ (frM D).length ≤ 60 := by
  unfold frV frM
  by_cases h : (formM D).length ≤ 60
  · rw [if_pos h, if_pos h]; exact ⟨form_ok D, h⟩
  · rw [if_neg h, if_neg h]; exact ⟨⟨by simp, by simp, by simp, by simp, by simp⟩, by simp⟩
theorem fr_congr {D E : DS} (h : EqD D E) : frE D = frE E ∧ frV D = frV E ∧ frM D = frM E := by
  obtain ⟨h1, h2⟩ := form_congr h
  unfold frE frV frM
  rw [h1, h2]; exact ⟨rfl, rfl, rfl⟩
end Rm
namespace Go.Proofs.Ytghjfakellaecaa
open Go.RowKit Rm Gx
theorem frmK.one {base : Nat} {w : World} {e : Ending} {D : DS} (h : frmK base w e D) : ∃ k, e = .returned (.tuple #[k, .int .i64 (frE D)]) ∧ KnO base w k (frV D) (frM D) := by
  obtain ⟨k, r, rfl, ⟨h1, rfl, h2⟩ | ⟨h1, rfl, h2⟩⟩ := h
  · exact ⟨k, by unfold frE; rw [if_pos h1], by unfold frV frM; rw [if_pos h1, if_pos h1]; exact h2⟩
  · have h1' : ¬ (formM D).length ≤ 60 := by omega
    exact ⟨k, by unfold frE; rw [if_neg h1'], by unfold frV frM; rw [if_neg h1', if_neg h1']; exact h2⟩
theorem KnO.form {base : Nat} {w : World} {k : Value} {v : List Nat} {m : List (Nat × Nat)} (h : KnO base w k v m) : ∃ va vc ma mc, k = .agg #[.slice va (ints v).length vc, .slice ma (pairs m).length mc] := by
  obtain ⟨vv, mv, rfl, h1, h2⟩ := h
  obtain ⟨a, c, rfl, -⟩ := ow_form h1
  obtain ⟨a', c', rfl, -⟩ := ow_form h2
  exact ⟨a, c, a', c', by rw [ints_len, pairs_len]⟩
theorem knR_nil (w : World) : KnR w (.agg #[.slice none 0 0, .slice none 0 0]) [] [] := ⟨_, _, rfl, R1.nil w, Rd2.nil w, ⟨rfl, by simp [flat], .inl ⟨rfl, rfl⟩⟩⟩
theorem sameK_p (k k' : Value) (V V' : List Int) (M M' : List (Int × Int)) (w : World) (hk : KnR w k V M) (hk' : KnR w k' V' M') (hl : V.length ≤ 100000) (hl' : M.length ≤ 100000) :
    Calls Try.prog 28 #[k, k'] w fun e w' => e = .returned (.bool (decide (V = V' ∧ M = M'))) ∧ Gr w w' :=
  (sameK_any k k' V V' M M' w hk hk' hl hl').mono fun e w' h => ⟨by rw [h.1, Bool.decide_and], h.2⟩
theorem sameK_t (k k' : Value) (V : List Int) (M : List (Int × Int)) (w : World) (hk : KnR w k V M) (hk' : KnR w k' V M) (hl : V.length ≤ 100000) (hl' : M.length ≤ 100000) :
    Calls Try.prog 28 #[k, k'] w fun e w' => e = .returned (.bool true) ∧ Gr w w' :=
  (sameK_any k k' V V M M w hk hk' hl hl').mono fun e w' h => ⟨by rw [h.1]; simp, h.2⟩
/-- what a set says of dots that may be, as words -/
theorem all_eqD {X : Nat → Nat} {v : List Nat} {m : List (Nat × Nat)} (h : ∀ s q, s < 5 → q < 1024 → dsX X s q = memB v m s q) : EqD (dsX X) (memB v m) := fun s c hi => h s c hi.1 (by have := hi.2.2; omega)
theorem with_eqD {X : Nat → Nat} {v : List Nat} {m : List (Nat × Nat)} {a b : Nat} (h : ∀ s q, s < 5 → q < 1024 → dsX X s q = memB v m s q) (hb : b < 1024) : EqD (dsX (withX X a b)) (addD (memB v m) a b) := fun s c hi => by
  have hc : c < 1024 := by have := hi.2.2; omega
  rw [dsX_with X a b s c hb hc, h s c hi.1 hc]
  rfl
theorem size_eq {X : Nat → Nat} {v : List Nat} {m : List (Nat × Nat)} (ok : OkV v m) (h : ∀ s q, s < 5 → q < 1024 → dsX X s q = memB v m s q) : cntD (dsX X) = v.sum + m.length := by
  rw [← ok.count]
  exact cnt_congr fun s c hs hc => h s c hs hc
theorem knR_nil' {w : World} : KnR w noK [] [] := knR_nil w
theorem chkA_1 {V : List Int} {M : List (Int × Int)} {x y : Int} (h : chkK V M = 0) (hd : dotB (x, y) = false) : chkA V M (x, y) = 1 := by unfold chkA; rw [if_neg (by simp [h]), hd]; rfl
theorem chkA_k {V : List Int} {M : List (Int × Int)} {d : Int × Int} (h : chkK V M ≠ 0) : chkA V M d = chkK V M := by unfold chkA; rw [if_pos h]
end Go.Proofs.Ytghjfakellaecaa
