/- Sets of small dots: within, has, count. -/
import Derived.Test.YtgmoedjdfjloiaaKmF
set_option linter.unusedVariables false
set_option linter.unusedSimpArgs false
namespace Rm
open Go Go.RowKit Gx
def wS (D E : DS) : Bool := withB (formV D) (formV E) (formM D) (formM E)
theorem wS_iff (D E : DS) : wS D E = true ↔ subD D E := by
  unfold wS
  rw [withB_iff (form_ok D) (form_ok E)]
  constructor
  · intro h s c i hd
    have := h s c i (by rw [form_mem D s c i]; exact hd)
    rwa [form_mem E s c i] at this
  · intro h s c i hd
    rw [form_mem D s c i] at hd
    rw [form_mem E s c i]
    exact h s c i hd
theorem wS_or (D E F : DS) : wS (orD D E) F = (wS D F && wS E F) := by
  rw [Bool.eq_iff_iff, Bool.and_eq_true, wS_iff, wS_iff, wS_iff]
  constructor
  · intro h
    exact ⟨fun s c i hd => h s c i (by simp [orD, hd]), fun s c i hd => h s c i (by simp [orD, hd])⟩
  · rintro ⟨h1, h2⟩ s c i hd
    simp only [orD, Bool.or_eq_true] at hd
    exact hd.elim (h1 s c i) (h2 s c i)
theorem wS_trans {D E F : DS} (h : wS D E = true) (k : wS E F = true) : wS D F = true :=
  (wS_iff D F).2 fun s c i hd => (wS_iff E F).1 k s c i ((wS_iff D E).1 h s c i hd)
theorem wS_same (D E : DS) : (wS D E && wS E D) = true ↔ EqD D E := by
  rw [Bool.and_eq_true, wS_iff, wS_iff]
  constructor
  · rintro ⟨h1, h2⟩ s c i
    rw [Bool.eq_iff_iff]
    exact ⟨h1 s c i, h2 s c i⟩
  · intro h
    exact ⟨fun s c i hd => by rw [← h s c i]; exact hd, fun s c i hd => by rw [h s c i]; exact hd⟩
def hasD (D : DS) (x y : Int) : Bool := dotB (x, y) && D x.toNat y.toNat
def dotE (x y : Int) : Int := if dotB (x, y) then 0 else 1
theorem hasD_sub {D E : DS} {x y : Int} (h : wS D E = true) (k : hasD D x y = true) : hasD E x y = true := by
  obtain ⟨k1, k2⟩ := (Bool.and_eq_true _ _).mp k
  obtain ⟨h1, h2, h3, h4⟩ := (dotB_iff _).1 k1
  simp only at h1 h2 h3 h4
  exact (Bool.and_eq_true _ _).mpr ⟨k1, (wS_iff D E).1 h _ _ ⟨by omega, by omega, by omega⟩ k2⟩
theorem ints_eq {v v' : List Nat} (h : ints v = ints v') : v = v' := by
  unfold ints at h
  exact List.map_inj_right (fun a b h => Int.ofNat.inj h) |>.1 h
end Rm
namespace Go.Proofs.Ytgmoedjdfjloiaa
open Go.RowKit Rm Gx
theorem swithin (k k' : Value) (D E : DS) (w : World) (hk : KnD w k D) (hk' : KnD w k' E) (sD : Sm D) (sE : Sm E) {b : Bool} (hb : wS D E = b) :
    Calls Try.prog 25 #[k, k'] w fun e w' => e = .returned (.tuple #[.bool b, .int .i64 0]) ∧ Gr w w' := by
  subst hb
  exact within_ok k k' _ _ _ _ w hk hk' (form_ok D) (form_ok E) (small_form sD) (small_form sE)
theorem ssameB (k k' : Value) (D E : DS) (w : World) (hk : KnD w k D) (hk' : KnD w k' E) (sD : Sm D) {b : Bool} (hb : (wS D E && wS E D) = b) :
    Calls Try.prog 17 #[k, k'] w fun e w' => e = .returned (.bool b) ∧ Gr w w' := by
  have h := sameK_p k k' _ _ _ _ w hk hk' (by rw [ints_len]; have := (form_ok D).len; omega) (by rw [pairs_len]; have := small_form sD; omega)
  have e : decide (ints (formV D) = ints (formV E) ∧ pairs (formM D) = pairs (formM E)) = b := by
    rw [← hb, Bool.eq_iff_iff, decide_eq_true_eq, wS_same]
    constructor
    · rintro ⟨h1, h2⟩
      have h3 := form_mem D
      rw [ints_eq h1, pairs_inj h2] at h3
      exact h3.symm.trans (form_mem E)
    · intro q
      obtain ⟨h1, h2⟩ := form_congr q
      rw [h1, h2]; exact ⟨rfl, rfl⟩
  rw [e] at h
  exact h
theorem shas (k : Value) (D : DS) (x y : Int) (w : World) (hk : KnD w k D) (sD : Sm D) :
    Calls Try.prog 10 #[k, .agg #[.int .i64 x, .int .i64 y]] w fun e w' => e = .returned (.tuple #[.bool (hasD D x y), .int .i64 (dotE x y)]) ∧ Gr w w' := by
  have hE : chkK (ints (formV D)) (pairs (formM D)) = 0 := (form_ok D).chk (small_form sD)
  cases hd : dotB (x, y)
  · have h := hasf_any k _ _ (x, y) w hk (by rw [chkA_1 hE hd]; decide)
    rw [chkA_1 hE hd] at h
    have e1 : hasD D x y = false := by unfold hasD; rw [hd]; rfl
    have e2 : dotE x y = 1 := by unfold dotE; rw [hd]; rfl
    rw [e1, e2]
    exact h
  · obtain ⟨h1, h2, h3, h4⟩ := (dotB_iff _).1 hd
    simp only at h1 h2 h3 h4
    obtain ⟨s, rfl⟩ : ∃ n : Nat, x = n := ⟨x.toNat, by omega⟩
    obtain ⟨c, rfl⟩ : ∃ n : Nat, y = n := ⟨y.toNat, by omega⟩
    have hi : inR s c := ⟨by omega, by omega, by omega⟩
    have h := hasf_ok k _ _ s c w hk (form_ok D) (small_form sD) hi
    rw [form_mem D s c hi] at h
    have e1 : hasD D (s : Int) (c : Int) = D s c := by unfold hasD; rw [hd]; simp
    have e2 : dotE (s : Int) (c : Int) = 0 := by unfold dotE; rw [hd]; rfl
    rw [e1, e2]
    exact h
end Go.Proofs.Ytgmoedjdfjloiaa
