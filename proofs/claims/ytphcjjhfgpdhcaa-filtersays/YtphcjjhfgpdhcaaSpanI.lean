/- Package span by masks: what each function does to sets that are told by 32 bits. -/
import Derived.Test.YtphcjjhfgpdhcaaSpanH
namespace Go.Proofs.Ytphcjjhfgpdhcaa
open Go.RowKit Rm
set_option linter.unusedVariables false

/-- a slice that is the set of a mask -/
def MS (w : World) (v : Value) (a : Nat) : Prop := Rd2 w v (pairs (canon a)) ∧ a < 2 ^ 32
theorem MS.gr {w w' : World} {v : Value} {a : Nat} (h : MS w v a) (g : Gr w w') : MS w' v a := ⟨h.1.gr g, h.2⟩
theorem MS.alloc {w : World} {v : Value} {a : Nat} (h : MS w v a) (o : Obj) : MS (w.alloc o) v a := ⟨h.1.alloc o, h.2⟩
theorem ListAt.ms {w w1 : World} {a : Nat} {v : Value} (h : ListAt w w1 (canon a) v) (ha : a < 2 ^ 32) : MS w1 v a := ⟨h.rd, ha⟩

theorem mspans (a : Nat) (w : World) (ha : a < 2 ^ 32) : Calls Try.prog 41 #[.int .u32 a] w fun e w' => ∃ v, e = .returned v ∧ MS w' v a ∧ Gr w w' :=
  (spans_any a w ha).mono fun e w' ⟨v, he, h⟩ => ⟨v, he, h.ms ha, h.1⟩
theorem mjoin {a b : Nat} {v v' : Value} {w : World} (h : MS w v a) (h' : MS w v' b) : Calls Try.prog 53 #[v, v'] w fun e w' => ∃ u, e = .returned (.tuple #[u, .int .i64 0]) ∧ MS w' u (a ||| b) ∧ Gr w w' :=
  (sjoin_ok v v' _ _ w h.1 h'.1 (canon_VF a) (canon_VF b)).mono fun e w' ⟨u, he, hu⟩ => ⟨u, he, by
    rw [maskL_canon h.2, maskL_canon h'.2] at hu
    exact hu.ms (Nat.or_lt_two_pow h.2 h'.2), hu.1⟩
theorem mmeet {a b : Nat} {v v' : Value} {w : World} (h : MS w v a) (h' : MS w v' b) : Calls Try.prog 44 #[v, v'] w fun e w' => ∃ u, e = .returned (.tuple #[u, .int .i64 0]) ∧ MS w' u (a &&& b) ∧ Gr w w' :=
  (smeet_ok v v' _ _ w h.1 h'.1 (canon_VF a) (canon_VF b)).mono fun e w' ⟨u, he, hu⟩ => ⟨u, he, by
    rw [maskL_canon h.2, maskL_canon h'.2] at hu
    exact hu.ms (Nat.lt_of_le_of_lt Nat.and_le_left h.2), hu.1⟩
theorem mless {a b : Nat} {v v' : Value} {w : World} (h : MS w v a) (h' : MS w v' b) : Calls Try.prog 54 #[v, v'] w fun e w' => ∃ u, e = .returned (.tuple #[u, .int .i64 0]) ∧ MS w' u (lessM a b) ∧ Gr w w' :=
  (sless_ok v v' _ _ w h.1 h'.1 (canon_VF a) (canon_VF b)).mono fun e w' ⟨u, he, hu⟩ => ⟨u, he, by
    rw [maskL_canon h.2, maskL_canon h'.2] at hu
    exact hu.ms (lessM_lt _ _ h.2), hu.1⟩
theorem mwithin {a b : Nat} {v v' : Value} {w : World} (h : MS w v a) (h' : MS w v' b) : Calls Try.prog 55 #[v, v'] w fun e w' => e = .returned (.tuple #[.bool (subM a b), .int .i64 0]) ∧ Gr w w' := by
  have := swithin_ok v v' _ _ w h.1 h'.1 (canon_VF a) (canon_VF b)
  rw [maskL_canon h.2, maskL_canon h'.2] at this
  exact this
theorem mhas {a : Nat} {v : Value} {w : World} (h : MS w v a) (n : Int) : Calls Try.prog 47 #[v, .int .i64 n] w fun e w' => e = .returned (.tuple #[.bool (bitB a n), .int .i64 0]) ∧ Gr w w' := by
  have := shas_ok v _ n w h.1 (canon_VF a)
  rw [maskL_canon h.2] at this
  exact this
theorem mcount {a : Nat} {v : Value} {w : World} (h : MS w v a) : Calls Try.prog 43 #[v] w fun e w' => e = .returned (.tuple #[.int .i64 (popc a : Nat), .int .i64 0]) ∧ Gr w w' := by
  have := scount_ok v _ w h.1 (canon_VF a)
  rw [maskL_canon h.2] at this
  exact this
/-- are two masks one? -/
def eqM (a b : Nat) : Bool := decide (a = b)
theorem eqM_true {a b : Nat} (h : a = b) : eqM a b = true := by simp [eqM, h]
theorem canon_len (a : Nat) : (pairs (canon a)).length < 1000000 := by rw [pairs_len]; have := (canon_VF a).len16; omega
theorem mequal {a b : Nat} {v v' : Value} {w : World} (h : MS w v a) (h' : MS w v' b) : Calls Try.prog 50 #[v, v'] w fun e w' => e = .returned (.bool (eqM a b)) ∧ Gr w w' := by
  have hq : decide (pairs (canon a) = pairs (canon b)) = eqM a b := by
    unfold eqM
    rw [Bool.eq_iff_iff]
    simp only [decide_eq_true_eq]
    refine ⟨fun e => ?_, fun e => by rw [e]⟩
    have e' := pairs_inj e
    rw [← maskL_canon h.2, ← maskL_canon h'.2, e']
  have := sequal_any v v' _ _ w h.1 h'.1 (canon_len a)
  rw [hq] at this
  exact this

/-- a set that is written out: one interval, two of them -/
theorem lit1 (w : World) (f t : Nat) (T : TypeId) (a : Nat) (hc : canon a = [(f, t)]) (ha : a < 2 ^ 32) : MS (w.alloc (.cells #[.int .i64 f, .int .i64 t] T)) (.slice (some ⟨w.heap.size, 0, none⟩) 1 1) a := by
  refine ⟨?_, ha⟩
  rw [hc]
  refine ⟨_, 1, rfl, by simp [pairs], fun _ => ⟨w.heap.size, 0, rfl, by simp, ?_⟩⟩
  intro i p hp
  cases i with
  | zero => simp [pairs] at hp; subst hp; simp [go_sem]
  | succ i => simp [pairs] at hp
theorem lit1b (w : World) (o : Obj) (f t : Nat) (T : TypeId) (a : Nat) (hc : canon a = [(f, t)]) (ha : a < 2 ^ 32) : MS ((w.alloc o).alloc (.cells #[.int .i64 f, .int .i64 t] T)) (.slice (some ⟨w.heap.size + 1, 0, none⟩) 1 1) a := by
  have h := lit1 (w.alloc o) f t T a hc ha
  rw [World.size_alloc] at h
  exact h
theorem lit2 (w : World) (f t f' t' : Nat) (T : TypeId) (a : Nat) (hc : canon a = [(f, t), (f', t')]) (ha : a < 2 ^ 32) : MS (w.alloc (.cells #[.int .i64 f, .int .i64 t, .int .i64 f', .int .i64 t'] T)) (.slice (some ⟨w.heap.size, 0, none⟩) 2 2) a := by
  refine ⟨?_, ha⟩
  rw [hc]
  refine ⟨_, 2, rfl, by simp [pairs], fun _ => ⟨w.heap.size, 0, rfl, by simp, ?_⟩⟩
  intro i p hp
  match i with
  | 0 => simp [pairs] at hp; subst hp; simp [go_sem]
  | 1 => simp [pairs] at hp; subst hp; simp [go_sem]
  | i + 2 => simp [pairs] at hp

/-- a row of zeros -/
theorem zeros_at (w : World) (n : Nat) (T : TypeId) (k : Nat) (h : k < n) : (w.alloc (.cells (Array.replicate n (.int .i64 0)) T)).cell? ⟨w.heap.size, k, none⟩ = some (.int .i64 0) := by
  rw [cell_of_row _ _ _ _ _ _ (heap_alloc_new w _)]
  simp [h]
theorem of_u32 {a : Int} (h : (Lit.int .u32 a).wf = true) : ∃ m : Nat, a = m ∧ m < 2 ^ 32 := by
  have hb : 0 ≤ a ∧ a < 4294967296 := by
    simp [Lit.wf, IntKind.min, IntKind.max, IntKind.signed, IntKind.bits] at h
    omega
  exact ⟨a.toNat, by omega, by omega⟩
end Go.Proofs.Ytphcjjhfgpdhcaa
