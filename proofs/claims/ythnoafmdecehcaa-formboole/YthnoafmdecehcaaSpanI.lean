/- Package span by masks: what each function does to sets that are told by 32 bits. -/
import Derived.Test.YthnoafmdecehcaaSpanH
namespace Go.Proofs.Ythnoafmdecehcaa
open Go.RowKit Rm
set_option linter.unusedVariables false

/-- a slice that is the set of a mask -/
def MS (w : World) (v : Value) (a : Nat) : Prop := Rd2 w v (pairs (canon a)) ∧ a < 2 ^ 32
theorem MS.gr {w w' : World} {v : Value} {a : Nat} (h : MS w v a) (g : Gr w w') : MS w' v a := ⟨h.1.gr g, h.2⟩
theorem MS.alloc {w : World} {v : Value} {a : Nat} (h : MS w v a) (o : Obj) : MS (w.alloc o) v a := ⟨h.1.alloc o, h.2⟩
theorem ListAt.ms {w w1 : World} {a : Nat} {v : Value} (h : ListAt w w1 (canon a) v) (ha : a < 2 ^ 32) : MS w1 v a := ⟨h.rd, ha⟩

/-- are two masks one? -/
def eqM (a b : Nat) : Bool := decide (a = b)
theorem eqM_true {a b : Nat} (h : a = b) : eqM a b = true := by simp [eqM, h]
theorem canon_len (a : Nat) : (pairs (canon a)).length < 1000000 := by rw [pairs_len]; have := (canon_VF a).len16; omega
theorem mequal {a b : Nat} {v v' : Value} {w : World} (h : MS w v a) (h' : MS w v' b) : Calls Try.prog 45 #[v, v'] w fun e w' => e = .returned (.bool (eqM a b)) ∧ Gr w w' := by
  have hq : decide (pairs (canon a) = pairs (canon b)) = eqM a b := by
    unfold eqM
    rw [Bool.eq_iff_iff]
    simp only [decide_eq_true_eq]
    refine ⟨fun e => ?_, fun e => by rw [e]⟩
    have e' := pairs_inj e
    rw [← maskL_canon h.2, ← maskL_canon h'.2, e']
  have := sequal_any v v' _ _ w h.1 h'.1 (canon_len a)
  rw [hq] at this
  exact this

/-- a set that is written out: one interval, two of them -/
theorem lit1 (w : World) (f t : Nat) (T : TypeId) (a : Nat) (hc : canon a = [(f, t)]) (ha : a < 2 ^ 32) : MS (w.alloc (.cells #[.int .i64 f, .int .i64 t] T)) (.slice (some ⟨w.heap.size, 0, none⟩) 1 1) a := by
  refine ⟨?_, ha⟩
  rw [hc]
  refine ⟨_, 1, rfl, by simp [pairs], fun _ => ⟨w.heap.size, 0, rfl, by simp, ?_⟩⟩
  intro i p hp
  cases i with
  | zero => simp [pairs] at hp; subst hp; simp [go_sem]
  | succ i => simp [pairs] at hp
theorem lit1b (w : World) (o : Obj) (f t : Nat) (T : TypeId) (a : Nat) (hc : canon a = [(f, t)]) (ha : a < 2 ^ 32) : MS ((w.alloc o).alloc (.cells #[.int .i64 f, .int .i64 t] T)) (.slice (some ⟨w.heap.size + 1, 0, none⟩) 1 1) a := by
  have h := lit1 (w.alloc o) f t T a hc ha
  rw [World.size_alloc] at h
  exact h
theorem lit2 (w : World) (f t f' t' : Nat) (T : TypeId) (a : Nat) (hc : canon a = [(f, t), (f', t')]) (ha : a < 2 ^ 32) : MS (w.alloc (.cells #[.int .i64 f, .int .i64 t, .int .i64 f', .int .i64 t'] T)) (.slice (some ⟨w.heap.size, 0, none⟩) 2 2) a := by
  refine ⟨?_, ha⟩
  rw [hc]
  refine ⟨_, 2, rfl, by simp [pairs], fun _ => ⟨w.heap.size, 0, rfl, by simp, ?_⟩⟩
  intro i p hp
  match i with
  | 0 => simp [pairs] at hp; subst hp; simp [go_sem]
  | 1 => simp [pairs] at hp; subst hp; simp [go_sem]
  | i + 2 => simp [pairs] at hp

/-- a row of zeros -/
theorem zeros_at (w : World) (n : Nat) (T : TypeId) (k : Nat) (h : k < n) : (w.alloc (.cells (Array.replicate n (.int .i64 0)) T)).cell? ⟨w.heap.size, k, none⟩ = some (.int .i64 0) := by
  rw [cell_of_row _ _ _ _ _ _ (heap_alloc_new w _)]
  simp [h]
theorem of_u32 {a : Int} (h : (Lit.int .u32 a).wf = true) : ∃ m : Nat, a = m ∧ m < 2 ^ 32 := by
  have hb : 0 ≤ a ∧ a < 4294967296 := by
    simp [Lit.wf, IntKind.min, IntKind.max, IntKind.signed, IntKind.bits] at h
    omega
  exact ⟨a.toNat, by omega, by omega⟩
end Go.Proofs.Ythnoafmdecehcaa
