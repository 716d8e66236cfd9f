/- The plain mathematics of filters of one box. -/
import Derived.Test.YtphcjjhfgpdhcaaFilR
import Derived.Test.YtphcjjhfgpdhcaaOnes
namespace Rm
open Go Go.RowKit
theorem tab1 (b : Bx) (t : Nat) : tabF [b] t = if inC b t then b.2 else 0 := by simp [tabF, addB]
/-- how many combinations below the k-th a cube has -/
def inTo (y n : Nat) : Nat → Nat
  | 0 => 0
  | k + 1 => inTo y n k + if inC ((y, n), 0) k then 1 else 0
theorem cntTo1 (y n m : Nat) : ∀ k, cntTo (tabF [((y, n), m)]) k = inTo y n k * popc m
  | 0 => by simp [cntTo, inTo]
  | k + 1 => by
    have e : inC ((y, n), m) k = inC ((y, n), 0) k := rfl
    simp only [cntTo, inTo, cntTo1 y n m k, tab1, e]
    split
    · rw [Nat.add_mul, Nat.one_mul]
    · simp [popc, popTo_zero]
def cntTab : Bool := (List.range 16).all fun y => (List.range 16).all fun n => !(Nat.land y n == 0) || inTo y n 16 == Go.Proofs.Ytphcjjhfgpdhcaa.cnt y n
theorem cntTab_true : cntTab = true := by decide +kernel
theorem cnt1 {y n : Nat} (h : Vld y n) (m : Nat) : cntT (tabF [((y, n), m)]) = Go.Proofs.Ytphcjjhfgpdhcaa.cnt y n * popc m := by
  have H := cntTab_true
  unfold cntTab at H
  rw [List.all_eq_true] at H
  have H1 := H y (List.mem_range.2 h.1)
  rw [List.all_eq_true] at H1
  have H2 := H1 n (List.mem_range.2 h.2.1)
  rw [h.2.2] at H2
  simp at H2
  unfold cntT
  rw [cntTo1, H2]
theorem no_both {y n y' n' t : Nat} (h : Vld y n) (h' : Vld y' n') (ha : apartB y n y' n' = true) (ht : t < 16) : (hasR y n t && hasR y' n' t) = false := by
  rw [apart_eq h h'] at ha
  rw [has_eq h ht, has_eq h' ht]
  cases hs : (sub y t && Nat.land n t == 0 && (sub y' t && Nat.land n' t == 0))
  · rfl
  · simp only [Bool.and_eq_true, beq_iff_eq] at hs
    obtain ⟨⟨a1, a2⟩, b1, b2⟩ := hs
    have z1 : Nat.land y n' = 0 := sub_off16 y h.1 t ht n' h'.2.1 a1 (by rw [land_comm']; exact b2)
    have z2 : Nat.land y' n = 0 := sub_off16 y' h'.1 t ht n h.2.1 b1 (by rw [land_comm']; exact a2)
    rw [land_comm'] at z2
    rw [z1, z2] at ha
    simp at ha
theorem meet1_none {y n y' n' : Nat} (h : Vld y n) (h' : Vld y' n') (ha : apartB y n y' n' = true) (m m' : Nat) : cntT (fun t => tabF [((y, n), m)] t &&& tabF [((y', n'), m')] t) = 0 := by
  refine cntTo_zero 16 fun t ht => ?_
  have hb : (inC ((y, n), m) t && inC ((y', n'), m') t) = false := no_both h h' ha ht
  rw [tab1, tab1]
  cases h1 : inC ((y, n), m) t
  · simp
  · rw [h1] at hb
    have h2 : inC ((y', n'), m') t = false := by simpa using hb
    rw [h2]
    simp
theorem meet1_some {y n y' n' a b : Nat} (h : ∀ t : Nat, t < 16 → hasR a b t = (hasR y n t && hasR y' n' t)) (m m' : Nat) : sameT (fun t => tabF [((y, n), m)] t &&& tabF [((y', n'), m')] t) (tabF [((a, b), m &&& m')]) = true := by
  refine sameT_of fun t ht => ?_
  have hb : inC ((a, b), m &&& m') t = (inC ((y, n), m) t && inC ((y', n'), m') t) := h t ht
  simp only [tab1]
  rw [hb]
  cases inC ((y, n), m) t <;> cases inC ((y', n'), m') t <;> simp
end Rm
namespace Go.Proofs.Ytphcjjhfgpdhcaa
open Go.RowKit Rm
set_option linter.unusedVariables false
/-- a filter of one box, whose numbers lie in a set that is known -/
theorem box1 {w : World} {sv : Value} {m : Nat} (y n : Nat) (B : TypeId) (b : Nat) (hb : w.heap.size = b) (hs : MS w sv m) (hv : Vld y n) :
    FSn 40 (w.alloc (.cells #[.int .i64 y, .int .i64 n, sv] B)) (.slice (some ⟨b, 0, none⟩) 1 1) (tabF [((y, n), m)]) := by
  subst hb
  refine ⟨[((y, n), m)], ⟨_, 1, rfl, by simp, fun _ => ⟨w.heap.size, 0, rfl, by simp, ?_⟩⟩, ?_, by simp, fun _ _ => rfl⟩
  · intro i p hp
    cases i with
    | succ i => simp at hp
    | zero =>
      simp at hp
      subst hp
      refine ⟨sv, ?_, ?_, ?_, hs.1.gr ((Gr.refl _).alloc _)⟩
      · simp [go_sem, boxI]
      · simp [go_sem, boxI]
      · simp [go_sem]
  · intro c hc
    obtain rfl : c = ((y, n), m) := by simpa using hc
    exact ⟨hv, hs.2⟩
theorem Three.alloc {w : World} {b : Nat} {y n : Int} {s : Value} (h : Three w b y n s) (o : Obj) : Three (w.alloc o) b y n s := h.gr ((Gr.refl w).alloc o)
theorem Three.new2 (w : World) (o : Obj) (y n : Int) (s : Value) (t : TypeId) : Three ((w.alloc o).alloc (.cells #[.int .i64 y, .int .i64 n, s] t)) (w.heap.size + 1) y n s := by
  have h := Three.new (w.alloc o) y n s t
  rw [World.size_alloc] at h
  exact h
theorem MS.form {w : World} {v : Value} {a : Nat} (h : MS w v a) : ∃ x c, v = .slice x (pairs (canon a)).length c := rd2_form h.1
theorem cnt_le : ∀ y < 16, ∀ n < 16, cnt y n ≤ 16 := by decide +kernel
end Go.Proofs.Ytphcjjhfgpdhcaa
