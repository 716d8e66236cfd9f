/- The contracts of the statements' own small helpers. -/
import Derived.Test.YtphcjjhfgpdhcaaCubeA
import Derived.Test.YtphcjjhfgpdhcaaPure2
import Derived.RegionTactic
import Derived.LoopTactic
namespace Go.Proofs.Ytphcjjhfgpdhcaa
open Go.RowKit Rm

/-- the remainder that Within answers -/
def remB (k n : Int) : Int := (k % 18446744073709551616) % n
theorem rem_lt (k n : Int) (hn : 0 < n) : 0 ≤ remB k n ∧ remB k n < n := by
  unfold remB
  exact ⟨Int.emod_nonneg _ (by omega), Int.emod_lt_of_pos _ hn⟩
theorem ret_int {k : IntKind} {a b : Int} (h : a = b) : Ending.returned (.int k a) = .returned (.int k b) := by rw [h]
theorem rem_eq (k n : Int) (hn : 0 < n) (hn' : n < 1000000) : wrap64 ((IntKind.u64.wrap k).tmod n) = remB k n := by
  have e : IntKind.u64.wrap k = k % 18446744073709551616 := by simp [IntKind.wrap, IntKind.bits, IntKind.signed]
  rw [e, Int.tmod_eq_emod_of_nonneg (by omega)]
  have h := rem_lt k n hn
  unfold remB at *
  unfold wrap64
  omega

set_option maxHeartbeats 400000 in
set_option maxRecDepth 100000 in
theorem keepWithin_any (k n : Int) (hn : 0 < n) (hn' : n < 1000000) (w : World) :
    Calls Try.prog 38 #[.int .i64 k, .int .i64 n] w fun e w' => e = .returned (.int .i64 (remB k n)) ∧ w = w' := by
  go_enter Try.func38, Try.ntmps38
  go_wp2
  go_ret
  exact ⟨ret_int (rem_eq k n hn hn'), rfl⟩

/-- a cube, half made: the tags below j -/
def Half (j y n : Nat) : Prop := y < 2 ^ j ∧ n < 2 ^ j ∧ Nat.land y n = 0
theorem half_more {j y n : Nat} (h : Half j y n) : Half (j + 1) y n := ⟨by have := h.1; omega, by have := h.2.1; omega, h.2.2⟩
/-- where it lies -/
def At (w wr : World) (y n : Nat) : Prop :=
  Gr w wr ∧ wr.heap.size = w.heap.size + 2 ∧ wr.cell? ⟨w.heap.size, 0, none⟩ = some (.int .i64 0) ∧ wr.cell? ⟨w.heap.size, 1, none⟩ = some (.int .i64 0) ∧
  wr.cell? ⟨w.heap.size + 1, 0, none⟩ = some (.int .i64 y) ∧ wr.cell? ⟨w.heap.size + 1, 1, none⟩ = some (.int .i64 n) ∧
  wr.frozen? ⟨w.heap.size, 0, none⟩ = false ∧ wr.frozen? ⟨w.heap.size, 1, none⟩ = false ∧ wr.frozen? ⟨w.heap.size + 1, 0, none⟩ = false ∧ wr.frozen? ⟨w.heap.size + 1, 1, none⟩ = false

def orTab (j y n : Nat) : Bool := !(decide (y < 2 ^ j) && decide (n < 2 ^ j) && (Nat.land y n == 0)) ||
    ((bits .or .i64 ((y : Nat) : Int) (wrap64 (2 ^ j)) == ((Nat.lor y (2 ^ j) : Nat) : Int)) && decide (Nat.lor y (2 ^ j) < 2 ^ (j + 1)) && (Nat.land (Nat.lor y (2 ^ j)) n == 0) && (Nat.land n (Nat.lor y (2 ^ j)) == 0))
theorem or_all : ∀ j < 4, ∀ y < 16, ∀ n < 16, orTab j y n = true := by decide +kernel
theorem or_tab (j : Nat) (hj : j < 4) (y : Nat) (hy : y < 16) (n : Nat) (hn : n < 16) (h1 : y < 2 ^ j) (h2 : n < 2 ^ j) (h3 : Nat.land y n = 0) :
    (bits .or .i64 ((y : Nat) : Int) (wrap64 (2 ^ j)) = ((Nat.lor y (2 ^ j) : Nat) : Int)) ∧ Nat.lor y (2 ^ j) < 2 ^ (j + 1) ∧ Nat.land (Nat.lor y (2 ^ j)) n = 0 ∧ Nat.land n (Nat.lor y (2 ^ j)) = 0 := by
  have h := or_all j hj y hy n hn
  unfold orTab at h
  rw [decide_eq_true h1, decide_eq_true h2, h3] at h
  simp only [Bool.and_true, beq_self_eq_true, Bool.not_true, Bool.false_or, Bool.and_eq_true, beq_iff_eq, decide_eq_true_eq] at h
  exact ⟨h.1.1.1, h.1.1.2, h.1.2, h.2⟩
theorem pow_le16 : ∀ j < 4, 2 ^ j < 16 := by decide
theorem or_yes {j y n : Nat} (hj : j < 4) (h : Half j y n) : bits .or .i64 (y : Int) (wrap64 (2 ^ j)) = ((Nat.lor y (2 ^ j) : Nat) : Int) ∧ Half (j + 1) (Nat.lor y (2 ^ j)) n := by
  have hp := pow_le16 j hj
  obtain ⟨a, b, c, _⟩ := or_tab j hj y (by have := h.1; omega) n (by have := h.2.1; omega) h.1 h.2.1 h.2.2
  exact ⟨a, b, by have := h.2.1; omega, c⟩
theorem or_no {j y n : Nat} (hj : j < 4) (h : Half j y n) : bits .or .i64 (n : Int) (wrap64 (2 ^ j)) = ((Nat.lor n (2 ^ j) : Nat) : Int) ∧ Half (j + 1) y (Nat.lor n (2 ^ j)) := by
  have hp := pow_le16 j hj
  have hc : Nat.land n y = 0 := (Nat.and_comm n y).trans h.2.2
  obtain ⟨a, b, _, c⟩ := or_tab j hj n (by have := h.2.1; omega) y (by have := h.1; omega) h.2.1 h.1 hc
  exact ⟨a, by have := h.1; omega, b, c⟩
theorem at_yes {w wr : World} {y n y' : Nat} {v : Int} (h : At w wr y n) (e : v = (y' : Int)) : At w (wr.setCell ⟨w.heap.size + 1, 0, none⟩ (.int .i64 v)).drew y' n := by
  subst e
  obtain ⟨hg, hs, c1, c2, c3, c4, f1, f2, f3, f4⟩ := h
  refine ⟨(hg.setCell (by simp) _).drew, by simpa using hs, ?_⟩
  simp [go_sem, c1, c2, c3, c4, f1, f2, f3, f4]
theorem at_no {w wr : World} {y n n' : Nat} {v : Int} (h : At w wr y n) (e : v = (n' : Int)) : At w (wr.setCell ⟨w.heap.size + 1, 1, none⟩ (.int .i64 v)).drew y n' := by
  subst e
  obtain ⟨hg, hs, c1, c2, c3, c4, f1, f2, f3, f4⟩ := h
  refine ⟨(hg.setCell (by simp) _).drew, by simpa using hs, ?_⟩
  simp [go_sem, c1, c2, c3, c4, f1, f2, f3, f4]

set_option maxHeartbeats 400000 in
set_option maxRecDepth 100000 in
theorem one_any (k : Int) (w : World) :
    Calls Try.prog 40 #[.int .i64 k] w fun e w' => ∃ y n : Nat, Vld y n ∧ e = .returned (.agg #[.int .i64 y, .int .i64 n]) ∧ Gr w w' := by
  go_enter Try.func40, Try.ntmps40
  go_wp2
  go_loopw [5] (fun i wr => ∃ j y n : Nat, j ≤ 4 ∧ i = .int .i64 j ∧ Half j y n ∧ At w wr y n) (fun i _ => 4 - (intOf i).toNat)
  case atStart =>
    refine ⟨0, 0, 0, by omega, rfl, ⟨by decide, by decide, by decide⟩, ?_⟩
    refine ⟨((Gr.refl _).alloc _).alloc _, by simp, ?_⟩
    simp [go_sem]
  case round =>
    obtain ⟨j, y, n, hj, rfl, hh, hat⟩ := hrel
    have hat' := hat
    obtain ⟨hg, hs, c1, c2, c3, c4, f1, f2, f3, f4⟩ := hat'
    by_cases hlt : j < 4
    · go_wp2
      · go_region
        go_wp2
        go_roundw
        case rel => exact ⟨j + 1, Nat.lor y (2 ^ j), n, by omega, by go_num, (or_yes hlt hh).2, at_yes hat (or_yes hlt hh).1⟩
        case measure => simp [intOf]; omega
      · go_region
        go_wp2
        go_roundw
        case rel => exact ⟨j + 1, y, Nat.lor n (2 ^ j), by omega, by go_num, (or_no hlt hh).2, at_no hat (or_no hlt hh).1⟩
        case measure => simp [intOf]; omega
      · go_roundw
        case rel => exact ⟨j + 1, y, n, by omega, by go_num, half_more hh, hg, hs, c1, c2, c3, c4, f1, f2, f3, f4⟩
        case measure => simp [intOf]; omega
    · obtain rfl : j = 4 := by omega
      go_wp2
      refine bodyPost_ret (v := .agg #[.int .i64 y, .int .i64 n]) (by simp [results, Try.results40, go_sem, c1, c2]) rfl ⟨y, n, hh, rfl, ?_⟩
      exact (hg.setCell (by simp) _).setCell (by simp) _
end Go.Proofs.Ytphcjjhfgpdhcaa
