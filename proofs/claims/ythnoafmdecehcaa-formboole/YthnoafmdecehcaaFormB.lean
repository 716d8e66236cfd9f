/- The contracts of package formula's valueOf and Is. -/
import Derived.Test.YthnoafmdecehcaaFormA
import Derived.Test.YthnoafmdecehcaaFilN
namespace Rm
open Go Go.RowKit
/-- a slice of bools reads as a list -/
def RdB (w : World) (v : Value) (l : List Bool) : Prop :=
  ∃ a c, v = .slice a l.length c ∧ l.length ≤ c ∧ (l ≠ [] → ∃ b off, a = some ⟨b, off, none⟩ ∧ b < w.heap.size ∧ ∀ i p, l[i]? = some p → w.cell? ⟨b, off + i, none⟩ = some (.bool p))
theorem RdB.gr {w w' : World} {v : Value} {l : List Bool} (h : RdB w v l) (g : Gr w w') : RdB w' v l := by
  obtain ⟨a, c, e, hc, h⟩ := h
  refine ⟨a, c, e, hc, fun hl => ?_⟩
  obtain ⟨b, off, ea, hb, hx⟩ := h hl
  exact ⟨b, off, ea, Nat.lt_of_lt_of_le hb g.le, fun i p hp => (g.cells.1 b _ hb).trans (hx i p hp)⟩
theorem RdB.own {w : World} {base : Nat} {e : TypeId} {v : Value} {l : List Bool} (h : w.ownsRow base e 1 v l.length (l.map .bool)) : RdB w v l := by
  obtain ⟨hl, h⟩ := h
  rcases h with ⟨rfl, h0⟩ | ⟨g, cap, cur, rfl, _, hg, hn, _, hs, ht⟩
  · have : l = [] := List.eq_nil_of_length_eq_zero h0
    subst this
    exact ⟨none, 0, rfl, Nat.le_refl _, fun h => absurd rfl h⟩
  · refine ⟨_, _, rfl, hn, fun hne => ?_⟩
    have hlt : g < w.heap.size := by
      rcases Nat.lt_or_ge g w.heap.size with h | h
      · exact h
      · rw [Array.getElem?_eq_none h] at hg; cases hg
    refine ⟨g, 0, rfl, hlt, fun i p hp => ?_⟩
    have hi : i < l.length := (List.getElem?_eq_some_iff.1 hp).1
    have hf : (l.map Value.bool)[i]? = some (.bool p) := by simp [hp]
    rw [← ht, List.getElem?_take_of_lt (by omega)] at hf
    simpa [World.cell?, hg] using hf
theorem tag_bits : ∀ t < 16, ∀ a < 4, (bits .and .i64 ((t : Nat) : Int) ((2 ^ a : Nat) : Int) != 0) = Nat.testBit t a := by decide +kernel
end Rm
namespace Go.Proofs.Ythnoafmdecehcaa
open Go.RowKit Rm
set_option linter.unusedVariables false

theorem bool_at {l : List Bool} {i : Nat} (h : i < l.length) : l[i]? = some (l.getD i false) := by
  simp [List.getD_eq_getElem?_getD, List.getElem?_eq_getElem h]

set_option maxHeartbeats 1000000 in
set_option maxRecDepth 100000 in
theorem valueOf_ok (n : Nd) (t x : Nat) (v : Value) (bs : List Bool) (w : World) (hn : OkN n bs.length) (ht : t < 16) (hx : x < 32) (hv : RdB w v bs) (hl : bs.length ≤ 30) :
    Calls Try.prog 46 #[.agg #[.int .i64 n.1, .int .i64 n.2.1, .int .i64 n.2.2], .agg #[.int .i64 (t : Int), .int .i64 (x : Int)], v] w fun e w' => e = .returned (.bool (ndB n t x (fun i => bs.getD i false))) ∧ Gr w w' := by
  obtain ⟨va, vc, rfl, hvc, hcell⟩ := hv
  cases hn.of with
  | all a b i =>
    rw [show ndB (1, a, b) t x (fun i => bs.getD i false) = true from rfl]
    go_enter Try.func46, Try.ntmps46
    go_wp2
    go_ret
    exact ⟨rfl, ((Gr.refl _).alloc _).alloc _⟩
  | tag a b i h =>
    rw [show ndB (2, (a : Int), b) t x (fun i => bs.getD i false) = t.testBit a from rfl, ← tag_bits t ht a h]
    clear hcell
    match a, h with
    | 0, _ | 1, _ | 2, _ | 3, _ =>
      go_enter Try.func46, Try.ntmps46
      go_wp2
      go_region
      go_wp2
      go_ret
      exact ⟨rfl, (((Gr.refl _).alloc _).alloc _).drewN _⟩
  | num a b i h hb =>
    rw [show ndB (3, (a : Int), (b : Int)) t x (fun i => bs.getD i false) = (decide ((a : Int) ≤ (x : Int)) && decide ((x : Int) < (b : Int))) from rfl]
    clear hcell
    by_cases h1 : (a : Int) ≤ (x : Int)
    · by_cases h2 : (x : Int) < (b : Int)
      · rw [show (decide ((a : Int) ≤ (x : Int)) && decide ((x : Int) < (b : Int))) = true from by simp [h1, h2]]
        go_enter Try.func46, Try.ntmps46
        go_wp2
        go_ret
        exact ⟨rfl, ((Gr.refl _).alloc _).alloc _⟩
      · rw [show (decide ((a : Int) ≤ (x : Int)) && decide ((x : Int) < (b : Int))) = false from by simp [h1, h2]]
        go_enter Try.func46, Try.ntmps46
        go_wp2
        go_ret
        exact ⟨rfl, ((Gr.refl _).alloc _).alloc _⟩
    · rw [show (decide ((a : Int) ≤ (x : Int)) && decide ((x : Int) < (b : Int))) = false from by simp [h1]]
      go_enter Try.func46, Try.ntmps46
      go_wp2
      go_ret
      exact ⟨rfl, ((Gr.refl _).alloc _).alloc _⟩
  | not a b i h =>
    rw [show ndB (4, (a : Int), b) t x (fun i => bs.getD i false) = !(bs.getD a false) from rfl]
    obtain ⟨vb, off, rfl, hb, hc⟩ := hcell (by intro e; rw [e] at h; simp at h)
    have c1 := hc a _ (bool_at h)
    have h' : (a : Int) < (bs.length : Int) := by omega
    clear hc
    generalize bs.getD a false = ba at *
    go_enter Try.func46, Try.ntmps46
    go_wp2
    go_ret
    exact ⟨rfl, ((Gr.refl _).alloc _).alloc _⟩
  | both a b i h hb =>
    rw [show ndB (5, (a : Int), (b : Int)) t x (fun i => bs.getD i false) = (bs.getD a false && bs.getD b false) from rfl]
    obtain ⟨vb, off, rfl, hb', hc⟩ := hcell (by intro e; rw [e] at h; simp at h)
    have c1 := hc a _ (bool_at h)
    have c2 := hc b _ (bool_at hb)
    have h1' : (a : Int) < (bs.length : Int) := by omega
    have h2' : (b : Int) < (bs.length : Int) := by omega
    clear hc
    generalize bs.getD a false = ba at *
    generalize bs.getD b false = bb at *
    cases ba
    all_goals
      go_enter Try.func46, Try.ntmps46
      go_wp2
      go_ret
      exact ⟨rfl, ((Gr.refl _).alloc _).alloc _⟩
  | any a b i h hb =>
    rw [show ndB (6, (a : Int), (b : Int)) t x (fun i => bs.getD i false) = (bs.getD a false || bs.getD b false) from rfl]
    obtain ⟨vb, off, rfl, hb', hc⟩ := hcell (by intro e; rw [e] at h; simp at h)
    have c1 := hc a _ (bool_at h)
    have c2 := hc b _ (bool_at hb)
    have h1' : (a : Int) < (bs.length : Int) := by omega
    have h2' : (b : Int) < (bs.length : Int) := by omega
    clear hc
    generalize bs.getD a false = ba at *
    generalize bs.getD b false = bb at *
    cases ba
    all_goals
      go_enter Try.func46, Try.ntmps46
      go_wp2
      go_ret
      exact ⟨rfl, ((Gr.refl _).alloc _).alloc _⟩
theorem valueOf_at (k a b : Int) (t x : Nat) (v : Value) (bs : List Bool) (w : World) (hn : OkN (k, a, b) bs.length) (ht : t < 16) (hx : x < 32) (hv : RdB w v bs) (hl : bs.length ≤ 30) :
    Calls Try.prog 46 #[.agg #[.int .i64 k, .int .i64 a, .int .i64 b], .agg #[.int .i64 (t : Int), .int .i64 (x : Int)], v] w fun e w' => e = .returned (.bool (ndB (k, a, b) t x (fun i => bs.getD i false))) ∧ Gr w w' :=
  valueOf_ok (k, a, b) t x v bs w hn ht hx hv hl
end Go.Proofs.Ythnoafmdecehcaa
