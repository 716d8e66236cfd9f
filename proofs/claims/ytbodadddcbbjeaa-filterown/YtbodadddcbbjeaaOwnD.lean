/- A filter is wasted: reedkeep's waste. -/
import Derived.Test.YtbodadddcbbjeaaOwnC
namespace Rm
open Go Go.RowKit
/-- the blocks outside [lo, hi) stand -/
structure Wst (lo hi : Nat) (w w' : World) : Prop where
  os : w'.os = w.os
  tape : w'.tape = w.tape
  output : w'.output = w.output
  size : w.heap.size ≤ w'.heap.size
  block : ∀ k, k < w.heap.size → ¬ (lo ≤ k ∧ k < hi) → w'.heap[k]? = w.heap[k]?
theorem Wst.refl (lo hi : Nat) (w : World) : Wst lo hi w w := ⟨rfl, rfl, rfl, Nat.le_refl _, fun _ _ _ => rfl⟩
theorem Wst.trans {lo hi : Nat} {a b c : World} (h : Wst lo hi a b) (g : Wst lo hi b c) : Wst lo hi a c :=
  ⟨g.os.trans h.os, g.tape.trans h.tape, g.output.trans h.output, Nat.le_trans h.size g.size, fun k hk hn => (g.block k (Nat.lt_of_lt_of_le hk h.size) hn).trans (h.block k hk hn)⟩
theorem Wst.grown {lo hi : Nat} {w w' : World} {row : Option Nat} (g : w.grownBy w' row) (hr : ∀ k, row = some k → lo ≤ k ∧ k < hi) : Wst lo hi w w' :=
  ⟨g.os, g.tape, g.output, g.size, fun k hk hn => g.block k hk (fun e => hn (hr k e.symm))⟩
theorem Wst.gr {lo hi : Nat} {w w' : World} (g : Gr w w') : Wst lo hi w w' := ⟨g.os, g.tape, g.output, g.size, fun k hk _ => Below.block g k hk⟩
/-- what two rows of other elements hold lies apart -/
theorem rows_apart {w : World} {b b' : Nat} {e e' : TypeId} {s s' : Nat} {v u : Value} {n m : Nat} {xs ys : List Value} (h : w.ownsRow b e s v n xs) (h' : w.ownsRow b' e' s' u m ys) (he : e ≠ e') : v.ownBlock = none ∨ v.ownBlock ≠ u.ownBlock := by
  rcases h.2 with ⟨rfl, _⟩ | ⟨g, cap, cur, rfl, _, hg, _⟩
  · exact .inl rfl
  · refine .inr (fun c => ?_)
    rcases h'.2 with ⟨rfl, _⟩ | ⟨g', cap', cur', rfl, _, hg', _⟩
    · simp [Value.ownBlock] at c
    · simp only [Value.ownBlock, Option.some.injEq] at c
      subst c
      rw [hg] at hg'
      simp only [Option.some.injEq, Obj.cells.injEq] at hg'
      exact he hg'.2.1
/-- a row's shape outlives the spoiling of another -/
theorem shape_kept {w w' : World} {b b' : Nat} {e : TypeId} {s : Nat} {v u : Value} {n m : Nat} {xs ys zs : List Value} (h : w.ownsRow b e s v n xs) (hu : w.ownsRow b' e s u m ys) (g : w.grownBy w' u.ownBlock) (hu' : w'.ownsRow b' e s u m zs) : ∃ xs', w'.ownsRow b e s v n xs' := by
  by_cases hne : v.ownBlock = none ∨ v.ownBlock ≠ u.ownBlock
  · exact ⟨xs, h.kept g hne⟩
  · rcases h.2 with ⟨rfl, _⟩ | ⟨q, cap, cur, rfl, hb, hg, hnc, hcm, hcs, _⟩
    · exact absurd (.inl rfl) hne
    · rcases hu.2 with ⟨rfl, _⟩ | ⟨q', cap', cur', rfl, _, hg', _, _, hcs', _⟩
      · exact absurd (.inr (by simp [Value.ownBlock])) hne
      · have hq : q = q' := by
          refine Classical.byContradiction fun c => hne (.inr ?_)
          simpa [Value.ownBlock] using c
        subst hq
        rcases hu'.2 with ⟨c, _⟩ | ⟨q2, cap2, cur2, c, _, hg2, _, _, hcs2, _⟩
        · cases c
        · cases c
          rw [hg] at hg'
          simp only [Option.some.injEq, Obj.cells.injEq] at hg'
          obtain ⟨rfl, -⟩ := hg'
          have hz : cur2.size = cap * s := by rw [hcs2, ← hcs', hcs]
          exact ⟨cur2.toList.take (n * s), by rw [List.length_take, Array.length_toList, hz]; exact Nat.min_eq_left (Nat.mul_le_mul_right _ hnc), .inr ⟨q, cap, cur2, rfl, hb, hg2, hnc, hcm, hz, rfl⟩⟩
end Rm
namespace Go.Proofs.Ytbodadddcbbjeaa
open Go.RowKit Rm
set_option linter.unusedVariables false
/-- a filter that may be wasted: it, and its boxes' rows, lie in blocks of [lo, hi) -/
def Wf (lo hi : Nat) (w : World) (v : Value) (n : Nat) (xs : List Value) : Prop := w.ownsRow lo 72 3 v n xs ∧ (∀ g, v.ownBlock = some g → g < hi) ∧
  ∀ k, k < n → ∃ (y z : Int) (sv : Value) (m : Nat), xs[k * 3]? = some (.int .i64 y) ∧ xs[k * 3 + 1]? = some (.int .i64 z) ∧ xs[k * 3 + 2]? = some sv ∧ (∃ ys, w.ownsRow lo 53 2 sv m ys) ∧ ∀ g, sv.ownBlock = some g → g < hi
theorem Wf.gr {lo hi : Nat} {w w' : World} {v : Value} {n : Nat} {xs : List Value} (h : Wf lo hi w v n xs) (g : Gr w w') : Wf lo hi w' v n xs := by
  refine ⟨own_gr h.1 g, h.2.1, fun k hk => ?_⟩
  obtain ⟨y, z, sv, m, a, b, c, ⟨ys, d⟩, e⟩ := h.2.2 k hk
  exact ⟨y, z, sv, m, a, b, c, ⟨ys, own_gr d g⟩, e⟩
theorem Wf.spoilt {lo hi : Nat} {w w' : World} {v u : Value} {n m : Nat} {xs ys zs : List Value} (h : Wf lo hi w v n xs) (hu : w.ownsRow lo 53 2 u m ys) (g : w.grownBy w' u.ownBlock) (hu' : w'.ownsRow lo 53 2 u m zs) : Wf lo hi w' v n xs := by
  refine ⟨h.1.kept g (rows_apart h.1 hu (by decide)), h.2.1, fun k hk => ?_⟩
  obtain ⟨y, z, sv, m, a, b, c, ⟨ys, d⟩, e⟩ := h.2.2 k hk
  exact ⟨y, z, sv, m, a, b, c, shape_kept d hu g hu', e⟩
theorem Wf.cells {lo hi : Nat} {w : World} {v : Value} {n k : Nat} {xs : List Value} (h : Wf lo hi w v n xs) (hk : k < n) : ∃ g cap y z sv m, v = .slice (some ⟨g, 0, none⟩) n cap ∧ g < w.heap.size ∧ (lo ≤ g ∧ g < hi) ∧
    w.cell? ⟨g, k * 3, none⟩ = some (.int .i64 y) ∧ w.cell? ⟨g, k * 3 + 1, none⟩ = some (.int .i64 z) ∧ w.cell? ⟨g, k * 3 + 2, none⟩ = some sv ∧ (∃ ys, w.ownsRow lo 53 2 sv m ys) ∧ ∀ q, sv.ownBlock = some q → q < hi := by
  obtain ⟨y, z, sv, m, a, b, c, d, e⟩ := h.2.2 k hk
  rcases h.1.2 with ⟨rfl, rfl⟩ | ⟨g, cap, cur, rfl, hb, hg, hnc, hcm, hcs, ht⟩
  · omega
  · have at_ : ∀ j u, xs[j]? = some u → w.cell? ⟨g, j, none⟩ = some u := fun j u hj => by
      rw [cell_of_row _ _ _ _ _ _ hg]
      rw [← ht] at hj
      rw [List.getElem?_take] at hj
      split at hj
      · rw [← Array.getElem?_toList]; exact hj
      · cases hj
    exact ⟨g, cap, y, z, sv, m, rfl, Blk_lt hg, ⟨hb, h.2.1 g rfl⟩, at_ _ _ a, at_ _ _ b, at_ _ _ c, d, e⟩
set_option maxHeartbeats 2000000 in
set_option maxRecDepth 100000 in
theorem waste_ok {lo hi : Nat} {v : Value} {n : Nat} {xs : List Value} {w : World} (h : Wf lo hi w v n xs) (hn : n ≤ 2 ^ 47) :
    Calls Try.prog 26 #[v] w fun e w' => e = .returned (.tuple #[]) ∧ Wst lo hi w w' := by
  have H := Lib.hid h
  have hn' : (n : Int) ≤ 140737488355328 := by omega
  obtain ⟨a, cp, rfl, hbl⟩ : ∃ a cp, v = .slice a n cp ∧ ∀ g, v.ownBlock = some g → lo ≤ g ∧ g < hi := by
    rcases h.1.2 with ⟨rfl, rfl⟩ | ⟨g, cap, cur, rfl, hb, _⟩
    · exact ⟨_, _, rfl, by simp [Value.ownBlock]⟩
    · exact ⟨_, _, rfl, fun q hq => by have := h.2.1 q hq; simp [Value.ownBlock] at hq; omega⟩
  clear h
  go_enter Try.func26, Try.ntmps26
  go_wp2_with fail
  go_loopw [6] (fun i wr => ∃ k : Nat, k ≤ n ∧ i = .int .i64 k ∧ Wst lo hi w wr ∧ Wf lo hi wr (.slice a n cp) n xs) (fun i _ => n - (intOf i).toNat)
  case atStart => exact ⟨0, by omega, rfl, Wst.refl _ _ _, H.out⟩
  case round =>
    obtain ⟨k, hk, rfl, hw, hf⟩ := hrel
    by_cases hlt : k < n
    · have hlt' : (k : Int) < (n : Int) := by omega
      have hk0 : (0 : Int) ≤ (k : Int) := by omega
      have HF := Lib.hid hf
      obtain ⟨g, cap, y, z, sv, m, ev, hgl, hgb, c0, c1, c2, ⟨ys, d⟩, hq⟩ := hf.cells hlt
      cases ev
      have HD := Lib.hid d
      have HQ : Hid (∀ q, sv.ownBlock = some q → lo ≤ q ∧ q < hi) := fun q e => ⟨by
        rcases d.2 with ⟨rfl, _⟩ | ⟨g', _, _, rfl, hb, _⟩
        · cases e
        · cases e; exact hb, hq q e⟩
      obtain ⟨sa, sc, rfl⟩ : ∃ sa sc, sv = .slice sa m sc := by
        rcases d.2 with ⟨rfl, rfl⟩ | ⟨g', _, _, rfl, hb, _⟩
        · exact ⟨_, _, rfl⟩
        · exact ⟨_, _, rfl⟩
      clear hf d hq
      go_wp2_with (go_at_call 50; refine (spoilS 5 0 (own_gr HD.out ((Gr.refl wr).alloc _))).mono ?_; rintro e w1 ⟨rfl, g1, zs, o1⟩)
      go_roundw
      case rel => exact ⟨k + 1, by omega, by go_num, (hw.trans (Wst.gr ((Gr.refl wr).alloc _))).trans (Wst.grown g1 HQ.out), (HF.out.gr ((Gr.refl wr).alloc _)).spoilt (own_gr HD.out ((Gr.refl wr).alloc _)) g1 o1⟩
      case measure => simp [intOf]; omega
    · obtain rfl : k = n := by omega
      have HF := Lib.hid hf.1
      clear hf
      go_wp2_with (go_at_call 51; refine (spoilB 0 5 HF.out).mono ?_; rintro e w1 ⟨rfl, g1, -⟩)
      go_end0
      exact ⟨rfl, hw.trans (Wst.grown g1 hbl)⟩
end Go.Proofs.Ytbodadddcbbjeaa
