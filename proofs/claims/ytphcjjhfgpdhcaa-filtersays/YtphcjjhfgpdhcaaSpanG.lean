/- The contracts of the document's own sets: Told, and the statements' spans and every. -/
import Derived.Test.YtphcjjhfgpdhcaaSpanF
import Derived.Laws.AppendOwnNone
import Derived.Laws.Rows
namespace Rm
open Go Go.RowKit
/-- a set of numbers, one by one, as an array of bools -/
def bArr (s : Nat → Bool) : Array Value := ((List.range 32).map fun i => Value.bool (s i)).toArray
theorem bArr_size (s : Nat → Bool) : (bArr s).size = 32 := by simp [bArr]
theorem bArr_at (s : Nat → Bool) (i : Nat) (h : i < 32) : (bArr s)[i]? = some (.bool (s i)) := by simp [bArr, h]
theorem told_yes {s : Nat → Bool} {n : Nat} (hn : n < 32) (h : s n = true) : toldTo s (32 - n) = pre (toldTo s (32 - (n + 1))) n := by
  have e : 32 - n = (32 - (n + 1)) + 1 := by omega
  have e2 : 31 - (32 - (n + 1)) = n := by omega
  rw [e]
  simp only [toldTo]
  rw [e2, h]
  rfl
theorem told_no {s : Nat → Bool} {n : Nat} (hn : n < 32) (h : s n = false) : toldTo s (32 - n) = toldTo s (32 - (n + 1)) := by
  have e : 32 - n = (32 - (n + 1)) + 1 := by omega
  have e2 : 31 - (32 - (n + 1)) = n := by omega
  rw [e]
  simp only [toldTo]
  rw [e2, h]
  simp
theorem Blk_lt {w : World} {g : Nat} {o : Obj} (h : w.heap[g]? = some o) : g < w.heap.size := by
  rcases Nat.lt_or_ge g w.heap.size with c | c
  · exact c
  · rw [Array.getElem?_eq_none c] at h; cases h
theorem flat_set0 (l : List (Int × Int)) (a b a' : Int) : (flat ((a, b) :: l)).set 0 (.int .i64 a') = flat ((a', b) :: l) := rfl
end Rm
namespace Go.Proofs.Ytphcjjhfgpdhcaa
open Go.RowKit Rm
set_option linter.unusedVariables false

/-- where Told's loop stands: n + 1 numbers are still to come -/
def ToldAt (s : Nat → Bool) (w wr : World) (m : Nat) (v : Value) : Prop :=
  Gr w wr ∧ wr.heap[w.heap.size]? = some (.cells (bArr s) 75 (0, 0)) ∧ wr.ownsRow (w.heap.size + 1) 60 2 v (pairs (toldTo s (32 - m))).length (flat (pairs (toldTo s (32 - m)))) ∧ (toldTo s (32 - m) = [] → v = .slice none 0 0)

set_option maxHeartbeats 1000000 in
set_option maxRecDepth 100000 in
theorem told_any (s : Nat → Bool) (w : World) :
    Calls Try.prog 51 #[.agg (bArr s)] w fun e w' => ∃ v, e = .returned v ∧ ListAt w w' (listTo s 32) v := by
  obtain ⟨i0, hi0, hz0, hz1, hz2⟩ := info_parts span_info
  go_enter Try.func51, Try.ntmps51
  go_wp2
  go_loopw [3, 4] (fun v i wr => ∃ m : Nat, m ≤ 32 ∧ i = .int .i64 ((m : Int) - 1) ∧ ToldAt s w wr m v) (fun _ i _ => (intOf i + 1).toNat)
  case atStart => exact ⟨32, by omega, rfl, (Gr.refl _).alloc _, heap_alloc_new _ _, World.ownsRow_nil _ _ _ _, fun _ => rfl⟩
  case round =>
    obtain ⟨m, hm, rfl, hg, hblk, hown, hnil⟩ := hrel
    cases m with
    | zero =>
      go_wp2
      go_ret
      refine ⟨_, rfl, hg, ?_⟩
      rw [← told_eq]
      rcases hown.2 with ⟨a, b⟩ | ⟨g', cap, cur, a, b, c⟩
      · exact ⟨hown.1, .inl ⟨a, b⟩⟩
      · exact ⟨hown.1, .inr ⟨g', cap, cur, a, by omega, c⟩⟩
    | succ n =>
      have hn : n < 32 := by omega
      have hcell : wr.cell? ⟨w.heap.size, n, none⟩ = some (.bool (s n)) := by rw [cell_of_row _ _ _ _ _ _ hblk, bArr_at s n hn]
      have HB := Lib.hid hblk
      have hlen : (toldTo s (32 - (n + 1))).length ≤ 16 := by
        have := ((toldTo_ok s (32 - (n + 1)) (by omega)).1.mono (Nat.zero_le _)).len16
        exact this
      have hn' : (n : Int) < 32 := by omega
      clear hblk
      have ec : (((n + 1 : Nat) : Int) - 1) = (n : Int) := by omega
      rw [ec]
      cases hs : s n
      · have HL := Lib.hid (told_no hn hs)
        have HO := Lib.hid hown
        have HN := Lib.hid hnil
        rw [hs] at hcell
        clear hown hnil
        go_wp2
        go_roundw
        case rel => exact ⟨n, by omega, by go_num, hg, HB.out, by rw [HL.out]; exact HO.out, by rw [HL.out]; exact HN.out⟩
        case measure => simp [intOf]
      · have HL := Lib.hid (told_yes hn hs)
        rw [hs] at hcell
        generalize toldTo s (32 - (n + 1)) = l at *
        have hlen2 : (pairs l).length ≤ 16 := by rw [pairs_len]; exact hlen
        have hnew : (wr.alloc (.cells #[.int .i64 (n : Int), .int .i64 ((n : Int) + 1)] 60)).ownsRow (w.heap.size + 1) 60 2 (.slice (some ⟨wr.heap.size, 0, none⟩) 1 1) 1 [.int .i64 (n : Int), .int .i64 ((n : Int) + 1)] := by
          refine ⟨rfl, .inr ⟨wr.heap.size, 1, #[.int .i64 (n : Int), .int .i64 ((n : Int) + 1)], rfl, ?_, heap_alloc_new _ _, by omega, by simp [maxLen], by rfl, by rfl⟩⟩
          have := Blk_lt HB.out
          omega
        cases l with
        | nil =>
          obtain rfl := hnil rfl
          have HP : Hid (flat (pairs (toldTo s (32 - n))) = [.int .i64 (n : Int), .int .i64 ((n : Int) + 1)] ∧ (pairs (toldTo s (32 - n))).length = 1 ∧ toldTo s (32 - n) ≠ []) := by
            rw [HL.out]
            exact ⟨by simp [pre, pairs, flat], by simp [pre, pairs], by simp [pre]⟩
          have HO := Lib.hid hown
          have HNW := Lib.hid hnew
          clear HL hown hnil hnew
          go_wp2_with (at_builtin; refine wpList_append_own_none rfl (.tmp 13) (.tmp 14) 54 rfl (w.heap.size + 1) 60 i0 2 Try.underlying54 hi0 _ 1 [.int .i64 (n : Int), .int .i64 ((n : Int) + 1)] rfl HNW.out rfl ?_)
          go_roundw
          case rel => exact ⟨n, by omega, by go_num, hg.alloc _, (Below.heap_alloc wr _ _ (Blk_lt HB.out)).trans HB.out, by rw [HP.out.1, HP.out.2.1]; exact HNW.out, fun e => absurd e HP.out.2.2⟩
          case measure => simp [intOf]
        | cons p l =>
          obtain ⟨f, t⟩ := p
          obtain ⟨g, cap, rfl, hbg, hgl, hcc⟩ := own_pos hown (by simp [pairs])
          have hl1 : (pairs ((f, t) :: l)).length = l.length + 1 := by simp [pairs]
          rw [hl1] at hown hcc hlen2
          rw [hl1]
          have HO := Lib.hid hown
          have HNW := Lib.hid hnew
          have hc0 : wr.cell? ⟨g, 0, none⟩ = some (.int .i64 (f : Int)) := by
            rw [hown.cellAt 0 (by omega)]; rfl
          have hf0 := hown.frozenAt 0
          have hl16 : (l.length : Int) ≤ 15 := by omega
          have hpre := HL.out
          clear HL hown hnil hnew hl1
          by_cases hfn : f = n + 1
          · subst hfn
            have HP : Hid (flat (pairs (toldTo s (32 - n))) = (flat (pairs ((n + 1, t) :: l))).set 0 (.int .i64 (n : Int)) ∧ (pairs (toldTo s (32 - n))).length = l.length + 1 ∧ toldTo s (32 - n) ≠ []) := by
              rw [hpre]
              exact ⟨by simp [pre, pairs, flat], by simp [pre, pairs], by simp [pre]⟩
            clear hpre
            go_wp2
            go_roundw
            case rel => exact ⟨n, by omega, by go_num, hg.setCell (by simp; omega) _, (heap_setCell_other wr _ _ _ (by simp; omega)).trans HB.out, by rw [HP.out.1, HP.out.2.1]; exact (HO.out.stored _ _).1, fun e => absurd e HP.out.2.2⟩
            case measure => simp [intOf]
          · have HP : Hid (flat (pairs (toldTo s (32 - n))) = [.int .i64 (n : Int), .int .i64 ((n : Int) + 1)] ++ flat (pairs ((f, t) :: l)) ∧ (pairs (toldTo s (32 - n))).length = 1 + (l.length + 1) ∧ toldTo s (32 - n) ≠ []) := by
              rw [hpre]
              have e : pre ((f, t) :: l) n = (n, n + 1) :: (f, t) :: l := by simp [pre, hfn]
              rw [e]
              exact ⟨by simp [pairs, flat], by simp [pairs]; omega, by simp⟩
            have hfn' : ((f : Int) == (n : Int) + 1) = false := by simp; omega
            have hsz := Blk_lt HB.out
            have hby : (1 + (l.length + 1)) * 16 ≤ 140737488355328 := by omega
            have hml : 1 + (l.length + 1) ≤ maxLen := by simp only [maxLen]; omega
            have hba : w.heap.size + 1 ≤ (wr.alloc (.cells #[.int .i64 (n : Int), .int .i64 ((n : Int) + 1)] 60)).heap.size := by simp; omega
            have hfl : (flat (pairs ((f, t) :: l))).length = (l.length + 1) * 2 := by rw [flat_len, pairs_len]; simp
            have hsrc := (HO.out.alloc (.cells #[.int .i64 (n : Int), .int .i64 ((n : Int) + 1)] 60)).cells (g := g) rfl
            have HSRC := Lib.hid hsrc
            have HF := Lib.hid hfl
            clear hpre hfn hsrc hfl
            go_wp2_with (at_builtin; refine wpList_append_own _ rfl (.tmp 13) (.tmp 14) 54 rfl (w.heap.size + 1) 60 i0 _ 2 16 Try.underlying54 hi0 hz0 hz1 hz2 rfl (by omega) _ 1 [.int .i64 (n : Int), .int .i64 ((n : Int) + 1)] rfl HNW.out ⟨g, 0, none⟩ (l.length + 1) cap (flat (pairs ((f, t) :: l))) rfl HF.out HSRC.out (flat_one _) hml hby hba ?_; intro v1 w1 hown1 hg1 hnil1)
            go_roundw
            case rel =>
              refine ⟨n, by omega, by go_num, (hg.alloc _).grown hg1 (fun k hk => ?_), ?_, by rw [HP.out.1, HP.out.2.1]; exact hown1, fun e => absurd e HP.out.2.2⟩
              · have hk' : wr.heap.size = k := by injection hk
                omega
              · have hne : some w.heap.size ≠ some wr.heap.size := by intro e; injection e; omega
                rw [hg1.block _ (by simp; omega) hne]
                exact (Below.heap_alloc wr _ _ (Blk_lt HB.out)).trans HB.out
            case measure => simp [intOf]
end Go.Proofs.Ytphcjjhfgpdhcaa
