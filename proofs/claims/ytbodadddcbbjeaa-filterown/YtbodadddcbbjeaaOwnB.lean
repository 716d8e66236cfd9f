/- What stands behind a list; a list is spoilt: reedkeep's marked and spoil. -/
import Derived.Test.YtbodadddcbbjeaaOwnA
import Derived.Laws.StructEq
import Derived.Maps.Range
import Derived.Maps.AppendAt
import Derived.LoopN
namespace Go.Proofs.Ytbodadddcbbjeaa
open Go.RowKit Rm
set_option linter.unusedVariables false
set_option linter.unusedSimpArgs false
theorem grown_at (w : World) (B o : Nat) (v : Value) : w.grownBy (w.setCell ⟨B, o, none⟩ v) (some B) :=
  ⟨rfl, rfl, rfl, by simp, fun k _ hk => heap_setCell_other w ⟨B, o, none⟩ k v (fun e => hk (by simp [e]))⟩
theorem grown_id (w : World) (row : Option Nat) : w.grownBy w row := ⟨rfl, rfl, rfl, Nat.le_refl _, fun _ _ _ => rfl⟩
theorem grown_gr {w w' : World} (g : Gr w w') (row : Option Nat) : w.grownBy w' row := ⟨g.os, g.tape, g.output, g.size, fun k hk _ => Below.block g k hk⟩

set_option maxHeartbeats 2000000 in
set_option maxRecDepth 100000 in
theorem markedI (g n : Nat) (xs : List Value) (x0 : Int) (w : World) (hx : xs.length = n * 1) (hn : n ≤ 2 ^ 47) (hg : w.heap[g]? = some (.cells (rmL xs [.int .i64 x0]).toArray 3 (0, 0))) :
    Calls Try.prog 21 #[.slice (some ⟨g, 0, none⟩) n (n + 3), .int .i64 x0] w fun e w' => e = .returned (.bool true) ∧ Gr w w' := by
  have HG := Lib.hid hg
  have hlt := Blk_lt hg
  have hni : (n : Int) ≤ 140737488355328 := by omega
  have h3 : (n : Int) + 3 - (n : Int) = 3 := by omega
  have h3n : n + 3 - n = 3 := by omega
  have hle : (n : Int) ≤ (n : Int) + 3 := by omega
  have hne : ¬ n + 3 = n := by omega
  clear hg
  go_enter Try.func21, Try.ntmps21
  go_wp2_with fail
  go_loopw [14] (fun i wr => ∃ k : Nat, k ≤ 3 ∧ i = .int .i64 k ∧ Gr w wr) (fun i _ => 3 - (intOf i).toNat)
  case atStart => exact ⟨0, by omega, rfl, Gr.refl _⟩
  case round =>
    obtain ⟨k, hk, rfl, hgr⟩ := hrel
    by_cases hlt3 : k < 3
    · have hlt' : (k : Int) < 3 := by omega
      have hk0 : (0 : Int) ≤ (k : Int) := by omega
      have hgw := (Below.block hgr _ hlt).trans HG.out
      have hgl : g < wr.heap.size := Blk_lt hgw
      have m0 : wr.cell? ⟨g, n + k, none⟩ = some (.int .i64 x0) := by
        rw [cell_of_row _ _ _ _ _ _ hgw]
        have := rmL_at (t := 0) hx (ys := [.int .i64 x0]) rfl hlt3 (by omega)
        rw [show (n + k) * 1 + 0 = n + k by omega] at this
        simpa using this
      clear hgw
      go_wp2_with fail
      go_roundw
      case rel => exact ⟨k + 1, by omega, by go_num, hgr⟩
      case measure => simp [intOf]; omega
    · obtain rfl : k = 3 := by omega
      go_wp2_with fail
      go_ret
      exact ⟨rfl, hgr⟩

set_option maxHeartbeats 2000000 in
set_option maxRecDepth 100000 in
theorem markedS (g n : Nat) (xs : List Value) (x0 x1 : Int) (w : World) (hx : xs.length = n * 2) (hn : n ≤ 2 ^ 47) (hg : w.heap[g]? = some (.cells (rmL xs [.int .i64 x0, .int .i64 x1]).toArray 53 (0, 0))) :
    Calls Try.prog 49 #[.slice (some ⟨g, 0, none⟩) n (n + 3), .agg #[.int .i64 x0, .int .i64 x1]] w fun e w' => e = .returned (.bool true) ∧ Gr w w' := by
  have HG := Lib.hid hg
  have hlt := Blk_lt hg
  have hni : (n : Int) ≤ 140737488355328 := by omega
  have h3 : (n : Int) + 3 - (n : Int) = 3 := by omega
  have h3n : n + 3 - n = 3 := by omega
  have hle : (n : Int) ≤ (n : Int) + 3 := by omega
  have hne : ¬ n + 3 = n := by omega
  clear hg
  go_enter Try.func49, Try.ntmps49
  go_wp2_with fail
  go_loopw [14] (fun i wr => ∃ k : Nat, k ≤ 3 ∧ i = .int .i64 k ∧ Gr w wr ∧ wr.heap[w.heap.size]? = some (.cells #[.int .i64 x0, .int .i64 x1] 53 (0, 0))) (fun i _ => 3 - (intOf i).toNat)
  case atStart => exact ⟨0, by omega, rfl, (Gr.refl w).alloc _, heap_alloc_new w _⟩
  case round =>
    obtain ⟨k, hk, rfl, hgr, hbx⟩ := hrel
    by_cases hlt3 : k < 3
    · have hlt' : (k : Int) < 3 := by omega
      have hk0 : (0 : Int) ≤ (k : Int) := by omega
      have hgw := (Below.block hgr _ hlt).trans HG.out
      have hgl : g < wr.heap.size := Blk_lt hgw
      have m0 : wr.cell? ⟨g, n * 2 + k * 2, none⟩ = some (.int .i64 x0) := by
        rw [cell_of_row _ _ _ _ _ _ hgw]
        have := rmL_at (t := 0) hx (ys := [.int .i64 x0, .int .i64 x1]) rfl hlt3 (by omega)
        rw [show (n + k) * 2 + 0 = n * 2 + k * 2 by omega] at this
        simpa using this
      have y0 : wr.cell? ⟨w.heap.size, 0, none⟩ = some (.int .i64 x0) := by rw [cell_of_row _ _ _ _ _ _ hbx]; rfl
      have m1 : wr.cell? ⟨g, n * 2 + k * 2 + 1, none⟩ = some (.int .i64 x1) := by
        rw [cell_of_row _ _ _ _ _ _ hgw]
        have := rmL_at (t := 1) hx (ys := [.int .i64 x0, .int .i64 x1]) rfl hlt3 (by omega)
        rw [show (n + k) * 2 + 1 = n * 2 + k * 2 + 1 by omega] at this
        simpa using this
      have y1 : wr.cell? ⟨w.heap.size, 1, none⟩ = some (.int .i64 x1) := by rw [cell_of_row _ _ _ _ _ _ hbx]; rfl
      have hwl : w.heap.size < wr.heap.size := Blk_lt hbx
      have HBX := Lib.hid hbx
      clear hbx
      clear hgw
      go_wp2_with fail
      go_roundw
      case rel => exact ⟨k + 1, by omega, by go_num, hgr.alloc _, (Below.block ((Gr.refl wr).alloc _) _ hwl).trans HBX.out⟩
      case measure => simp [intOf]; omega
    · obtain rfl : k = 3 := by omega
      go_wp2_with fail
      go_ret
      exact ⟨rfl, hgr⟩

set_option maxHeartbeats 2000000 in
set_option maxRecDepth 100000 in
theorem markedN (g n : Nat) (xs : List Value) (x0 x1 x2 : Int) (w : World) (hx : xs.length = n * 3) (hn : n ≤ 2 ^ 47) (hg : w.heap[g]? = some (.cells (rmL xs [.int .i64 x0, .int .i64 x1, .int .i64 x2]).toArray 40 (0, 0))) :
    Calls Try.prog 23 #[.slice (some ⟨g, 0, none⟩) n (n + 3), .agg #[.int .i64 x0, .int .i64 x1, .int .i64 x2]] w fun e w' => e = .returned (.bool true) ∧ Gr w w' := by
  have HG := Lib.hid hg
  have hlt := Blk_lt hg
  have hni : (n : Int) ≤ 140737488355328 := by omega
  have h3 : (n : Int) + 3 - (n : Int) = 3 := by omega
  have h3n : n + 3 - n = 3 := by omega
  have hle : (n : Int) ≤ (n : Int) + 3 := by omega
  have hne : ¬ n + 3 = n := by omega
  clear hg
  go_enter Try.func23, Try.ntmps23
  go_wp2_with fail
  go_loopw [14] (fun i wr => ∃ k : Nat, k ≤ 3 ∧ i = .int .i64 k ∧ Gr w wr ∧ wr.heap[w.heap.size]? = some (.cells #[.int .i64 x0, .int .i64 x1, .int .i64 x2] 40 (0, 0))) (fun i _ => 3 - (intOf i).toNat)
  case atStart => exact ⟨0, by omega, rfl, (Gr.refl w).alloc _, heap_alloc_new w _⟩
  case round =>
    obtain ⟨k, hk, rfl, hgr, hbx⟩ := hrel
    by_cases hlt3 : k < 3
    · have hlt' : (k : Int) < 3 := by omega
      have hk0 : (0 : Int) ≤ (k : Int) := by omega
      have hgw := (Below.block hgr _ hlt).trans HG.out
      have hgl : g < wr.heap.size := Blk_lt hgw
      have m0 : wr.cell? ⟨g, n * 3 + k * 3, none⟩ = some (.int .i64 x0) := by
        rw [cell_of_row _ _ _ _ _ _ hgw]
        have := rmL_at (t := 0) hx (ys := [.int .i64 x0, .int .i64 x1, .int .i64 x2]) rfl hlt3 (by omega)
        rw [show (n + k) * 3 + 0 = n * 3 + k * 3 by omega] at this
        simpa using this
      have y0 : wr.cell? ⟨w.heap.size, 0, none⟩ = some (.int .i64 x0) := by rw [cell_of_row _ _ _ _ _ _ hbx]; rfl
      have m1 : wr.cell? ⟨g, n * 3 + k * 3 + 1, none⟩ = some (.int .i64 x1) := by
        rw [cell_of_row _ _ _ _ _ _ hgw]
        have := rmL_at (t := 1) hx (ys := [.int .i64 x0, .int .i64 x1, .int .i64 x2]) rfl hlt3 (by omega)
        rw [show (n + k) * 3 + 1 = n * 3 + k * 3 + 1 by omega] at this
        simpa using this
      have y1 : wr.cell? ⟨w.heap.size, 1, none⟩ = some (.int .i64 x1) := by rw [cell_of_row _ _ _ _ _ _ hbx]; rfl
      have m2 : wr.cell? ⟨g, n * 3 + k * 3 + 2, none⟩ = some (.int .i64 x2) := by
        rw [cell_of_row _ _ _ _ _ _ hgw]
        have := rmL_at (t := 2) hx (ys := [.int .i64 x0, .int .i64 x1, .int .i64 x2]) rfl hlt3 (by omega)
        rw [show (n + k) * 3 + 2 = n * 3 + k * 3 + 2 by omega] at this
        simpa using this
      have y2 : wr.cell? ⟨w.heap.size, 2, none⟩ = some (.int .i64 x2) := by rw [cell_of_row _ _ _ _ _ _ hbx]; rfl
      have hwl : w.heap.size < wr.heap.size := Blk_lt hbx
      have HBX := Lib.hid hbx
      clear hbx
      clear hgw
      go_wp2_with fail
      go_roundw
      case rel => exact ⟨k + 1, by omega, by go_num, hgr.alloc _, (Below.block ((Gr.refl wr).alloc _) _ hwl).trans HBX.out⟩
      case measure => simp [intOf]; omega
    · obtain rfl : k = 3 := by omega
      go_wp2_with fail
      go_ret
      exact ⟨rfl, hgr⟩

set_option maxHeartbeats 2000000 in
set_option maxRecDepth 100000 in
theorem spoilI {base : Nat} {v : Value} {n : Nat} {xs : List Value} (x0 : Int) {w : World} (h : w.ownsRow base 3 1 v n xs) :
    Calls Try.prog 27 #[v, .int .i64 x0] w fun e w' => e = .returned (.tuple #[]) ∧ w.grownBy w' v.ownBlock ∧ ∃ xs', w'.ownsRow base 3 1 v n xs' := by
  rcases h.2 with ⟨rfl, hn0⟩ | ⟨g, cap, cur, rfl, hbs, hg, hnc, hcm, hcs, _⟩
  · go_enter Try.func27, Try.ntmps27
    go_wp2_with fail
    refine wp_loop_rounds 1 ?_
    rw [rounds_succ]
    go_wp2_with fail
    go_end0
    exact ⟨rfl, grown_id _ _, [], by rw [hn0]; simp, .inl ⟨rfl, hn0⟩⟩
  · have HG := Lib.hid hg
    have hlt := Blk_lt hg
    have hcm' : (cap : Int) ≤ 9223372036854775807 := by simp only [maxLen] at hcm; omega
    have hcap0 : (0 : Int) ≤ (cap : Int) := by omega
    have HCS := Lib.hid hcs
    clear hg hcs h
    go_enter Try.func27, Try.ntmps27
    go_wp2_with fail
    go_loopw [11] (fun i wr => ∃ k : Nat, k ≤ cap ∧ i = .int .i64 k ∧ w.grownBy wr (some g) ∧ ∃ cur, wr.heap[g]? = some (.cells cur 3 (0, 0)) ∧ cur.size = cap * 1) (fun i _ => cap - (intOf i).toNat)
    case atStart => exact ⟨0, by omega, rfl, grown_id _ _, cur, HG.out, HCS.out⟩
    case round =>
      obtain ⟨k, hk, rfl, hgb, cur2, hcur, hsz⟩ := hrel
      by_cases hltc : k < cap
      · have hlt' : (k : Int) < (cap : Int) := by omega
        have hk0 : (0 : Int) ≤ (k : Int) := by omega
        obtain ⟨u0, m0⟩ : ∃ u, wr.cell? ⟨g, k, none⟩ = some u := by
          rw [cell_of_row _ _ _ _ _ _ hcur]; exact ⟨_, Array.getElem?_eq_getElem (by rw [hsz]; omega)⟩
        have f0 := frozen_of_row wr g (k) _ _ hcur
        have HC := Lib.hid hcur
        have HZ := Lib.hid hsz
        clear hcur hsz
        go_wp2_with fail
        go_roundw
        case rel => exact ⟨k + 1, by omega, by go_num, (hgb.trans (grown_at _ g (k) _)), _, (heap_setCell_same _ _ (k) _ _ _ HC.out), by simp [HZ.out]⟩
        case measure => simp [intOf]; omega
      · obtain rfl : k = cap := by omega
        have HC := Lib.hid hcur
        have HZ := Lib.hid hsz
        clear hcur hsz
        go_wp2_with fail
        go_end0
        exact ⟨rfl, hgb, _, by rw [List.length_take, Array.length_toList, HZ.out]; exact Nat.min_eq_left (Nat.mul_le_mul_right _ hnc), .inr ⟨g, k, cur2, rfl, hbs, HC.out, hnc, hcm, HZ.out, rfl⟩⟩

set_option maxHeartbeats 2000000 in
set_option maxRecDepth 100000 in
theorem spoilS {base : Nat} {v : Value} {n : Nat} {xs : List Value} (x0 x1 : Int) {w : World} (h : w.ownsRow base 53 2 v n xs) :
    Calls Try.prog 50 #[v, .agg #[.int .i64 x0, .int .i64 x1]] w fun e w' => e = .returned (.tuple #[]) ∧ w.grownBy w' v.ownBlock ∧ ∃ xs', w'.ownsRow base 53 2 v n xs' := by
  rcases h.2 with ⟨rfl, hn0⟩ | ⟨g, cap, cur, rfl, hbs, hg, hnc, hcm, hcs, _⟩
  · go_enter Try.func50, Try.ntmps50
    go_wp2_with fail
    refine wp_loop_rounds 1 ?_
    rw [rounds_succ]
    go_wp2_with fail
    go_end0
    exact ⟨rfl, grown_gr ((Gr.refl w).alloc _) _, [], by rw [hn0]; simp, .inl ⟨rfl, hn0⟩⟩
  · have HG := Lib.hid hg
    have hlt := Blk_lt hg
    have hcm' : (cap : Int) ≤ 9223372036854775807 := by simp only [maxLen] at hcm; omega
    have hcap0 : (0 : Int) ≤ (cap : Int) := by omega
    have HCS := Lib.hid hcs
    clear hg hcs h
    go_enter Try.func50, Try.ntmps50
    go_wp2_with fail
    go_loopw [11] (fun i wr => ∃ k : Nat, k ≤ cap ∧ i = .int .i64 k ∧ w.grownBy wr (some g) ∧ wr.heap[w.heap.size]? = some (.cells #[.int .i64 x0, .int .i64 x1] 53 (0, 0)) ∧ ∃ cur, wr.heap[g]? = some (.cells cur 53 (0, 0)) ∧ cur.size = cap * 2) (fun i _ => cap - (intOf i).toNat)
    case atStart => exact ⟨0, by omega, rfl, grown_gr ((Gr.refl w).alloc _) _, heap_alloc_new w _, cur, (Below.block ((Gr.refl w).alloc _) _ hlt).trans HG.out, HCS.out⟩
    case round =>
      obtain ⟨k, hk, rfl, hgb, hbx, cur2, hcur, hsz⟩ := hrel
      by_cases hltc : k < cap
      · have hlt' : (k : Int) < (cap : Int) := by omega
        have hk0 : (0 : Int) ≤ (k : Int) := by omega
        obtain ⟨u0, m0⟩ : ∃ u, wr.cell? ⟨g, k * 2, none⟩ = some u := by
          rw [cell_of_row _ _ _ _ _ _ hcur]; exact ⟨_, Array.getElem?_eq_getElem (by rw [hsz]; omega)⟩
        have f0 := frozen_of_row wr g (k * 2) _ _ hcur
        have y0 : wr.cell? ⟨w.heap.size, 0, none⟩ = some (.int .i64 x0) := by rw [cell_of_row _ _ _ _ _ _ hbx]; rfl
        obtain ⟨u1, m1⟩ : ∃ u, wr.cell? ⟨g, k * 2 + 1, none⟩ = some u := by
          rw [cell_of_row _ _ _ _ _ _ hcur]; exact ⟨_, Array.getElem?_eq_getElem (by rw [hsz]; omega)⟩
        have f1 := frozen_of_row wr g (k * 2 + 1) _ _ hcur
        have y1 : wr.cell? ⟨w.heap.size, 1, none⟩ = some (.int .i64 x1) := by rw [cell_of_row _ _ _ _ _ _ hbx]; rfl
        have HC := Lib.hid hcur
        have HZ := Lib.hid hsz
        have HBX := Lib.hid hbx
        clear hbx
        clear hcur hsz
        go_wp2_with fail
        go_roundw
        case rel => exact ⟨k + 1, by omega, by go_num, ((hgb.trans (grown_at _ g (k * 2) _)).trans (grown_at _ g (k * 2 + 1) _)), by rw [heap_setCell_other _ _ _ _ (by simp; omega), heap_setCell_other _ _ _ _ (by simp; omega)]; exact HBX.out, _, (heap_setCell_same _ _ (k * 2 + 1) _ _ _ (heap_setCell_same _ _ (k * 2) _ _ _ HC.out)), by simp [HZ.out]⟩
        case measure => simp [intOf]; omega
      · obtain rfl : k = cap := by omega
        have HC := Lib.hid hcur
        have HZ := Lib.hid hsz
        clear hcur hsz
        go_wp2_with fail
        go_end0
        exact ⟨rfl, hgb, _, by rw [List.length_take, Array.length_toList, HZ.out]; exact Nat.min_eq_left (Nat.mul_le_mul_right _ hnc), .inr ⟨g, k, cur2, rfl, hbs, HC.out, hnc, hcm, HZ.out, rfl⟩⟩

set_option maxHeartbeats 2000000 in
set_option maxRecDepth 100000 in
theorem spoilN {base : Nat} {v : Value} {n : Nat} {xs : List Value} (x0 x1 x2 : Int) {w : World} (h : w.ownsRow base 40 3 v n xs) :
    Calls Try.prog 28 #[v, .agg #[.int .i64 x0, .int .i64 x1, .int .i64 x2]] w fun e w' => e = .returned (.tuple #[]) ∧ w.grownBy w' v.ownBlock ∧ ∃ xs', w'.ownsRow base 40 3 v n xs' := by
  rcases h.2 with ⟨rfl, hn0⟩ | ⟨g, cap, cur, rfl, hbs, hg, hnc, hcm, hcs, _⟩
  · go_enter Try.func28, Try.ntmps28
    go_wp2_with fail
    refine wp_loop_rounds 1 ?_
    rw [rounds_succ]
    go_wp2_with fail
    go_end0
    exact ⟨rfl, grown_gr ((Gr.refl w).alloc _) _, [], by rw [hn0]; simp, .inl ⟨rfl, hn0⟩⟩
  · have HG := Lib.hid hg
    have hlt := Blk_lt hg
    have hcm' : (cap : Int) ≤ 9223372036854775807 := by simp only [maxLen] at hcm; omega
    have hcap0 : (0 : Int) ≤ (cap : Int) := by omega
    have HCS := Lib.hid hcs
    clear hg hcs h
    go_enter Try.func28, Try.ntmps28
    go_wp2_with fail
    go_loopw [11] (fun i wr => ∃ k : Nat, k ≤ cap ∧ i = .int .i64 k ∧ w.grownBy wr (some g) ∧ wr.heap[w.heap.size]? = some (.cells #[.int .i64 x0, .int .i64 x1, .int .i64 x2] 40 (0, 0)) ∧ ∃ cur, wr.heap[g]? = some (.cells cur 40 (0, 0)) ∧ cur.size = cap * 3) (fun i _ => cap - (intOf i).toNat)
    case atStart => exact ⟨0, by omega, rfl, grown_gr ((Gr.refl w).alloc _) _, heap_alloc_new w _, cur, (Below.block ((Gr.refl w).alloc _) _ hlt).trans HG.out, HCS.out⟩
    case round =>
      obtain ⟨k, hk, rfl, hgb, hbx, cur2, hcur, hsz⟩ := hrel
      by_cases hltc : k < cap
      · have hlt' : (k : Int) < (cap : Int) := by omega
        have hk0 : (0 : Int) ≤ (k : Int) := by omega
        obtain ⟨u0, m0⟩ : ∃ u, wr.cell? ⟨g, k * 3, none⟩ = some u := by
          rw [cell_of_row _ _ _ _ _ _ hcur]; exact ⟨_, Array.getElem?_eq_getElem (by rw [hsz]; omega)⟩
        have f0 := frozen_of_row wr g (k * 3) _ _ hcur
        have y0 : wr.cell? ⟨w.heap.size, 0, none⟩ = some (.int .i64 x0) := by rw [cell_of_row _ _ _ _ _ _ hbx]; rfl
        obtain ⟨u1, m1⟩ : ∃ u, wr.cell? ⟨g, k * 3 + 1, none⟩ = some u := by
          rw [cell_of_row _ _ _ _ _ _ hcur]; exact ⟨_, Array.getElem?_eq_getElem (by rw [hsz]; omega)⟩
        have f1 := frozen_of_row wr g (k * 3 + 1) _ _ hcur
        have y1 : wr.cell? ⟨w.heap.size, 1, none⟩ = some (.int .i64 x1) := by rw [cell_of_row _ _ _ _ _ _ hbx]; rfl
        obtain ⟨u2, m2⟩ : ∃ u, wr.cell? ⟨g, k * 3 + 2, none⟩ = some u := by
          rw [cell_of_row _ _ _ _ _ _ hcur]; exact ⟨_, Array.getElem?_eq_getElem (by rw [hsz]; omega)⟩
        have f2 := frozen_of_row wr g (k * 3 + 2) _ _ hcur
        have y2 : wr.cell? ⟨w.heap.size, 2, none⟩ = some (.int .i64 x2) := by rw [cell_of_row _ _ _ _ _ _ hbx]; rfl
        have HC := Lib.hid hcur
        have HZ := Lib.hid hsz
        have HBX := Lib.hid hbx
        clear hbx
        clear hcur hsz
        go_wp2_with fail
        go_roundw
        case rel => exact ⟨k + 1, by omega, by go_num, (((hgb.trans (grown_at _ g (k * 3) _)).trans (grown_at _ g (k * 3 + 1) _)).trans (grown_at _ g (k * 3 + 2) _)), by rw [heap_setCell_other _ _ _ _ (by simp; omega), heap_setCell_other _ _ _ _ (by simp; omega), heap_setCell_other _ _ _ _ (by simp; omega)]; exact HBX.out, _, (heap_setCell_same _ _ (k * 3 + 2) _ _ _ (heap_setCell_same _ _ (k * 3 + 1) _ _ _ (heap_setCell_same _ _ (k * 3) _ _ _ HC.out))), by simp [HZ.out]⟩
        case measure => simp [intOf]; omega
      · obtain rfl : k = cap := by omega
        have HC := Lib.hid hcur
        have HZ := Lib.hid hsz
        clear hcur hsz
        go_wp2_with fail
        go_end0
        exact ⟨rfl, hgb, _, by rw [List.length_take, Array.length_toList, HZ.out]; exact Nat.min_eq_left (Nat.mul_le_mul_right _ hnc), .inr ⟨g, k, cur2, rfl, hbs, HC.out, hnc, hcm, HZ.out, rfl⟩⟩

set_option maxHeartbeats 2000000 in
set_option maxRecDepth 100000 in
theorem spoilB {base : Nat} {v : Value} {n : Nat} {xs : List Value} (x0 x1 : Int) {w : World} (h : w.ownsRow base 72 3 v n xs) :
    Calls Try.prog 51 #[v, .agg #[.int .i64 x0, .int .i64 x1, .slice none 0 0]] w fun e w' => e = .returned (.tuple #[]) ∧ w.grownBy w' v.ownBlock ∧ ∃ xs', w'.ownsRow base 72 3 v n xs' := by
  rcases h.2 with ⟨rfl, hn0⟩ | ⟨g, cap, cur, rfl, hbs, hg, hnc, hcm, hcs, _⟩
  · go_enter Try.func51, Try.ntmps51
    go_wp2_with fail
    refine wp_loop_rounds 1 ?_
    rw [rounds_succ]
    go_wp2_with fail
    go_end0
    exact ⟨rfl, grown_gr ((Gr.refl w).alloc _) _, [], by rw [hn0]; simp, .inl ⟨rfl, hn0⟩⟩
  · have HG := Lib.hid hg
    have hlt := Blk_lt hg
    have hcm' : (cap : Int) ≤ 9223372036854775807 := by simp only [maxLen] at hcm; omega
    have hcap0 : (0 : Int) ≤ (cap : Int) := by omega
    have HCS := Lib.hid hcs
    clear hg hcs h
    go_enter Try.func51, Try.ntmps51
    go_wp2_with fail
    go_loopw [11] (fun i wr => ∃ k : Nat, k ≤ cap ∧ i = .int .i64 k ∧ w.grownBy wr (some g) ∧ wr.heap[w.heap.size]? = some (.cells #[.int .i64 x0, .int .i64 x1, .slice none 0 0] 72 (0, 0)) ∧ ∃ cur, wr.heap[g]? = some (.cells cur 72 (0, 0)) ∧ cur.size = cap * 3) (fun i _ => cap - (intOf i).toNat)
    case atStart => exact ⟨0, by omega, rfl, grown_gr ((Gr.refl w).alloc _) _, heap_alloc_new w _, cur, (Below.block ((Gr.refl w).alloc _) _ hlt).trans HG.out, HCS.out⟩
    case round =>
      obtain ⟨k, hk, rfl, hgb, hbx, cur2, hcur, hsz⟩ := hrel
      by_cases hltc : k < cap
      · have hlt' : (k : Int) < (cap : Int) := by omega
        have hk0 : (0 : Int) ≤ (k : Int) := by omega
        obtain ⟨u0, m0⟩ : ∃ u, wr.cell? ⟨g, k * 3, none⟩ = some u := by
          rw [cell_of_row _ _ _ _ _ _ hcur]; exact ⟨_, Array.getElem?_eq_getElem (by rw [hsz]; omega)⟩
        have f0 := frozen_of_row wr g (k * 3) _ _ hcur
        have y0 : wr.cell? ⟨w.heap.size, 0, none⟩ = some (.int .i64 x0) := by rw [cell_of_row _ _ _ _ _ _ hbx]; rfl
        obtain ⟨u1, m1⟩ : ∃ u, wr.cell? ⟨g, k * 3 + 1, none⟩ = some u := by
          rw [cell_of_row _ _ _ _ _ _ hcur]; exact ⟨_, Array.getElem?_eq_getElem (by rw [hsz]; omega)⟩
        have f1 := frozen_of_row wr g (k * 3 + 1) _ _ hcur
        have y1 : wr.cell? ⟨w.heap.size, 1, none⟩ = some (.int .i64 x1) := by rw [cell_of_row _ _ _ _ _ _ hbx]; rfl
        obtain ⟨u2, m2⟩ : ∃ u, wr.cell? ⟨g, k * 3 + 2, none⟩ = some u := by
          rw [cell_of_row _ _ _ _ _ _ hcur]; exact ⟨_, Array.getElem?_eq_getElem (by rw [hsz]; omega)⟩
        have f2 := frozen_of_row wr g (k * 3 + 2) _ _ hcur
        have y2 : wr.cell? ⟨w.heap.size, 2, none⟩ = some (.slice none 0 0) := by rw [cell_of_row _ _ _ _ _ _ hbx]; rfl
        have HC := Lib.hid hcur
        have HZ := Lib.hid hsz
        have HBX := Lib.hid hbx
        clear hbx
        clear hcur hsz
        go_wp2_with fail
        go_roundw
        case rel => exact ⟨k + 1, by omega, by go_num, (((hgb.trans (grown_at _ g (k * 3) _)).trans (grown_at _ g (k * 3 + 1) _)).trans (grown_at _ g (k * 3 + 2) _)), by rw [heap_setCell_other _ _ _ _ (by simp; omega), heap_setCell_other _ _ _ _ (by simp; omega), heap_setCell_other _ _ _ _ (by simp; omega)]; exact HBX.out, _, (heap_setCell_same _ _ (k * 3 + 2) _ _ _ (heap_setCell_same _ _ (k * 3 + 1) _ _ _ (heap_setCell_same _ _ (k * 3) _ _ _ HC.out))), by simp [HZ.out]⟩
        case measure => simp [intOf]; omega
      · obtain rfl : k = cap := by omega
        have HC := Lib.hid hcur
        have HZ := Lib.hid hsz
        clear hcur hsz
        go_wp2_with fail
        go_end0
        exact ⟨rfl, hgb, _, by rw [List.length_take, Array.length_toList, HZ.out]; exact Nat.min_eq_left (Nat.mul_le_mul_right _ hnc), .inr ⟨g, k, cur2, rfl, hbs, HC.out, hnc, hcm, HZ.out, rfl⟩⟩
end Go.Proofs.Ytbodadddcbbjeaa
