/- A list with room behind it: reedkeep's roomy, over cells. -/
import Derived.Test.YtbodadddcbbjeaaFormD
import Derived.OwnWalk
import Derived.IntWalk
import Derived.Deep.DeepAppendRoom
import Derived.Laws.AppendOwnNone
import Derived.StillTailTactics
namespace Rm
open Go Go.RowKit
/-- a slice of n elements of s cells each reads as a list of cells -/
def RdC (s : Nat) (w : World) (v : Value) (n : Nat) (xs : List Value) : Prop := xs.length = n * s ∧ (∀ u ∈ xs, u.oneCell' = true) ∧
  ((v = .slice none 0 0 ∧ n = 0) ∨ ∃ ad c, v = .slice (some ad) n c ∧ n ≤ c ∧ (n ≠ 0 → ad.block < w.heap.size) ∧ ∀ j u, xs[j]? = some u → w.cell? (ad.add j) = some u)
theorem RdC.gr {s n : Nat} {w w' : World} {v : Value} {xs : List Value} (h : RdC s w v n xs) (g : Gr w w') : RdC s w' v n xs := by
  obtain ⟨h1, h2, h3 | ⟨ad, c, e, hc, hb, hx⟩⟩ := h
  · exact ⟨h1, h2, .inl h3⟩
  · refine ⟨h1, h2, .inr ⟨ad, c, e, hc, fun hn => Nat.lt_of_lt_of_le (hb hn) g.le, fun j u hj => ?_⟩⟩
    have hn : n ≠ 0 := by rintro rfl; rw [Nat.zero_mul] at h1; rw [List.eq_nil_of_length_eq_zero h1] at hj; simp at hj
    have hb' : (ad.add j).block < w.heap.size := by have := hb hn; unfold Addr.add; split <;> simpa using this
    exact (World.cell?_of_block (Below.block g _ hb')).trans (hx j u hj)
/-- what a list with room behind it holds -/
def rmL (xs ys : List Value) : List Value := xs ++ (ys ++ (ys ++ ys))
theorem rmL_len {xs ys : List Value} {n s : Nat} (hx : xs.length = n * s) (hy : ys.length = s) : (rmL xs ys).length = (n + 3) * s := by
  simp only [rmL, List.length_append, hx, hy, Nat.add_mul]; omega
theorem rmL_at {xs ys : List Value} {n s k t : Nat} (hx : xs.length = n * s) (hy : ys.length = s) (hk : k < 3) (ht : t < s) : (rmL xs ys)[(n + k) * s + t]? = ys[t]? := by
  have e : (n + k) * s + t = xs.length + (k * s + t) := by rw [hx, Nat.add_mul]; omega
  unfold rmL
  rw [e, List.getElem?_append_right (by omega), Nat.add_sub_cancel_left]
  match k, hk with
  | 0, _ => rw [Nat.zero_mul, Nat.zero_add, List.getElem?_append_left (by omega)]
  | 1, _ => rw [Nat.one_mul, List.getElem?_append_right (by omega), hy, Nat.add_sub_cancel_left, List.getElem?_append_left (by omega)]
  | 2, _ => rw [List.getElem?_append_right (by omega), hy, show 2 * s + t - s = s + t by omega, List.getElem?_append_right (by omega), hy, Nat.add_sub_cancel_left]
/-- the first k of the three are laid -/
def RmC (xs ys : List Value) (n s k : Nat) (cur : Array Value) : Prop := cur.size = (n + 3) * s ∧ ∀ j, j < (n + k) * s → cur[j]? = (rmL xs ys)[j]?
theorem RmC.start {xs ys : List Value} {n s : Nat} {cur : Array Value} (hx : xs.length = n * s) (h1 : cur.size = (n + 3) * s) (h2 : cur.toList.take (n * s) = xs) : RmC xs ys n s 0 cur := by
  refine ⟨h1, fun j hj => ?_⟩
  rw [Nat.add_zero] at hj
  unfold rmL
  rw [List.getElem?_append_left (by omega), ← h2, List.getElem?_take_of_lt hj, Array.getElem?_toList]
theorem RmC.end {xs ys : List Value} {n s : Nat} {cur : Array Value} (hx : xs.length = n * s) (hy : ys.length = s) (h : RmC xs ys n s 3 cur) : cur = (rmL xs ys).toArray := by
  apply Array.ext_getElem?
  intro j
  rcases Nat.lt_or_ge j ((n + 3) * s) with c | c
  · rw [h.2 j c]; simp
  · rw [Array.getElem?_eq_none (by rw [h.1]; exact c)]
    have := rmL_len hx hy
    simp; omega
theorem rm_set {xs ys : List Value} {n s k t : Nat} {cur : Array Value} {u : Value} (hsz : cur.size = (n + 3) * s) (hy : ys.length = s) (hx : xs.length = n * s) (hk : k < 3) (ht : t < s) (hu : ys[t]? = some u) (h : ∀ j, j < (n + k) * s + t → cur[j]? = (rmL xs ys)[j]?) :
    (cur.setIfInBounds ((n + k) * s + t) u).size = (n + 3) * s ∧ ∀ j, j < (n + k) * s + (t + 1) → (cur.setIfInBounds ((n + k) * s + t) u)[j]? = (rmL xs ys)[j]? := by
  refine ⟨by rw [Array.size_setIfInBounds, hsz], fun j hj => ?_⟩
  have hb : (n + k) * s + t < (n + 3) * s := by
    have h1 : (n + k) * s + s ≤ (n + 3) * s := by rw [← Nat.succ_mul]; exact Nat.mul_le_mul_right _ (by omega)
    omega
  rcases Nat.lt_or_ge j ((n + k) * s + t) with c | c
  · rw [Array.getElem?_setIfInBounds_ne (by omega)]; exact h j c
  · obtain rfl : j = (n + k) * s + t := by omega
    rw [Array.getElem?_setIfInBounds_self_of_lt (by omega), rmL_at hx hy hk ht, hu]
theorem heap_drew (w : World) : w.drew.heap = w.heap := rfl
theorem own_cur {w : World} {base g n c s : Nat} {e : TypeId} {xs : List Value} (h : w.ownsRow base e s (.slice (some ⟨g, 0, none⟩) n c) n xs) : ∃ cur, w.heap[g]? = some (.cells cur e (0, 0)) ∧ cur.size = c * s ∧ cur.toList.take (n * s) = xs := by
  rcases h.2 with ⟨e1, _⟩ | ⟨g', cap, cur, e1, _, hg, _, _, hcs, ht⟩
  · cases e1
  · cases e1
    exact ⟨cur, hg, hcs, ht⟩
theorem rm_one {xs ys : List Value} {n k : Nat} {cur : Array Value} {u : Value} (h : RmC xs ys n 1 k cur) (hx : xs.length = n * 1) (hy : ys = [u]) (hk : k < 3) : RmC xs ys n 1 (k + 1) (cur.setIfInBounds (n + k) u) := by
  subst hy
  have h1 := rm_set (t := 0) (u := u) h.1 rfl hx hk (by omega) rfl (fun j hj => h.2 j (by omega))
  have e : (n + k) * 1 + 0 = n + k := by omega
  rw [e] at h1
  exact ⟨h1.1, fun j hj => h1.2 j (by omega)⟩
theorem rm_two {xs ys : List Value} {n k : Nat} {cur : Array Value} {u v : Value} (h : RmC xs ys n 2 k cur) (hx : xs.length = n * 2) (hy : ys = [u, v]) (hk : k < 3) : RmC xs ys n 2 (k + 1) ((cur.setIfInBounds ((n + k) * 2) u).setIfInBounds ((n + k) * 2 + 1) v) := by
  subst hy
  have h1 := rm_set (t := 0) (u := u) h.1 rfl hx hk (by omega) rfl (fun j hj => h.2 j (by omega))
  have h2 := rm_set (t := 1) (u := v) h1.1 rfl hx hk (by omega) rfl h1.2
  exact ⟨h2.1, fun j hj => h2.2 j (by omega)⟩
theorem rm_three {xs ys : List Value} {n k : Nat} {cur : Array Value} {u v z : Value} (h : RmC xs ys n 3 k cur) (hx : xs.length = n * 3) (hy : ys = [u, v, z]) (hk : k < 3) : RmC xs ys n 3 (k + 1) (((cur.setIfInBounds ((n + k) * 3) u).setIfInBounds ((n + k) * 3 + 1) v).setIfInBounds ((n + k) * 3 + 2) z) := by
  subst hy
  have h1 := rm_set (t := 0) (u := u) h.1 rfl hx hk (by omega) rfl (fun j hj => h.2 j (by omega))
  have h2 := rm_set (t := 1) (u := v) h1.1 rfl hx hk (by omega) rfl h1.2
  have h3 := rm_set (t := 2) (u := z) h2.1 rfl hx hk (by omega) rfl h2.2
  exact ⟨h3.1, fun j hj => h3.2 j (by omega)⟩
end Rm
namespace Go.Proofs.Ytbodadddcbbjeaa
open Go.RowKit Rm
set_option linter.unusedVariables false
set_option linter.unusedSimpArgs false

theorem rinfoI : (Try.prog.info? 3).map (fun i => (i.zero, i.size, i.bytes)) = some (some (.int .i64 0), 1, 8) := by kernel_rfl
set_option maxHeartbeats 2000000 in
set_option maxRecDepth 100000 in
theorem roomyI (v : Value) (n : Nat) (xs : List Value) (x0 : Int) (w : World) (hv : RdC 1 w v n xs) (hn : n * 8 ≤ 2 ^ 47) :
    Calls Try.prog 15 #[v, .int .i64 x0] w fun e w' => ∃ g, e = .returned (.slice (some ⟨g, 0, none⟩) n (n + 3)) ∧ Gr w w' ∧ w.heap.size ≤ g ∧ w'.heap[g]? = some (.cells (rmL xs [.int .i64 x0]).toArray 3 (0, 0)) := by
  obtain ⟨i0, hi0, hz0, hz1, hz2⟩ := info_parts rinfoI
  obtain ⟨hx, hone, hcase⟩ := hv
  have hni : (n : Int) ≤ 140737488355328 := by omega
  have hni0 : (0 : Int) ≤ (n : Int) := by omega
  have HONE := Lib.hid hone
  have HXL := Lib.hid hx
  clear hone hx
  have GW := Lib.hid (Gr.refl w)
  rcases hcase with ⟨rfl, rfl⟩ | ⟨ad, c, rfl, hc, hb, hcl⟩
  · go_enter Try.func15, Try.ntmps15
    go_wp2_with (first | (at_make; refine wpList_make_own _ rfl _ _ 34 rfl w.heap.size 3 i0 _ 1 Try.underlying34 hi0 hz0 hz1 _ _ _ (0 + 3) rfl rfl (by omega) (by rw [hz2]; omega) (by simp only [maxLen]; omega) (by simp) ?_; intro w2 o2 g2) | (at_builtin; refine wpList_append_own_none rfl (.tmp 10) (.tmp 11) 34 rfl w.heap.size 3 i0 1 Try.underlying34 hi0 _ _ _ rfl o2 rfl ?_))
    obtain rfl : xs = [] := List.eq_nil_of_length_eq_zero (by simpa using HXL.out)
    obtain ⟨cur, q1, q2, q3⟩ := own_cur o2
    have Q0 : Hid (∃ cur, w2.heap[w.heap.size]? = some (.cells cur 3 (0, 0)) ∧ RmC [] [.int .i64 x0] 0 1 0 cur) := ⟨cur, q1, RmC.start rfl q2 q3⟩
    have GX := Lib.hid (GW.out.grown g2 (fun k e => by cases e))
    clear q1 q2 q3 o2 g2
    go_loopw [13] (fun i wr => ∃ k : Nat, k ≤ 3 ∧ i = .int .i64 k ∧ Gr w wr ∧ ∃ cur, wr.heap[w.heap.size]? = some (.cells cur 3 (0, 0)) ∧ RmC [] [.int .i64 x0] 0 1 k cur) (fun i _ => 3 - (intOf i).toNat)
    case atStart => exact ⟨0, by omega, rfl, GX.out, Q0.out⟩
    case round =>
      obtain ⟨k, hk, rfl, hg, cur, hcur, hrm⟩ := hrel
      by_cases hlt : k < 3
      · have hlt' : (k : Int) < 3 := by omega
        have hk0 : (0 : Int) ≤ (k : Int) := by omega
        obtain ⟨u0, m0⟩ : ∃ u, wr.cell? ⟨w.heap.size, k, none⟩ = some u := by
          rw [cell_of_row _ _ _ _ _ _ hcur]; exact ⟨_, Array.getElem?_eq_getElem (by rw [hrm.1]; omega)⟩
        have f0 := frozen_of_row wr w.heap.size (k) _ _ hcur
        have HC := Lib.hid hcur
        have HRM := Lib.hid hrm
        clear hcur hrm
        go_wp2_with fail
        go_roundw
        case rel => exact ⟨k + 1, by omega, by go_num, (hg.setCell (p := ⟨w.heap.size, k, none⟩) (by simp) _), _, (heap_setCell_same _ _ (k) _ _ _ HC.out), by have := rm_one HRM.out rfl rfl hlt; simpa using this⟩
        case measure => simp [intOf]; omega
      · obtain rfl : k = 3 := by omega
        have HE := Lib.hid (RmC.end rfl rfl hrm)
        have HC := Lib.hid hcur
        clear hcur hrm
        go_wp2_with fail
        go_ret
        exact ⟨_, rfl, hg, by simp, by rw [HC.out, HE.out]⟩
  · have HCL : Hid (∀ W, Gr w W → ∀ j u, xs[j]? = some u → W.cell? (ad.add j) = some u) := fun W g j u hj => by
      have hn0 : n ≠ 0 := by rintro rfl; have h := HXL.out; rw [Nat.zero_mul] at h; rw [List.eq_nil_of_length_eq_zero h] at hj; simp at hj
      have hb2 : (ad.add j).block < w.heap.size := by have := hb hn0; unfold Addr.add; split <;> simpa using this
      exact (World.cell?_of_block (Below.block g _ hb2)).trans (hcl j u hj)
    clear hcl
    go_enter Try.func15, Try.ntmps15
    go_wp2_with (first | (at_make; refine wpList_make_own _ rfl _ _ 34 rfl w.heap.size 3 i0 _ 1 Try.underlying34 hi0 hz0 hz1 _ _ _ (n + 3) rfl rfl (by omega) (by rw [hz2]; omega) (by simp only [maxLen]; omega) (by simp) ?_; intro w2 o2 g2) | (at_builtin; refine wpList_append_own_spare _ rfl (.tmp 10) (.tmp 11) 34 rfl w.heap.size 3 i0 1 Try.underlying34 hi0 hz1 _ 0 (n + 3) [] rfl o2 ad n c xs rfl HXL.out (HCL.out _ (GW.out.grown g2 (fun k e => by cases e))) HONE.out (by omega) ?_; intro w3 o3 g3))
    rw [Nat.zero_add, List.nil_append] at o3
    obtain ⟨cur, q1, q2, q3⟩ := own_cur o3
    have Q0 : Hid (∃ cur, w3.heap[w.heap.size]? = some (.cells cur 3 (0, 0)) ∧ RmC xs [.int .i64 x0] n 1 0 cur) := ⟨cur, q1, RmC.start HXL.out q2 q3⟩
    have GX := Lib.hid ((GW.out.grown g2 (fun k e => by cases e)).grown g3 (fun k e => by cases e; simp))
    clear q1 q2 q3 o2 o3 g2 g3
    go_loopw [13] (fun i wr => ∃ k : Nat, k ≤ 3 ∧ i = .int .i64 k ∧ Gr w wr ∧ ∃ cur, wr.heap[w.heap.size]? = some (.cells cur 3 (0, 0)) ∧ RmC xs [.int .i64 x0] n 1 k cur) (fun i _ => 3 - (intOf i).toNat)
    case atStart => exact ⟨0, by omega, rfl, GX.out, Q0.out⟩
    case round =>
      obtain ⟨k, hk, rfl, hg, cur, hcur, hrm⟩ := hrel
      by_cases hlt : k < 3
      · have hlt' : (k : Int) < 3 := by omega
        have hk0 : (0 : Int) ≤ (k : Int) := by omega
        obtain ⟨u0, m0⟩ : ∃ u, wr.cell? ⟨w.heap.size, n + k, none⟩ = some u := by
          rw [cell_of_row _ _ _ _ _ _ hcur]; exact ⟨_, Array.getElem?_eq_getElem (by rw [hrm.1]; omega)⟩
        have f0 := frozen_of_row wr w.heap.size (n + k) _ _ hcur
        have HC := Lib.hid hcur
        have HRM := Lib.hid hrm
        clear hcur hrm
        go_wp2_with fail
        go_roundw
        case rel => exact ⟨k + 1, by omega, by go_num, (hg.setCell (p := ⟨w.heap.size, n + k, none⟩) (by simp) _), _, (heap_setCell_same _ _ (n + k) _ _ _ HC.out), by have := rm_one HRM.out HXL.out rfl hlt; simpa using this⟩
        case measure => simp [intOf]; omega
      · obtain rfl : k = 3 := by omega
        have HE := Lib.hid (RmC.end HXL.out rfl hrm)
        have HC := Lib.hid hcur
        clear hcur hrm
        go_wp2_with fail
        go_ret
        exact ⟨_, rfl, hg, by simp, by rw [HC.out, HE.out]⟩

theorem rinfoS : (Try.prog.info? 53).map (fun i => (i.zero, i.size, i.bytes)) = some (some (.agg #[.int .i64 0, .int .i64 0]), 2, 16) := by kernel_rfl
set_option maxHeartbeats 2000000 in
set_option maxRecDepth 100000 in
theorem roomyS (v : Value) (n : Nat) (xs : List Value) (x0 x1 : Int) (w : World) (hv : RdC 2 w v n xs) (hn : n * 16 ≤ 2 ^ 47) :
    Calls Try.prog 42 #[v, .agg #[.int .i64 x0, .int .i64 x1]] w fun e w' => ∃ g, e = .returned (.slice (some ⟨g, 0, none⟩) n (n + 3)) ∧ Gr w w' ∧ w.heap.size ≤ g ∧ w'.heap[g]? = some (.cells (rmL xs [.int .i64 x0, .int .i64 x1]).toArray 53 (0, 0)) := by
  obtain ⟨i0, hi0, hz0, hz1, hz2⟩ := info_parts rinfoS
  obtain ⟨hx, hone, hcase⟩ := hv
  have hni : (n : Int) ≤ 140737488355328 := by omega
  have hni0 : (0 : Int) ≤ (n : Int) := by omega
  have HONE := Lib.hid hone
  have HXL := Lib.hid hx
  clear hone hx
  have GW := Lib.hid ((Gr.refl w).alloc (.cells #[.int .i64 x0, .int .i64 x1] 53))
  rcases hcase with ⟨rfl, rfl⟩ | ⟨ad, c, rfl, hc, hb, hcl⟩
  · go_enter Try.func42, Try.ntmps42
    go_wp2_with (first | (at_make; refine wpList_make_own _ rfl _ _ 42 rfl w.heap.size 53 i0 _ 2 Try.underlying42 hi0 hz0 hz1 _ _ _ (0 + 3) rfl rfl (by omega) (by rw [hz2]; omega) (by simp only [maxLen]; omega) (by simp) ?_; intro w2 o2 g2; rw [World.size_alloc] at o2) | (at_builtin; refine wpList_append_own_none rfl (.tmp 10) (.tmp 11) 42 rfl w.heap.size 53 i0 2 Try.underlying42 hi0 _ _ _ rfl o2 rfl ?_))
    obtain rfl : xs = [] := List.eq_nil_of_length_eq_zero (by simpa using HXL.out)
    obtain ⟨cur, q1, q2, q3⟩ := own_cur o2
    have Q0 : Hid (∃ cur, w2.heap[(w.heap.size + 1)]? = some (.cells cur 53 (0, 0)) ∧ RmC [] [.int .i64 x0, .int .i64 x1] 0 2 0 cur) := ⟨cur, q1, RmC.start rfl q2 q3⟩
    have GX := Lib.hid (GW.out.grown g2 (fun k e => by cases e))
    have BX : Hid (w2.heap[w.heap.size]? = some (.cells #[.int .i64 x0, .int .i64 x1] 53 (0, 0))) := (g2.block _ (by simp) (by simp)).trans (heap_alloc_new w _)
    clear q1 q2 q3 o2 g2
    go_loopw [13] (fun i wr => ∃ k : Nat, k ≤ 3 ∧ i = .int .i64 k ∧ Gr w wr ∧ wr.heap[w.heap.size]? = some (.cells #[.int .i64 x0, .int .i64 x1] 53 (0, 0)) ∧ ∃ cur, wr.heap[(w.heap.size + 1)]? = some (.cells cur 53 (0, 0)) ∧ RmC [] [.int .i64 x0, .int .i64 x1] 0 2 k cur) (fun i _ => 3 - (intOf i).toNat)
    case atStart => exact ⟨0, by omega, rfl, GX.out, BX.out, Q0.out⟩
    case round =>
      obtain ⟨k, hk, rfl, hg, hbx, cur, hcur, hrm⟩ := hrel
      by_cases hlt : k < 3
      · have hlt' : (k : Int) < 3 := by omega
        have hk0 : (0 : Int) ≤ (k : Int) := by omega
        obtain ⟨u0, m0⟩ : ∃ u, wr.cell? ⟨(w.heap.size + 1), k * 2, none⟩ = some u := by
          rw [cell_of_row _ _ _ _ _ _ hcur]; exact ⟨_, Array.getElem?_eq_getElem (by rw [hrm.1]; omega)⟩
        have f0 := frozen_of_row wr (w.heap.size + 1) (k * 2) _ _ hcur
        have y0 : wr.cell? ⟨w.heap.size, 0, none⟩ = some (.int .i64 x0) := by rw [cell_of_row _ _ _ _ _ _ hbx]; rfl
        obtain ⟨u1, m1⟩ : ∃ u, wr.cell? ⟨(w.heap.size + 1), k * 2 + 1, none⟩ = some u := by
          rw [cell_of_row _ _ _ _ _ _ hcur]; exact ⟨_, Array.getElem?_eq_getElem (by rw [hrm.1]; omega)⟩
        have f1 := frozen_of_row wr (w.heap.size + 1) (k * 2 + 1) _ _ hcur
        have y1 : wr.cell? ⟨w.heap.size, 1, none⟩ = some (.int .i64 x1) := by rw [cell_of_row _ _ _ _ _ _ hbx]; rfl
        have hw3 : IntKind.i64.wrap 3 = 3 := rfl
        have hwk : IntKind.i64.wrap (k : Int) = (k : Int) := IntWalk.i64_in _ (by omega)
        have HC := Lib.hid hcur
        have HRM := Lib.hid hrm
        have HBX := Lib.hid hbx
        clear hcur hrm hbx
        go_wp2_with fail
        go_still_tail 11, (by kernel_rfl)
        change wpList _ _ _ _ _ wr.drew
        go_wp2_with fail
        go_roundw
        case rel => exact ⟨k + 1, by omega, by go_num, ((hg.setCell (p := ⟨(w.heap.size + 1), k * 2, none⟩) (by simp) _).setCell (p := ⟨(w.heap.size + 1), k * 2 + 1, none⟩) (by simp) _).drew, by show (World.drew _).heap[_]? = _; simp only [heap_drew]; rw [heap_setCell_other _ _ _ _ (by simp), heap_setCell_other _ _ _ _ (by simp)]; exact HBX.out, _, (heap_setCell_same _ _ (k * 2 + 1) _ _ _ (heap_setCell_same _ _ (k * 2) _ _ _ HC.out)), by have := rm_two HRM.out rfl rfl hlt; simpa using this⟩
        case measure => simp [intOf]; omega
      · obtain rfl : k = 3 := by omega
        have HE := Lib.hid (RmC.end rfl rfl hrm)
        have HC := Lib.hid hcur
        clear hcur hrm
        go_wp2_with fail
        go_ret
        exact ⟨_, rfl, hg, by simp, by rw [HC.out, HE.out]⟩
  · have HCL : Hid (∀ W, Gr w W → ∀ j u, xs[j]? = some u → W.cell? (ad.add j) = some u) := fun W g j u hj => by
      have hn0 : n ≠ 0 := by rintro rfl; have h := HXL.out; rw [Nat.zero_mul] at h; rw [List.eq_nil_of_length_eq_zero h] at hj; simp at hj
      have hb2 : (ad.add j).block < w.heap.size := by have := hb hn0; unfold Addr.add; split <;> simpa using this
      exact (World.cell?_of_block (Below.block g _ hb2)).trans (hcl j u hj)
    clear hcl
    go_enter Try.func42, Try.ntmps42
    go_wp2_with (first | (at_make; refine wpList_make_own _ rfl _ _ 42 rfl w.heap.size 53 i0 _ 2 Try.underlying42 hi0 hz0 hz1 _ _ _ (n + 3) rfl rfl (by omega) (by rw [hz2]; omega) (by simp only [maxLen]; omega) (by simp) ?_; intro w2 o2 g2; rw [World.size_alloc] at o2) | (at_builtin; refine wpList_append_own_spare _ rfl (.tmp 10) (.tmp 11) 42 rfl w.heap.size 53 i0 2 Try.underlying42 hi0 hz1 _ 0 (n + 3) [] rfl o2 ad n c xs rfl HXL.out (HCL.out _ (GW.out.grown g2 (fun k e => by cases e))) HONE.out (by omega) ?_; intro w3 o3 g3))
    rw [Nat.zero_add, List.nil_append] at o3
    obtain ⟨cur, q1, q2, q3⟩ := own_cur o3
    have Q0 : Hid (∃ cur, w3.heap[(w.heap.size + 1)]? = some (.cells cur 53 (0, 0)) ∧ RmC xs [.int .i64 x0, .int .i64 x1] n 2 0 cur) := ⟨cur, q1, RmC.start HXL.out q2 q3⟩
    have GX := Lib.hid ((GW.out.grown g2 (fun k e => by cases e)).grown g3 (fun k e => by cases e; simp))
    have BX : Hid (w3.heap[w.heap.size]? = some (.cells #[.int .i64 x0, .int .i64 x1] 53 (0, 0))) := ((g3.block _ (by have := g2.size; simp at this; omega) (by simp)).trans (g2.block _ (by simp) (by simp))).trans (heap_alloc_new w _)
    clear q1 q2 q3 o2 o3 g2 g3
    go_loopw [13] (fun i wr => ∃ k : Nat, k ≤ 3 ∧ i = .int .i64 k ∧ Gr w wr ∧ wr.heap[w.heap.size]? = some (.cells #[.int .i64 x0, .int .i64 x1] 53 (0, 0)) ∧ ∃ cur, wr.heap[(w.heap.size + 1)]? = some (.cells cur 53 (0, 0)) ∧ RmC xs [.int .i64 x0, .int .i64 x1] n 2 k cur) (fun i _ => 3 - (intOf i).toNat)
    case atStart => exact ⟨0, by omega, rfl, GX.out, BX.out, Q0.out⟩
    case round =>
      obtain ⟨k, hk, rfl, hg, hbx, cur, hcur, hrm⟩ := hrel
      by_cases hlt : k < 3
      · have hlt' : (k : Int) < 3 := by omega
        have hk0 : (0 : Int) ≤ (k : Int) := by omega
        obtain ⟨u0, m0⟩ : ∃ u, wr.cell? ⟨(w.heap.size + 1), (n + k) * 2, none⟩ = some u := by
          rw [cell_of_row _ _ _ _ _ _ hcur]; exact ⟨_, Array.getElem?_eq_getElem (by rw [hrm.1]; omega)⟩
        have f0 := frozen_of_row wr (w.heap.size + 1) ((n + k) * 2) _ _ hcur
        have y0 : wr.cell? ⟨w.heap.size, 0, none⟩ = some (.int .i64 x0) := by rw [cell_of_row _ _ _ _ _ _ hbx]; rfl
        obtain ⟨u1, m1⟩ : ∃ u, wr.cell? ⟨(w.heap.size + 1), (n + k) * 2 + 1, none⟩ = some u := by
          rw [cell_of_row _ _ _ _ _ _ hcur]; exact ⟨_, Array.getElem?_eq_getElem (by rw [hrm.1]; omega)⟩
        have f1 := frozen_of_row wr (w.heap.size + 1) ((n + k) * 2 + 1) _ _ hcur
        have y1 : wr.cell? ⟨w.heap.size, 1, none⟩ = some (.int .i64 x1) := by rw [cell_of_row _ _ _ _ _ _ hbx]; rfl
        have hw3 : IntKind.i64.wrap ((n : Int) + 3) = (n : Int) + 3 := IntWalk.i64_in _ (by omega)
        have hwk : IntKind.i64.wrap ((n : Int) + (k : Int)) = (n : Int) + (k : Int) := IntWalk.i64_in _ (by omega)
        have h03 : (0 : Int) ≤ (n : Int) + 3 := by omega
        have hnk0 : (0 : Int) ≤ (n : Int) + (k : Int) := by omega
        have hnk3 : (n : Int) + (k : Int) < (n : Int) + 3 := by omega
        have ht3 : ((n : Int) + 3).toNat = n + 3 := by omega
        have htk : ((n : Int) + (k : Int)).toNat = n + k := by omega
        have HC := Lib.hid hcur
        have HRM := Lib.hid hrm
        have HBX := Lib.hid hbx
        clear hcur hrm hbx
        go_wp2_with fail
        go_still_tail 11, (by kernel_rfl)
        change wpList _ _ _ _ _ wr.drew
        go_wp2_with fail
        go_roundw
        case rel => exact ⟨k + 1, by omega, by go_num, ((hg.setCell (p := ⟨(w.heap.size + 1), (n + k) * 2, none⟩) (by simp) _).setCell (p := ⟨(w.heap.size + 1), (n + k) * 2 + 1, none⟩) (by simp) _).drew, by show (World.drew _).heap[_]? = _; simp only [heap_drew]; rw [heap_setCell_other _ _ _ _ (by simp), heap_setCell_other _ _ _ _ (by simp)]; exact HBX.out, _, (heap_setCell_same _ _ ((n + k) * 2 + 1) _ _ _ (heap_setCell_same _ _ ((n + k) * 2) _ _ _ HC.out)), by have := rm_two HRM.out HXL.out rfl hlt; simpa using this⟩
        case measure => simp [intOf]; omega
      · obtain rfl : k = 3 := by omega
        have HE := Lib.hid (RmC.end HXL.out rfl hrm)
        have HC := Lib.hid hcur
        clear hcur hrm
        go_wp2_with fail
        go_ret
        exact ⟨_, rfl, hg, by simp, by rw [HC.out, HE.out]⟩

theorem rinfoN : (Try.prog.info? 40).map (fun i => (i.zero, i.size, i.bytes)) = some (some (.agg #[.int .i64 0, .int .i64 0, .int .i64 0]), 3, 24) := by kernel_rfl
set_option maxHeartbeats 2000000 in
set_option maxRecDepth 100000 in
theorem roomyN (v : Value) (n : Nat) (xs : List Value) (x0 x1 x2 : Int) (w : World) (hv : RdC 3 w v n xs) (hn : n * 24 ≤ 2 ^ 47) :
    Calls Try.prog 16 #[v, .agg #[.int .i64 x0, .int .i64 x1, .int .i64 x2]] w fun e w' => ∃ g, e = .returned (.slice (some ⟨g, 0, none⟩) n (n + 3)) ∧ Gr w w' ∧ w.heap.size ≤ g ∧ w'.heap[g]? = some (.cells (rmL xs [.int .i64 x0, .int .i64 x1, .int .i64 x2]).toArray 40 (0, 0)) := by
  obtain ⟨i0, hi0, hz0, hz1, hz2⟩ := info_parts rinfoN
  obtain ⟨hx, hone, hcase⟩ := hv
  have hni : (n : Int) ≤ 140737488355328 := by omega
  have hni0 : (0 : Int) ≤ (n : Int) := by omega
  have HONE := Lib.hid hone
  have HXL := Lib.hid hx
  clear hone hx
  have GW := Lib.hid ((Gr.refl w).alloc (.cells #[.int .i64 x0, .int .i64 x1, .int .i64 x2] 40))
  rcases hcase with ⟨rfl, rfl⟩ | ⟨ad, c, rfl, hc, hb, hcl⟩
  · go_enter Try.func16, Try.ntmps16
    go_wp2_with (first | (at_make; refine wpList_make_own _ rfl _ _ 22 rfl w.heap.size 40 i0 _ 3 Try.underlying22 hi0 hz0 hz1 _ _ _ (0 + 3) rfl rfl (by omega) (by rw [hz2]; omega) (by simp only [maxLen]; omega) (by simp) ?_; intro w2 o2 g2; rw [World.size_alloc] at o2) | (at_builtin; refine wpList_append_own_none rfl (.tmp 10) (.tmp 11) 22 rfl w.heap.size 40 i0 3 Try.underlying22 hi0 _ _ _ rfl o2 rfl ?_))
    obtain rfl : xs = [] := List.eq_nil_of_length_eq_zero (by simpa using HXL.out)
    obtain ⟨cur, q1, q2, q3⟩ := own_cur o2
    have Q0 : Hid (∃ cur, w2.heap[(w.heap.size + 1)]? = some (.cells cur 40 (0, 0)) ∧ RmC [] [.int .i64 x0, .int .i64 x1, .int .i64 x2] 0 3 0 cur) := ⟨cur, q1, RmC.start rfl q2 q3⟩
    have GX := Lib.hid (GW.out.grown g2 (fun k e => by cases e))
    have BX : Hid (w2.heap[w.heap.size]? = some (.cells #[.int .i64 x0, .int .i64 x1, .int .i64 x2] 40 (0, 0))) := (g2.block _ (by simp) (by simp)).trans (heap_alloc_new w _)
    clear q1 q2 q3 o2 g2
    go_loopw [13] (fun i wr => ∃ k : Nat, k ≤ 3 ∧ i = .int .i64 k ∧ Gr w wr ∧ wr.heap[w.heap.size]? = some (.cells #[.int .i64 x0, .int .i64 x1, .int .i64 x2] 40 (0, 0)) ∧ ∃ cur, wr.heap[(w.heap.size + 1)]? = some (.cells cur 40 (0, 0)) ∧ RmC [] [.int .i64 x0, .int .i64 x1, .int .i64 x2] 0 3 k cur) (fun i _ => 3 - (intOf i).toNat)
    case atStart => exact ⟨0, by omega, rfl, GX.out, BX.out, Q0.out⟩
    case round =>
      obtain ⟨k, hk, rfl, hg, hbx, cur, hcur, hrm⟩ := hrel
      by_cases hlt : k < 3
      · have hlt' : (k : Int) < 3 := by omega
        have hk0 : (0 : Int) ≤ (k : Int) := by omega
        obtain ⟨u0, m0⟩ : ∃ u, wr.cell? ⟨(w.heap.size + 1), k * 3, none⟩ = some u := by
          rw [cell_of_row _ _ _ _ _ _ hcur]; exact ⟨_, Array.getElem?_eq_getElem (by rw [hrm.1]; omega)⟩
        have f0 := frozen_of_row wr (w.heap.size + 1) (k * 3) _ _ hcur
        have y0 : wr.cell? ⟨w.heap.size, 0, none⟩ = some (.int .i64 x0) := by rw [cell_of_row _ _ _ _ _ _ hbx]; rfl
        obtain ⟨u1, m1⟩ : ∃ u, wr.cell? ⟨(w.heap.size + 1), k * 3 + 1, none⟩ = some u := by
          rw [cell_of_row _ _ _ _ _ _ hcur]; exact ⟨_, Array.getElem?_eq_getElem (by rw [hrm.1]; omega)⟩
        have f1 := frozen_of_row wr (w.heap.size + 1) (k * 3 + 1) _ _ hcur
        have y1 : wr.cell? ⟨w.heap.size, 1, none⟩ = some (.int .i64 x1) := by rw [cell_of_row _ _ _ _ _ _ hbx]; rfl
        obtain ⟨u2, m2⟩ : ∃ u, wr.cell? ⟨(w.heap.size + 1), k * 3 + 2, none⟩ = some u := by
          rw [cell_of_row _ _ _ _ _ _ hcur]; exact ⟨_, Array.getElem?_eq_getElem (by rw [hrm.1]; omega)⟩
        have f2 := frozen_of_row wr (w.heap.size + 1) (k * 3 + 2) _ _ hcur
        have y2 : wr.cell? ⟨w.heap.size, 2, none⟩ = some (.int .i64 x2) := by rw [cell_of_row _ _ _ _ _ _ hbx]; rfl
        have hw3 : IntKind.i64.wrap 3 = 3 := rfl
        have hwk : IntKind.i64.wrap (k : Int) = (k : Int) := IntWalk.i64_in _ (by omega)
        have HC := Lib.hid hcur
        have HRM := Lib.hid hrm
        have HBX := Lib.hid hbx
        clear hcur hrm hbx
        go_wp2_with fail
        go_still_tail 11, (by kernel_rfl)
        change wpList _ _ _ _ _ wr.drew
        go_wp2_with fail
        go_roundw
        case rel => exact ⟨k + 1, by omega, by go_num, (((hg.setCell (p := ⟨(w.heap.size + 1), k * 3, none⟩) (by simp) _).setCell (p := ⟨(w.heap.size + 1), k * 3 + 1, none⟩) (by simp) _).setCell (p := ⟨(w.heap.size + 1), k * 3 + 2, none⟩) (by simp) _).drew, by show (World.drew _).heap[_]? = _; simp only [heap_drew]; rw [heap_setCell_other _ _ _ _ (by simp), heap_setCell_other _ _ _ _ (by simp), heap_setCell_other _ _ _ _ (by simp)]; exact HBX.out, _, (heap_setCell_same _ _ (k * 3 + 2) _ _ _ (heap_setCell_same _ _ (k * 3 + 1) _ _ _ (heap_setCell_same _ _ (k * 3) _ _ _ HC.out))), by have := rm_three HRM.out rfl rfl hlt; simpa using this⟩
        case measure => simp [intOf]; omega
      · obtain rfl : k = 3 := by omega
        have HE := Lib.hid (RmC.end rfl rfl hrm)
        have HC := Lib.hid hcur
        clear hcur hrm
        go_wp2_with fail
        go_ret
        exact ⟨_, rfl, hg, by simp, by rw [HC.out, HE.out]⟩
  · have HCL : Hid (∀ W, Gr w W → ∀ j u, xs[j]? = some u → W.cell? (ad.add j) = some u) := fun W g j u hj => by
      have hn0 : n ≠ 0 := by rintro rfl; have h := HXL.out; rw [Nat.zero_mul] at h; rw [List.eq_nil_of_length_eq_zero h] at hj; simp at hj
      have hb2 : (ad.add j).block < w.heap.size := by have := hb hn0; unfold Addr.add; split <;> simpa using this
      exact (World.cell?_of_block (Below.block g _ hb2)).trans (hcl j u hj)
    clear hcl
    go_enter Try.func16, Try.ntmps16
    go_wp2_with (first | (at_make; refine wpList_make_own _ rfl _ _ 22 rfl w.heap.size 40 i0 _ 3 Try.underlying22 hi0 hz0 hz1 _ _ _ (n + 3) rfl rfl (by omega) (by rw [hz2]; omega) (by simp only [maxLen]; omega) (by simp) ?_; intro w2 o2 g2; rw [World.size_alloc] at o2) | (at_builtin; refine wpList_append_own_spare _ rfl (.tmp 10) (.tmp 11) 22 rfl w.heap.size 40 i0 3 Try.underlying22 hi0 hz1 _ 0 (n + 3) [] rfl o2 ad n c xs rfl HXL.out (HCL.out _ (GW.out.grown g2 (fun k e => by cases e))) HONE.out (by omega) ?_; intro w3 o3 g3))
    rw [Nat.zero_add, List.nil_append] at o3
    obtain ⟨cur, q1, q2, q3⟩ := own_cur o3
    have Q0 : Hid (∃ cur, w3.heap[(w.heap.size + 1)]? = some (.cells cur 40 (0, 0)) ∧ RmC xs [.int .i64 x0, .int .i64 x1, .int .i64 x2] n 3 0 cur) := ⟨cur, q1, RmC.start HXL.out q2 q3⟩
    have GX := Lib.hid ((GW.out.grown g2 (fun k e => by cases e)).grown g3 (fun k e => by cases e; simp))
    have BX : Hid (w3.heap[w.heap.size]? = some (.cells #[.int .i64 x0, .int .i64 x1, .int .i64 x2] 40 (0, 0))) := ((g3.block _ (by have := g2.size; simp at this; omega) (by simp)).trans (g2.block _ (by simp) (by simp))).trans (heap_alloc_new w _)
    clear q1 q2 q3 o2 o3 g2 g3
    go_loopw [13] (fun i wr => ∃ k : Nat, k ≤ 3 ∧ i = .int .i64 k ∧ Gr w wr ∧ wr.heap[w.heap.size]? = some (.cells #[.int .i64 x0, .int .i64 x1, .int .i64 x2] 40 (0, 0)) ∧ ∃ cur, wr.heap[(w.heap.size + 1)]? = some (.cells cur 40 (0, 0)) ∧ RmC xs [.int .i64 x0, .int .i64 x1, .int .i64 x2] n 3 k cur) (fun i _ => 3 - (intOf i).toNat)
    case atStart => exact ⟨0, by omega, rfl, GX.out, BX.out, Q0.out⟩
    case round =>
      obtain ⟨k, hk, rfl, hg, hbx, cur, hcur, hrm⟩ := hrel
      by_cases hlt : k < 3
      · have hlt' : (k : Int) < 3 := by omega
        have hk0 : (0 : Int) ≤ (k : Int) := by omega
        obtain ⟨u0, m0⟩ : ∃ u, wr.cell? ⟨(w.heap.size + 1), (n + k) * 3, none⟩ = some u := by
          rw [cell_of_row _ _ _ _ _ _ hcur]; exact ⟨_, Array.getElem?_eq_getElem (by rw [hrm.1]; omega)⟩
        have f0 := frozen_of_row wr (w.heap.size + 1) ((n + k) * 3) _ _ hcur
        have y0 : wr.cell? ⟨w.heap.size, 0, none⟩ = some (.int .i64 x0) := by rw [cell_of_row _ _ _ _ _ _ hbx]; rfl
        obtain ⟨u1, m1⟩ : ∃ u, wr.cell? ⟨(w.heap.size + 1), (n + k) * 3 + 1, none⟩ = some u := by
          rw [cell_of_row _ _ _ _ _ _ hcur]; exact ⟨_, Array.getElem?_eq_getElem (by rw [hrm.1]; omega)⟩
        have f1 := frozen_of_row wr (w.heap.size + 1) ((n + k) * 3 + 1) _ _ hcur
        have y1 : wr.cell? ⟨w.heap.size, 1, none⟩ = some (.int .i64 x1) := by rw [cell_of_row _ _ _ _ _ _ hbx]; rfl
        obtain ⟨u2, m2⟩ : ∃ u, wr.cell? ⟨(w.heap.size + 1), (n + k) * 3 + 2, none⟩ = some u := by
          rw [cell_of_row _ _ _ _ _ _ hcur]; exact ⟨_, Array.getElem?_eq_getElem (by rw [hrm.1]; omega)⟩
        have f2 := frozen_of_row wr (w.heap.size + 1) ((n + k) * 3 + 2) _ _ hcur
        have y2 : wr.cell? ⟨w.heap.size, 2, none⟩ = some (.int .i64 x2) := by rw [cell_of_row _ _ _ _ _ _ hbx]; rfl
        have hw3 : IntKind.i64.wrap ((n : Int) + 3) = (n : Int) + 3 := IntWalk.i64_in _ (by omega)
        have hwk : IntKind.i64.wrap ((n : Int) + (k : Int)) = (n : Int) + (k : Int) := IntWalk.i64_in _ (by omega)
        have h03 : (0 : Int) ≤ (n : Int) + 3 := by omega
        have hnk0 : (0 : Int) ≤ (n : Int) + (k : Int) := by omega
        have hnk3 : (n : Int) + (k : Int) < (n : Int) + 3 := by omega
        have ht3 : ((n : Int) + 3).toNat = n + 3 := by omega
        have htk : ((n : Int) + (k : Int)).toNat = n + k := by omega
        have HC := Lib.hid hcur
        have HRM := Lib.hid hrm
        have HBX := Lib.hid hbx
        clear hcur hrm hbx
        go_wp2_with fail
        go_still_tail 11, (by kernel_rfl)
        change wpList _ _ _ _ _ wr.drew
        go_wp2_with fail
        go_roundw
        case rel => exact ⟨k + 1, by omega, by go_num, (((hg.setCell (p := ⟨(w.heap.size + 1), (n + k) * 3, none⟩) (by simp) _).setCell (p := ⟨(w.heap.size + 1), (n + k) * 3 + 1, none⟩) (by simp) _).setCell (p := ⟨(w.heap.size + 1), (n + k) * 3 + 2, none⟩) (by simp) _).drew, by show (World.drew _).heap[_]? = _; simp only [heap_drew]; rw [heap_setCell_other _ _ _ _ (by simp), heap_setCell_other _ _ _ _ (by simp), heap_setCell_other _ _ _ _ (by simp)]; exact HBX.out, _, (heap_setCell_same _ _ ((n + k) * 3 + 2) _ _ _ (heap_setCell_same _ _ ((n + k) * 3 + 1) _ _ _ (heap_setCell_same _ _ ((n + k) * 3) _ _ _ HC.out))), by have := rm_three HRM.out HXL.out rfl hlt; simpa using this⟩
        case measure => simp [intOf]; omega
      · obtain rfl : k = 3 := by omega
        have HE := Lib.hid (RmC.end HXL.out rfl hrm)
        have HC := Lib.hid hcur
        clear hcur hrm
        go_wp2_with fail
        go_ret
        exact ⟨_, rfl, hg, by simp, by rw [HC.out, HE.out]⟩

theorem rinfoB : (Try.prog.info? 72).map (fun i => (i.zero, i.size, i.bytes)) = some (some (.agg #[.int .i64 0, .int .i64 0, .slice none 0 0]), 3, 40) := by kernel_rfl
set_option maxHeartbeats 2000000 in
set_option maxRecDepth 100000 in
theorem roomyB (v : Value) (n : Nat) (xs : List Value) (x0 x1 : Int) (w : World) (hv : RdC 3 w v n xs) (hn : n * 40 ≤ 2 ^ 47) :
    Calls Try.prog 41 #[v, .agg #[.int .i64 x0, .int .i64 x1, .slice none 0 0]] w fun e w' => ∃ g, e = .returned (.slice (some ⟨g, 0, none⟩) n (n + 3)) ∧ Gr w w' ∧ w.heap.size ≤ g ∧ w'.heap[g]? = some (.cells (rmL xs [.int .i64 x0, .int .i64 x1, .slice none 0 0]).toArray 72 (0, 0)) := by
  obtain ⟨i0, hi0, hz0, hz1, hz2⟩ := info_parts rinfoB
  obtain ⟨hx, hone, hcase⟩ := hv
  have hni : (n : Int) ≤ 140737488355328 := by omega
  have hni0 : (0 : Int) ≤ (n : Int) := by omega
  have HONE := Lib.hid hone
  have HXL := Lib.hid hx
  clear hone hx
  have GW := Lib.hid ((Gr.refl w).alloc (.cells #[.int .i64 x0, .int .i64 x1, .slice none 0 0] 72))
  rcases hcase with ⟨rfl, rfl⟩ | ⟨ad, c, rfl, hc, hb, hcl⟩
  · go_enter Try.func41, Try.ntmps41
    go_wp2_with (first | (at_make; refine wpList_make_own _ rfl _ _ 27 rfl w.heap.size 72 i0 _ 3 Try.underlying27 hi0 hz0 hz1 _ _ _ (0 + 3) rfl rfl (by omega) (by rw [hz2]; omega) (by simp only [maxLen]; omega) (by simp) ?_; intro w2 o2 g2; rw [World.size_alloc] at o2) | (at_builtin; refine wpList_append_own_none rfl (.tmp 10) (.tmp 11) 27 rfl w.heap.size 72 i0 3 Try.underlying27 hi0 _ _ _ rfl o2 rfl ?_))
    obtain rfl : xs = [] := List.eq_nil_of_length_eq_zero (by simpa using HXL.out)
    obtain ⟨cur, q1, q2, q3⟩ := own_cur o2
    have Q0 : Hid (∃ cur, w2.heap[(w.heap.size + 1)]? = some (.cells cur 72 (0, 0)) ∧ RmC [] [.int .i64 x0, .int .i64 x1, .slice none 0 0] 0 3 0 cur) := ⟨cur, q1, RmC.start rfl q2 q3⟩
    have GX := Lib.hid (GW.out.grown g2 (fun k e => by cases e))
    have BX : Hid (w2.heap[w.heap.size]? = some (.cells #[.int .i64 x0, .int .i64 x1, .slice none 0 0] 72 (0, 0))) := (g2.block _ (by simp) (by simp)).trans (heap_alloc_new w _)
    clear q1 q2 q3 o2 g2
    go_loopw [13] (fun i wr => ∃ k : Nat, k ≤ 3 ∧ i = .int .i64 k ∧ Gr w wr ∧ wr.heap[w.heap.size]? = some (.cells #[.int .i64 x0, .int .i64 x1, .slice none 0 0] 72 (0, 0)) ∧ ∃ cur, wr.heap[(w.heap.size + 1)]? = some (.cells cur 72 (0, 0)) ∧ RmC [] [.int .i64 x0, .int .i64 x1, .slice none 0 0] 0 3 k cur) (fun i _ => 3 - (intOf i).toNat)
    case atStart => exact ⟨0, by omega, rfl, GX.out, BX.out, Q0.out⟩
    case round =>
      obtain ⟨k, hk, rfl, hg, hbx, cur, hcur, hrm⟩ := hrel
      by_cases hlt : k < 3
      · have hlt' : (k : Int) < 3 := by omega
        have hk0 : (0 : Int) ≤ (k : Int) := by omega
        obtain ⟨u0, m0⟩ : ∃ u, wr.cell? ⟨(w.heap.size + 1), k * 3, none⟩ = some u := by
          rw [cell_of_row _ _ _ _ _ _ hcur]; exact ⟨_, Array.getElem?_eq_getElem (by rw [hrm.1]; omega)⟩
        have f0 := frozen_of_row wr (w.heap.size + 1) (k * 3) _ _ hcur
        have y0 : wr.cell? ⟨w.heap.size, 0, none⟩ = some (.int .i64 x0) := by rw [cell_of_row _ _ _ _ _ _ hbx]; rfl
        obtain ⟨u1, m1⟩ : ∃ u, wr.cell? ⟨(w.heap.size + 1), k * 3 + 1, none⟩ = some u := by
          rw [cell_of_row _ _ _ _ _ _ hcur]; exact ⟨_, Array.getElem?_eq_getElem (by rw [hrm.1]; omega)⟩
        have f1 := frozen_of_row wr (w.heap.size + 1) (k * 3 + 1) _ _ hcur
        have y1 : wr.cell? ⟨w.heap.size, 1, none⟩ = some (.int .i64 x1) := by rw [cell_of_row _ _ _ _ _ _ hbx]; rfl
        obtain ⟨u2, m2⟩ : ∃ u, wr.cell? ⟨(w.heap.size + 1), k * 3 + 2, none⟩ = some u := by
          rw [cell_of_row _ _ _ _ _ _ hcur]; exact ⟨_, Array.getElem?_eq_getElem (by rw [hrm.1]; omega)⟩
        have f2 := frozen_of_row wr (w.heap.size + 1) (k * 3 + 2) _ _ hcur
        have y2 : wr.cell? ⟨w.heap.size, 2, none⟩ = some (.slice none 0 0) := by rw [cell_of_row _ _ _ _ _ _ hbx]; rfl
        have hw3 : IntKind.i64.wrap 3 = 3 := rfl
        have hwk : IntKind.i64.wrap (k : Int) = (k : Int) := IntWalk.i64_in _ (by omega)
        have HC := Lib.hid hcur
        have HRM := Lib.hid hrm
        have HBX := Lib.hid hbx
        clear hcur hrm hbx
        go_wp2_with fail
        go_still_tail 11, (by kernel_rfl)
        change wpList _ _ _ _ _ wr.drew
        go_wp2_with fail
        go_roundw
        case rel => exact ⟨k + 1, by omega, by go_num, (((hg.setCell (p := ⟨(w.heap.size + 1), k * 3, none⟩) (by simp) _).setCell (p := ⟨(w.heap.size + 1), k * 3 + 1, none⟩) (by simp) _).setCell (p := ⟨(w.heap.size + 1), k * 3 + 2, none⟩) (by simp) _).drew, by show (World.drew _).heap[_]? = _; simp only [heap_drew]; rw [heap_setCell_other _ _ _ _ (by simp), heap_setCell_other _ _ _ _ (by simp), heap_setCell_other _ _ _ _ (by simp)]; exact HBX.out, _, (heap_setCell_same _ _ (k * 3 + 2) _ _ _ (heap_setCell_same _ _ (k * 3 + 1) _ _ _ (heap_setCell_same _ _ (k * 3) _ _ _ HC.out))), by have := rm_three HRM.out rfl rfl hlt; simpa using this⟩
        case measure => simp [intOf]; omega
      · obtain rfl : k = 3 := by omega
        have HE := Lib.hid (RmC.end rfl rfl hrm)
        have HC := Lib.hid hcur
        clear hcur hrm
        go_wp2_with fail
        go_ret
        exact ⟨_, rfl, hg, by simp, by rw [HC.out, HE.out]⟩
  · have HCL : Hid (∀ W, Gr w W → ∀ j u, xs[j]? = some u → W.cell? (ad.add j) = some u) := fun W g j u hj => by
      have hn0 : n ≠ 0 := by rintro rfl; have h := HXL.out; rw [Nat.zero_mul] at h; rw [List.eq_nil_of_length_eq_zero h] at hj; simp at hj
      have hb2 : (ad.add j).block < w.heap.size := by have := hb hn0; unfold Addr.add; split <;> simpa using this
      exact (World.cell?_of_block (Below.block g _ hb2)).trans (hcl j u hj)
    clear hcl
    go_enter Try.func41, Try.ntmps41
    go_wp2_with (first | (at_make; refine wpList_make_own _ rfl _ _ 27 rfl w.heap.size 72 i0 _ 3 Try.underlying27 hi0 hz0 hz1 _ _ _ (n + 3) rfl rfl (by omega) (by rw [hz2]; omega) (by simp only [maxLen]; omega) (by simp) ?_; intro w2 o2 g2; rw [World.size_alloc] at o2) | (at_builtin; refine wpList_append_own_spare _ rfl (.tmp 10) (.tmp 11) 27 rfl w.heap.size 72 i0 3 Try.underlying27 hi0 hz1 _ 0 (n + 3) [] rfl o2 ad n c xs rfl HXL.out (HCL.out _ (GW.out.grown g2 (fun k e => by cases e))) HONE.out (by omega) ?_; intro w3 o3 g3))
    rw [Nat.zero_add, List.nil_append] at o3
    obtain ⟨cur, q1, q2, q3⟩ := own_cur o3
    have Q0 : Hid (∃ cur, w3.heap[(w.heap.size + 1)]? = some (.cells cur 72 (0, 0)) ∧ RmC xs [.int .i64 x0, .int .i64 x1, .slice none 0 0] n 3 0 cur) := ⟨cur, q1, RmC.start HXL.out q2 q3⟩
    have GX := Lib.hid ((GW.out.grown g2 (fun k e => by cases e)).grown g3 (fun k e => by cases e; simp))
    have BX : Hid (w3.heap[w.heap.size]? = some (.cells #[.int .i64 x0, .int .i64 x1, .slice none 0 0] 72 (0, 0))) := ((g3.block _ (by have := g2.size; simp at this; omega) (by simp)).trans (g2.block _ (by simp) (by simp))).trans (heap_alloc_new w _)
    clear q1 q2 q3 o2 o3 g2 g3
    go_loopw [13] (fun i wr => ∃ k : Nat, k ≤ 3 ∧ i = .int .i64 k ∧ Gr w wr ∧ wr.heap[w.heap.size]? = some (.cells #[.int .i64 x0, .int .i64 x1, .slice none 0 0] 72 (0, 0)) ∧ ∃ cur, wr.heap[(w.heap.size + 1)]? = some (.cells cur 72 (0, 0)) ∧ RmC xs [.int .i64 x0, .int .i64 x1, .slice none 0 0] n 3 k cur) (fun i _ => 3 - (intOf i).toNat)
    case atStart => exact ⟨0, by omega, rfl, GX.out, BX.out, Q0.out⟩
    case round =>
      obtain ⟨k, hk, rfl, hg, hbx, cur, hcur, hrm⟩ := hrel
      by_cases hlt : k < 3
      · have hlt' : (k : Int) < 3 := by omega
        have hk0 : (0 : Int) ≤ (k : Int) := by omega
        obtain ⟨u0, m0⟩ : ∃ u, wr.cell? ⟨(w.heap.size + 1), (n + k) * 3, none⟩ = some u := by
          rw [cell_of_row _ _ _ _ _ _ hcur]; exact ⟨_, Array.getElem?_eq_getElem (by rw [hrm.1]; omega)⟩
        have f0 := frozen_of_row wr (w.heap.size + 1) ((n + k) * 3) _ _ hcur
        have y0 : wr.cell? ⟨w.heap.size, 0, none⟩ = some (.int .i64 x0) := by rw [cell_of_row _ _ _ _ _ _ hbx]; rfl
        obtain ⟨u1, m1⟩ : ∃ u, wr.cell? ⟨(w.heap.size + 1), (n + k) * 3 + 1, none⟩ = some u := by
          rw [cell_of_row _ _ _ _ _ _ hcur]; exact ⟨_, Array.getElem?_eq_getElem (by rw [hrm.1]; omega)⟩
        have f1 := frozen_of_row wr (w.heap.size + 1) ((n + k) * 3 + 1) _ _ hcur
        have y1 : wr.cell? ⟨w.heap.size, 1, none⟩ = some (.int .i64 x1) := by rw [cell_of_row _ _ _ _ _ _ hbx]; rfl
        obtain ⟨u2, m2⟩ : ∃ u, wr.cell? ⟨(w.heap.size + 1), (n + k) * 3 + 2, none⟩ = some u := by
          rw [cell_of_row _ _ _ _ _ _ hcur]; exact ⟨_, Array.getElem?_eq_getElem (by rw [hrm.1]; omega)⟩
        have f2 := frozen_of_row wr (w.heap.size + 1) ((n + k) * 3 + 2) _ _ hcur
        have y2 : wr.cell? ⟨w.heap.size, 2, none⟩ = some (.slice none 0 0) := by rw [cell_of_row _ _ _ _ _ _ hbx]; rfl
        have hw3 : IntKind.i64.wrap ((n : Int) + 3) = (n : Int) + 3 := IntWalk.i64_in _ (by omega)
        have hwk : IntKind.i64.wrap ((n : Int) + (k : Int)) = (n : Int) + (k : Int) := IntWalk.i64_in _ (by omega)
        have h03 : (0 : Int) ≤ (n : Int) + 3 := by omega
        have hnk0 : (0 : Int) ≤ (n : Int) + (k : Int) := by omega
        have hnk3 : (n : Int) + (k : Int) < (n : Int) + 3 := by omega
        have ht3 : ((n : Int) + 3).toNat = n + 3 := by omega
        have htk : ((n : Int) + (k : Int)).toNat = n + k := by omega
        have HC := Lib.hid hcur
        have HRM := Lib.hid hrm
        have HBX := Lib.hid hbx
        clear hcur hrm hbx
        go_wp2_with fail
        go_still_tail 11, (by kernel_rfl)
        change wpList _ _ _ _ _ wr.drew
        go_wp2_with fail
        go_roundw
        case rel => exact ⟨k + 1, by omega, by go_num, (((hg.setCell (p := ⟨(w.heap.size + 1), (n + k) * 3, none⟩) (by simp) _).setCell (p := ⟨(w.heap.size + 1), (n + k) * 3 + 1, none⟩) (by simp) _).setCell (p := ⟨(w.heap.size + 1), (n + k) * 3 + 2, none⟩) (by simp) _).drew, by show (World.drew _).heap[_]? = _; simp only [heap_drew]; rw [heap_setCell_other _ _ _ _ (by simp), heap_setCell_other _ _ _ _ (by simp), heap_setCell_other _ _ _ _ (by simp)]; exact HBX.out, _, (heap_setCell_same _ _ ((n + k) * 3 + 2) _ _ _ (heap_setCell_same _ _ ((n + k) * 3 + 1) _ _ _ (heap_setCell_same _ _ ((n + k) * 3) _ _ _ HC.out))), by have := rm_three HRM.out HXL.out rfl hlt; simpa using this⟩
        case measure => simp [intOf]; omega
      · obtain rfl : k = 3 := by omega
        have HE := Lib.hid (RmC.end HXL.out rfl hrm)
        have HC := Lib.hid hcur
        clear hcur hrm
        go_wp2_with fail
        go_ret
        exact ⟨_, rfl, hg, by simp, by rw [HC.out, HE.out]⟩
end Go.Proofs.Ytbodadddcbbjeaa
