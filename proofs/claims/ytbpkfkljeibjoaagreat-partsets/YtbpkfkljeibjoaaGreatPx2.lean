/- Joined: KnH, KnI, KnB, KnC, ConcatD, KnJ, KnD, KnE, Reg, KnF, Reg2, KnK, KnL, KnM, KnN, KnT, KnY. -/
import Derived.Test.YtbpkfkljeibjoaaGreatPx1
import Derived.BigQuiet
import Derived.Deep.QuietTactic
import Derived.IntWalk
import Derived.Lib.SliceRun
import Derived.Deep.LoopGhost
import Derived.Deep.RegionHeld3
import Derived.Lib.AppendZerosOnto
import Derived.Lib.AppendZeros
import Derived.Laws.AppendOwnNone
import Derived.Laws.ResultCell
import Derived.Laws.Rows
import Derived.StillTailTactics
set_option linter.unusedVariables false
set_option linter.unusedSimpArgs false
/- slices.Compact at dots, over a row that is owned. -/
namespace Rm
open Go Go.RowKit
def ddT (l : List (Nat × Nat)) : Nat → List (Nat × Nat)
  | 0 => []
  | i + 1 => match l[i]? with
    | none => ddT l i
    | some d => if 0 < i ∧ l[i - 1]? = some d then ddT l i else ddT l i ++ [d]
theorem ddT_same {l : List (Nat × Nat)} {i : Nat} {d : Nat × Nat} (h : l[i]? = some d) (h' : 0 < i ∧ l[i - 1]? = some d) : ddT l (i + 1) = ddT l i := by
  show (match l[i]? with | none => ddT l i | some d => if 0 < i ∧ l[i - 1]? = some d then ddT l i else ddT l i ++ [d]) = _
  rw [h]; simp only; rw [if_pos h']
theorem ddT_more {l : List (Nat × Nat)} {i : Nat} {d : Nat × Nat} (h : l[i]? = some d) (h' : ¬ (0 < i ∧ l[i - 1]? = some d)) : ddT l (i + 1) = ddT l i ++ [d] := by
  show (match l[i]? with | none => ddT l i | some d => if 0 < i ∧ l[i - 1]? = some d then ddT l i else ddT l i ++ [d]) = _
  rw [h]; simp only; rw [if_neg h']
theorem ddT_all {l : List (Nat × Nat)} : ∀ {k : Nat}, k ≤ l.length → (∀ j, j < k → 0 < j → l[j]? ≠ l[j - 1]?) → ddT l k = l.take k
  | 0, _, _ => by simp [ddT]
  | k + 1, hk, h => by
    obtain ⟨d, hd⟩ : ∃ d, l[k]? = some d := ⟨_, List.getElem?_eq_getElem (by omega)⟩
    rw [ddT_more hd (fun q => h k (by omega) q.1 (by rw [hd, q.2])), ddT_all (by omega) (fun j hj h0 => h j (by omega) h0), List.take_add_one, hd]
    rfl
theorem ddT_mem {l : List (Nat × Nat)} : ∀ {k : Nat}, k ≤ l.length → ∀ x, x ∈ ddT l k ↔ ∃ j, j < k ∧ l[j]? = some x
  | 0, _, x => by simp [ddT]
  | k + 1, hk, x => by
    obtain ⟨d, hd⟩ : ∃ d, l[k]? = some d := ⟨_, List.getElem?_eq_getElem (by omega)⟩
    have ih := ddT_mem (l := l) (k := k) (by omega) x
    by_cases h : 0 < k ∧ l[k - 1]? = some d
    · rw [ddT_same hd h, ih]
      constructor
      · rintro ⟨j, h1, h2⟩; exact ⟨j, by omega, h2⟩
      · rintro ⟨j, h1, h2⟩
        by_cases e : j = k
        · subst e; rw [hd] at h2; exact ⟨j - 1, by omega, by rw [h.2, h2]⟩
        · exact ⟨j, by omega, h2⟩
    · rw [ddT_more hd h, List.mem_append, ih, List.mem_singleton]
      constructor
      · rintro (⟨j, h1, h2⟩ | rfl)
        · exact ⟨j, by omega, h2⟩
        · exact ⟨k, by omega, hd⟩
      · rintro ⟨j, h1, h2⟩
        by_cases e : j = k
        · subst e; rw [hd] at h2; exact .inr (Option.some.inj h2).symm
        · exact .inl ⟨j, by omega, h2⟩
theorem ltD_eq {a b : Nat × Nat} (h : ¬ ltD a b) (h' : ¬ ltD b a) : a = b := by
  obtain ⟨a1, a2⟩ := a
  obtain ⟨b1, b2⟩ := b
  unfold ltD at h h'
  simp only at h h'
  congr <;> omega
theorem ddT_sort {l : List (Nat × Nat)} (hs : l.Pairwise (fun a b => ¬ ltD b a)) : ∀ {k : Nat}, k ≤ l.length → (ddT l k).Pairwise ltD
  | 0, _ => List.Pairwise.nil
  | k + 1, hk => by
    obtain ⟨d, hd⟩ : ∃ d, l[k]? = some d := ⟨_, List.getElem?_eq_getElem (by omega)⟩
    have ih := ddT_sort hs (k := k) (by omega)
    have at' : ∀ {i j : Nat} {x y : Nat × Nat}, i < j → l[i]? = some x → l[j]? = some y → ¬ ltD y x := by
      intro i j x y hij hx hy
      obtain ⟨h1, e1⟩ := List.getElem?_eq_some_iff.1 hx
      obtain ⟨h2, e2⟩ := List.getElem?_eq_some_iff.1 hy
      have := List.pairwise_iff_getElem.1 hs i j h1 h2 hij
      rw [e1, e2] at this
      exact this
    by_cases h : 0 < k ∧ l[k - 1]? = some d
    · rw [ddT_same hd h]; exact ih
    · rw [ddT_more hd h, List.pairwise_append]
      refine ⟨ih, List.pairwise_singleton _ _, fun x hx y hy => ?_⟩
      rw [List.mem_singleton] at hy
      subst hy
      obtain ⟨j, hj, hjx⟩ := (ddT_mem (by omega) x).1 hx
      have h1 := at' hj hjx hd
      apply Classical.byContradiction
      intro hn
      have e := ltD_eq hn h1
      subst e
      apply h
      refine ⟨by omega, ?_⟩
      obtain ⟨z, hz⟩ : ∃ z, l[k - 1]? = some z := ⟨_, List.getElem?_eq_getElem (by omega)⟩
      rw [hz]
      congr 1
      by_cases e : j = k - 1
      · subst e; rw [hz] at hjx; exact Option.some.inj hjx
      · exact (ltD_eq (at' (show k - 1 < k by omega) hz hd) (at' (show j < k - 1 by omega) hjx hz)).symm
def RowD (e : TypeId) (w : World) (g cap : Nat) (c : List (Nat × Nat)) : Prop := c.length ≤ cap ∧ ∃ cur, w.heap[g]? = some (.cells cur e (0, 0)) ∧ cur.size = cap * 2 ∧ cur.toList.take (c.length * 2) = flat (pairs c)
theorem RowD.cell {e : TypeId} {w : World} {g cap : Nat} {c : List (Nat × Nat)} (h : RowD e w g cap c) {i : Nat} {d : Nat × Nat} (hd : c[i]? = some d) :
    w.cell? ⟨g, i * 2, none⟩ = some (.int .i64 (d.1 : Int)) ∧ w.cell? ⟨g, i * 2 + 1, none⟩ = some (.int .i64 (d.2 : Int)) ∧ w.frozen? ⟨g, i * 2, none⟩ = false ∧ w.frozen? ⟨g, i * 2 + 1, none⟩ = false := by
  obtain ⟨hl, cur, hg, hsz, ht⟩ := h
  have hi : i < c.length := (List.getElem?_eq_some_iff.1 hd).1
  have hf := flat_at (pairs c) i _ (pairs_at hd)
  rw [← ht] at hf
  rw [List.getElem?_take_of_lt (by omega), List.getElem?_take_of_lt (by omega)] at hf
  refine ⟨?_, ?_, by simp [World.frozen?, hg], by simp [World.frozen?, hg]⟩
  · have := hf.1; simpa [World.cell?, hg] using this
  · have := hf.2; simpa [World.cell?, hg] using this
theorem hsc {w : World} {B o : Nat} {cur : Array Value} {e : TypeId} {v : Value} (h : w.heap[B]? = some (.cells cur e (0, 0))) : (w.setCell ⟨B, o, none⟩ v).heap[B]? = some (.cells (cur.setIfInBounds o v) e (0, 0)) := by
  simp [World.setCell, Array.getElem?_modify, h]
theorem gset (w : World) (B o : Nat) (v : Value) : w.grownBy (w.setCell ⟨B, o, none⟩ v) (some B) := by
  refine ⟨by simp [World.setCell], by simp [World.setCell], by simp [World.setCell], by simp [World.setCell], fun k hk hne => ?_⟩
  have : B ≠ k := fun e => hne (by rw [e])
  simp [World.setCell, Array.getElem?_modify, this]
theorem flat_setD (c : List (Nat × Nat)) (i : Nat) (d : Nat × Nat) (hi : i < c.length) : ((flat (pairs c)).set (i * 2) (.int .i64 (d.1 : Int))).set (i * 2 + 1) (.int .i64 (d.2 : Int)) = flat (pairs (c.set i d)) := by
  induction c generalizing i with
  | nil => simp at hi
  | cons a c ih =>
    cases i with
    | zero => rfl
    | succ i =>
      have h1 : (i + 1) * 2 = i * 2 + 1 + 1 := by omega
      have := ih i (by simpa using hi)
      simp only [pairs, List.map_cons, flat_cons, List.set_cons_succ, h1] at this ⊢
      rw [this]
theorem take_set2 {α : Type} (L : List α) (n i j : Nat) (x y : α) : ((L.set i x).set j y).take n = ((L.take n).set i x).set j y := by rw [List.take_set, List.take_set]
theorem RowD.put {e : TypeId} {w : World} {g cap : Nat} {c : List (Nat × Nat)} (h : RowD e w g cap c) {i : Nat} (d : Nat × Nat) (hi : i < c.length) :
    RowD e ((w.setCell ⟨g, i * 2, none⟩ (.int .i64 (d.1 : Int))).setCell ⟨g, i * 2 + 1, none⟩ (.int .i64 (d.2 : Int))) g cap (c.set i d) := by
  obtain ⟨hl, cur, hg, hsz, ht⟩ := h
  refine ⟨by simpa using hl, _, hsc (hsc hg), by simpa using hsz, ?_⟩
  rw [← flat_setD c i d hi, ← ht]
  simp only [Array.toList_setIfInBounds, List.length_set]
  exact take_set2 _ _ _ _ _ _
theorem gb_trans {w w1 w2 : World} {g : Nat} (h : w.grownBy w1 (some g)) (k : w1.grownBy w2 (some g)) : w.grownBy w2 (some g) :=
  h.andThen k (fun j e => .inr (by rw [e]))
def CmpAt (l : List (Nat × Nat)) (w wr : World) (g cap k0 k j : Nat) (c : List (Nat × Nat)) : Prop :=
  k0 + j + 1 ≤ l.length ∧ k ≤ k0 + j ∧ c.length = l.length ∧ k = (ddT l (k0 + j + 1)).length ∧ c.take k = ddT l (k0 + j + 1) ∧ (∀ i, k0 + j ≤ i → c[i]? = l[i]?) ∧ RowD 55 wr g cap c ∧ w.grownBy wr (some g)
theorem CmpAt.same {l : List (Nat × Nat)} {w wr wr' : World} {g cap k0 k j : Nat} {c : List (Nat × Nat)} (h : CmpAt l w wr g cap k0 k j c) (hlt : k0 + j + 1 < l.length) (he : l[k0 + j + 1]? = l[k0 + j]?) (hr : RowD 55 wr' g cap c) (hg : wr.grownBy wr' (some g)) : CmpAt l w wr' g cap k0 k (j + 1) c := by
  obtain ⟨h1, h2, h3, h4, h5, h6, h7, h8⟩ := h
  obtain ⟨d, hd⟩ : ∃ d, l[k0 + j + 1]? = some d := ⟨_, List.getElem?_eq_getElem hlt⟩
  have e : ddT l (k0 + (j + 1) + 1) = ddT l (k0 + j + 1) := ddT_same (i := k0 + j + 1) hd ⟨by omega, by rw [show k0 + j + 1 - 1 = k0 + j from rfl, ← he, hd]⟩
  exact ⟨by omega, by omega, h3, by rw [e]; exact h4, by rw [e]; exact h5, fun i hi => h6 i (by omega), hr, gb_trans h8 hg⟩
theorem CmpAt.more {l : List (Nat × Nat)} {w wr wr' : World} {g cap k0 k j : Nat} {c : List (Nat × Nat)} {d : Nat × Nat} (h : CmpAt l w wr g cap k0 k j c) (hd : l[k0 + j + 1]? = some d) (he : l[k0 + j]? ≠ some d) (hr : RowD 55 wr' g cap (c.set k d)) (hg : wr.grownBy wr' (some g)) : CmpAt l w wr' g cap k0 (k + 1) (j + 1) (c.set k d) := by
  obtain ⟨h1, h2, h3, h4, h5, h6, h7, h8⟩ := h
  have hlt : k0 + j + 1 < l.length := (List.getElem?_eq_some_iff.1 hd).1
  have e : ddT l (k0 + (j + 1) + 1) = ddT l (k0 + j + 1) ++ [d] := ddT_more (i := k0 + j + 1) hd (fun q => he q.2)
  refine ⟨by omega, by omega, by simpa using h3, by rw [e, h4]; simp, ?_, fun i hi => ?_, hr, gb_trans h8 hg⟩
  · rw [e, ← h5, List.take_set, List.take_add_one, List.getElem?_eq_getElem (by omega : k < c.length), List.set_append_right _ _ (by simp; omega)]
    have : k - (List.take k c).length = 0 := by simp; omega
    rw [this]
    rfl
  · rw [List.getElem?_set_ne (by omega)]; exact h6 i (by omega)
theorem setCells_block (b : Nat) : ∀ (vs : List Value) (o : Nat) (w : World) (cur : Array Value) (e : TypeId), w.heap[b]? = some (.cells cur e (0, 0)) → ∃ cur', (w.setCells b o vs).heap[b]? = some (.cells cur' e (0, 0)) ∧ cur'.size = cur.size ∧ ∀ n, n ≤ o → cur'.toList.take n = cur.toList.take n
  | [], o, w, cur, e, h => ⟨cur, h, rfl, fun _ _ => rfl⟩
  | v :: vs, o, w, cur, e, h => by
    obtain ⟨cur', h1, h2, h3⟩ := setCells_block b vs (o + 1) _ _ e (hsc (o := o) (v := v) h)
    refine ⟨cur', h1, by simpa using h2, fun n hn => ?_⟩
    rw [h3 n (by omega), Array.toList_setIfInBounds, List.take_set, List.set_eq_of_length_le (by simp; omega)]
theorem setCells_grown (b : Nat) : ∀ (vs : List Value) (o : Nat) (w : World), w.grownBy (w.setCells b o vs) (some b)
  | [], o, w => ⟨rfl, rfl, rfl, Nat.le_refl _, fun _ _ _ => rfl⟩
  | v :: vs, o, w => gb_trans (gset w b o v) (setCells_grown b vs (o + 1) _)
end Rm
namespace Go.Proofs.YtbpkfkljeibjoaaGreat
open Go.RowKit Rm
def zsD (n : Nat) : List Value := (Builtin.zeroCells #[.int .i64 0, .int .i64 0] n).toList
theorem zsD_len (n : Nat) : (zsD n).length = n * 2 := by simp [zsD, Builtin.zeroCells]
theorem zsD_one (n : Nat) : ∀ v ∈ zsD n, v.oneCell' = true := by
  intro v hv
  simp only [zsD, Builtin.zeroCells, Array.toList_map, List.mem_map] at hv
  obtain ⟨i, _, rfl⟩ := hv
  have h2 : i % 2 = 0 ∨ i % 2 = 1 := by omega
  rcases h2 with h | h <;> simp [h, Value.oneCell']
theorem run_clear_dots (w : World) (ty : TypeId) (b o n c : Nat) (hn : 0 < n) (hc : ∀ j, j < n * 2 → (w.cell? ⟨b, o + j, none⟩).isSome = true) (hf : ∀ j, j < n * 2 → w.frozen? ⟨b, o + j, none⟩ = false) :
    (Builtin.clear_ #[31] ty #[.slice (some ⟨b, o, none⟩) n c]).run Tryz.prog w = .ok (.tuple #[]) (w.setCells b o (zsD n)) := by
  have hst := run_storeCells_cells (P := Tryz.prog) b o (zsD n) 0 w (by rw [zsD_len]; simpa using hc) (by rw [zsD_len]; simpa using hf) (zsD_one n)
  simp only [Nat.add_zero] at hst
  have hv : ∀ w, (zeroValue 55).run Tryz.prog w = .ok (.agg #[.int .i64 0, .int .i64 0]) w := Tryz.zeroValue55
  have hzc : (Builtin.zeroCells (Value.agg #[.int .i64 0, .int .i64 0]).cells n).toList = zsD n := rfl
  obtain ⟨m, rfl⟩ : ∃ m, n = m + 1 := ⟨n - 1, by omega⟩
  simp [Builtin.clear_, run_underlying Tryz.underlying31, hv, hzc, hst]
theorem flat_takeP (c : List (Nat × Nat)) (k : Nat) : (flat (pairs c)).take (k * 2) = flat (pairs (c.take k)) := by
  induction c generalizing k with
  | nil => simp [pairs, flat]
  | cons a c ih =>
    cases k with
    | zero => simp [pairs, flat]
    | succ k =>
      have h1 : (k + 1) * 2 = k * 2 + 1 + 1 := by omega
      have := ih k
      simp only [pairs, List.map_cons, flat_cons, List.take_succ_cons, h1] at this ⊢
      rw [this]
theorem gb_refl (w : World) (g : Nat) : w.grownBy w (some g) := ⟨rfl, rfl, rfl, Nat.le_refl _, fun _ _ _ => rfl⟩
theorem gb_drewN (w : World) (g q : Nat) : w.grownBy (w.drewN q) (some g) := ⟨rfl, rfl, rfl, Nat.le_refl _, fun _ _ _ => rfl⟩
theorem drewN_add (w : World) (q m : Nat) : (w.drewN q).drewN m = w.drewN (q + m) := by
  simp [World.drewN, Nat.add_assoc]
theorem RowD.drewN {e : TypeId} {w : World} {g cap : Nat} {c : List (Nat × Nat)} (h : RowD e w g cap c) (q : Nat) : RowD e (w.drewN q) g cap c := h
theorem RowD.shrink {e : TypeId} {w : World} {g cap k : Nat} {c : List (Nat × Nat)} {vs : List Value} (h : RowD e w g cap c) (hk : k ≤ c.length) : RowD e (w.setCells g (k * 2) vs) g cap (c.take k) := by
  obtain ⟨hl, cur, hg, hsz, ht⟩ := h
  obtain ⟨cur', h1, h2, h3⟩ := setCells_block g vs (k * 2) w cur e hg
  refine ⟨by simp; omega, cur', h1, by rw [h2, hsz], ?_⟩
  have hlen : (c.take k).length = k := by simp; omega
  rw [hlen, h3 _ (Nat.le_refl _)]
  have : cur.toList.take (k * 2) = (cur.toList.take (c.length * 2)).take (k * 2) := by rw [List.take_take, Nat.min_eq_left (by omega)]
  rw [this, ht]
  exact flat_takeP _ _
set_option maxHeartbeats 4000000 in
set_option maxRecDepth 100000 in
theorem compact_row (l : List (Nat × Nat)) (g cap : Nat) (w : World) (hr : RowD 55 w g cap l) (hn : l.length ≤ 1000) :
    Calls Tryz.prog 131 #[.slice (some ⟨g, 0, none⟩) l.length cap] w fun e w' => e = .returned (.slice (some ⟨g, 0, none⟩) (ddT l l.length).length cap) ∧ RowD 55 w' g cap (ddT l l.length) ∧ w.grownBy w' (some g) := by
  have HR := Lib.hid hr
  have hnI : (l.length : Int) ≤ 1000 := by omega
  have hcap : l.length ≤ cap := hr.1
  by_cases h2 : l.length < 2
  · have HE : Hid (ddT l l.length = l) := by
      show _ = _
      rw [ddT_all (Nat.le_refl _) (fun j h1 h3 => by omega)]; simp
    have h2I : (l.length : Int) < 2 := by omega
    clear hr
    go_enter Tryz.func131, Tryz.ntmps131
    go_wp2
    go_ret
    rw [HE.out]
    exact ⟨rfl, HR.out, gb_refl _ _⟩
  · have h2I : ¬ (l.length : Int) < 2 := by omega
    clear hr
    go_enter Tryz.func131, Tryz.ntmps131
    go_wp2
    go_loopg [3] l.length (fun gh s3 wr => ∃ k : Nat, 1 ≤ k ∧ k ≤ l.length ∧ l.length - k ≤ gh ∧ s3 = .int .i64 (k : Int) ∧ (∃ q, wr = w.drewN q) ∧ ∀ j, j < k → 0 < j → l[j]? ≠ l[j - 1]?)
    case atStart => exact ⟨1, by omega, by omega, by omega, rfl, ⟨0, rfl⟩, fun j h1 h3 => by omega⟩
    case round =>
      obtain ⟨k, hk1, hk, hg, rfl, ⟨q, hwr⟩, hall⟩ := hrel
      have HA := Lib.hid hall
      have HW := Lib.hid hwr
      have HRr : Hid (RowD 55 wr g cap l) := by rw [hwr]; exact RowD.drewN HR.out q
      clear hall hwr
      by_cases hlt : k < l.length
      · obtain ⟨p, hkp⟩ : ∃ p, k = p + 1 := ⟨k - 1, by omega⟩
        obtain ⟨x, hx⟩ : ∃ x, l[p]? = some x := ⟨_, List.getElem?_eq_getElem (by omega)⟩
        obtain ⟨y, hy⟩ : ∃ y, l[k]? = some y := ⟨_, List.getElem?_eq_getElem (by omega)⟩
        obtain ⟨a0, a1, a2, a3⟩ := RowD.cell HRr.out hx
        obtain ⟨b0, b1, b2, b3⟩ := RowD.cell HRr.out hy
        have hltI : (k : Int) < (l.length : Int) := by omega
        have hsub : (k : Int) - 1 = (p : Int) := by omega
        have hpI : (p : Int) < (l.length : Int) := by omega
        have hwp : IntKind.i64.wrap (p : Int) = (p : Int) := IntWalk.i64_in _ (by omega)
        have HX := Lib.hid hx
        have HY := Lib.hid hy
        have HK := Lib.hid hkp
        obtain ⟨x1, x2⟩ := x
        obtain ⟨y1, y2⟩ := y
        simp only at a0 a1 b0 b1
        clear hx hy a2 a3 b2 b3 hkp
        by_cases hdup : (y1, y2) = (x1, x2)
        · obtain ⟨rfl, rfl⟩ := Prod.mk.inj hdup
          clear hdup
          have HS : Hid (∀ m, CmpAt l w (wr.drewN m) g cap k k 0 l) := by
            intro m
            have hks := HK.out
            have e1 : ddT l (k + 1) = ddT l k := ddT_same (i := k) HY.out ⟨by omega, by rw [show k - 1 = p by omega]; exact HX.out⟩
            have e2 : ddT l k = l.take k := ddT_all (by omega) HA.out
            refine ⟨by omega, by omega, rfl, ?_, ?_, fun i _ => rfl, RowD.drewN HRr.out m, ?_⟩
            · show k = (ddT l (k + 1)).length
              rw [e1, e2]; simp; omega
            · show l.take k = ddT l (k + 1)
              rw [e1, e2]
            · rw [HW.out]; exact gb_trans (gb_drewN w g q) (gb_drewN _ g m)
          go_wp2_with fail
          go_quiet (fail)
          have HI := Lib.hid (HS.out nq)
          generalize (wr.drewN nq) = w1 at *
          clear HS a0 a1 b0 b1
          have hkc : k ≤ cap := by omega
          go_wp2
          generalize hn2 : l.length - k = n2 at *
          have HN2 := Lib.hid hn2
          clear hn2
          go_loopg [3, 5] l.length (fun gh s3 s5 wr => ∃ (i j j' : Nat) (c : List (Nat × Nat)), s3 = .int .i64 (i : Int) ∧ s5 = .int .i64 (j : Int) ∧ j = j' + 1 ∧ l.length - (k + j) ≤ gh ∧ CmpAt l w wr g cap k i j' c)
          case atStart => exact ⟨k, 1, 0, l, rfl, rfl, rfl, by omega, HI.out⟩
          case round =>
            obtain ⟨i, j, j', c, rfl, rfl, hjj, hg2, hat⟩ := hrel
            have HT := Lib.hid hat
            have HJ := Lib.hid hjj
            have hij : i ≤ k + j' := hat.2.1
            have hcl : c.length = l.length := hat.2.2.1
            have hle : k + j ≤ l.length := by have := hat.1; omega
            clear hat hjj
            by_cases hjl : k + j < l.length
            · obtain ⟨x, hx⟩ : ∃ x, l[k + j]? = some x := ⟨_, List.getElem?_eq_getElem (by omega)⟩
              obtain ⟨y, hy⟩ : ∃ y, l[k + j']? = some y := ⟨_, List.getElem?_eq_getElem (by have := HJ.out; omega)⟩
              obtain ⟨z, hz⟩ : ∃ z, c[i]? = some z := ⟨_, List.getElem?_eq_getElem (by have := HJ.out; omega)⟩
              have hRow := HT.out.2.2.2.2.2.2.1
              have hhi := HT.out.2.2.2.2.2.1
              have hx' := (hhi (k + j) (by have := HJ.out; omega)).trans hx
              have hy' := (hhi (k + j') (by omega)).trans hy
              obtain ⟨a0, a1, a2, a3⟩ := RowD.cell hRow hx'
              obtain ⟨b0, b1, b2, b3⟩ := RowD.cell hRow hy'
              obtain ⟨d0, d1, d2, d3⟩ := RowD.cell hRow hz
              have o1 : (k + j) * 2 = k * 2 + j * 2 := by omega
              have o2 : (k + j') * 2 = k * 2 + j' * 2 := by omega
              rw [o1] at a0 a1
              rw [o2] at b0 b1
              have HX2 := Lib.hid hx
              have HY2 := Lib.hid hy
              have hjI : (j : Int) < (n2 : Int) := by have := HN2.out; omega
              have hsub : (j : Int) - 1 = (j' : Int) := by have := HJ.out; omega
              have hj'I : (j' : Int) < (n2 : Int) := by omega
              have hiI : (i : Int) < (l.length : Int) := by have := HJ.out; omega
              have hjb : (j : Int) ≤ 1000 := by omega
              have hwj : IntKind.i64.wrap (j' : Int) = (j' : Int) := IntWalk.i64_in _ (by omega)
              have HRow := Lib.hid hRow
              have HIC : Hid (i < c.length) := by show _ < _; have := HJ.out; omega
              obtain ⟨x1, x2⟩ := x
              obtain ⟨y1, y2⟩ := y
              obtain ⟨z1, z2⟩ := z
              simp only at a0 a1 b0 b1 d0 d1
              clear hx hy hz hx' hy' hRow hhi a2 a3 b2 b3 o1 o2
              by_cases hsame : (x1, x2) = (y1, y2)
              · obtain ⟨rfl, rfl⟩ := Prod.mk.inj hsame
                clear hsame
                have HN : Hid (∀ m, CmpAt l w (wr.drewN m) g cap k i (j' + 1) c) := fun m => CmpAt.same HT.out (by have := HJ.out; omega) (by rw [show k + j' + 1 = k + j by have := HJ.out; omega, HX2.out, HY2.out]) (RowD.drewN HRow.out m) (gb_drewN _ g m)
                go_wp2_with fail
                go_quiet (fail)
                go_wp2
                go_roundg (l.length - (k + (j + 1)))
                case measure => omega
                case rel => exact ⟨i, j + 1, j' + 1, c, rfl, by go_num, by rw [HJ.out], Nat.le_refl _, HN.out _⟩
              · have HN : Hid (∀ m, CmpAt l w (((wr.drewN m).setCell ⟨g, i * 2, none⟩ (.int .i64 (x1 : Int))).setCell ⟨g, i * 2 + 1, none⟩ (.int .i64 (x2 : Int))) g cap k (i + 1) (j' + 1) (c.set i (x1, x2))) := fun m =>
                  CmpAt.more (d := (x1, x2)) HT.out (by rw [show k + j' + 1 = k + j by have := HJ.out; omega, HX2.out]) (by rw [HY2.out]; intro e; exact hsame (Option.some.inj e).symm) (RowD.put (RowD.drewN HRow.out m) (x1, x2) HIC.out) (gb_trans (gb_drewN _ g m) (gb_trans (gset _ g _ _) (gset _ g _ _)))
                have hne : ¬ (x1 = y1 ∧ x2 = y2) := fun e => hsame (by rw [e.1, e.2])
                clear hsame
                have hcase : (¬ x1 = y1) ∨ (x1 = y1 ∧ ¬ x2 = y2) := by omega
                rcases hcase with h1 | ⟨rfl, h1⟩
                · clear hne
                  go_wp2_with fail
                  go_quiet (fail)
                  go_wp2
                  go_roundg (l.length - (k + (j + 1)))
                  case measure => omega
                  case rel => exact ⟨i + 1, j + 1, j' + 1, _, by go_num, by go_num, by rw [HJ.out], Nat.le_refl _, HN.out _⟩
                · clear hne
                  have h1I : ¬ (x2 : Int) = (y2 : Int) := by omega
                  go_wp2_with fail
                  go_quiet (fail)
                  go_wp2
                  go_roundg (l.length - (k + (j + 1)))
                  case measure => omega
                  case rel => exact ⟨i + 1, j + 1, j' + 1, _, by go_num, by go_num, by rw [HJ.out], Nat.le_refl _, HN.out _⟩
            · have hend : k + j = l.length := by omega
              have hjI : ¬ (j : Int) < (n2 : Int) := by have := HN2.out; omega
              have hil : i < l.length := by have := HJ.out; omega
              have hRow := HT.out.2.2.2.2.2.2.1
              have hblk := hRow.2
              have hclr : ∀ ty, (Builtin.clear_ #[31] ty #[.slice (some ⟨g, i * 2, none⟩) (l.length - i) (cap - i)]).run Tryz.prog wr = .ok (.tuple #[]) (wr.setCells g (i * 2) (zsD (l.length - i))) := fun ty => by
                obtain ⟨cur, hgc, hsz, htk⟩ := hblk
                exact run_clear_dots wr ty g (i * 2) _ _ (by omega) (fun m hm => by simp only [World.cell?, hgc]; simp; omega) (fun m hm => by simp [World.frozen?, hgc])
              have HF : Hid ((ddT l l.length).length = i ∧ RowD 55 (wr.setCells g (i * 2) (zsD (l.length - i))) g cap (ddT l l.length) ∧ w.grownBy (wr.setCells g (i * 2) (zsD (l.length - i))) (some g)) := by
                obtain ⟨q1, q2, q3, q4, q5, q6, q7, q8⟩ := HT.out
                have e : k + j' + 1 = l.length := by have := HJ.out; omega
                rw [e] at q4 q5
                refine ⟨q4.symm, ?_, gb_trans q8 (setCells_grown g _ _ _)⟩
                rw [← q5]
                exact RowD.shrink q7 (by omega)
              have hiI : (i : Int) < (l.length : Int) := by omega
              clear hRow hblk
              go_wp2
              go_ret
              obtain ⟨f1, f2, f3⟩ := HF.out
              exact ⟨by rw [f1]; rfl, f2, f3⟩
        · have HN : Hid (∀ j, j < k + 1 → 0 < j → l[j]? ≠ l[j - 1]?) := fun j h1 h3 => by
            by_cases e : j = k
            · subst e
              rw [show j - 1 = p by have := HK.out; omega, HX.out, HY.out]
              intro e; exact hdup (Option.some.inj e)
            · exact HA.out j (by omega) h3
          have hcase : (¬ y1 = x1) ∨ (y1 = x1 ∧ ¬ y2 = x2) := by
            by_cases e : y1 = x1
            · exact .inr ⟨e, fun e' => hdup (by rw [e, e'])⟩
            · exact .inl e
          clear hdup
          rcases hcase with h1 | ⟨rfl, h1⟩
          · go_wp2_with fail
            go_quiet (fail)
            go_wp2
            go_roundg (l.length - (k + 1))
            case measure => omega
            case rel => exact ⟨k + 1, by omega, by omega, Nat.le_refl _, by go_num, ⟨q + nq, by rw [HW.out]; exact (drewN_add ..)⟩, HN.out⟩
          · have h1I : ¬ (y2 : Int) = (x2 : Int) := by omega
            go_wp2_with fail
            go_quiet (fail)
            go_wp2
            go_roundg (l.length - (k + 1))
            case measure => omega
            case rel => exact ⟨k + 1, by omega, by omega, Nat.le_refl _, by go_num, ⟨q + nq, by rw [HW.out]; exact (drewN_add ..)⟩, HN.out⟩
      · obtain rfl : k = l.length := by omega
        have HE : Hid (ddT l l.length = l) := by
          show _ = _
          rw [ddT_all (Nat.le_refl _) HA.out]; simp
        go_wp2
        go_ret
        rw [HE.out]
        exact ⟨rfl, HRr.out, by rw [HW.out]; exact gb_drewN w g q⟩
theorem compact_own (l : List (Nat × Nat)) (v : Value) (w : World) (base : Nat) (hl : l.length ≤ 1000) (ho : w.ownsRow base 55 2 v l.length (flat (pairs l))) :
    Calls Tryz.prog 131 #[v] w fun e w' => ∃ u, e = .returned u ∧ u.ownBlock = v.ownBlock ∧ w'.ownsRow base 55 2 u (ddT l l.length).length (flat (pairs (ddT l l.length))) ∧ w.grownBy w' v.ownBlock := by
  obtain ⟨hxl, ⟨rfl, hn⟩ | ⟨g, cap, cur, rfl, hbg, hg, hnc, hcm, hcs, htake⟩⟩ := ho
  · obtain rfl : l = [] := List.eq_nil_of_length_eq_zero hn
    go_enter Tryz.func131, Tryz.ntmps131
    go_wp2
    go_ret
    exact ⟨_, rfl, rfl, World.ownsRow_nil _ _ _ _, ⟨rfl, rfl, rfl, Nat.le_refl _, fun _ _ _ => rfl⟩⟩
  · refine (compact_row l g cap w ⟨hnc, cur, hg, hcs, htake⟩ hl).mono ?_
    rintro e w' ⟨rfl, ⟨h1, cur', h2, h3, h4⟩, h5⟩
    exact ⟨_, rfl, rfl, ⟨by rw [flat_len, pairs_len], .inr ⟨g, cap, cur', rfl, hbg, h2, h1, hcm, h3, h4⟩⟩, h5⟩
end Go.Proofs.YtbpkfkljeibjoaaGreat
/- What know.build computes: the form of the dots up to the counts and of those in a sorted list. -/
namespace Rm
open Go Go.RowKit
def setC (v : List Nat) (s n : Nat) : List Nat := (five v).set s n
theorem cv_setC (v : List Nat) (s n t : Nat) (hs : s < 5) (ht : t < 5) : cv (setC v s n) t = if t = s then n else cv v t := by
  unfold setC
  by_cases h : t = s
  · subst h
    rw [if_pos rfl]; unfold cv
    rw [List.getD_eq_getElem?_getD, List.getElem?_set_self (by simp [five]; omega)]; rfl
  · rw [if_neg h]
    have := five_at v t ht
    unfold cv
    rw [List.getD_eq_getElem?_getD, List.getElem?_set_ne (fun e => h e.symm), this]; rfl
structure BInv (v0 : List Nat) (pre : List (Nat × Nat)) (v : List Nat) (m : List (Nat × Nat)) : Prop where
  le : ∀ s, s < 5 → cv v s ≤ 1000
  dots : ∀ d ∈ m, d.1 < 5 ∧ d.2 ≤ 1000 ∧ cv v d.1 + 2 ≤ d.2
  sort : m.Pairwise ltD
  sub : ∀ d ∈ m, d ∈ pre
  len : m.length ≤ pre.length
  mem : ∀ s c, inR s c → (memB v m s c = true ↔ (1 ≤ c ∧ c ≤ cv v0 s) ∨ (s, c) ∈ pre)
theorem BInv.start (v : List Nat) (h : ∀ s, s < 5 → cv v s ≤ 1000) : BInv v [] v [] where
  le := h
  dots := fun d hd => by simp at hd
  sort := List.Pairwise.nil
  sub := fun d hd => by simp at hd
  len := Nat.le_refl _
  mem := fun s c _ => by rw [memB_iff]
theorem BInv.up {v0 v : List Nat} {pre m : List (Nat × Nat)} {s c : Nat} (h : BInv v0 pre v m) (hs : ∀ x ∈ pre, ltD x (s, c)) (hr : inR s c) (he : c = cv v s + 1) : BInv v0 (pre ++ [(s, c)]) (setC v s c) m := by
  obtain ⟨r1, r2, r3⟩ := hr
  have hno : ∀ d ∈ m, d.1 ≠ s := by
    intro d hd e
    have h1 := hs d (h.sub d hd)
    have h2 := (h.dots d hd).2.2
    unfold ltD at h1
    simp only at h1
    rw [e] at h2
    omega
  refine ⟨fun t ht => ?_, fun d hd => ?_, h.sort, fun d hd => List.mem_append_left _ (h.sub d hd), by have := h.len; simp; omega, fun t n ht => ?_⟩
  · rw [cv_setC v s c t r1 ht]; split
    · exact r3
    · exact h.le t ht
  · have hd' := h.dots d hd
    rw [cv_setC v s c d.1 r1 hd'.1, if_neg (hno d hd)]
    exact hd'
  · have h1 := h.mem t n ht
    rw [memB_iff] at h1 ⊢
    rw [cv_setC v s c t r1 ht.1, List.mem_append, List.mem_singleton, Prod.mk.injEq]
    by_cases e : t = s
    · subst e
      rw [if_pos rfl]
      have hm : (t, n) ∉ m := fun q => hno _ q rfl
      have h2 : (1 ≤ n ∧ n ≤ cv v t) ↔ (1 ≤ n ∧ n ≤ cv v0 t) ∨ (t, n) ∈ pre := by
        rw [← h1]; simp [hm]
      constructor
      · rintro (⟨q1, q2⟩ | q)
        · by_cases e' : n = c
          · exact .inr (.inr ⟨rfl, e'⟩)
          · rcases h2.1 ⟨q1, by omega⟩ with k | k
            · exact .inl k
            · exact .inr (.inl k)
        · exact absurd q hm
      · rintro (q | q | q)
        · have := h2.2 (.inl q); exact .inl ⟨this.1, by omega⟩
        · have := h2.2 (.inr q); exact .inl ⟨this.1, by omega⟩
        · exact .inl ⟨by omega, by omega⟩
    · rw [if_neg e, h1]
      constructor
      · rintro (q | q)
        · exact .inl q
        · exact .inr (.inl q)
      · rintro (q | q | q)
        · exact .inl q
        · exact .inr q
        · exact absurd q.1 e
theorem BInv.more {v0 v : List Nat} {pre m : List (Nat × Nat)} {s c : Nat} (h : BInv v0 pre v m) (hs : ∀ x ∈ pre, ltD x (s, c)) (hr : inR s c) (he : cv v s + 2 ≤ c) : BInv v0 (pre ++ [(s, c)]) v (m ++ [(s, c)]) := by
  obtain ⟨r1, r2, r3⟩ := hr
  refine ⟨h.le, fun d hd => ?_, ?_, fun d hd => ?_, by have := h.len; simp; omega, fun t n ht => ?_⟩
  · rcases List.mem_append.1 hd with q | q
    · exact h.dots d q
    · rw [List.mem_singleton] at q; subst q; exact ⟨r1, r3, he⟩
  · rw [List.pairwise_append]
    refine ⟨h.sort, List.pairwise_singleton _ _, fun x hx y hy => ?_⟩
    rw [List.mem_singleton] at hy; subst hy
    exact hs x (h.sub x hx)
  · rcases List.mem_append.1 hd with q | q
    · exact List.mem_append_left _ (h.sub d q)
    · exact List.mem_append_right _ q
  · have h1 := h.mem t n ht
    rw [memB_iff] at h1 ⊢
    rw [List.mem_append, List.mem_append, ← or_assoc, ← or_assoc, h1]
theorem BInv.old {v0 v : List Nat} {pre m : List (Nat × Nat)} {s c : Nat} (h : BInv v0 pre v m) (hr : inR s c) (he : c ≤ cv v s) : BInv v0 (pre ++ [(s, c)]) v m := by
  refine ⟨h.le, h.dots, h.sort, fun d hd => List.mem_append_left _ (h.sub d hd), by have := h.len; simp; omega, fun t n ht => ?_⟩
  have h1 := h.mem t n ht
  rw [h1, List.mem_append, List.mem_singleton, Prod.mk.injEq]
  constructor
  · rintro (q | q)
    · exact .inl q
    · exact .inr (.inl q)
  · rintro (q | q | ⟨rfl, rfl⟩)
    · exact .inl q
    · exact .inr q
    · exact h1.1 ((memB_iff ..).2 (.inl ⟨hr.2.1, he⟩))
def upD (v : List Nat) (l : List (Nat × Nat)) : DS := fun s c => decide (1 ≤ c ∧ c ≤ cv v s) || l.contains (s, c)
theorem BInv.okv {v0 v : List Nat} {pre m : List (Nat × Nat)} (h : BInv v0 pre v m) : OkV (trimL (five v)) m where
  len := Nat.le_trans (trimL_len _) (by simp [five])
  le := fun x hx => by
    have h1 := trimL_mem _ x hx
    simp only [five, List.mem_cons, List.not_mem_nil, or_false] at h1
    rcases h1 with q | q | q | q | q <;> rw [q] <;> exact h.le _ (by omega)
  last := trimL_last _
  dots := fun d hd => by
    have h1 := h.dots d hd
    rw [trimL_cv, cv_five, if_pos h1.1]; exact h1
  sort := h.sort
theorem BInv.form {v0 v : List Nat} {pre m : List (Nat × Nat)} (h : BInv v0 pre v m) : formV (upD v0 pre) = trimL (five v) ∧ formM (upD v0 pre) = m := by
  refine h.okv.form (fun s c hr => ?_)
  rw [Bool.eq_iff_iff]
  have h1 := h.mem s c hr
  rw [memB_iff] at h1 ⊢
  rw [trimL_cv, cv_five, if_pos hr.1, h1]
  simp [upD]
theorem upD_congr {v : List Nat} {l l' : List (Nat × Nat)} (h : ∀ d, d ∈ l ↔ d ∈ l') : upD v l = upD v l' := by
  funext s c
  rw [Bool.eq_iff_iff]
  simp [upD, h]
end Rm
/- know.Check and its parts; Count. -/
namespace Go.Proofs.YtbpkfkljeibjoaaGreat
open Go.RowKit Rm
theorem badV_at {V : List Int} {k : Nat} {x : Int} (h : V[k]? = some x) : badV V k = if x < 0 ∨ 1000 < x then 1 else 0 := by unfold badV; rw [h]
set_option maxHeartbeats 1000000 in
set_option maxRecDepth 100000 in
theorem checkVec_any (v : Value) (V : List Int) (w : World) (hr : R1 w v V) (hl : V.length ≤ 5) :
    Calls Tryz.prog 122 #[v] w fun e w' => e = .returned (.int .i64 (chkV V)) ∧ Gr w w' := by
  obtain ⟨a, c, rfl, hc, hx⟩ := hr
  by_cases h0 : V = []
  · subst h0
    go_enter Tryz.func122, Tryz.ntmps122
    go_wp2
    go_loop [2, 4, 7, 8, 9, 10, 11, 12, 13, 14, 15, 16, 17] (fun r x i a1 a2 a3 a4 a5 a6 a7 a8 a9 a10 => i = .int .i64 0) (fun _ _ _ _ _ _ _ _ _ _ _ _ _ => 0)
    case atStart => rfl
    case round =>
      subst hrel
      go_wp2
      go_ret
      exact ⟨rfl, Gr.refl _⟩
  · obtain ⟨b, off, rfl, hb, hcell⟩ := hx h0
    have hpos : 0 < V.length := List.length_pos_iff.2 h0
    have hlast : ∃ y, V.getLast? = some y ∧ w.cell? ⟨b, off + (V.length - 1), none⟩ = some (.int .i64 y) := by
      obtain ⟨y, hy⟩ : ∃ y, V[V.length - 1]? = some y := ⟨_, List.getElem?_eq_getElem (by omega)⟩
      exact ⟨y, by rw [List.getLast?_eq_getElem?]; exact hy, hcell _ _ hy⟩
    obtain ⟨y, hy, hyc⟩ := hlast
    have hlen : (V.length : Int) ≤ 5 := by omega
    have HC := Lib.hid hcell
    clear hx hcell
    go_enter Tryz.func122, Tryz.ntmps122
    go_wp2
    go_loop [2, 4, 7, 8, 9, 10, 11, 12, 13, 14, 15, 16, 17] (fun r x i a1 a2 a3 a4 a5 a6 a7 a8 a9 a10 => ∃ k : Nat, k ≤ V.length ∧ i = .int .i64 k ∧ ∀ j, j < k → badV V j = 0) (fun _ _ i _ _ _ _ _ _ _ _ _ _ => V.length - (intOf i).toNat)
    case atStart => exact ⟨0, by omega, rfl, fun j hj => by omega⟩
    case round =>
      obtain ⟨k, hk, rfl, hz⟩ := hrel
      have HZ := Lib.hid hz
      by_cases hkl : k < V.length
      · obtain ⟨x, hx⟩ : ∃ x, V[k]? = some x := ⟨_, List.getElem?_eq_getElem hkl⟩
        have hcx := HC.out k x hx
        have hkI : (k : Int) < (V.length : Int) := by omega
        have HB := Lib.hid (badV_at hx)
        by_cases hbad : x < 0 ∨ 1000 < x
        · have HR : Hid (chkV V = 1) := by
            show _ = _
            unfold chkV
            have h1 : badV V k = 1 := by rw [HB.out, if_pos hbad]
            rw [first_some HZ.out hkl (by rw [h1]; decide), h1]; rfl
          clear hz hx HZ HB
          go_wp2
          all_goals first
            | (exfalso; omega)
            | (go_ret; exact ⟨by rw [HR.out]; rfl, Gr.refl _⟩)
        · have HN : Hid (∀ j, j < k + 1 → badV V j = 0) := fun j hj => by
            by_cases e : j = k
            · subst e; rw [HB.out, if_neg hbad]
            · exact HZ.out j (by omega)
          have b1 : ¬ x < 0 := fun e => hbad (.inl e)
          have b2 : x ≤ 1000 := by omega
          clear hz hx HZ HB hbad
          go_wp2
          all_goals first
            | (exfalso; omega)
            | (go_round
               case rel => exact ⟨k + 1, by omega, by go_num, HN.out⟩
               case measure => simp [intOf]; omega)
      · obtain rfl : k = V.length := by omega
        have HF : Hid (chkV V = if y = 0 then 3 else 0) := by
          show _ = _
          unfold chkV
          rw [first_none HZ.out, if_neg (by simp), hy]
          simp only [Option.some.injEq]
        clear hz HZ
        have h1 : (V.length : Int) - 1 = ((V.length - 1 : Nat) : Int) := by omega
        by_cases hy0 : y = 0
        · subst hy0
          go_wp2
          all_goals first
            | (exfalso; omega)
            | (go_ret; exact ⟨by rw [HF.out]; rfl, Gr.refl _⟩)
        · go_wp2
          all_goals first
            | (exfalso; omega)
            | (go_ret; exact ⟨by rw [HF.out, if_neg hy0]; rfl, Gr.refl _⟩)
end Go.Proofs.YtbpkfkljeibjoaaGreat
/- know.checkMore, Check, checkBoth, Count. -/
namespace Go.Proofs.YtbpkfkljeibjoaaGreat
open Go.RowKit Rm
theorem badM_dot {v : List Nat} {M : List (Int × Int)} {k : Nat} {d : Int × Int} (h : M[k]? = some d) (hd : dotB d = false) : badM v M k = 1 := by
  unfold badM; rw [h]; simp [hd]
theorem badM_low {v : List Nat} {M : List (Int × Int)} {k s c : Nat} (h : M[k]? = some ((s : Int), (c : Int))) (hd : dotB ((s : Int), (c : Int)) = true) (hc : c < cv v s + 2) : badM v M k = 3 := by
  unfold badM; rw [h]; simp only [hd]; rw [if_neg (by simp), if_pos (.inl (by simp; omega))]
theorem badM_fst {v : List Nat} {M : List (Int × Int)} {s c : Nat} (h : M[0]? = some ((s : Int), (c : Int))) (hd : dotB ((s : Int), (c : Int)) = true) (hc : cv v s + 2 ≤ c) : badM v M 0 = 0 := by
  unfold badM; rw [h]; simp only [hd]; rw [if_neg (by simp), if_neg (by simp; omega)]
theorem badM_nxt {v : List Nat} {M : List (Int × Int)} {k s c s' c' : Nat} (h : M[k + 1]? = some ((s : Int), (c : Int))) (h' : M[k]? = some ((s' : Int), (c' : Int))) (hd : dotB ((s : Int), (c : Int)) = true) (hc : cv v s + 2 ≤ c) :
    badM v M (k + 1) = if 0 ≤ cmpD (s', c') (s, c) then 3 else 0 := by
  unfold badM
  rw [h]
  simp only [hd, Nat.add_sub_cancel]
  rw [List.getD_eq_getElem?_getD, h', if_neg (by simp)]
  by_cases q : ltD (s', c') (s, c)
  · rw [if_neg (c := 0 ≤ cmpD (s', c') (s, c)) (by rw [cmpD_ge]; exact fun e => e q), if_neg]
    rintro (e | ⟨_, e⟩)
    · simp at e; omega
    · apply e; unfold ltD at q; unfold ltI; simp at q ⊢; omega
  · rw [if_pos (c := 0 ≤ cmpD (s', c') (s, c)) (by rw [cmpD_ge]; exact q), if_pos]
    refine .inr ⟨by omega, fun e => q ?_⟩
    unfold ltI at e; unfold ltD; simp at e ⊢; omega
theorem cell_cArr {w : World} {g : Nat} {t : TypeId} {fr : Nat × Nat} {v : List Nat} (h : w.heap[g]? = some (.cells (cArr v) t fr)) {s : Nat} (hs : s < 5) : w.cell? ⟨g, s, none⟩ = some (.int .i64 (cv v s : Nat)) := by
  match s, hs with
  | 0, _ => simp [World.cell?, h, cArr]
  | 1, _ => simp [World.cell?, h, cArr]
  | 2, _ => simp [World.cell?, h, cArr]
  | 3, _ => simp [World.cell?, h, cArr]
  | 4, _ => simp [World.cell?, h, cArr]
theorem dot_nat {d : Int × Int} (h : dotB d = true) : ∃ s c : Nat, d = ((s : Int), (c : Int)) ∧ s < 5 ∧ 1 ≤ c ∧ c ≤ 1000 := by
  obtain ⟨x, y⟩ := d
  have := (dotB_iff _).1 h
  simp only at this
  exact ⟨x.toNat, y.toNat, by congr <;> omega, by omega, by omega, by omega⟩
theorem beside_gr {f : Nat} {args : Array Value} {w : World} {A : Ending → World → Prop} (h : Calls Tryz.prog f args w A) (hg : ∀ e w', A e w' → Gr w w') {S : World → Prop} (hS : ∀ w', Gr w w' → S w') : Calls Tryz.prog f args w (fun e w' => A e w' ∧ S w') :=
  h.mono fun e w' a => ⟨a, hS w' (hg e w' a)⟩
set_option maxHeartbeats 4000000 in
set_option maxRecDepth 100000 in
theorem checkMore_any (m : Value) (v : List Nat) (M : List (Int × Int)) (w : World) (hr : Rd2 w m M) (hl : M.length ≤ 60) (hv : ∀ x ∈ v, x ≤ 1000) :
    Calls Tryz.prog 123 #[m, .agg (cArr v)] w fun e w' => e = .returned (.int .i64 (chkM v M)) ∧ Gr w w' := by
  obtain ⟨a, c, rfl, hc, hx⟩ := hr
  have G1 := Lib.hid ((Gr.refl w).alloc (.cells (cArr v) 130))
  have B1 : Hid ((w.alloc (.cells (cArr v) 130)).heap[w.heap.size]? = some (.cells (cArr v) 130 (0, 0))) := al_new _ _ _ rfl
  have HX := Lib.hid hx
  have HV := Lib.hid hv
  have HLI : (M.length : Int) ≤ 60 := by omega
  have hwlt : Hid (w.heap.size < (w.alloc (.cells (cArr v) 130)).heap.size) := by show _ < _; simp
  clear hx hv
  go_enter Tryz.func123, Tryz.ntmps123
  go_wp2
  generalize w.alloc (.cells (cArr v) 130) = w1 at *
  go_loopw [4, 5, 6, 9, 10, 11, 12, 13, 14, 15, 16, 17, 18, 19, 20, 21, 22, 23, 24, 25, 26, 27, 28, 29, 30, 31, 32, 33, 34, 35, 36, 37, 38, 39] (fun _ _ _ i _ _ _ _ _ _ _ _ _ _ _ _ _ _ _ _ _ _ _ _ _ _ _ _ _ _ _ _ _ _ wr => ∃ k : Nat, k ≤ M.length ∧ i = .int .i64 k ∧ Gr w1 wr ∧ ∀ j, j < k → badM v M j = 0) (fun _ _ _ i _ _ _ _ _ _ _ _ _ _ _ _ _ _ _ _ _ _ _ _ _ _ _ _ _ _ _ _ _ _ _ => M.length - (intOf i).toNat)
  case atStart => exact ⟨0, by omega, rfl, Gr.refl _, fun j hj => by omega⟩
  case round =>
    obtain ⟨k, hk, rfl, gr, hz⟩ := hrel
    have HZ := Lib.hid hz
    have GR := Lib.hid gr
    clear hz gr
    by_cases hkl : k < M.length
    · obtain ⟨d, hd⟩ : ∃ d, M[k]? = some d := ⟨_, List.getElem?_eq_getElem hkl⟩
      obtain ⟨b, off, rfl, hb, hcell⟩ := HX.out (by intro e; rw [e] at hkl; simp at hkl)
      have hkI : (k : Int) < (M.length : Int) := by omega
      have G01 := Lib.hid (G1.out.trans GR.out)
      have q1 := (G01.out.cells.1 b (off + k * 2) hb).trans (hcell k d hd).1
      have q2 := (G01.out.cells.1 b (off + k * 2 + 1) hb).trans (hcell k d hd).2
      have HCell := Lib.hid hcell
      clear hcell
      have HD := Lib.hid (dot_any d)
      by_cases hdot : dotB d = true
      · obtain ⟨s, cc, rfl, hs5, hc1, hc2⟩ := dot_nat hdot
        simp only at q1 q2
        rw [hdot] at HD
        have hcv := Lib.hid (cv_le HV.out s)
        have HM1 : Hid (cc < cv v s + 2 → badM v M k = 3) := fun e => badM_low hd hdot e
        have HM2 : Hid (k = 0 → cv v s + 2 ≤ cc → badM v M k = 0) := fun e e' => by subst e; exact badM_fst hd hdot e'
        have HM3 : Hid (∀ k', k = k' + 1 → cv v s + 2 ≤ cc → ∃ s' c' : Nat, M[k']? = some ((s' : Int), (c' : Int)) ∧ badM v M k = if 0 ≤ cmpD (s', c') (s, cc) then 3 else 0) := by
          intro k' e e'
          subst e
          obtain ⟨p, hp⟩ : ∃ p, M[k']? = some p := ⟨_, List.getElem?_eq_getElem (by omega)⟩
          obtain ⟨s', c', rfl, _⟩ := dot_nat (badM_zero HZ.out k' p (by omega) hp).1
          exact ⟨s', c', hp, badM_nxt hd hp hdot e'⟩
        have B2 := Lib.hid (cell_cArr ((Below.block GR.out _ hwlt.out).trans B1.out) hs5)
        generalize cv v s = n at *
        go_wp2_with (first | (go_at_call 79; refine (HD.out _).mono ?_; rintro e w3 ⟨rfl, g3⟩; have G3 := Lib.hid g3; clear g3))
        have GA : Hid (Gr wr w3) := (((Gr.refl wr).alloc (.cells #[.int .i64 (s : Int), .int .i64 (cc : Int)] 55))).trans G3.out
        have T1 := (Two.new wr s cc 55).gr G3.out
        have B3 := (GA.out.cells.1 _ s (Nat.lt_of_lt_of_le hwlt.out GR.out.le)).trans B2.out
        have GW := Lib.hid (G01.out.trans GA.out)
        have GL := Lib.hid (GR.out.trans GA.out)
        obtain ⟨t0, t1, t2⟩ := T1
        have hn0 : (n : Int) ≤ 1000 := by have := hcv.out; omega
        have hs5' : (s : Int) < 5 := by omega
        have hccI : (cc : Int) ≤ 1000 := by omega
        clear G3 HD q1 q2 B2
        generalize wr.heap.size = gd at *
        by_cases hA : cc < n + 2
        · have hA' : (cc : Int) < (n : Int) + 2 := by omega
          have HR : Hid (chkM v M = 3) := by
            show _ = _
            have h1 : badM v M k = 3 := HM1.out hA
            unfold chkM
            rw [first_some HZ.out hkl (by rw [h1]; decide), h1]
          go_quiet (fail)
          go_wp2
          go_ret
          exact ⟨by rw [HR.out]; rfl, GW.out.drewN _⟩
        · have hA' : decide ((cc : Int) < (n : Int) + 2) = false := by simp; omega
          by_cases hk0 : k = 0
          · subst hk0
            have HN : Hid (∀ j, j < 0 + 1 → badM v M j = 0) := fun j hj => by
              obtain rfl : j = 0 := by omega
              exact HM2.out rfl (by omega)
            go_quiet (fail)
            go_wp2
            go_roundw
            case rel => exact ⟨0 + 1, by omega, by go_num, GL.out.drewN _, HN.out⟩
            case measure => simp [intOf]; omega
          · obtain ⟨k', rfl⟩ : ∃ k', k = k' + 1 := ⟨k - 1, by omega⟩
            obtain ⟨s', c', hp, hbm⟩ := HM3.out k' rfl (by omega)
            have HBM := Lib.hid hbm
            have p1 := (GW.out.cells.1 b (off + k' * 2) hb).trans (HCell.out k' _ hp).1
            have p2 := (GW.out.cells.1 b (off + k' * 2 + 1) hb).trans (HCell.out k' _ hp).2
            simp only at p1 p2
            have hbw := Nat.lt_of_lt_of_le hb GW.out.le
            have hgw : w.heap.size < w3.heap.size := Nat.lt_of_lt_of_le hwlt.out (GL.out.le)
            have hk1 : ((k' + 1 : Nat) : Int) - 1 = (k' : Int) := by omega
            have hk2 : (k' : Int) < (M.length : Int) := by omega
            have HCM := Lib.hid (compare_any (s', c') (s, cc))
            clear hbm HM1 HM2 HM3
            have hcd' : ((k' : Int) + 1) > 0 := by omega
            generalize cmpD (s', c') (s, cc) = r at *
            have hw1 : IntKind.i64.wrap ((n : Int) + 2) = (n : Int) + 2 := IntWalk.i64_in _ (by omega)
            have hw2 : IntKind.i64.wrap ((k' : Int) + 1 - 1) = (k' : Int) := by rw [show (k' : Int) + 1 - 1 = (k' : Int) by omega]; exact IntWalk.i64_in _ (by omega)
            have hw3 : IntKind.i64.wrap (k' : Int) = (k' : Int) := IntWalk.i64_in _ (by omega)
            have hle : (n : Int) + 2 ≤ (cc : Int) := by omega
            go_still_tail 18, (by kernel_rfl)
            change wpList _ _ _ _ _ w3.drew
            have GW1 := Lib.hid GW.out.drew
            have GL1 := Lib.hid GL.out.drew
            clear GW GL t0 t1 t2 B3 p1 p2 hw1 hw2 hw3 hle hbw hgw GA
            generalize w3.drew = w4 at *
            by_cases hr : 0 ≤ r
            · have HR : Hid (chkM v M = 3) := by
                show _ = _
                have h1 : badM v M (k' + 1) = 3 := by rw [HBM.out, if_pos hr]
                unfold chkM
                rw [first_some HZ.out hkl (by rw [h1]; decide), h1]
              go_wp2_with (first | (go_at_call 130; refine (HCM.out _).mono ?_; rintro e w5 ⟨rfl, g5⟩; have G5 := Lib.hid g5.1; clear g5))
              go_ret
              exact ⟨by rw [HR.out]; rfl, GW1.out.trans G5.out⟩
            · have HN : Hid (∀ j, j < k' + 1 + 1 → badM v M j = 0) := fun j hj => by
                by_cases e : j = k' + 1
                · subst e; rw [HBM.out, if_neg hr]
                · exact HZ.out j (by omega)
              have hr' : decide (0 ≤ r) = false := decide_eq_false hr
              go_wp2_with (first | (go_at_call 130; refine (HCM.out _).mono ?_; rintro e w5 ⟨rfl, g5⟩; have G5 := Lib.hid g5.1; clear g5))
              go_roundw
              case rel => exact ⟨k' + 1 + 1, by omega, by go_num, GL1.out.trans G5.out, HN.out⟩
              case measure => simp [intOf]; omega
      · rw [Bool.not_eq_true] at hdot
        rw [hdot] at HD
        have HR : Hid (chkM v M = 1) := by
          show _ = _
          have h1 : badM v M k = 1 := badM_dot hd hdot
          unfold chkM
          rw [first_some HZ.out hkl (by rw [h1]; decide), h1]
        go_wp2_with (first | (go_at_call 79; refine (HD.out _).mono ?_; rintro e w3 ⟨rfl, g3⟩; have G3 := Lib.hid g3; clear g3))
        go_ret
        exact ⟨by rw [HR.out]; rfl, (G01.out.alloc _).trans G3.out⟩
    · obtain rfl : k = M.length := by omega
      have HF : Hid (chkM v M = 0) := first_none HZ.out
      go_wp2
      go_ret
      exact ⟨by rw [HF.out]; rfl, G1.out.trans GR.out⟩
end Go.Proofs.YtbpkfkljeibjoaaGreat
/- The contracts of slices.Grow at nil and of slices.Concat, over dots. -/
namespace Go.Proofs.YtbpkfkljeibjoaaGreat
open Go.RowKit Rm
theorem ccd_info : (Tryz.prog.info? 55).map (fun i => (i.zero, i.size, i.bytes)) = some (some (.agg #[.int .i64 0, .int .i64 0]), 2, 16) := by kernel_rfl
theorem own_formD {w : World} {base : Nat} {e : TypeId} {s n : Nat} {v : Value} {xs : List Value} (h : w.ownsRow base e s v n xs) : ∃ a c, v = .slice a n c ∧ n ≤ c := by
  rcases h.2 with ⟨rfl, rfl⟩ | ⟨g, cap, cur, rfl, _, _, hn, _⟩
  · exact ⟨none, 0, rfl, Nat.le_refl _⟩
  · exact ⟨_, cap, rfl, hn⟩
def RoomD (w w' : World) (v : Value) : Prop := Gr w w' ∧ w'.ownsRow w.heap.size 55 2 v 0 []
set_option maxHeartbeats 1000000 in
set_option maxRecDepth 100000 in
theorem growD_nil (n : Nat) (w : World) (hn : n ≤ 1000) :
    Calls Tryz.prog 133 #[.slice none 0 0, .int .i64 (n : Int)] w fun e w' => ∃ v, e = .returned v ∧ RoomD w w' v := by
  obtain ⟨i0, hi0, hz0, hz1, hz2⟩ := info_parts ccd_info
  by_cases h0 : n = 0
  · subst h0
    go_enter Tryz.func133, Tryz.ntmps133
    go_wp2
    go_ret
    exact ⟨_, rfl, Gr.refl _, World.ownsRow_nil _ _ _ _⟩
  · have hold : (Builtin.firstCells i0.size 0 (.slice none 0 0)).run Tryz.prog w.drew = .ok ([] : List Value).toArray w.drew := run_firstCells_none w.drew i0.size 0 0 0
    have hrz : ∀ ty, (Builtin.append_ #[31, 3] ty #[.slice none 0 0, .int .i64 (n : Int)]).run Tryz.prog w = _ := fun ty =>
      Lib.run_append_grow_zeros w 31 3 ty 55 i0 _ .i64 .i64 Tryz.underlying31 Tryz.underlying3 hi0 hz0 none 0 0 [] hold n (by omega) (by rw [hz1]; omega) (by omega) (by omega)
        (by rw [hz2]; omega) (by rw [hz2]; exact growslice_fits (by omega) (by omega))
    have HRZ := Lib.hid hrz
    have hGn : 0 + n ≤ grownCap w (0 + n) 0 55 := grownCap_ge w _ _ _
    have hGm : grownCap w (0 + n) 0 55 ≤ maxLen := grownCap_le_maxLen w (0 + n) 0 55 (by unfold maxLen; omega)
    rw [Nat.zero_add] at hGn hGm
    have h1 : (0 : Int) < (n : Int) := by omega
    have h2 : ¬ ((n : Int) < 0) := by omega
    clear hold hrz hz0 hi0
    go_enter Tryz.func133, Tryz.ntmps133
    go_wp2_with (at_builtin; refine Lib.wpList_append_run _ rfl _ _ _ _ rfl _ _ rfl rfl _ _ (HRZ.out _) ?_)
    go_ret
    refine ⟨_, rfl, ((Gr.refl w).drew).alloc _, ?_⟩
    have hb : w.heap.size ≤ w.drew.heap.size := Nat.le_refl _
    refine World.ownsRow_made (base := w.heap.size) (e := 55) (size := 2) w.drew _ _ hb hGm ?_
    simp only [Array.size_append, size_zeroCells]
    show n * 2 + (grownCap w n 0 55 - n) * 2 = grownCap w n 0 55 * 2
    omega
def SrcD (w : World) (bb : Nat) (X : List (Nat × List Value)) : Prop :=
  bb < w.heap.size ∧ ∀ i p, X[i]? = some p → ∃ v, w.cell? ⟨bb, i, none⟩ = some v ∧ RdC 2 w v p.1 p.2
def sumD (X : List (Nat × List Value)) : Nat := (X.map (·.1)).sum
def catD (X : List (Nat × List Value)) : List Value := (X.map (·.2)).flatten
theorem sumD_take {X : List (Nat × List Value)} {k : Nat} {p : Nat × List Value} (h : X[k]? = some p) : sumD (X.take (k + 1)) = sumD (X.take k) + p.1 := by
  obtain ⟨hk, e⟩ := List.getElem?_eq_some_iff.1 h
  rw [List.take_succ_eq_append_getElem hk, e]
  simp [sumD]
theorem catD_take {X : List (Nat × List Value)} {k : Nat} {p : Nat × List Value} (h : X[k]? = some p) : catD (X.take (k + 1)) = catD (X.take k) ++ p.2 := by
  obtain ⟨hk, e⟩ := List.getElem?_eq_some_iff.1 h
  rw [List.take_succ_eq_append_getElem hk, e]
  simp [catD]
theorem sumD_app (a b : List (Nat × List Value)) : sumD (a ++ b) = sumD a + sumD b := by simp [sumD]
theorem sumD_le (X : List (Nat × List Value)) (k : Nat) : sumD (X.take k) ≤ sumD X := by
  have h := sumD_app (X.take k) (X.drop k)
  rw [List.take_append_drop] at h
  omega
set_option maxHeartbeats 2000000 in
set_option maxRecDepth 100000 in
theorem concatD (X : List (Nat × List Value)) (bb cap : Nat) (w : World) (hX : SrcD w bb X) (hs : sumD X ≤ 1000) (hl : X.length ≤ 10) :
    Calls Tryz.prog 82 #[.slice (some ⟨bb, 0, none⟩) X.length cap] w fun e w' => ∃ v, e = .returned v ∧ Gr w w' ∧ w'.ownsRow w.heap.size 55 2 v (sumD X) (catD X) := by
  obtain ⟨i0, hi0, hz0, hz1, hz2⟩ := info_parts ccd_info
  have HX := Lib.hid hX
  have HSL := Lib.hid (sumD_le X)
  have hl' : (X.length : Int) ≤ 10 := by omega
  have hbb := hX.1
  clear hX
  go_enter Tryz.func82, Tryz.ntmps82
  go_wp2
  go_loop [3, 11] (fun a i => ∃ k : Nat, k ≤ X.length ∧ i = .int .i64 k ∧ a = .int .i64 (sumD (X.take k) : Nat)) (fun _ i => X.length - (intOf i).toNat)
  case atStart => exact ⟨0, by omega, rfl, rfl⟩
  case round =>
    obtain ⟨k, hk, rfl, rfl⟩ := hrel
    by_cases hlt : k < X.length
    · obtain ⟨p, hp⟩ : ∃ p, X[k]? = some p := ⟨_, List.getElem?_eq_getElem hlt⟩
      obtain ⟨v0, c1, pl, p1, hv0⟩ := HX.out.2 k p hp
      have HS := Lib.hid (sumD_take hp)
      have hs1 := HSL.out (k + 1)
      have hs2 : sumD (X.take k) + p.1 ≤ 1000 := by rw [← sumD_take hp]; omega
      have hk10 : (k : Int) < 10 := by omega
      obtain ⟨ao, c, rfl⟩ : ∃ ao c, v0 = .slice ao p.1 c := by
        rcases hv0 with ⟨rfl, z⟩ | ⟨ad, c, rfl, _⟩
        · exact ⟨none, 0, by rw [z]⟩
        · exact ⟨some ad, c, rfl⟩
      clear hp hs1 hv0
      generalize sumD (X.take k) = sk at *
      have hs3 : (sk : Int) + (p.1 : Int) ≤ 1000 := by omega
      have hs4 : ¬ ((sk : Int) + (p.1 : Int) < 0) := by omega
      go_wp2_with fail
      go_round
      case rel => exact ⟨k + 1, by omega, by go_num, by rw [HS.out]; simp⟩
      case measure => simp [intOf]; omega
    · obtain rfl : k = X.length := by omega
      rw [List.take_length]
      go_wp2_with fail
      refine (growD_nil (sumD X) _ hs).mono ?_
      rintro e w1 ⟨v, rfl, hg1, ho1⟩
      have HO1 := Lib.hid ho1
      have HG1 := Lib.hid hg1
      clear hg1 ho1
      go_wp2_with fail
      go_loopw [6, 27] (fun v i wr => ∃ k : Nat, k ≤ X.length ∧ i = .int .i64 k ∧ Gr w wr ∧ wr.ownsRow w.heap.size 55 2 v (sumD (X.take k)) (catD (X.take k))) (fun _ i _ => X.length - (intOf i).toNat)
      case atStart => exact ⟨0, by omega, rfl, HG1.out, HO1.out⟩
      case round =>
        obtain ⟨k, hk, rfl, hg, hown⟩ := hrel
        by_cases hlt : k < X.length
        · obtain ⟨p, hp⟩ : ∃ p, X[k]? = some p := ⟨_, List.getElem?_eq_getElem hlt⟩
          obtain ⟨v0, c1, hv0⟩ := HX.out.2 k p hp
          obtain ⟨pl, p1, ⟨rfl, z1⟩ | ⟨ad, c, rfl, hnc, hb, hc⟩⟩ := hv0.gr hg
          · rw [← hg.cells.1 bb _ hbb] at c1
            have HS := Lib.hid (sumD_take hp)
            have HC := Lib.hid (catD_take hp)
            have z2 : p.2 = [] := List.eq_nil_of_length_eq_zero (by simp [pl, z1])
            rw [z1] at HS
            rw [z2] at HC
            have hk10 : (k : Int) < 10 := by omega
            have HO := Lib.hid hown
            obtain ⟨va, vc, rfl, hvc⟩ := own_formD hown
            clear hp hown z1 z2 hv0 pl p1
            go_wp2_with (at_builtin; refine wpList_append_own_none rfl (.tmp 31) (.tmp 32) 31 rfl w.heap.size 55 i0 2 Tryz.underlying31 hi0 _ _ _ rfl HO.out rfl ?_)
            go_roundw
            case rel => exact ⟨k + 1, by omega, by go_num, hg, by rw [HS.out, HC.out, List.append_nil]; exact HO.out⟩
            case measure => simp [intOf]; omega
          · rw [← hg.cells.1 bb _ hbb] at c1
            have HP := Lib.hid hc
            have HS := Lib.hid (sumD_take hp)
            have HC := Lib.hid (catD_take hp)
            have hs1 := HSL.out (k + 1)
            have hs2 : sumD (X.take k) + p.1 ≤ 1000 := by rw [← sumD_take hp]; omega
            have hk10 : (k : Int) < 10 := by omega
            have HPL := Lib.hid pl
            have HP1 := Lib.hid p1
            have HO := Lib.hid hown
            obtain ⟨va, vc, rfl, hvc⟩ := own_formD hown
            clear hp hs1 hc pl p1 hown hv0 hb
            generalize sumD (X.take k) = sk at *
            go_wp2_with (at_builtin; refine wpList_append_own _ rfl (.tmp 31) (.tmp 32) 31 rfl w.heap.size 55 i0 _ 2 16 Tryz.underlying31 hi0 hz0 hz1 hz2 rfl (by omega) _ _ _ rfl HO.out ad p.1 c p.2 rfl HPL.out HP.out HP1.out (by simp only [maxLen]; omega) (by omega) hg.le ?_; intro v1 w2 hown hg1 _)
            go_roundw
            case rel => exact ⟨k + 1, by omega, by go_num, hg.grown hg1 (fun k hk => (HO.out.lt k hk).1), by rw [HS.out, HC.out]; exact hown⟩
            case measure => simp [intOf]; omega
        · obtain rfl : k = X.length := by omega
          rw [List.take_length] at hown
          go_wp2_with fail
          go_ret
          exact ⟨_, rfl, hg, hown⟩
end Go.Proofs.YtbpkfkljeibjoaaGreat
/- know.build: the form of the dots up to some counts and of those in a list. -/
namespace Rm
open Go Go.RowKit
theorem flatI_len (l : List Nat) : (flatI l).length = l.length := by simp [flatI]
theorem R1.own {w : World} {base : Nat} {e : TypeId} {v : Value} {l : List Nat} (h : w.ownsRow base e 1 v l.length (flatI l)) : R1 w v (ints l) := by
  obtain ⟨hl, ⟨rfl, h0⟩ | ⟨g, cap, cur, rfl, _, hg, hn, _, hs, ht⟩⟩ := h
  · obtain rfl : l = [] := List.eq_nil_of_length_eq_zero h0
    exact R1.nil w
  · refine ⟨_, cap, by rw [ints_len], by rw [ints_len]; exact hn, fun _ => ⟨g, 0, rfl, (Array.getElem?_eq_some_iff.1 hg).1, fun i x hx => ?_⟩⟩
    simp only [ints, List.getElem?_map, Option.map_eq_some_iff] at hx
    obtain ⟨y, hy, rfl⟩ := hx
    have hi : i < l.length := (List.getElem?_eq_some_iff.1 hy).1
    have h1 : (cur.toList.take (l.length * 1))[i]? = (flatI l)[i]? := by rw [ht]
    rw [List.getElem?_take_of_lt (by omega)] at h1
    simp only [flatI, List.getElem?_map, hy, Option.map_some] at h1
    simp only [World.cell?, hg, Nat.zero_add]
    simpa using h1
theorem RdC.own {s : Nat} {w : World} {base : Nat} {e : TypeId} {v : Value} {n : Nat} {xs : List Value} (h : w.ownsRow base e s v n xs) (h1 : ∀ u ∈ xs, u.oneCell' = true) : RdC s w v n xs := by
  obtain ⟨hl, ⟨rfl, h0⟩ | ⟨g, cap, cur, rfl, _, hg, hn, _, hs, ht⟩⟩ := h
  · exact ⟨hl, h1, .inl ⟨rfl, h0⟩⟩
  · refine ⟨hl, h1, .inr ⟨_, cap, rfl, hn, fun _ => (Array.getElem?_eq_some_iff.1 hg).1, fun j u hj => ?_⟩⟩
    have hj' : j < n * s := by rw [← hl]; exact (List.getElem?_eq_some_iff.1 hj).1
    have e1 : (cur.toList.take (n * s))[j]? = xs[j]? := by rw [ht]
    rw [List.getElem?_take_of_lt hj', hj] at e1
    rw [adn, Nat.zero_add]
    simp only [World.cell?, hg]
    simpa using e1
theorem ddT_len (l : List (Nat × Nat)) : ∀ k, (ddT l k).length ≤ k
  | 0 => Nat.le_refl _
  | k + 1 => by
    have ih := ddT_len l k
    show (match l[k]? with | none => ddT l k | some d => if 0 < k ∧ l[k - 1]? = some d then ddT l k else ddT l k ++ [d]).length ≤ k + 1
    split
    · omega
    · split
      · omega
      · simp; omega
theorem ddT_all_mem (l : List (Nat × Nat)) (d : Nat × Nat) : d ∈ ddT l l.length ↔ d ∈ l := by
  rw [ddT_mem (Nat.le_refl _)]
  constructor
  · rintro ⟨j, _, h⟩; exact List.mem_of_getElem? h
  · intro h
    obtain ⟨j, hj⟩ := List.getElem?_of_mem h
    exact ⟨j, (List.getElem?_eq_some_iff.1 hj).1, hj⟩
theorem take_snoc {α : Type} {l : List α} {i : Nat} {x : α} (h : l[i]? = some x) : l.take (i + 1) = l.take i ++ [x] := by
  rw [List.take_add_one, h]; rfl
theorem sorted_before {l : List (Nat × Nat)} (hs : l.Pairwise ltD) {i : Nat} {d : Nat × Nat} (h : l[i]? = some d) : ∀ x ∈ l.take i, ltD x d := by
  intro x hx
  obtain ⟨j, hj⟩ := List.getElem?_of_mem hx
  have hji : j < i := by have := (List.getElem?_eq_some_iff.1 hj).1; simp at this; omega
  rw [List.getElem?_take_of_lt hji] at hj
  obtain ⟨h1, e1⟩ := List.getElem?_eq_some_iff.1 hj
  obtain ⟨h2, e2⟩ := List.getElem?_eq_some_iff.1 h
  have := List.pairwise_iff_getElem.1 hs j i h1 h2 hji
  rw [e1, e2] at this
  exact this
theorem cArr_setC (v : List Nat) (s n : Nat) (hs : s < 5) : (cArr v).setIfInBounds s (.int .i64 (n : Nat)) = cArr (setC v s n) := by
  match s, hs with
  | 0, _ => rfl
  | 1, _ => rfl
  | 2, _ => rfl
  | 3, _ => rfl
  | 4, _ => rfl
end Rm
namespace Go.Proofs.YtbpkfkljeibjoaaGreat
open Go.RowKit Rm
def KnO (base : Nat) (w : World) (k : Value) (v : List Nat) (m : List (Nat × Nat)) : Prop :=
  ∃ vv mv, k = .agg #[vv, mv] ∧ w.ownsRow base 3 1 vv v.length (flatI v) ∧ w.ownsRow base 55 2 mv m.length (flat (pairs m))
theorem KnO.rd {base : Nat} {w : World} {k : Value} {v : List Nat} {m : List (Nat × Nat)} (h : KnO base w k v m) : KnR w k (ints v) (pairs m) := by
  obtain ⟨vv, mv, rfl, h1, h2⟩ := h
  have h2' : w.ownsRow base 55 2 mv (pairs m).length (flat (pairs m)) := by rw [pairs_len]; exact h2
  exact ⟨vv, mv, rfl, R1.own h1, Rd2.own h2', RdC.own h2' (flat_one _)⟩
theorem kown_gr {w w' : World} {base : Nat} {e : TypeId} {s n : Nat} {v : Value} {xs : List Value} (h : w.ownsRow base e s v n xs) (g : Gr w w') : w'.ownsRow base e s v n xs := by
  obtain ⟨h1, h2 | ⟨b, cap, cur, e, h3, hg, h4⟩⟩ := h
  · exact ⟨h1, .inl h2⟩
  · exact ⟨h1, .inr ⟨b, cap, cur, e, h3, (Below.block g b (Array.getElem?_eq_some_iff.1 hg).1).trans hg, h4⟩⟩
theorem KnO.gr {base : Nat} {w w' : World} {k : Value} {v : List Nat} {m : List (Nat × Nat)} (h : KnO base w k v m) (g : Gr w w') : KnO base w' k v m := by
  obtain ⟨vv, mv, e, h1, h2⟩ := h
  exact ⟨vv, mv, e, kown_gr h1 g, kown_gr h2 g⟩
theorem KnO.less {base base' : Nat} {w : World} {k : Value} {v : List Nat} {m : List (Nat × Nat)} (h : KnO base w k v m) (hb : base' ≤ base) : KnO base' w k v m := by
  obtain ⟨vv, mv, e, h1, h2⟩ := h
  exact ⟨vv, mv, e, own_less h1 hb, own_less h2 hb⟩
def frmK (base : Nat) (w : World) (e : Ending) (D : DS) : Prop :=
  ∃ k r, e = .returned (.tuple #[k, .int .i64 r]) ∧ (((formM D).length ≤ 60 ∧ r = 0 ∧ KnO base w k (formV D) (formM D)) ∨ (60 < (formM D).length ∧ r = 2 ∧ KnO base w k [] []))
theorem frmK.less {base base' : Nat} {w : World} {e : Ending} {D : DS} (h : frmK base w e D) (hb : base' ≤ base) : frmK base' w e D := by
  obtain ⟨k, r, h1, ⟨h2, h3, h4⟩ | ⟨h2, h3, h4⟩⟩ := h
  · exact ⟨k, r, h1, .inl ⟨h2, h3, h4.less hb⟩⟩
  · exact ⟨k, r, h1, .inr ⟨h2, h3, h4.less hb⟩⟩
theorem frmK.congr {base : Nat} {w : World} {e : Ending} {D E : DS} (h : frmK base w e D) (hE : EqD D E) : frmK base w e E := by
  obtain ⟨h1, h2⟩ := form_congr hE
  unfold frmK
  rw [← h1, ← h2]
  exact h
theorem know_zero : (Tryz.prog.info? 33).bind (·.zero) = some (.agg #[.slice none 0 0, .slice none 0 0]) := by kernel_rfl
theorem load_know (w : World) (g : Nat) (x y : Value) (h0 : w.cell? ⟨g, 0, none⟩ = some x) (h1 : w.cell? ⟨g, 1, none⟩ = some y) : (loadVar 33 ⟨g, 0, none⟩).run Tryz.prog w = .ok (.agg #[x, y]) w := by
  simp [go_sem, h0, h1]
theorem res_know {fn : Func} {p u : Tmp} (h : fn.results = #[.cell p 33, .tmp u]) (tmps : Array Value) (w : World) (g : Nat) (x y r : Value) (hp : tmps.getD p undef = .pointer (some ⟨g, 0, none⟩)) (hu : tmps.getD u undef = r) (h0 : w.cell? ⟨g, 0, none⟩ = some x) (h1 : w.cell? ⟨g, 1, none⟩ = some y) :
    (results fn tmps).run Tryz.prog w = .ok (.tuple #[.agg #[x, y], r]) w := by
  have hp' : tmps[p]?.getD undef = .pointer (some ⟨g, 0, none⟩) := by simpa using hp
  have hu' : tmps[u]?.getD undef = r := by simpa using hu
  simp [results, h, hp', hu', asAddr, load_know w g x y h0 h1]
theorem put2 {w : World} {g : Nat} {o0 o1 : Value} (h0 : w.cell? ⟨g, 0, none⟩ = some o0) (h1 : w.cell? ⟨g, 1, none⟩ = some o1) (x y : Value) :
    ((w.setCell ⟨g, 0, none⟩ x).setCell ⟨g, 1, none⟩ y).cell? ⟨g, 0, none⟩ = some x ∧ ((w.setCell ⟨g, 0, none⟩ x).setCell ⟨g, 1, none⟩ y).cell? ⟨g, 1, none⟩ = some y := by
  constructor <;> simp [go_sem, h0, h1]
def BldAt (w4 : World) (g0 : Nat) (v0 : List Nat) (pre : List (Nat × Nat)) (mv : Value) (v' : List Nat) (m : List (Nat × Nat)) (wr : World) : Prop :=
  Below g0 w4 wr ∧ wr.heap[g0]? = some (.cells (cArr v') 130 (0, 0)) ∧ wr.heap[g0 + 1]? = some (.cells #[.slice none 0 0, .slice none 0 0] 33 (0, 0)) ∧ wr.ownsRow (g0 + 2) 55 2 mv m.length (flat (pairs m)) ∧ BInv v0 pre v' m
theorem BldAt.size {w4 wr : World} {g0 : Nat} {v0 v' : List Nat} {pre m : List (Nat × Nat)} {mv : Value} (h : BldAt w4 g0 v0 pre mv v' m wr) : g0 + 2 ≤ wr.heap.size := by
  have := (Array.getElem?_eq_some_iff.1 h.2.2.1).1
  omega
theorem BldAt.alloc {w4 wr : World} {g0 : Nat} {v0 v' : List Nat} {pre m : List (Nat × Nat)} {mv : Value} (h : BldAt w4 g0 v0 pre mv v' m wr) (o : Obj) : BldAt w4 g0 v0 pre mv v' m (wr.alloc o) := by
  have hs := h.size
  obtain ⟨h1, h2, h3, h4, h5⟩ := h
  exact ⟨h1.alloc (by omega) o, (Below.heap_alloc _ _ _ (by omega)).trans h2, (Below.heap_alloc _ _ _ (by omega)).trans h3, h4.alloc o, h5⟩
theorem BldAt.inv {w4 wr : World} {g0 : Nat} {v0 v' : List Nat} {pre pre' m : List (Nat × Nat)} {mv : Value} (h : BldAt w4 g0 v0 pre mv v' m wr) (k : BInv v0 pre' v' m) : BldAt w4 g0 v0 pre' mv v' m wr := ⟨h.1, h.2.1, h.2.2.1, h.2.2.2.1, k⟩
theorem BldAt.up {w4 wr : World} {g0 : Nat} {v0 v' : List Nat} {pre pre' m : List (Nat × Nat)} {mv : Value} {s n : Nat} (h : BldAt w4 g0 v0 pre mv v' m wr) (hs : s < 5) (k : BInv v0 pre' (setC v' s n) m) : BldAt w4 g0 v0 pre' mv (setC v' s n) m (wr.setCell ⟨g0, s, none⟩ (.int .i64 (n : Nat))) := by
  obtain ⟨h1, h2, h3, h4, h5⟩ := h
  refine ⟨h1.setCell (Nat.le_refl _) _, ?_, (Below.heap_setCell _ _ _ _ (by simp)).trans h3, ?_, k⟩
  · rw [hsc h2, cArr_setC v' s n hs]
  · refine h4.kept (gset wr g0 s _) ?_
    cases e : mv.ownBlock with
    | none => exact .inl rfl
    | some b => exact .inr (fun e' => by have := (h4.lt b e).1; have := Option.some.inj e'; omega)
theorem BldAt.more {w4 wr w5 : World} {g0 : Nat} {v0 v' : List Nat} {pre pre' m m' : List (Nat × Nat)} {mv mv' : Value} (h : BldAt w4 g0 v0 pre mv v' m wr) (hg : wr.grownBy w5 mv.ownBlock) (ho : w5.ownsRow (g0 + 2) 55 2 mv' m'.length (flat (pairs m'))) (k : BInv v0 pre' v' m') : BldAt w4 g0 v0 pre' mv' v' m' w5 := by
  have hs := h.size
  obtain ⟨h1, h2, h3, h4, h5⟩ := h
  have hb : ∀ b, mv.ownBlock = some b → g0 + 2 ≤ b := fun b e => (h4.lt b e).1
  refine ⟨h1.grown hg (by omega) (fun b e => by have := hb b e; omega), ?_, ?_, ho, k⟩
  · exact (hg.block g0 (by omega) (fun e => by have := hb _ e.symm; omega)).trans h2
  · exact (hg.block (g0 + 1) (by omega) (fun e => by have := hb _ e.symm; omega)).trans h3
set_option maxHeartbeats 600000 in
set_option maxRecDepth 100000 in
theorem build_any (v : List Nat) (L : List (Nat × Nat)) (lv : Value) (w : World) (base : Nat) (hv : ∀ s, s < 5 → cv v s ≤ 1000) (hL : ∀ d ∈ L, inR d.1 d.2) (hlen : L.length ≤ 1000)
    (ho : w.ownsRow base 55 2 lv L.length (flat (pairs L))) (hbase : base ≤ w.heap.size) :
    Calls Tryz.prog 80 #[.agg (cArr v), lv] w fun e w' => frmK w.heap.size w' e (upD v L) ∧ Below base w w' := by
  obtain ⟨i0, hi0, hz0, hz1, hz2⟩ := info_parts ccd_info
  have HS0 := Lib.hid (sort_own L lv)
  have HC0 := Lib.hid (fun l => compact_own l lv)
  have HT0 := Lib.hid trim_any
  have hlv : ∀ b, lv.ownBlock = some b → base ≤ b ∧ b < w.heap.size := ho.lt
  have A0 : Hid (((w.alloc (.cells (cArr v) 130)).alloc (.cells #[.slice none 0 0, .slice none 0 0] 33)).heap[w.heap.size]? = some (.cells (cArr v) 130 (0, 0)) ∧ ((w.alloc (.cells (cArr v) 130)).alloc (.cells #[.slice none 0 0, .slice none 0 0] 33)).heap[w.heap.size + 1]? = some (.cells #[.slice none 0 0, .slice none 0 0] 33 (0, 0))) := ⟨(al_old _ _ _ (by simp)).trans (al_new _ _ _ rfl), al_new _ _ _ (by simp)⟩
  have G0 : Hid (Below w.heap.size w ((w.alloc (.cells (cArr v) 130)).alloc (.cells #[.slice none 0 0, .slice none 0 0] 33))) := ((Gr.refl w).alloc _).alloc _
  have O0 := Lib.hid ((ho.alloc (.cells (cArr v) 130)).alloc (.cells #[.slice none 0 0, .slice none 0 0] 33))
  have HLV := Lib.hid hlv
  have HL := Lib.hid hL
  obtain ⟨la, lc, hle, hlc⟩ := own_formD ho
  clear ho hL hlv
  have HLE := Lib.hid hle
  subst hle
  go_enter Tryz.func80, Tryz.ntmps80
  go_wp2_with (first
    | (refine Go.Great.wpList_allocTo rfl _ rfl _ _ (run_alloc_zero know_zero _ _ rfl _) ?_)
    | fail)
  generalize ((w.alloc (.cells (cArr v) 130)).alloc (.cells #[.slice none 0 0, .slice none 0 0] 33)) = w2 at *
  go_wp2_with (go_at_call 129; refine (HS0.out w2 base hlen O0.out).mono ?_; rintro e w3 ⟨rfl, l', hp, hs, ho3, hg3⟩; have HO3 := Lib.hid ho3; have HG3 := Lib.hid hg3; have HP := Lib.hid hp; have HSo := Lib.hid hs; have hll : l'.length = L.length := hp.length_eq; clear ho3 hg3 hp hs HS0 O0)
  have HDM : Hid (∀ d, d ∈ ddT l' l'.length ↔ d ∈ L) := fun d => by rw [ddT_all_mem]; exact HP.out.mem_iff
  have HDS : Hid ((ddT l' l'.length).Pairwise ltD) := ddT_sort HSo.out (Nat.le_refl _)
  have hdl : (ddT l' l'.length).length ≤ 1000 := Nat.le_trans (ddT_len _ _) (by omega)
  have HC1 := Lib.hid (HC0.out l' w3 base (by omega) HO3.out)
  generalize ddT l' l'.length = dd at *
  clear HC0 HSo
  go_wp2_with (go_at_call 131; refine HC1.out.mono ?_; rintro e w4 ⟨u, rfl, hub, ho4, hg4⟩; obtain ⟨ua, uc, rfl, huc⟩ := own_formD ho4; have HO4 := Lib.hid ho4; have HG4 := Lib.hid hg4; have HUB := Lib.hid hub; clear ho4 hg4 hub HC1)
  have G4 : Hid (Below base w w4) := (((Below.mono G0.out hbase).grown HG3.out (Nat.le_trans hbase G0.out.size) (fun b e => (HLV.out b e).1)).grown HG4.out (Nat.le_trans hbase (Nat.le_trans G0.out.size HG3.out.size)) (fun b e => (HLV.out b e).1))
  have hsz2 : w.heap.size + 2 ≤ w2.heap.size := by have := (Array.getElem?_eq_some_iff.1 A0.out.2).1; omega
  have A4 : Hid (BldAt w4 w.heap.size v (dd.take 0) (.slice none 0 0) v [] w4) := by
    refine ⟨Below.refl _ _, ?_, ?_, World.ownsRow_nil _ _ _ _, BInv.start v hv⟩
    · refine (HG4.out.block _ (Nat.lt_of_lt_of_le (by omega) HG3.out.size) (fun e => ?_)).trans ((HG3.out.block _ (by omega) (fun e => ?_)).trans A0.out.1)
      · have := (HLV.out _ e.symm).2; omega
      · have := (HLV.out _ e.symm).2; omega
    · refine (HG4.out.block _ (Nat.lt_of_lt_of_le (by omega) HG3.out.size) (fun e => ?_)).trans ((HG3.out.block _ (by omega) (fun e => ?_)).trans A0.out.2)
      · have := (HLV.out _ e.symm).2; omega
      · have := (HLV.out _ e.symm).2; omega
  have HU : Hid (∀ (i s c : Nat), dd[i]? = some (s, c) → ∃ g, ua = some ⟨g, 0, none⟩ ∧ ∀ wr, Below w.heap.size w4 wr → wr.cell? ⟨g, i * 2, none⟩ = some (.int .i64 (s : Int)) ∧ wr.cell? ⟨g, i * 2 + 1, none⟩ = some (.int .i64 (c : Int))) := by
    intro i s c hd
    obtain ⟨hxl, ⟨e1, hn⟩ | ⟨g, cap, cur, e1, hbg, hg, hnc, hcm, hcs, htake⟩⟩ := HO4.out
    · rw [List.eq_nil_of_length_eq_zero hn] at hd; simp at hd
    · injection e1 with ea eb ec
      subst ea ec
      refine ⟨g, rfl, fun wr hb => ?_⟩
      have hgl : g < w.heap.size := (HLV.out g (by rw [← HUB.out]; rfl)).2
      have hr := RowD.cell (e := 55) (w := w4) (g := g) (cap := uc) (c := dd) ⟨hnc, cur, hg, hcs, htake⟩ hd
      exact ⟨(Below.cell hb hgl).trans hr.1, (Below.cell hb hgl).trans hr.2.1⟩
  have HF : Hid (∀ v' m, BInv v (dd.take dd.length) v' m → formV (upD v L) = trimL (five v') ∧ formM (upD v L) = m) := by
    intro v' m hb
    rw [List.take_length] at hb
    have e : upD v L = upD v dd := upD_congr fun d => (HDM.out d).symm
    rw [e]; exact hb.form
  have hdlI : (dd.length : Int) ≤ 1000 := by omega
  clear A0 G0 HG3 HG4 HO3 HO4 HUB HP hll hlc huc HLV HLE
  go_wp2
  generalize hg0 : w.heap.size = g0 at *
  go_loopg [6, 15] dd.length (fun gh mv ix wr => ∃ (i : Nat) (v' : List Nat) (m : List (Nat × Nat)), i ≤ dd.length ∧ dd.length - i ≤ gh ∧ ix = .int .i64 (i : Int) ∧ BldAt w4 g0 v (dd.take i) mv v' m wr)
  case atStart => exact ⟨0, v, [], by omega, by omega, rfl, A4.out⟩
  case round =>
    clear A4
    obtain ⟨i, v', m, hi, hgh, rfl, hat⟩ := hrel
    have HAt := Lib.hid hat
    obtain ⟨ma, mc, hme, hmc⟩ := own_formD hat.2.2.2.1
    subst hme
    have hml : m.length ≤ 1000 := by have := hat.2.2.2.2.len; simp at this; omega
    have hmlI : (m.length : Int) ≤ 1000 := by omega
    by_cases hil : i < dd.length
    · obtain ⟨⟨s, c⟩, hd⟩ : ∃ d, dd[i]? = some d := ⟨_, List.getElem?_eq_getElem hil⟩
      obtain ⟨g, rfl, hcell⟩ := HU.out i s c hd
      obtain ⟨q1, q2⟩ := hcell wr hat.1
      have hr : Hid (inR s c) := HL.out _ ((HDM.out _).1 (List.mem_of_getElem? hd))
      have hs5 : s < 5 := hr.out.1
      have hc1000 : c ≤ 1000 := hr.out.2.2
      have hiI : (i : Int) < (dd.length : Int) := by omega
      have HB := Lib.hid (sorted_before HDS.out hd)
      have HTk := Lib.hid (take_snoc hd)
      have hcv := cell_cArr hat.2.1 hs5
      have hfz : wr.frozen? ⟨g0, s, none⟩ = false := by simp [World.frozen?, hat.2.1]
      have hvl := hat.2.2.2.2.le s hs5
      have hsz := hat.size
      have hg0lt : g0 < wr.heap.size := by omega
      have hg0ne : ¬ g0 = wr.heap.size := by omega
      have HI := Lib.hid hat.2.2.2.2
      have hs5I : (s : Int) < 5 := by omega
      have hcI : (c : Int) ≤ 1000 := by omega
      clear hat hcell hd hsz
      generalize hn : cv v' s = n at *
      have HN := Lib.hid hn
      clear hn
      have hnI : (n : Int) ≤ 1000 := by omega
      by_cases hA : c = n + 1
      · subst hA
        have HX : Hid (BldAt w4 g0 v (dd.take (i + 1)) (.slice ma m.length mc) (setC v' s (n + 1)) m ((wr.setCell ⟨g0, s, none⟩ (.int .i64 ((n + 1 : Nat) : Int))).alloc (.cells #[.int .i64 (s : Int), .int .i64 ((n + 1 : Nat) : Int)] 55))) := by
          rw [HTk.out]
          exact (HAt.out.up hs5 (HI.out.up HB.out hr.out (by rw [HN.out]))).alloc _
        go_wp2
        go_roundg (dd.length - (i + 1))
        case measure => omega
        case rel => exact ⟨i + 1, _, m, by omega, Nat.le_refl _, by go_num, HX.out⟩
      · by_cases hB : n < c
        · have hAI : ¬ (c : Int) = (n : Int) + 1 := by omega
          have hBI : (n : Int) < (c : Int) := by omega
          have HI2 := Lib.hid (HI.out.more HB.out hr.out (by rw [HN.out]; omega))
          have HA2 := Lib.hid ((HAt.out.alloc (.cells #[.int .i64 (s : Int), .int .i64 (c : Int)] 55)).alloc (.cells #[.int .i64 (s : Int), .int .i64 (c : Int)] 55))
          have HFl : Hid (flat (pairs m) ++ [.int .i64 (s : Int), .int .i64 (c : Int)] = flat (pairs (m ++ [(s, c)]))) := by show _ = _; simp [pairs, flat]
          go_wp2_with (at_builtin; refine wpList_append_own _ rfl (.tmp 38) (.tmp 40) 31 rfl (g0 + 2) 55 i0 _ 2 16 Tryz.underlying31 hi0 hz0 hz1 hz2 rfl (by omega) _ _ _ rfl HA2.out.2.2.2.1 ⟨wr.heap.size + 1, 0, none⟩ 1 1 [.int .i64 (s : Int), .int .i64 (c : Int)] rfl rfl (by have := new2 (wr.alloc (.cells #[.int .i64 (s : Int), .int .i64 (c : Int)] 55)) s c 55; rwa [World.size_alloc] at this) (one2 _ _) (by simp only [maxLen]; omega) (by omega) HA2.out.size ?_; intro v1 w5 hown hg1 _)
          have HX : Hid (BldAt w4 g0 v (dd.take (i + 1)) v1 v' (m ++ [(s, c)]) w5) := by
            rw [HTk.out]
            refine HA2.out.more hg1 ?_ HI2.out
            rw [← HFl.out, List.length_append]
            exact hown
          go_roundg (dd.length - (i + 1))
          case measure => omega
          case rel => exact ⟨i + 1, v', _, by omega, Nat.le_refl _, by go_num, HX.out⟩
        · have HX : Hid (BldAt w4 g0 v (dd.take (i + 1)) (.slice ma m.length mc) v' m (wr.alloc (.cells #[.int .i64 (s : Int), .int .i64 (c : Int)] 55))) := by
            rw [HTk.out]
            exact (HAt.out.alloc _).inv (HI.out.old hr.out (by rw [HN.out]; omega))
          have hAI : ¬ (c : Int) = (n : Int) + 1 := by omega
          have hBI : ¬ (n : Int) < (c : Int) := by omega
          go_wp2
          go_roundg (dd.length - (i + 1))
          case measure => omega
          case rel => exact ⟨i + 1, v', m, by omega, Nat.le_refl _, by go_num, HX.out⟩
    · obtain rfl : i = dd.length := by omega
      obtain ⟨f1, f2⟩ := HF.out v' m hat.2.2.2.2
      have hk0 : wr.cell? ⟨g0 + 1, 0, none⟩ = some (.slice none 0 0) := by simp [World.cell?, hat.2.2.1]
      have hk1 : wr.cell? ⟨g0 + 1, 1, none⟩ = some (.slice none 0 0) := by simp [World.cell?, hat.2.2.1]
      have hf0 : wr.frozen? ⟨g0 + 1, 0, none⟩ = false := by simp [World.frozen?, hat.2.2.1]
      have hf1 : wr.frozen? ⟨g0 + 1, 1, none⟩ = false := by simp [World.frozen?, hat.2.2.1]
      have HB1 := Lib.hid hat.2.1
      have HV := Lib.hid hat.2.2.2.2.le
      have HGw : Hid (Below base w wr) := Below.trans G4.out (Below.mono hat.1 (by omega))
      have hsz := hat.size
      have hgb : base ≤ g0 + 1 := by omega
      have hgl1 : g0 + 1 < wr.heap.size := by omega
      have HO := Lib.hid hat.2.2.2.1
      have HF1 := Lib.hid f1
      have HF2 := Lib.hid f2
      clear hat f1 f2
      by_cases h60 : 60 < m.length
      · have h60I : (60 : Int) < (m.length : Int) := by omega
        go_wp2
        obtain ⟨p0, p1⟩ := put2 hk0 hk1 (.slice none 0 0) (.slice none 0 0)
        have HW := Lib.hid ((HGw.out.setCell (p := ⟨g0 + 1, 0, none⟩) hgb (.slice none 0 0)).setCell (p := ⟨g0 + 1, 1, none⟩) hgb (.slice none 0 0))
        generalize (wr.setCell ⟨g0 + 1, 0, none⟩ (.slice none 0 0)).setCell ⟨g0 + 1, 1, none⟩ (.slice none 0 0) = w7 at *
        refine bodyPost_ret (v := .tuple #[.agg #[.slice none 0 0, .slice none 0 0], .int .i64 2]) (res_know Tryz.results80 _ _ (g0 + 1) _ _ _ rfl rfl p0 p1) rfl ⟨?_, HW.out⟩
        exact ⟨_, 2, rfl, .inr ⟨by rw [HF2.out]; exact h60, rfl, _, _, rfl, World.ownsRow_nil _ _ _ _, World.ownsRow_nil _ _ _ _⟩⟩
      · have h60I : ¬ (60 : Int) < (m.length : Int) := by omega
        have f3 := Lib.hid (counts_cArr v')
        have HT := Lib.hid (HT0.out v' wr HV.out)
        clear HT0 HAt HV
        generalize cArr v' = A at *
        go_wp2_with (refine Go.wpList_load_row rfl 130 (.tmp 2) rfl g0 rfl 130 A (0, 0) _ HB1.out Tryz.underlying130 rfl f3.out ?_)
        refine HT.out.mono ?_
        rintro e w6 ⟨u, rfl, ho6, g6⟩
        obtain ⟨xa, xc, hux, -⟩ := own_formD ho6
        subst hux
        have hk60 := (g6.cells.1 (g0 + 1) 0 hgl1).trans hk0
        have hk61 := (g6.cells.1 (g0 + 1) 1 hgl1).trans hk1
        have hf60 := (g6.cells.2 (g0 + 1) 0 hgl1).trans hf0
        have hf61 := (g6.cells.2 (g0 + 1) 1 hgl1).trans hf1
        have hgl6 := Nat.lt_of_lt_of_le hgl1 g6.le
        have HO6 := Lib.hid ho6
        have G6 := Lib.hid g6
        clear ho6 g6 hk0 hk1 hf0 hf1 HB1 f3 HT
        generalize hTL : trimL (five v') = TL at *
        go_wp2_with fail
        obtain ⟨p0, p1⟩ := put2 hk60 hk61 (.slice xa TL.length xc) (.slice ma m.length mc)
        have HW := Lib.hid (((Below.trans HGw.out (Below.mono G6.out (by have := HGw.out.size; omega))).setCell (p := ⟨g0 + 1, 0, none⟩) hgb (.slice xa TL.length xc)).setCell (p := ⟨g0 + 1, 1, none⟩) hgb (.slice ma m.length mc))
        have HK1 : Hid (((w6.setCell ⟨g0 + 1, 0, none⟩ (.slice xa TL.length xc)).setCell ⟨g0 + 1, 1, none⟩ (.slice ma m.length mc)).ownsRow g0 3 1 (.slice xa TL.length xc) TL.length (flatI TL)) := by
          have h1 : ∀ b, (Value.slice xa TL.length xc).ownBlock = some b → g0 + 1 < b := fun b e => Nat.lt_of_lt_of_le hgl1 (HO6.out.lt b e).1
          have h2 : (Value.slice xa TL.length xc).ownBlock = none ∨ (Value.slice xa TL.length xc).ownBlock ≠ some (g0 + 1) := by
            cases e : (Value.slice xa TL.length xc).ownBlock with
            | none => exact .inl rfl
            | some b => exact .inr (fun e' => by have := h1 b e; have := Option.some.inj e'; omega)
          exact own_less ((HO6.out.kept (gset w6 (g0 + 1) 0 (.slice xa TL.length xc)) h2).kept (gset _ (g0 + 1) 1 _) h2) (by omega)
        have HK2 : Hid (((w6.setCell ⟨g0 + 1, 0, none⟩ (.slice xa TL.length xc)).setCell ⟨g0 + 1, 1, none⟩ (.slice ma m.length mc)).ownsRow g0 55 2 (.slice ma m.length mc) m.length (flat (pairs m))) := by
          have h1 : ∀ b, (Value.slice ma m.length mc).ownBlock = some b → g0 + 1 < b := fun b e => (HO.out.lt b e).1
          have h2 : (Value.slice ma m.length mc).ownBlock = none ∨ (Value.slice ma m.length mc).ownBlock ≠ some (g0 + 1) := by
            cases e : (Value.slice ma m.length mc).ownBlock with
            | none => exact .inl rfl
            | some b => exact .inr (fun e' => by have := h1 b e; have := Option.some.inj e'; omega)
          exact own_less (((kown_gr HO.out G6.out).kept (gset w6 (g0 + 1) 0 (.slice xa TL.length xc)) h2).kept (gset _ (g0 + 1) 1 _) h2) (by omega)
        generalize (w6.setCell ⟨g0 + 1, 0, none⟩ (.slice xa TL.length xc)).setCell ⟨g0 + 1, 1, none⟩ (.slice ma m.length mc) = w7 at *
        refine bodyPost_ret (v := .tuple #[.agg #[(.slice xa TL.length xc), .slice ma m.length mc], .int .i64 0]) (res_know Tryz.results80 _ _ (g0 + 1) _ _ _ rfl rfl p0 p1) rfl ⟨?_, HW.out⟩
        refine ⟨_, 0, rfl, .inl ⟨by rw [HF2.out]; omega, rfl, _, _, rfl, ?_, ?_⟩⟩
        · rw [hg0, HF1.out]; exact HK1.out
        · rw [hg0, HF2.out]; exact HK2.out
end Go.Proofs.YtbpkfkljeibjoaaGreat
/- know.Check, checkBoth, Count. -/
namespace Go.Proofs.YtbpkfkljeibjoaaGreat
open Go.RowKit Rm
theorem chkK_large {V : List Int} {M : List (Int × Int)} (h : 5 < V.length ∨ 60 < M.length) : chkK V M = 2 := by unfold chkK; rw [if_pos h]
theorem chkK_vec {V : List Int} {M : List (Int × Int)} (h : ¬ (5 < V.length ∨ 60 < M.length)) (hv : chkV V ≠ 0) : chkK V M = chkV V := by unfold chkK; rw [if_neg h, if_pos hv]
theorem chkK_more {V : List Int} {M : List (Int × Int)} (h : ¬ (5 < V.length ∨ 60 < M.length)) (hv : chkV V = 0) : chkK V M = chkM (natsI V) M := by unfold chkK; rw [if_neg h, if_neg (by simp [hv])]
set_option maxHeartbeats 4000000 in
set_option maxRecDepth 100000 in
theorem kcheck_any (k : Value) (V : List Int) (M : List (Int × Int)) (w : World) (hk : KnR w k V M) :
    Calls Tryz.prog 65 #[k] w fun e w' => e = .returned (.int .i64 (chkK V M)) ∧ Gr w w' := by
  obtain ⟨vv, mv, rfl, r1, r2, r3⟩ := id hk
  obtain ⟨va, vc, rfl, hvc, hv⟩ := id r1
  obtain ⟨ma, mc, rfl, hmc, hm⟩ := id r2
  clear hv hm
  have HK := Lib.hid hk
  have R1h := Lib.hid r1
  have R2h := Lib.hid r2
  clear hk r1 r2 r3
  by_cases h5 : 5 < V.length
  · have h5' : (5 : Int) < (V.length : Int) := by omega
    have HR := Lib.hid (chkK_large (M := M) (.inl h5))
    go_enter Tryz.func65, Tryz.ntmps65
    go_wp2
    go_ret
    exact ⟨by rw [HR.out]; rfl, (Gr.refl _).alloc _⟩
  · have h5' : decide ((5 : Int) < (V.length : Int)) = false := by simp; omega
    have h5'' : (V.length : Int) ≤ 5 := by omega
    by_cases h6 : 60 < M.length
    · have h6' : (60 : Int) < (M.length : Int) := by omega
      have HR := Lib.hid (chkK_large (V := V) (.inr h6))
      go_enter Tryz.func65, Tryz.ntmps65
      go_wp2
      go_ret
      exact ⟨by rw [HR.out]; rfl, (Gr.refl _).alloc _⟩
    · have h6' : decide ((60 : Int) < (M.length : Int)) = false := by simp; omega
      have h6'' : (M.length : Int) ≤ 60 := by omega
      have hno : ¬ (5 < V.length ∨ 60 < M.length) := by omega
      have HV : Hid (∀ w', Gr w w' → Calls Tryz.prog 122 #[.slice va V.length vc] w' fun e w'' => e = .returned (.int .i64 (chkV V)) ∧ Gr w' w'') := fun w' g => checkVec_any _ V w' (R1h.out.gr g) (by omega)
      by_cases hz : chkV V = 0
      · have HR := Lib.hid (chkK_more hno hz)
        have hin := (chkV_zero hz).1
        have EV := ints_natsI hin
        have hz' : chkV V = 0 := hz
        rw [hz] at HV
        have HC : Hid (∀ w', Gr w w' → Calls Tryz.prog 81 #[.agg #[.slice va V.length vc, .slice ma M.length mc]] w' fun e w'' => e = .returned (.agg (cArr (natsI V))) ∧ Gr w' w'') := fun w' g => countsOf_any _ (natsI V) M w' (by rw [EV]; exact HK.out.gr g) (by simp [natsI]; omega)
        have HM : Hid (∀ w', Gr w w' → Calls Tryz.prog 123 #[.slice ma M.length mc, .agg (cArr (natsI V))] w' fun e w'' => e = .returned (.int .i64 (chkM (natsI V) M)) ∧ Gr w' w'') := fun w' g => checkMore_any _ (natsI V) M w' (R2h.out.gr g) (by omega) (fun x hx => by
          obtain ⟨y, hy, rfl⟩ := List.mem_map.1 hx
          have := hin y hy; omega)
        generalize chkM (natsI V) M = R at *
        generalize cArr (natsI V) = A at *
        generalize hN : V.length = N at *
        have HN := Lib.hid hN
        clear hN hz hz' hin EV
        go_enter Tryz.func65, Tryz.ntmps65
        go_wp2_with (first | (go_at_call 122; refine (HV.out _ ((Gr.refl w).alloc _)).mono ?_; rintro e w1 ⟨rfl, g1⟩; have G1 := Lib.hid (((Gr.refl w).alloc _).trans g1)))
        have e1 := (g1.cells.1 w.heap.size 0 (by simp)).trans (show (w.alloc (.cells #[.slice va N vc, .slice ma M.length mc] 33)).cell? ⟨w.heap.size, 0, none⟩ = some (.slice va N vc) by simp [go_sem])
        have e2 := (g1.cells.1 w.heap.size 1 (by simp)).trans (show (w.alloc (.cells #[.slice va N vc, .slice ma M.length mc] 33)).cell? ⟨w.heap.size, 1, none⟩ = some (.slice ma M.length mc) by simp [go_sem])
        have hlt : w.heap.size < w1.heap.size := Nat.lt_of_lt_of_le (by simp) g1.le
        clear g1 HV
        go_region_held3 (fun x => x.cell? ⟨w.heap.size, 0, none⟩ = some (.slice va N vc) ∧ x.cell? ⟨w.heap.size, 1, none⟩ = some (.slice ma M.length mc))
          (go_keep)
          (first
            | (go_at_call 81; refine (beside_gr (HC.out w1.drew G1.out.drew) (fun e w' q => q.2) (S := fun x => x.cell? ⟨w.heap.size, 0, none⟩ = some (.slice va N vc) ∧ x.cell? ⟨w.heap.size, 1, none⟩ = some (.slice ma M.length mc)) (fun x gx => ⟨(gx.cells.1 _ 0 hlt).trans e1, (gx.cells.1 _ 1 hlt).trans e2⟩)).mono ?_; rintro e w2 ⟨⟨rfl, g2⟩, k1, k2⟩)
            | (go_at_call 123; refine (beside_gr (HM.out w2 (G1.out.drew.trans g2)) (fun e w' q => q.2) (S := fun x => x.cell? ⟨w.heap.size, 0, none⟩ = some (.slice va N vc) ∧ x.cell? ⟨w.heap.size, 1, none⟩ = some (.slice ma M.length mc)) (fun x gx => ⟨(gx.cells.1 _ 0 (Nat.lt_of_lt_of_le hlt g2.le)).trans k1, (gx.cells.1 _ 1 (Nat.lt_of_lt_of_le hlt g2.le)).trans k2⟩)).mono ?_; rintro e w3 ⟨⟨rfl, g3⟩, k3, k4⟩))
        go_wp2
        go_ret
        exact ⟨by rw [HR.out]; rfl, (G1.out.drew.trans g2).trans g3⟩
      · have HR := Lib.hid (chkK_vec hno hz)
        generalize chkV V = R at *
        go_enter Tryz.func65, Tryz.ntmps65
        go_wp2_with (first | (go_at_call 122; refine (HV.out _ ((Gr.refl w).alloc _)).mono ?_; rintro e w1 ⟨rfl, g1⟩; have G1 := Lib.hid (((Gr.refl w).alloc _).trans g1); clear g1))
        go_ret
        exact ⟨by rw [HR.out]; rfl, G1.out⟩
set_option maxHeartbeats 1000000 in
set_option maxRecDepth 100000 in
theorem kcheckBoth (k k' : Value) (V V' : List Int) (M M' : List (Int × Int)) (w : World) (hk : KnR w k V M) (hk' : KnR w k' V' M') :
    Calls Tryz.prog 83 #[k, k'] w fun e w' => e = .returned (.int .i64 (if chkK V M ≠ 0 then chkK V M else chkK V' M')) ∧ Gr w w' := by
  have H1 : Hid (∀ w', Gr w w' → Calls Tryz.prog 65 #[k] w' fun e w'' => e = .returned (.int .i64 (chkK V M)) ∧ Gr w' w'') := fun w' g => kcheck_any k V M w' (hk.gr g)
  have H2 : Hid (∀ w', Gr w w' → Calls Tryz.prog 65 #[k'] w' fun e w'' => e = .returned (.int .i64 (chkK V' M')) ∧ Gr w' w'') := fun w' g => kcheck_any k' V' M' w' (hk'.gr g)
  obtain ⟨vv, mv, rfl, -⟩ := hk
  obtain ⟨vv', mv', rfl, -⟩ := hk'
  generalize chkK V M = r at *
  generalize chkK V' M' = r' at *
  have G0 := Lib.hid (((Gr.refl w).alloc (.cells #[vv, mv] 33)).alloc (.cells #[vv', mv'] 33))
  have BX : Hid (∀ w1, Gr ((w.alloc (.cells #[vv, mv] 33)).alloc (.cells #[vv', mv'] 33)) w1 → w1.cell? ⟨w.heap.size + 1, 0, none⟩ = some vv' ∧ w1.cell? ⟨w.heap.size + 1, 1, none⟩ = some mv') := fun w1 g1 => ⟨(g1.cells.1 (w.heap.size + 1) 0 (by simp)).trans (by simp [go_sem]), (g1.cells.1 (w.heap.size + 1) 1 (by simp)).trans (by simp [go_sem])⟩
  by_cases h : r = 0
  · subst h
    go_enter Tryz.func83, Tryz.ntmps83
    go_wp2_with (first
      | (go_at_call 65; refine (H1.out _ G0.out).mono ?_; rintro e w1 ⟨rfl, g1⟩; obtain ⟨c0, c1⟩ := BX.out _ g1; have G1 := Lib.hid (G0.out.trans g1); clear g1 H1)
      | (go_at_call 65; refine (H2.out _ G1.out).mono ?_; rintro e w2 ⟨rfl, g2⟩))
    go_ret
    exact ⟨by simp, G1.out.trans g2⟩
  · go_enter Tryz.func83, Tryz.ntmps83
    go_wp2_with (first | (go_at_call 65; refine (H1.out _ G0.out).mono ?_; rintro e w1 ⟨rfl, g1⟩))
    go_ret
    exact ⟨by first | rfl | (rw [if_pos h]; rfl), G0.out.trans g1⟩
end Go.Proofs.YtbpkfkljeibjoaaGreat
/- slices.Index, Contains at dots; know.has, Has. -/
namespace Rm
open Go Go.RowKit
def idxI (M : List (Int × Int)) (d : Int × Int) (n : Nat) : Int := if d ∈ M then (n : Int) else -1
end Rm
namespace Go.Proofs.YtbpkfkljeibjoaaGreat
open Go.RowKit Rm
set_option maxHeartbeats 2000000 in
set_option maxRecDepth 100000 in
theorem kindex_any (m : Value) (M : List (Int × Int)) (d : Int × Int) (w : World) (hr : Rd2 w m M) (hl : M.length ≤ 1000) :
    Calls Tryz.prog 185 #[m, .agg #[.int .i64 d.1, .int .i64 d.2]] w fun e w' => (∃ n : Nat, e = .returned (.int .i64 (idxI M d n))) ∧ Gr w w' := by
  obtain ⟨a, c, rfl, hc, hx⟩ := hr
  obtain ⟨x, y⟩ := d
  have G1 := Lib.hid ((Gr.refl w).alloc (.cells #[.int .i64 x, .int .i64 y] 55))
  have T1 := Lib.hid (Two.new w x y 55)
  have HX := Lib.hid hx
  have HLI : (M.length : Int) ≤ 1000 := by omega
  clear hx
  go_enter Tryz.func185, Tryz.ntmps185
  go_wp2
  generalize w.alloc (.cells #[.int .i64 x, .int .i64 y] 55) = w1 at *
  go_loopw [4, 5, 8, 9, 10, 11, 12, 13, 14, 15, 16, 17, 18] (fun _ _ i _ _ _ _ _ _ _ _ _ _ wr => ∃ k : Nat, k ≤ M.length ∧ i = .int .i64 k ∧ Gr w1 wr ∧ ∀ j, j < k → M[j]? ≠ some (x, y)) (fun _ _ i _ _ _ _ _ _ _ _ _ _ _ => M.length - (intOf i).toNat)
  case atStart => exact ⟨0, by omega, rfl, Gr.refl _, fun j hj => by omega⟩
  case round =>
    obtain ⟨k, hk, rfl, gr, hz⟩ := hrel
    have HZ := Lib.hid hz
    have GR := Lib.hid gr
    clear hz gr
    by_cases hkl : k < M.length
    · obtain ⟨d, hd⟩ : ∃ d, M[k]? = some d := ⟨_, List.getElem?_eq_getElem hkl⟩
      obtain ⟨b, off, rfl, hb, hcell⟩ := HX.out (by intro e; rw [e] at hkl; simp at hkl)
      have hkI : (k : Int) < (M.length : Int) := by omega
      have G01 := Lib.hid (G1.out.trans GR.out)
      have q1 := (G01.out.cells.1 b (off + k * 2) hb).trans (hcell k d hd).1
      have q2 := (G01.out.cells.1 b (off + k * 2 + 1) hb).trans (hcell k d hd).2
      obtain ⟨t0, t1, t2⟩ := T1.out.gr GR.out
      obtain ⟨p, q⟩ := d
      simp only at q1 q2
      clear hcell
      by_cases he : (p, q) = (x, y)
      · obtain ⟨rfl, rfl⟩ := Prod.mk.inj he
        have hmem : Hid ((p, q) ∈ M) := List.mem_of_getElem? hd
        clear he
        go_wp2_with fail
        go_quiet (fail)
        go_wp2
        go_ret
        exact ⟨⟨k, by unfold idxI; rw [if_pos hmem.out]; rfl⟩, G01.out.drewN _⟩
      · have HN : Hid (∀ j, j < k + 1 → M[j]? ≠ some (x, y)) := fun j hj => by
          by_cases e : j = k
          · subst e; rw [hd]; intro e'; exact he (Option.some.inj e')
          · exact HZ.out j (by omega)
        have he' : ¬ (x = p ∧ y = q) := fun e => he (by rw [e.1, e.2])
        clear he hd
        by_cases hxp : x = p
        · subst hxp
          have hyq : ¬ y = q := fun e => he' ⟨rfl, e⟩
          clear he'
          go_wp2_with fail
          go_quiet (fail)
          go_wp2
          go_roundw
          case rel => exact ⟨k + 1, by omega, by go_num, GR.out.drewN _, HN.out⟩
          case measure => simp [intOf]; omega
        · clear he'
          go_wp2_with fail
          go_quiet (fail)
          go_wp2
          go_roundw
          case rel => exact ⟨k + 1, by omega, by go_num, GR.out.drewN _, HN.out⟩
          case measure => simp [intOf]; omega
    · obtain rfl : k = M.length := by omega
      have HF : Hid ((x, y) ∉ M) := fun hm => by
        obtain ⟨j, hj⟩ := List.getElem?_of_mem hm
        exact HZ.out j (List.getElem?_eq_some_iff.1 hj).1 hj
      go_wp2
      go_ret
      exact ⟨⟨0, by unfold idxI; rw [if_neg HF.out]; rfl⟩, G1.out.trans GR.out⟩
set_option maxHeartbeats 1000000 in
set_option maxRecDepth 100000 in
theorem contains_any (m : Value) (M : List (Int × Int)) (d : Int × Int) (w : World) (hr : Rd2 w m M) (hl : M.length ≤ 1000) :
    Calls Tryz.prog 164 #[m, .agg #[.int .i64 d.1, .int .i64 d.2]] w fun e w' => e = .returned (.bool (decide (d ∈ M))) ∧ Gr w w' := by
  have H := Lib.hid (kindex_any m M d _ (hr.alloc (.cells #[.int .i64 d.1, .int .i64 d.2] 55)) hl)
  obtain ⟨x, y⟩ := d
  simp only at H
  go_enter Tryz.func164, Tryz.ntmps164
  go_wp2_with (first | (go_at_call 185; refine H.out.mono ?_; rintro e w1 ⟨⟨n, rfl⟩, g1⟩))
  go_ret
  refine ⟨?_, ((Gr.refl w).alloc _).trans g1⟩
  unfold idxI
  by_cases h : (x, y) ∈ M <;> simp [h]
theorem index_counts (v : List Nat) (s : Nat) (hs : s < 5) (w : World) : (Instr.index 130 (.agg (cArr v)) (.int .i64 (s : Int))).run Tryz.prog w = .ok (.int .i64 (cv v s : Nat)) w := by
  have hz : (sizeOf 3).run Tryz.prog w = .ok 1 w := by
    cases hq : Tryz.prog.info? 3 with
    | none => have := int_size1; rw [hq] at this; simp at this
    | some i =>
      have hs : i.size = 1 := by have := int_size1; rw [hq] at this; simpa using this
      simp [sizeOf, typeInfo, hq, hs]
  have hc := cArr_at v s hs
  simp [Instr.index, Sem.run_bind, run_underlying Tryz.underlying130, asIntOf, part, hz, hc]
  intro h
  omega
end Go.Proofs.YtbpkfkljeibjoaaGreat
/- Steps of a region that draws its order, over any state of the frame. -/
namespace Go.Proofs.YtbpkfkljeibjoaaGreat
open Go.RowKit Rm
theorem re_ne (a : Act) (d : Nat) (v : Value) (t : Nat) (h : t ≠ d) : (a.put (some d) v).eval (.tmp t) = a.eval (.tmp t) := by
  simp only [Act.put, Act.eval, Array.getD_eq_getD_getElem?]
  rw [Array.getElem?_setIfInBounds_ne (Ne.symm h)]
theorem re_eq (a : Act) (d : Nat) (v : Value) (h : d < a.tmps.size) : (a.put (some d) v).eval (.tmp d) = v := by
  simp only [Act.put, Act.eval, Array.getD_eq_getD_getElem?]
  rw [Array.getElem?_setIfInBounds_self_of_lt h]
  rfl
theorem re_size (a : Act) (d : Nat) (v : Value) : (a.put (some d) v).tmps.size = a.tmps.size := by
  simp [Act.put]
theorem re_const (a : Act) (v : Value) : a.eval (.const v) = v := rfl
theorem re_comm (a : Act) (i j : Nat) (x y : Value) (h : i ≠ j) : (a.put (some i) x).put (some j) y = (a.put (some j) y).put (some i) x := by
  simp only [Act.put]
  congr 1
  apply Array.ext_getElem?
  intro k
  simp only [Array.getElem?_setIfInBounds, Array.size_setIfInBounds]
  by_cases h1 : j = k <;> by_cases h2 : i = k <;> simp [h1, h2] <;> omega
section
variable {ops : Array Oper} {Q : Exit → Act → World → Prop} {S : World → Prop}
theorem re_yld (a : Act) (j d : Nat) (b : Bool) (h : (ops[j]?).bind (·.dst) = some d) (hv : a.eval (.tmp d) = .bool b) : yielded ops a.tmps j = some b := by
  unfold yielded
  rw [h]
  simp only [Act.eval, Array.getD_eq_getD_getElem?] at hv
  simp only [Option.bind_some]
  cases hc : a.tmps[d]? with
  | none => rw [hc] at hv; cases hv
  | some u => rw [hc] at hv; simp only [Option.getD_some] at hv; subst hv; rfl
theorem re_none {o : Oper} (f : Nat → Option Bool) (h : o.guard = none) : Region.wanted o f = true := by
  unfold Region.wanted; rw [h]
theorem re_some {o : Oper} (f : Nat → Option Bool) (j : Nat) (w b : Bool) (h : o.guard = some (j, w)) (hf : f j = some b) : Region.wanted o f = (b == w) := by
  unfold Region.wanted; rw [h]; simp only [hf]; cases b <;> cases w <;> rfl
theorem re_tk {i : Nat} {oi : Oper} {v : Value} {fuel : Nat} {listed : Array Bool} {a : Act} {w : World} {d : Nat} (hQ : ∀ c a d v w, Q (.panic c) (Act.put a (some d) v) w → Q (.panic c) a w)
    (hi : ops[i]? = some oi) (hd : oi.dst = some d) (hf : Region.free .any ops listed i = true) (hr : (Region.ready .any ops listed).contains i = true)
    (hs : Region.noSelect ops = true) (hy : YieldsIf Tryz.prog ops S oi v a) (hS : S w)
    (h : wpAnyH Tryz.prog .any ops Q S fuel (listed.setIfInBounds i true) (a.put (some d) v) w) : wpAnyH Tryz.prog .any ops Q S (fuel + 1) listed a w :=
  wpAnyH_take hi hs hf hr (fun c a w h => hQ c a d v w (hd ▸ h)) hy hS (hd ▸ h)
theorem re_one {i : Nat} {oi : Oper} {fuel : Nat} {listed : Array Bool} {a : Act} {w : World} (hr : Region.ready .any ops listed = [i]) (hi : ops[i]? = some oi) (hw : Region.wanted oi (yielded ops a.tmps) = true)
    (h : ∀ K : Act → World → Prop, (∀ a w, S w → wpAnyH Tryz.prog .any ops Q S fuel (listed.setIfInBounds i true) a w → K a w) → Oper.wp Tryz.prog oi a w K Q) : wpAnyH Tryz.prog .any ops Q S (fuel + 1) listed a w := by
  refine wpAnyH_ready (rs := [i]) hr (by simp) (AllReadyH.cons hi (fun K hK => ?_) AllReadyH.nil)
  rw [if_pos hw]
  exact h K (fun a w h1 h2 => hK.out a w h1 (fun _ => h2))
theorem re_pair {i j : Nat} {oi oj : Oper} {fuel : Nat} {listed : Array Bool} {a : Act} {w : World} (hr : Region.ready .any ops listed = [i, j]) (hi : ops[i]? = some oi) (hj : ops[j]? = some oj)
    (hw : Region.wanted oi (yielded ops a.tmps) = true) (hw' : Region.wanted oj (yielded ops a.tmps) = true)
    (h : ∀ K : Act → World → Prop, (∀ a w, S w → wpAnyH Tryz.prog .any ops Q S fuel (listed.setIfInBounds i true) a w → K a w) → Oper.wp Tryz.prog oi a w K Q)
    (h' : ∀ K : Act → World → Prop, (∀ a w, S w → wpAnyH Tryz.prog .any ops Q S fuel (listed.setIfInBounds j true) a w → K a w) → Oper.wp Tryz.prog oj a w K Q) : wpAnyH Tryz.prog .any ops Q S (fuel + 1) listed a w := by
  refine wpAnyH_ready (rs := [i, j]) hr (by simp) (AllReadyH.cons hi (fun K hK => ?_) (AllReadyH.cons hj (fun K hK => ?_) AllReadyH.nil))
  · rw [if_pos hw]
    exact h K (fun a w h1 h2 => hK.out a w h1 (fun _ => h2))
  · rw [if_pos hw']
    exact h' K (fun a w h1 h2 => hK.out a w h1 (fun _ => h2))
theorem re_wcall {oi : Oper} {f : Nat} {args : Array Value} {a : Act} {w : World} {K : Act → World → Prop} {A : Ending → World → Prop} {d : Nat} (hd : oi.dst = some d) (hrun : (execOp a.eval oi).run Tryz.prog w = .ok (.enter f args) w) (hc : Calls Tryz.prog f args w A)
    (h : ∀ e w', A e w' → ∃ v, e = .returned v ∧ K (a.put (some d) v) w') : Oper.wp Tryz.prog oi a w K Q := by
  unfold Oper.wp
  rw [hrun, Oper.upon_enter]
  refine hc.mono ?_
  intro e w' hA
  obtain ⟨v, rfl, hk⟩ := h e w' hA
  rw [hd]
  exact hk
theorem re_wval {oi : Oper} {v : Value} {a : Act} {w w' : World} {K : Act → World → Prop} {d : Nat} (hd : oi.dst = some d) (hrun : (execOp a.eval oi).run Tryz.prog w = .ok (.value v) w') (h : K (a.put (some d) v) w') : Oper.wp Tryz.prog oi a w K Q := by
  unfold Oper.wp
  rw [hrun]
  rw [← hd] at h
  exact h
end
section
variable (ev : Operand → Value) (d : Option Tmp) (ty : TypeId) (p : String) (af : Array Edge) (g : Option (Nat × Bool)) (w : World)
theorem rr_move (x : Operand) (v : Value) (h : ev x = v) : (execOp ev (Oper.mk d (.move x) ty p af g)).run Tryz.prog w = .ok (.value v) w := by
  subst h; rfl
theorem rr_assign (x : Operand) (v : Value) (h : ev x = v) : (execOp ev (Oper.mk d (.assign x) ty p af g)).run Tryz.prog w = .ok (.value v) w := by
  subst h; rfl
theorem rr_pick (c x y : Operand) (b : Bool) (v : Value) (hc : ev c = .bool b) (h : (if b then ev x else ev y) = v) : (execOp ev (Oper.mk d (.pick c x y) ty p af g)).run Tryz.prog w = .ok (.value v) w := by
  subst h; cases b <;> go_simp
theorem rr_ext0 (x : Operand) (u v : Value) (h : ev x = .tuple #[u, v]) : (execOp ev (Oper.mk d (.extract x 0) ty p af g)).run Tryz.prog w = .ok (.value u) w := by
  go_simp
theorem rr_ext1 (x : Operand) (u v : Value) (h : ev x = .tuple #[u, v]) : (execOp ev (Oper.mk d (.extract x 1) ty p af g)).run Tryz.prog w = .ok (.value v) w := by
  go_simp
theorem rr_enter_of {f : FuncId} {fn : Func} (hf : Tryz.prog.funcs[f]? = some fn) (hname : (fn.name == "runtime.NumGoroutine") = false) (hb : fn.body.isNone = false) (args : Array Value) (w : World) : (callFunc f args).run Tryz.prog w = .ok (.enter f args) w := by
  have h1 : ¬ fn.name = "runtime.NumGoroutine" := by simpa using hname
  have h2 : ¬ fn.body = none := by intro e; rw [e] at hb; cases hb
  simp [callFunc, Sem.run_bind, hf, h1, h2]
theorem rr_enter1 (f : Nat) (x : Operand) (v : Value) (ts : Array TypeId) (h : ev x = v) (hf : ev (.func f) = .func (.func f) #[] #[]) (hcf : (callFunc f #[v]).run Tryz.prog w = .ok (.enter f #[v]) w) : (execOp ev (Oper.mk d (.call (Call.mk (.value (.func f)) #[x] ts)) ty p af g)).run Tryz.prog w = .ok (.enter f #[v]) w := by
  go_simp
theorem rr_enter2 (f : Nat) (x y : Operand) (u v : Value) (ts : Array TypeId) (h : ev x = u) (h' : ev y = v) (hf : ev (.func f) = .func (.func f) #[] #[]) (hcf : (callFunc f #[u, v]).run Tryz.prog w = .ok (.enter f #[u, v]) w) : (execOp ev (Oper.mk d (.call (Call.mk (.value (.func f)) #[x, y] ts)) ty p af g)).run Tryz.prog w = .ok (.enter f #[u, v]) w := by
  go_simp
end
end Go.Proofs.YtbpkfkljeibjoaaGreat
/- know.has: its drawn region over any frame; Has. -/
namespace Go.Proofs.YtbpkfkljeibjoaaGreat
open Go.RowKit Rm
section
variable (ev : Operand → Value) (d : Option Tmp) (ty : TypeId) (p : String) (af : Array Edge) (g : Option (Nat × Bool)) (w : World)
theorem rr_fD0 (x : Operand) (B : Nat) (h : ev x = .pointer (some ⟨B, 0, none⟩)) : (execOp ev (Oper.mk d (.fieldAddr 55 x 0) ty p af g)).run Tryz.prog w = .ok (.value (.pointer (some ⟨B, 0, none⟩))) w := by
  go_simp
theorem rr_fD1 (x : Operand) (B : Nat) (h : ev x = .pointer (some ⟨B, 0, none⟩)) : (execOp ev (Oper.mk d (.fieldAddr 55 x 1) ty p af g)).run Tryz.prog w = .ok (.value (.pointer (some ⟨B, 1, none⟩))) w := by
  go_simp
theorem rr_fK1 (x : Operand) (B : Nat) (h : ev x = .pointer (some ⟨B, 0, none⟩)) : (execOp ev (Oper.mk d (.fieldAddr 33 x 1) ty p af g)).run Tryz.prog w = .ok (.value (.pointer (some ⟨B, 1, none⟩))) w := by
  go_simp
theorem rr_lI (x : Operand) (B o : Nat) (n : Int) (h : ev x = .pointer (some ⟨B, o, none⟩)) (hc : w.cell? ⟨B, o, none⟩ = some (.int .i64 n)) : (execOp ev (Oper.mk d (.load 3 x) ty p af g)).run Tryz.prog w = .ok (.value (.int .i64 n)) w := by
  go_simp
theorem rr_lS (x : Operand) (B o : Nat) (v : Value) (h : ev x = .pointer (some ⟨B, o, none⟩)) (hc : w.cell? ⟨B, o, none⟩ = some v) : (execOp ev (Oper.mk d (.load 31 x) ty p af g)).run Tryz.prog w = .ok (.value v) w := by
  go_simp
theorem rr_lK (x : Operand) (B : Nat) (u v : Value) (h : ev x = .pointer (some ⟨B, 0, none⟩)) (hc : w.cell? ⟨B, 0, none⟩ = some u) (hc' : w.cell? ⟨B, 1, none⟩ = some v) : (execOp ev (Oper.mk d (.load 33 x) ty p af g)).run Tryz.prog w = .ok (.value (.agg #[u, v])) w := by
  go_simp
theorem rr_lD (x : Operand) (B : Nat) (u v : Value) (h : ev x = .pointer (some ⟨B, 0, none⟩)) (hc : w.cell? ⟨B, 0, none⟩ = some u) (hc' : w.cell? ⟨B, 1, none⟩ = some v) : (execOp ev (Oper.mk d (.load 55 x) ty p af g)).run Tryz.prog w = .ok (.value (.agg #[u, v])) w := by
  go_simp
theorem rr_ix (x y : Operand) (A : Array Value) (s n : Nat) (h : ev x = .agg A) (h' : ev y = .int .i64 (s : Int)) (hix : ∀ w, (Instr.index 130 (.agg A) (.int .i64 (s : Int))).run Tryz.prog w = .ok (.int .i64 (n : Nat)) w) : (execOp ev (Oper.mk d (.index 130 x y) ty p af g)).run Tryz.prog w = .ok (.value (.int .i64 (n : Nat))) w := by
  go_simp
theorem rr_leq (x y : Operand) (a b : Int) (q : Bool) (h : ev x = .int .i64 a) (h' : ev y = .int .i64 b) (hq : decide (a ≤ b) = q) : (execOp ev (Oper.mk d (.binOp .leq 3 x y 3) ty p af g)).run Tryz.prog w = .ok (.value (.bool q)) w := by
  subst hq
  go_simp
end
def hs_0 : Oper := Oper.mk (some 5) (Op.fieldAddr 55 (Operand.tmp 3) 1) 0 "know.go:150" #[] none
def hs_1 : Oper := Oper.mk (some 6) (Op.load 3 (Operand.tmp 5)) 3 "know.go:150" #[Edge.mk 0 Ground.data] none
def hs_2 : Oper := Oper.mk (some 7) (Op.load 33 (Operand.tmp 2)) 33 "know.go:150" #[] none
def hs_3 : Oper := Oper.mk (some 8) (Op.call (Call.mk (Callee.value (Operand.func 81)) #[Operand.tmp 7] #[33])) 130 "know.go:150" #[Edge.mk 2 Ground.data] none
def hs_4 : Oper := Oper.mk (some 9) (Op.fieldAddr 55 (Operand.tmp 3) 0) 0 "know.go:150" #[] none
def hs_5 : Oper := Oper.mk (some 10) (Op.load 3 (Operand.tmp 9)) 3 "know.go:150" #[Edge.mk 4 Ground.data] none
def hs_6 : Oper := Oper.mk (some 11) (Op.index 130 (Operand.tmp 8) (Operand.tmp 10)) 3 "know.go:150" #[Edge.mk 3 Ground.data, Edge.mk 5 Ground.data] none
def hs_7 : Oper := Oper.mk (some 12) (Op.binOp BinOp.leq 3 (Operand.tmp 6) (Operand.tmp 11) 3) 4 "know.go:150" #[Edge.mk 1 Ground.data, Edge.mk 6 Ground.data] none
def hs_8 : Oper := Oper.mk (some 13) (Op.move (Operand.tmp 12)) 4 "know.go:150" #[Edge.mk 7 Ground.data, Edge.mk 3 Ground.chain] none
def hs_9 : Oper := Oper.mk (some 14) (Op.fieldAddr 33 (Operand.tmp 2) 1) 0 "know.go:150" #[Edge.mk 8 Ground.guard] (some (8, false))
def hs_10 : Oper := Oper.mk (some 15) (Op.load 31 (Operand.tmp 14)) 31 "know.go:150" #[Edge.mk 9 Ground.data, Edge.mk 8 Ground.guard] (some (8, false))
def hs_11 : Oper := Oper.mk (some 16) (Op.load 55 (Operand.tmp 3)) 55 "know.go:150" #[Edge.mk 8 Ground.guard] (some (8, false))
def hs_12 : Oper := Oper.mk (some 17) (Op.call (Call.mk (Callee.value (Operand.func 164)) #[Operand.tmp 15, Operand.tmp 16] #[31, 55])) 4 "know.go:150" #[Edge.mk 10 Ground.data, Edge.mk 11 Ground.data, Edge.mk 8 Ground.chain, Edge.mk 8 Ground.guard] (some (8, false))
def hs_13 : Oper := Oper.mk (some 18) (Op.pick (Operand.tmp 13) (Operand.const (Value.bool true)) (Operand.tmp 17)) 4 "know.go:150" #[Edge.mk 8 Ground.data, Edge.mk 12 Ground.data] none
def hs_14 : Oper := Oper.mk (some 4) (Op.assign (Operand.tmp 18)) 4 "know.go:150" #[Edge.mk 13 Ground.data, Edge.mk 12 Ground.chain, Edge.mk 0 Ground.phase, Edge.mk 1 Ground.phase, Edge.mk 2 Ground.phase, Edge.mk 3 Ground.phase, Edge.mk 4 Ground.phase, Edge.mk 5 Ground.phase, Edge.mk 6 Ground.phase, Edge.mk 7 Ground.phase, Edge.mk 8 Ground.phase, Edge.mk 9 Ground.phase, Edge.mk 10 Ground.phase, Edge.mk 11 Ground.phase, Edge.mk 12 Ground.phase, Edge.mk 13 Ground.phase] none
def hs_Ops : Array Oper := #[hs_0, hs_1, hs_2, hs_3, hs_4, hs_5, hs_6, hs_7, hs_8, hs_9, hs_10, hs_11, hs_12, hs_13, hs_14]
set_option maxHeartbeats 4000000 in
set_option maxRecDepth 100000 in
theorem has_reg_no (Q : Exit → Act → World → Prop) (hQ : ∀ c a d v w, Q (.panic c) (Act.put a (some d) v) w → Q (.panic c) a w) (a : Act) (w : World) (g0 g1 s c n : Nat) (vv mv : Value) (A : Array Value) (q : Bool)
    (hsz : a.tmps.size = 19) (h2 : a.eval (.tmp 2) = .pointer (some ⟨g0, 0, none⟩)) (h3 : a.eval (.tmp 3) = .pointer (some ⟨g1, 0, none⟩))
    (hS0 : w.cell? ⟨g0, 0, none⟩ = some vv ∧ w.cell? ⟨g0, 1, none⟩ = some mv ∧ w.cell? ⟨g1, 0, none⟩ = some (.int .i64 (s : Int)) ∧ w.cell? ⟨g1, 1, none⟩ = some (.int .i64 (c : Int))) (hl0 : g0 < w.heap.size) (hl1 : g1 < w.heap.size)
    (hix : ∀ w, (Instr.index 130 (.agg A) (.int .i64 (s : Int))).run Tryz.prog w = .ok (.int .i64 (n : Nat)) w) (hle : decide ((c : Int) ≤ (n : Int)) = true)
    (HC : ∀ w', Gr w w' → Calls Tryz.prog 81 #[.agg #[vv, mv]] w' fun e w'' => e = .returned (.agg A) ∧ Gr w' w'')
    (HM : ∀ w', Gr w w' → Calls Tryz.prog 164 #[mv, .agg #[.int .i64 (s : Int), .int .i64 (c : Int)]] w' fun e w'' => e = .returned (.bool q) ∧ Gr w' w'')
    (h : ∀ w', Gr w w' → Q .normal (Act.put (Act.put (Act.put (Act.put (Act.put (Act.put (Act.put (Act.put (Act.put (Act.put (Act.put (Act.put (Act.put (Act.put (Act.put a (some 5) (.pointer (some ⟨g1, 1, none⟩))) (some 6) (.int .i64 (c : Int))) (some 7) (.agg #[vv, mv])) (some 9) (.pointer (some ⟨g1, 0, none⟩))) (some 10) (.int .i64 (s : Int))) (some 8) (.agg A)) (some 11) (.int .i64 (n : Int))) (some 12) (.bool true)) (some 13) (.bool true)) (some 14) (undef)) (some 15) (undef)) (some 16) (undef)) (some 17) (undef)) (some 18) (.bool true)) (some 4) (.bool true)) w') : (Code.region 1 hs_Ops true).wp Tryz.prog Q a w := by
  have keep : ∀ x, Gr w x → (fun x => x.cell? ⟨g0, 0, none⟩ = some vv ∧ x.cell? ⟨g0, 1, none⟩ = some mv ∧ x.cell? ⟨g1, 0, none⟩ = some (.int .i64 (s : Int)) ∧ x.cell? ⟨g1, 1, none⟩ = some (.int .i64 (c : Int))) x := fun x gx => ⟨(gx.cells.1 g0 0 hl0).trans hS0.1, (gx.cells.1 g0 1 hl0).trans hS0.2.1, (gx.cells.1 g1 0 hl1).trans hS0.2.2.1, (gx.cells.1 g1 1 hl1).trans hS0.2.2.2⟩
  refine wp_region_held_drew (S := fun x => x.cell? ⟨g0, 0, none⟩ = some vv ∧ x.cell? ⟨g0, 1, none⟩ = some mv ∧ x.cell? ⟨g1, 0, none⟩ = some (.int .i64 (s : Int)) ∧ x.cell? ⟨g1, 1, none⟩ = some (.int .i64 (c : Int))) (by kernel_rfl) hS0 (fun hHeld => ?_)
  show wpAnyH Tryz.prog .any hs_Ops Q _ 15 (Array.replicate 15 false) a w.drew
  refine re_tk (i := 0) (oi := hs_0) (v := .pointer (some ⟨g1, 1, none⟩)) (d := 5) hQ rfl rfl (by kernel_rfl) (by kernel_rfl) (by kernel_rfl) (Or.inl ⟨re_none _ rfl, fun wx hS => rr_fD1 _ _ _ _ _ _ _ _ g1 (by simp [re_ne, re_eq, re_size, re_const, hsz, h2, h3])⟩) hHeld ?_
  refine re_tk (i := 1) (oi := hs_1) (v := .int .i64 (c : Int)) (d := 6) hQ rfl rfl (by kernel_rfl) (by kernel_rfl) (by kernel_rfl) (Or.inl ⟨re_none _ rfl, fun wx hS => rr_lI _ _ _ _ _ _ _ _ g1 1 (c : Int) (by simp [re_ne, re_eq, re_size, re_const, hsz, h2, h3]) hS.2.2.2⟩) hHeld ?_
  refine re_tk (i := 2) (oi := hs_2) (v := .agg #[vv, mv]) (d := 7) hQ rfl rfl (by kernel_rfl) (by kernel_rfl) (by kernel_rfl) (Or.inl ⟨re_none _ rfl, fun wx hS => rr_lK _ _ _ _ _ _ _ _ g0 vv mv (by simp [re_ne, re_eq, re_size, re_const, hsz, h2, h3]) hS.1 hS.2.1⟩) hHeld ?_
  refine re_tk (i := 4) (oi := hs_4) (v := .pointer (some ⟨g1, 0, none⟩)) (d := 9) hQ rfl rfl (by kernel_rfl) (by kernel_rfl) (by kernel_rfl) (Or.inl ⟨re_none _ rfl, fun wx hS => rr_fD0 _ _ _ _ _ _ _ _ g1 (by simp [re_ne, re_eq, re_size, re_const, hsz, h2, h3])⟩) hHeld ?_
  refine re_tk (i := 5) (oi := hs_5) (v := .int .i64 (s : Int)) (d := 10) hQ rfl rfl (by kernel_rfl) (by kernel_rfl) (by kernel_rfl) (Or.inl ⟨re_none _ rfl, fun wx hS => rr_lI _ _ _ _ _ _ _ _ g1 0 (s : Int) (by simp [re_ne, re_eq, re_size, re_const, hsz, h2, h3]) hS.2.2.1⟩) hHeld ?_
  refine re_one (i := 3) (oi := hs_3) (by kernel_rfl) rfl (re_none _ rfl) (fun K hK => ?_)
  refine re_wcall (d := 8) rfl (rr_enter1 _ _ _ _ _ _ _ 81 _ (.agg #[vv, mv]) _ (by simp [re_ne, re_eq, re_size, re_const, hsz, h2, h3]) rfl (rr_enter_of Tryz.func81 (by kernel_rfl) (by kernel_rfl) _ _)) (HC w.drew (Gr.refl w).drew) ?_
  rintro e w1 ⟨rfl, g1x⟩
  have G1 := (Gr.refl w).drew.trans g1x
  refine ⟨_, rfl, hK _ _ (keep _ G1) ?_⟩
  refine re_tk (i := 6) (oi := hs_6) (v := .int .i64 (n : Int)) (d := 11) hQ rfl rfl (by kernel_rfl) (by kernel_rfl) (by kernel_rfl) (Or.inl ⟨re_none _ rfl, fun wx hS => rr_ix _ _ _ _ _ _ _ _ _ A s n (by simp [re_ne, re_eq, re_size, re_const, hsz, h2, h3]) (by simp [re_ne, re_eq, re_size, re_const, hsz, h2, h3]) hix⟩) (keep _ G1) ?_
  refine re_tk (i := 7) (oi := hs_7) (v := .bool true) (d := 12) hQ rfl rfl (by kernel_rfl) (by kernel_rfl) (by kernel_rfl) (Or.inl ⟨re_none _ rfl, fun wx hS => rr_leq _ _ _ _ _ _ _ _ _ (c : Int) (n : Int) true (by simp [re_ne, re_eq, re_size, re_const, hsz, h2, h3]) (by simp [re_ne, re_eq, re_size, re_const, hsz, h2, h3]) hle⟩) (keep _ G1) ?_
  refine re_tk (i := 8) (oi := hs_8) (v := .bool true) (d := 13) hQ rfl rfl (by kernel_rfl) (by kernel_rfl) (by kernel_rfl) (Or.inl ⟨re_none _ rfl, fun wx hS => rr_move _ _ _ _ _ _ _ _ _ (by simp [re_ne, re_eq, re_size, re_const, hsz, h2, h3])⟩) (keep _ G1) ?_
  refine re_tk (i := 9) (oi := hs_9) (v := undef) (d := 14) hQ rfl rfl (by kernel_rfl) (by kernel_rfl) (by kernel_rfl) (Or.inr ⟨(re_some _ 8 false true rfl (re_yld _ 8 13 true rfl (by simp [re_ne, re_eq, re_size, re_const, hsz, h2, h3]))).trans rfl, rfl⟩) (keep _ G1) ?_
  refine re_tk (i := 10) (oi := hs_10) (v := undef) (d := 15) hQ rfl rfl (by kernel_rfl) (by kernel_rfl) (by kernel_rfl) (Or.inr ⟨(re_some _ 8 false true rfl (re_yld _ 8 13 true rfl (by simp [re_ne, re_eq, re_size, re_const, hsz, h2, h3]))).trans rfl, rfl⟩) (keep _ G1) ?_
  refine re_tk (i := 11) (oi := hs_11) (v := undef) (d := 16) hQ rfl rfl (by kernel_rfl) (by kernel_rfl) (by kernel_rfl) (Or.inr ⟨(re_some _ 8 false true rfl (re_yld _ 8 13 true rfl (by simp [re_ne, re_eq, re_size, re_const, hsz, h2, h3]))).trans rfl, rfl⟩) (keep _ G1) ?_
  refine re_tk (i := 12) (oi := hs_12) (v := undef) (d := 17) hQ rfl rfl (by kernel_rfl) (by kernel_rfl) (by kernel_rfl) (Or.inr ⟨(re_some _ 8 false true rfl (re_yld _ 8 13 true rfl (by simp [re_ne, re_eq, re_size, re_const, hsz, h2, h3]))).trans rfl, rfl⟩) (keep _ G1) ?_
  refine re_tk (i := 13) (oi := hs_13) (v := .bool true) (d := 18) hQ rfl rfl (by kernel_rfl) (by kernel_rfl) (by kernel_rfl) (Or.inl ⟨re_none _ rfl, fun wx hS => rr_pick _ _ _ _ _ _ _ _ _ _ true _ (by simp [re_ne, re_eq, re_size, re_const, hsz, h2, h3]) (by simp [re_ne, re_eq, re_size, re_const, hsz, h2, h3])⟩) (keep _ G1) ?_
  refine re_tk (i := 14) (oi := hs_14) (v := .bool true) (d := 4) hQ rfl rfl (by kernel_rfl) (by kernel_rfl) (by kernel_rfl) (Or.inl ⟨re_none _ rfl, fun wx hS => rr_assign _ _ _ _ _ _ _ _ _ (by simp [re_ne, re_eq, re_size, re_const, hsz, h2, h3])⟩) (keep _ G1) ?_
  exact wpAnyH_done (by kernel_rfl) (h _ G1) _
set_option maxHeartbeats 4000000 in
set_option maxRecDepth 100000 in
theorem has_reg_yes (Q : Exit → Act → World → Prop) (hQ : ∀ c a d v w, Q (.panic c) (Act.put a (some d) v) w → Q (.panic c) a w) (a : Act) (w : World) (g0 g1 s c n : Nat) (vv mv : Value) (A : Array Value) (q : Bool)
    (hsz : a.tmps.size = 19) (h2 : a.eval (.tmp 2) = .pointer (some ⟨g0, 0, none⟩)) (h3 : a.eval (.tmp 3) = .pointer (some ⟨g1, 0, none⟩))
    (hS0 : w.cell? ⟨g0, 0, none⟩ = some vv ∧ w.cell? ⟨g0, 1, none⟩ = some mv ∧ w.cell? ⟨g1, 0, none⟩ = some (.int .i64 (s : Int)) ∧ w.cell? ⟨g1, 1, none⟩ = some (.int .i64 (c : Int))) (hl0 : g0 < w.heap.size) (hl1 : g1 < w.heap.size)
    (hix : ∀ w, (Instr.index 130 (.agg A) (.int .i64 (s : Int))).run Tryz.prog w = .ok (.int .i64 (n : Nat)) w) (hle : decide ((c : Int) ≤ (n : Int)) = false)
    (HC : ∀ w', Gr w w' → Calls Tryz.prog 81 #[.agg #[vv, mv]] w' fun e w'' => e = .returned (.agg A) ∧ Gr w' w'')
    (HM : ∀ w', Gr w w' → Calls Tryz.prog 164 #[mv, .agg #[.int .i64 (s : Int), .int .i64 (c : Int)]] w' fun e w'' => e = .returned (.bool q) ∧ Gr w' w'')
    (h : ∀ w', Gr w w' → Q .normal (Act.put (Act.put (Act.put (Act.put (Act.put (Act.put (Act.put (Act.put (Act.put (Act.put (Act.put (Act.put (Act.put (Act.put (Act.put a (some 5) (.pointer (some ⟨g1, 1, none⟩))) (some 6) (.int .i64 (c : Int))) (some 7) (.agg #[vv, mv])) (some 9) (.pointer (some ⟨g1, 0, none⟩))) (some 10) (.int .i64 (s : Int))) (some 8) (.agg A)) (some 11) (.int .i64 (n : Int))) (some 12) (.bool false)) (some 13) (.bool false)) (some 14) (.pointer (some ⟨g0, 1, none⟩))) (some 15) (mv)) (some 16) (.agg #[.int .i64 (s : Int), .int .i64 (c : Int)])) (some 17) (.bool q)) (some 18) (.bool q)) (some 4) (.bool q)) w') : (Code.region 1 hs_Ops true).wp Tryz.prog Q a w := by
  have keep : ∀ x, Gr w x → (fun x => x.cell? ⟨g0, 0, none⟩ = some vv ∧ x.cell? ⟨g0, 1, none⟩ = some mv ∧ x.cell? ⟨g1, 0, none⟩ = some (.int .i64 (s : Int)) ∧ x.cell? ⟨g1, 1, none⟩ = some (.int .i64 (c : Int))) x := fun x gx => ⟨(gx.cells.1 g0 0 hl0).trans hS0.1, (gx.cells.1 g0 1 hl0).trans hS0.2.1, (gx.cells.1 g1 0 hl1).trans hS0.2.2.1, (gx.cells.1 g1 1 hl1).trans hS0.2.2.2⟩
  refine wp_region_held_drew (S := fun x => x.cell? ⟨g0, 0, none⟩ = some vv ∧ x.cell? ⟨g0, 1, none⟩ = some mv ∧ x.cell? ⟨g1, 0, none⟩ = some (.int .i64 (s : Int)) ∧ x.cell? ⟨g1, 1, none⟩ = some (.int .i64 (c : Int))) (by kernel_rfl) hS0 (fun hHeld => ?_)
  show wpAnyH Tryz.prog .any hs_Ops Q _ 15 (Array.replicate 15 false) a w.drew
  refine re_tk (i := 0) (oi := hs_0) (v := .pointer (some ⟨g1, 1, none⟩)) (d := 5) hQ rfl rfl (by kernel_rfl) (by kernel_rfl) (by kernel_rfl) (Or.inl ⟨re_none _ rfl, fun wx hS => rr_fD1 _ _ _ _ _ _ _ _ g1 (by simp [re_ne, re_eq, re_size, re_const, hsz, h2, h3])⟩) hHeld ?_
  refine re_tk (i := 1) (oi := hs_1) (v := .int .i64 (c : Int)) (d := 6) hQ rfl rfl (by kernel_rfl) (by kernel_rfl) (by kernel_rfl) (Or.inl ⟨re_none _ rfl, fun wx hS => rr_lI _ _ _ _ _ _ _ _ g1 1 (c : Int) (by simp [re_ne, re_eq, re_size, re_const, hsz, h2, h3]) hS.2.2.2⟩) hHeld ?_
  refine re_tk (i := 2) (oi := hs_2) (v := .agg #[vv, mv]) (d := 7) hQ rfl rfl (by kernel_rfl) (by kernel_rfl) (by kernel_rfl) (Or.inl ⟨re_none _ rfl, fun wx hS => rr_lK _ _ _ _ _ _ _ _ g0 vv mv (by simp [re_ne, re_eq, re_size, re_const, hsz, h2, h3]) hS.1 hS.2.1⟩) hHeld ?_
  refine re_tk (i := 4) (oi := hs_4) (v := .pointer (some ⟨g1, 0, none⟩)) (d := 9) hQ rfl rfl (by kernel_rfl) (by kernel_rfl) (by kernel_rfl) (Or.inl ⟨re_none _ rfl, fun wx hS => rr_fD0 _ _ _ _ _ _ _ _ g1 (by simp [re_ne, re_eq, re_size, re_const, hsz, h2, h3])⟩) hHeld ?_
  refine re_tk (i := 5) (oi := hs_5) (v := .int .i64 (s : Int)) (d := 10) hQ rfl rfl (by kernel_rfl) (by kernel_rfl) (by kernel_rfl) (Or.inl ⟨re_none _ rfl, fun wx hS => rr_lI _ _ _ _ _ _ _ _ g1 0 (s : Int) (by simp [re_ne, re_eq, re_size, re_const, hsz, h2, h3]) hS.2.2.1⟩) hHeld ?_
  refine re_one (i := 3) (oi := hs_3) (by kernel_rfl) rfl (re_none _ rfl) (fun K hK => ?_)
  refine re_wcall (d := 8) rfl (rr_enter1 _ _ _ _ _ _ _ 81 _ (.agg #[vv, mv]) _ (by simp [re_ne, re_eq, re_size, re_const, hsz, h2, h3]) rfl (rr_enter_of Tryz.func81 (by kernel_rfl) (by kernel_rfl) _ _)) (HC w.drew (Gr.refl w).drew) ?_
  rintro e w1 ⟨rfl, g1x⟩
  have G1 := (Gr.refl w).drew.trans g1x
  refine ⟨_, rfl, hK _ _ (keep _ G1) ?_⟩
  refine re_tk (i := 6) (oi := hs_6) (v := .int .i64 (n : Int)) (d := 11) hQ rfl rfl (by kernel_rfl) (by kernel_rfl) (by kernel_rfl) (Or.inl ⟨re_none _ rfl, fun wx hS => rr_ix _ _ _ _ _ _ _ _ _ A s n (by simp [re_ne, re_eq, re_size, re_const, hsz, h2, h3]) (by simp [re_ne, re_eq, re_size, re_const, hsz, h2, h3]) hix⟩) (keep _ G1) ?_
  refine re_tk (i := 7) (oi := hs_7) (v := .bool false) (d := 12) hQ rfl rfl (by kernel_rfl) (by kernel_rfl) (by kernel_rfl) (Or.inl ⟨re_none _ rfl, fun wx hS => rr_leq _ _ _ _ _ _ _ _ _ (c : Int) (n : Int) false (by simp [re_ne, re_eq, re_size, re_const, hsz, h2, h3]) (by simp [re_ne, re_eq, re_size, re_const, hsz, h2, h3]) hle⟩) (keep _ G1) ?_
  refine re_tk (i := 8) (oi := hs_8) (v := .bool false) (d := 13) hQ rfl rfl (by kernel_rfl) (by kernel_rfl) (by kernel_rfl) (Or.inl ⟨re_none _ rfl, fun wx hS => rr_move _ _ _ _ _ _ _ _ _ (by simp [re_ne, re_eq, re_size, re_const, hsz, h2, h3])⟩) (keep _ G1) ?_
  refine re_tk (i := 9) (oi := hs_9) (v := .pointer (some ⟨g0, 1, none⟩)) (d := 14) hQ rfl rfl (by kernel_rfl) (by kernel_rfl) (by kernel_rfl) (Or.inl ⟨(re_some _ 8 false false rfl (re_yld _ 8 13 false rfl (by simp [re_ne, re_eq, re_size, re_const, hsz, h2, h3]))).trans rfl, fun wx hS => rr_fK1 _ _ _ _ _ _ _ _ g0 (by simp [re_ne, re_eq, re_size, re_const, hsz, h2, h3])⟩) (keep _ G1) ?_
  refine re_tk (i := 10) (oi := hs_10) (v := mv) (d := 15) hQ rfl rfl (by kernel_rfl) (by kernel_rfl) (by kernel_rfl) (Or.inl ⟨(re_some _ 8 false false rfl (re_yld _ 8 13 false rfl (by simp [re_ne, re_eq, re_size, re_const, hsz, h2, h3]))).trans rfl, fun wx hS => rr_lS _ _ _ _ _ _ _ _ g0 1 mv (by simp [re_ne, re_eq, re_size, re_const, hsz, h2, h3]) hS.2.1⟩) (keep _ G1) ?_
  refine re_tk (i := 11) (oi := hs_11) (v := .agg #[.int .i64 (s : Int), .int .i64 (c : Int)]) (d := 16) hQ rfl rfl (by kernel_rfl) (by kernel_rfl) (by kernel_rfl) (Or.inl ⟨(re_some _ 8 false false rfl (re_yld _ 8 13 false rfl (by simp [re_ne, re_eq, re_size, re_const, hsz, h2, h3]))).trans rfl, fun wx hS => rr_lD _ _ _ _ _ _ _ _ g1 _ _ (by simp [re_ne, re_eq, re_size, re_const, hsz, h2, h3]) hS.2.2.1 hS.2.2.2⟩) (keep _ G1) ?_
  refine re_one (i := 12) (oi := hs_12) (by kernel_rfl) rfl ((re_some _ 8 false false rfl (re_yld _ 8 13 false rfl (by simp [re_ne, re_eq, re_size, re_const, hsz, h2, h3]))).trans rfl) (fun K hK => ?_)
  refine re_wcall (d := 17) rfl (rr_enter2 _ _ _ _ _ _ _ 164 _ _ mv (.agg #[.int .i64 (s : Int), .int .i64 (c : Int)]) _ (by simp [re_ne, re_eq, re_size, re_const, hsz, h2, h3]) (by simp [re_ne, re_eq, re_size, re_const, hsz, h2, h3]) rfl (rr_enter_of Tryz.func164 (by kernel_rfl) (by kernel_rfl) _ _)) (HM w1 G1) ?_
  rintro e w2 ⟨rfl, g2x⟩
  have G2 := G1.trans g2x
  refine ⟨_, rfl, hK _ _ (keep _ G2) ?_⟩
  refine re_tk (i := 13) (oi := hs_13) (v := .bool q) (d := 18) hQ rfl rfl (by kernel_rfl) (by kernel_rfl) (by kernel_rfl) (Or.inl ⟨re_none _ rfl, fun wx hS => rr_pick _ _ _ _ _ _ _ _ _ _ false _ (by simp [re_ne, re_eq, re_size, re_const, hsz, h2, h3]) (by simp [re_ne, re_eq, re_size, re_const, hsz, h2, h3])⟩) (keep _ G2) ?_
  refine re_tk (i := 14) (oi := hs_14) (v := .bool q) (d := 4) hQ rfl rfl (by kernel_rfl) (by kernel_rfl) (by kernel_rfl) (Or.inl ⟨re_none _ rfl, fun wx hS => rr_assign _ _ _ _ _ _ _ _ _ (by simp [re_ne, re_eq, re_size, re_const, hsz, h2, h3])⟩) (keep _ G2) ?_
  exact wpAnyH_done (by kernel_rfl) (h _ G2) _
set_option maxHeartbeats 4000000 in
set_option maxRecDepth 100000 in
theorem khas_any (k : Value) (v : List Nat) (m : List (Nat × Nat)) (s c : Nat) (w : World) (hk : KnR w k (ints v) (pairs m)) (ho : OkV v m) (hl : m.length ≤ 60) (hd : inR s c) :
    Calls Tryz.prog 134 #[k, .agg #[.int .i64 (s : Int), .int .i64 (c : Int)]] w fun e w' => e = .returned (.bool (memB v m s c)) ∧ Gr w w' := by
  have HC : Hid (∀ w', Gr w w' → Calls Tryz.prog 81 #[k] w' fun e w'' => e = .returned (.agg (cArr v)) ∧ Gr w' w'') := fun w' g => countsOf_any k v _ w' (hk.gr g) ho.len
  obtain ⟨vv, mv, rfl, r1, r2, r3⟩ := hk
  have HM : Hid (∀ w', Gr w w' → Calls Tryz.prog 164 #[mv, .agg #[.int .i64 (s : Int), .int .i64 (c : Int)]] w' fun e w'' => e = .returned (.bool (m.contains (s, c))) ∧ Gr w' w'') := fun w' g => by
    have := contains_any mv (pairs m) ((s : Int), (c : Int)) w' (r2.gr g) (by rw [pairs_len]; omega)
    have e : decide (((s : Int), (c : Int)) ∈ pairs m) = m.contains (s, c) := by
      rw [Bool.eq_iff_iff]
      simp only [pairs, decide_eq_true_eq, List.mem_map, List.contains_iff_mem, Prod.mk.injEq]
      constructor
      · rintro ⟨⟨a, b⟩, h1, h2, h3⟩
        simp only at h2 h3
        have e1 : a = s := by omega
        have e2 : b = c := by omega
        subst e1 e2; exact h1
      · intro h; exact ⟨(s, c), h, rfl, rfl⟩
    rw [e] at this
    exact this
  obtain ⟨h5, hc1, hc2⟩ := hd
  have HB : Hid (memB v m s c = (decide (c ≤ cv v s) || m.contains (s, c))) := by
    show _ = _
    unfold memB
    congr 1
    simp [hc1]
  have HA := Lib.hid (index_counts v s h5)
  have hcv : (cv v s : Int) ≤ 1000 := by have := cv_le ho.le s; omega
  have h5' : (s : Int) < 5 := by omega
  generalize memB v m s c = R at *
  generalize m.contains (s, c) = q at *
  generalize cv v s = n at *
  generalize cArr v = A at *
  have G2 := Lib.hid (((Gr.refl w).alloc (.cells #[vv, mv] 33)).alloc (.cells #[.int .i64 (s : Int), .int .i64 (c : Int)] 55))
  have T2 := Lib.hid (Two.new (w.alloc (.cells #[vv, mv] 33)) s c 55)
  have e1 : ((w.alloc (.cells #[vv, mv] 33)).alloc (.cells #[.int .i64 (s : Int), .int .i64 (c : Int)] 55)).cell? ⟨w.heap.size, 0, none⟩ = some vv := by simp [go_sem]
  have e2 : ((w.alloc (.cells #[vv, mv] 33)).alloc (.cells #[.int .i64 (s : Int), .int .i64 (c : Int)] 55)).cell? ⟨w.heap.size, 1, none⟩ = some mv := by simp [go_sem]
  have hlt : w.heap.size < ((w.alloc (.cells #[vv, mv] 33)).alloc (.cells #[.int .i64 (s : Int), .int .i64 (c : Int)] 55)).heap.size := by simp; omega
  rw [World.size_alloc] at T2
  clear ho r1 r2 r3
  go_enter Tryz.func134, Tryz.ntmps134
  go_wp2_with fail
  generalize (w.alloc (.cells #[vv, mv] 33)).alloc (.cells #[.int .i64 (s : Int), .int .i64 (c : Int)] 55) = w1 at *
  generalize w.heap.size = g0 at *
  obtain ⟨t0, t1, t2⟩ := T2.out
  by_cases hle : c ≤ n
  · refine has_reg_no _ (fun _ _ _ _ _ h => h) _ w1 g0 (g0 + 1) s c n vv mv A q rfl rfl rfl ⟨e1, e2, t1, t2⟩ hlt t0 HA.out (decide_eq_true (by omega)) (fun w' g => HC.out w' (G2.out.trans g)) (fun w' g => HM.out w' (G2.out.trans g)) (fun w3 g3 => ?_)
    simp only [Act.put, List.setIfInBounds_toArray, List.set_cons_zero, List.set_cons_succ]
    go_wp2
    go_ret
    exact ⟨by rw [HB.out, decide_eq_true hle]; rfl, G2.out.trans g3⟩
  · refine has_reg_yes _ (fun _ _ _ _ _ h => h) _ w1 g0 (g0 + 1) s c n vv mv A q rfl rfl rfl ⟨e1, e2, t1, t2⟩ hlt t0 HA.out (decide_eq_false (by omega)) (fun w' g => HC.out w' (G2.out.trans g)) (fun w' g => HM.out w' (G2.out.trans g)) (fun w3 g3 => ?_)
    simp only [Act.put, List.setIfInBounds_toArray, List.set_cons_zero, List.set_cons_succ]
    go_wp2
    go_ret
    exact ⟨by rw [HB.out, decide_eq_false hle]; rfl, G2.out.trans g3⟩
end Go.Proofs.YtbpkfkljeibjoaaGreat
/- More on drawn regions: three operations at once; stores; rows. -/
namespace Go.Proofs.YtbpkfkljeibjoaaGreat
open Go.RowKit Rm
section
variable {ops : Array Oper} {Q : Exit → Act → World → Prop} {S : World → Prop}
theorem re_tri {i j k : Nat} {oi oj ok : Oper} {fuel : Nat} {listed : Array Bool} {a : Act} {w : World} (hr : Region.ready .any ops listed = [i, j, k]) (hi : ops[i]? = some oi) (hj : ops[j]? = some oj) (hk : ops[k]? = some ok)
    (hw : Region.wanted oi (yielded ops a.tmps) = true) (hw' : Region.wanted oj (yielded ops a.tmps) = true) (hw'' : Region.wanted ok (yielded ops a.tmps) = true)
    (h : ∀ K : Act → World → Prop, (∀ a w, S w → wpAnyH Tryz.prog .any ops Q S fuel (listed.setIfInBounds i true) a w → K a w) → Oper.wp Tryz.prog oi a w K Q)
    (h' : ∀ K : Act → World → Prop, (∀ a w, S w → wpAnyH Tryz.prog .any ops Q S fuel (listed.setIfInBounds j true) a w → K a w) → Oper.wp Tryz.prog oj a w K Q)
    (h'' : ∀ K : Act → World → Prop, (∀ a w, S w → wpAnyH Tryz.prog .any ops Q S fuel (listed.setIfInBounds k true) a w → K a w) → Oper.wp Tryz.prog ok a w K Q) : wpAnyH Tryz.prog .any ops Q S (fuel + 1) listed a w := by
  refine wpAnyH_ready (rs := [i, j, k]) hr (by simp) (AllReadyH.cons hi (fun K hK => ?_) (AllReadyH.cons hj (fun K hK => ?_) (AllReadyH.cons hk (fun K hK => ?_) AllReadyH.nil)))
  · rw [if_pos hw]
    exact h K (fun a w h1 h2 => hK.out a w h1 (fun _ => h2))
  · rw [if_pos hw']
    exact h' K (fun a w h1 h2 => hK.out a w h1 (fun _ => h2))
  · rw [if_pos hw'']
    exact h'' K (fun a w h1 h2 => hK.out a w h1 (fun _ => h2))
theorem re_wrow {oi : Oper} {a : Act} {w : World} {K : Act → World → Prop} (ty : TypeId) (x y : Operand) (ho : oi.op = .store ty x y) (hd : oi.dst = none)
    (g : Nat) (cells : Array Value) (hx : a.eval x = .pointer (some ⟨g, 0, none⟩)) (hy : a.eval y = .agg cells)
    (t : TypeId) (old : Array Value) (hg : w.heap[g]? = some (.cells old t (0, 0))) (hi : (Tryz.prog.info? ty).map (·.size) = some cells.size)
    (hold : old.size = cells.size) (h1 : cells.all (·.oneCell') = true) (h : K a (w.setRow g cells)) : Oper.wp Tryz.prog oi a w K Q := by
  refine wp_store_row ty x y ho g cells hx hy t old hg hi hold h1 ?_
  rw [hd]
  exact h
structure StepW (ops : Array Oper) (Q : Exit → Act → World → Prop) (S : World → Prop) (i : Nat) (oi : Oper) (fuel : Nat) (listed : Array Bool) (a : Act) (w : World) : Prop where
  out : ∀ K : Act → World → Prop, (∀ a w, S w → wpAnyH Tryz.prog .any ops Q S fuel (listed.setIfInBounds i true) a w → K a w) → Oper.wp Tryz.prog oi a w K Q
theorem st_one {i : Nat} {oi : Oper} {fuel : Nat} {listed : Array Bool} {a : Act} {w : World} (hr : Region.ready .any ops listed = [i]) (hi : ops[i]? = some oi) (hg : oi.guard = none) (h : StepW ops Q S i oi fuel listed a w) : wpAnyH Tryz.prog .any ops Q S (fuel + 1) listed a w := re_one hr hi (re_none _ hg) h.out
theorem st_pair {i j : Nat} {oi oj : Oper} {fuel : Nat} {listed : Array Bool} {a : Act} {w : World} (hr : Region.ready .any ops listed = [i, j]) (hi : ops[i]? = some oi) (hj : ops[j]? = some oj) (hg : oi.guard = none) (hg' : oj.guard = none) (h : StepW ops Q S i oi fuel listed a w) (h' : StepW ops Q S j oj fuel listed a w) : wpAnyH Tryz.prog .any ops Q S (fuel + 1) listed a w := re_pair hr hi hj (re_none _ hg) (re_none _ hg') h.out h'.out
theorem st_tri {i j k : Nat} {oi oj ok : Oper} {fuel : Nat} {listed : Array Bool} {a : Act} {w : World} (hr : Region.ready .any ops listed = [i, j, k]) (hi : ops[i]? = some oi) (hj : ops[j]? = some oj) (hk : ops[k]? = some ok) (hg : oi.guard = none) (hg' : oj.guard = none) (hg'' : ok.guard = none) (h : StepW ops Q S i oi fuel listed a w) (h' : StepW ops Q S j oj fuel listed a w) (h'' : StepW ops Q S k ok fuel listed a w) : wpAnyH Tryz.prog .any ops Q S (fuel + 1) listed a w := re_tri hr hi hj hk (re_none _ hg) (re_none _ hg') (re_none _ hg'') h.out h'.out h''.out
theorem st_call {i : Nat} {oi : Oper} {fuel : Nat} {listed : Array Bool} {a : Act} {w : World} {f : Nat} {args : Array Value} {A : Ending → World → Prop} {d : Nat} (hd : oi.dst = some d) (hrun : (execOp a.eval oi).run Tryz.prog w = .ok (.enter f args) w) (hc : Calls Tryz.prog f args w A)
    (h : ∀ e w', A e w' → ∃ v, e = .returned v ∧ S w' ∧ wpAnyH Tryz.prog .any ops Q S fuel (listed.setIfInBounds i true) (a.put (some d) v) w') : StepW ops Q S i oi fuel listed a w := by
  refine ⟨fun K hK => ?_⟩
  refine re_wcall hd hrun hc ?_
  intro e w' hA
  obtain ⟨v, h1, h2, h3⟩ := h e w' hA
  exact ⟨v, h1, hK _ _ h2 h3⟩
theorem st_val {i : Nat} {oi : Oper} {fuel : Nat} {listed : Array Bool} {a : Act} {w w' : World} {v : Value} {d : Nat} (hd : oi.dst = some d) (hrun : (execOp a.eval oi).run Tryz.prog w = .ok (.value v) w') (hS : S w') (h : wpAnyH Tryz.prog .any ops Q S fuel (listed.setIfInBounds i true) (a.put (some d) v) w') : StepW ops Q S i oi fuel listed a w :=
  ⟨fun K hK => re_wval hd hrun (hK _ _ hS h)⟩
theorem st_row {i : Nat} {oi : Oper} {fuel : Nat} {listed : Array Bool} {a : Act} {w : World} (ty : TypeId) (x y : Operand) (ho : oi.op = .store ty x y) (hd : oi.dst = none)
    (g : Nat) (cells : Array Value) (hx : a.eval x = .pointer (some ⟨g, 0, none⟩)) (hy : a.eval y = .agg cells)
    (t : TypeId) (old : Array Value) (hg : w.heap[g]? = some (.cells old t (0, 0))) (hi : (Tryz.prog.info? ty).map (·.size) = some cells.size)
    (hold : old.size = cells.size) (h1 : cells.all (·.oneCell') = true) (hS : S (w.setRow g cells)) (h : wpAnyH Tryz.prog .any ops Q S fuel (listed.setIfInBounds i true) a (w.setRow g cells)) : StepW ops Q S i oi fuel listed a w :=
  ⟨fun K hK => re_wrow ty x y ho hd g cells hx hy t old hg hi hold h1 (hK _ _ hS h)⟩
end
section
variable (ev : Operand → Value) (d : Option Tmp) (ty : TypeId) (p : String) (af : Array Edge) (g : Option (Nat × Bool)) (w : World)
theorem rr_row (T : TypeId) (x : Operand) (B : Nat) (cs : Array Value) (h : ev x = .pointer (some ⟨B, 0, none⟩)) (hl : (loadVar T ⟨B, 0, none⟩).run Tryz.prog w = .ok (.agg cs) w) : (execOp ev (Oper.mk d (.load T x) ty p af g)).run Tryz.prog w = .ok (.value (.agg cs)) w := by
  unfold execOp
  simp only [h, Instr.loadAt, Instr.sureAddr, Sem.run_bind, Sem.run_pure, Result.andThen_ok, hl]
theorem rr_alloc {t : TypeId} {cs : Array Value} (hz : (Tryz.prog.info? t).bind (·.zero) = some (.agg cs)) : (execOp ev (Oper.mk d (.alloc t) ty p af g)).run Tryz.prog w = .ok (.value (.pointer (some ⟨w.heap.size, 0, none⟩))) (w.alloc (.cells cs t)) := by
  cases hq : Tryz.prog.info? t with
  | none => simp [hq] at hz
  | some i =>
    have hz' : i.zero = some (.agg cs) := by simpa [hq] using hz
    simp [execOp, Instr.alloc, zeroValue, typeInfo, hq, hz', newVar, newRow, Value.cells, go_sem]
end
end Go.Proofs.YtbpkfkljeibjoaaGreat
/- know.Join, Meet, Within: the counts of both, over any frame. -/
namespace Go.Proofs.YtbpkfkljeibjoaaGreat
open Go.RowKit Rm
def KS2 (g0 g1 : Nat) (vv mv vv' mv' : Value) (x : World) : Prop := x.heap[g0]? = some (.cells #[vv, mv] 33 (0, 0)) ∧ x.heap[g1]? = some (.cells #[vv', mv'] 33 (0, 0))
theorem kc0 {x : World} {g : Nat} {a b : Value} {t : TypeId} {fr : Nat × Nat} (h : x.heap[g]? = some (.cells #[a, b] t fr)) : x.cell? ⟨g, 0, none⟩ = some a := by simp [World.cell?, h]
theorem kc1 {x : World} {g : Nat} {a b : Value} {t : TypeId} {fr : Nat × Nat} (h : x.heap[g]? = some (.cells #[a, b] t fr)) : x.cell? ⟨g, 1, none⟩ = some b := by simp [World.cell?, h]
def zC : Array Value := #[.int .i64 0, .int .i64 0, .int .i64 0, .int .i64 0, .int .i64 0]
theorem counts_zero : (Tryz.prog.info? 130).bind (·.zero) = some (.agg zC) := by kernel_rfl
def jn4_0 : Oper := Oper.mk (some 17) (Op.load 33 (Operand.tmp 2)) 33 "know.go:58" #[] none
def jn4_1 : Oper := Oper.mk (some 18) (Op.call (Call.mk (Callee.value (Operand.func 81)) #[Operand.tmp 17] #[33])) 130 "know.go:58" #[Edge.mk 0 Ground.data] none
def jn4_2 : Oper := Oper.mk (some 19) (Op.load 33 (Operand.tmp 3)) 33 "know.go:58" #[] none
def jn4_3 : Oper := Oper.mk (some 20) (Op.call (Call.mk (Callee.value (Operand.func 81)) #[Operand.tmp 19] #[33])) 130 "know.go:58" #[Edge.mk 2 Ground.data, Edge.mk 1 Ground.chain] none
def jn4_4 : Oper := Oper.mk (some 7) (Op.alloc 130) 0 "know.go:58" #[] none
def jn4_5 : Oper := Oper.mk (some 8) (Op.alloc 130) 0 "know.go:58" #[] none
def jn4_6 : Oper := Oper.mk none (Op.store 130 (Operand.tmp 7) (Operand.tmp 18)) 0 "know.go:58" #[Edge.mk 4 Ground.data, Edge.mk 1 Ground.data, Edge.mk 3 Ground.chain, Edge.mk 0 Ground.phase, Edge.mk 1 Ground.phase, Edge.mk 2 (Ground.textOnly Departure.lateStores), Edge.mk 3 (Ground.textOnly Departure.lateStoresUnsure), Edge.mk 4 Ground.phase, Edge.mk 5 Ground.phase] none
def jn4_7 : Oper := Oper.mk none (Op.store 130 (Operand.tmp 8) (Operand.tmp 20)) 0 "know.go:58" #[Edge.mk 5 Ground.data, Edge.mk 3 Ground.data, Edge.mk 6 Ground.chain, Edge.mk 0 Ground.phase, Edge.mk 1 Ground.phase, Edge.mk 2 Ground.phase, Edge.mk 3 Ground.phase, Edge.mk 4 Ground.phase, Edge.mk 5 Ground.phase, Edge.mk 6 Ground.phase] none
def jn4_Ops : Array Oper := #[jn4_0, jn4_1, jn4_2, jn4_3, jn4_4, jn4_5, jn4_6, jn4_7]
set_option maxHeartbeats 200000 in
set_option maxRecDepth 100000 in
theorem jn4_reg (Q : Exit → Act → World → Prop) (hQ : ∀ c a d v w, Q (.panic c) (Act.put a (some d) v) w → Q (.panic c) a w) (a : Act) (w : World) (g0 g1 : Nat) (vv mv vv' mv' : Value) (A A' : Array Value)
    (hsz : a.tmps.size = 44) (h2 : a.eval (.tmp 2) = .pointer (some ⟨g0, 0, none⟩)) (h3 : a.eval (.tmp 3) = .pointer (some ⟨g1, 0, none⟩))
    (hS0 : KS2 g0 g1 vv mv vv' mv' w) (hl0 : g0 < w.heap.size) (hl1 : g1 < w.heap.size)
    (hA5 : A.size = 5) (hA1 : A.all (·.oneCell') = true) (hB5 : A'.size = 5) (hB1 : A'.all (·.oneCell') = true)
    (HC : ∀ w', Gr w w' → Calls Tryz.prog 81 #[.agg #[vv, mv]] w' fun e w'' => e = .returned (.agg A) ∧ Gr w' w'')
    (HC' : ∀ w', Gr w w' → Calls Tryz.prog 81 #[.agg #[vv', mv']] w' fun e w'' => e = .returned (.agg A') ∧ Gr w' w'')
    (h : ∀ w' b7 b8, Gr w w' → w.heap.size ≤ b7 → w.heap.size ≤ b8 → b7 ≠ b8 → w'.heap[b7]? = some (.cells A 130 (0, 0)) → w'.heap[b8]? = some (.cells A' 130 (0, 0)) → Q .normal (Act.put (Act.put (Act.put (Act.put (Act.put (Act.put a (some 17) (.agg #[vv, mv])) (some 19) (.agg #[vv', mv'])) (some 18) (.agg A)) (some 20) (.agg A')) (some 7) (.pointer (some ⟨b7, 0, none⟩))) (some 8) (.pointer (some ⟨b8, 0, none⟩))) w') : (Code.region 4 jn4_Ops true).wp Tryz.prog Q a w := by
  have keep : ∀ x, Gr w x → KS2 g0 g1 vv mv vv' mv' x := fun x gx => ⟨(Below.block gx g0 hl0).trans hS0.1, (Below.block gx g1 hl1).trans hS0.2⟩
  have szA : (Tryz.prog.info? 130).map (·.size) = some A.size := by rw [hA5]; exact counts_size
  have szB : (Tryz.prog.info? 130).map (·.size) = some A'.size := by rw [hB5]; exact counts_size
  have fin : ∀ (W : World) (b7 b8 : Nat) (L : Array Bool), L = #[true, true, true, true, true, true, false, false] → Gr w W → w.heap.size ≤ b7 → w.heap.size ≤ b8 → b7 ≠ b8 → W.heap[b7]? = some (.cells zC 130 (0, 0)) → W.heap[b8]? = some (.cells zC 130 (0, 0)) →
      wpAnyH Tryz.prog .any jn4_Ops Q (KS2 g0 g1 vv mv vv' mv') 2 L (Act.put (Act.put (Act.put (Act.put (Act.put (Act.put a (some 17) (.agg #[vv, mv])) (some 19) (.agg #[vv', mv'])) (some 18) (.agg A)) (some 20) (.agg A')) (some 7) (.pointer (some ⟨b7, 0, none⟩))) (some 8) (.pointer (some ⟨b8, 0, none⟩))) W := by
    intro W b7 b8 L hL hg h7 h8 hne e7 e8
    subst hL
    have l7 := (Array.getElem?_eq_some_iff.1 e7).1
    have l8 := (Array.getElem?_eq_some_iff.1 e8).1
    refine st_one (i := 6) (oi := jn4_6) (by kernel_rfl) rfl rfl ?_
    have gA : Gr w (W.setRow b7 A) := below_setRow hg h7 A
    have e8' : (W.setRow b7 A).heap[b8]? = some (.cells zC 130 (0, 0)) := (setRow_other W b7 b8 A (Ne.symm hne)).trans e8
    have e7' : (W.setRow b7 A).heap[b7]? = some (.cells A 130 (0, 0)) := setRow_heap W b7 _ A _ _ e7
    refine st_row 130 (.tmp 7) (.tmp 18) rfl rfl b7 A (by simp [re_ne, re_eq, re_size, re_const, hsz, h2, h3]) (by simp [re_ne, re_eq, re_size, re_const, hsz, h2, h3]) 130 zC e7 szA (by rw [hA5]; rfl) hA1 (keep _ gA) ?_
    refine st_one (i := 7) (oi := jn4_7) (by kernel_rfl) rfl rfl ?_
    have gB : Gr w ((W.setRow b7 A).setRow b8 A') := below_setRow gA h8 A'
    have e7'' : ((W.setRow b7 A).setRow b8 A').heap[b7]? = some (.cells A 130 (0, 0)) := (setRow_other _ b8 b7 A' hne).trans e7'
    refine st_row 130 (.tmp 8) (.tmp 20) rfl rfl b8 A' (by simp [re_ne, re_eq, re_size, re_const, hsz, h2, h3]) (by simp [re_ne, re_eq, re_size, re_const, hsz, h2, h3]) 130 zC e8' szB (by rw [hB5]; rfl) hB1 (keep _ gB) ?_
    exact wpAnyH_done (by kernel_rfl) (h _ b7 b8 gB h7 h8 hne e7'' (setRow_heap _ b8 _ A' _ _ e8')) _
  refine wp_region_held_drew (S := KS2 g0 g1 vv mv vv' mv') (by kernel_rfl) hS0 (fun hHeld => ?_)
  show wpAnyH Tryz.prog .any jn4_Ops Q _ 8 (Array.replicate 8 false) a w.drew
  refine re_tk (i := 0) (oi := jn4_0) (v := .agg #[vv, mv]) (d := 17) hQ rfl rfl (by kernel_rfl) (by kernel_rfl) (by kernel_rfl) (Or.inl ⟨re_none _ rfl, fun wx hS => rr_lK _ _ _ _ _ _ _ _ g0 vv mv (by simp [re_ne, re_eq, re_size, re_const, hsz, h2, h3]) (kc0 hS.1) (kc1 hS.1)⟩) hHeld ?_
  refine re_tk (i := 2) (oi := jn4_2) (v := .agg #[vv', mv']) (d := 19) hQ rfl rfl (by kernel_rfl) (by kernel_rfl) (by kernel_rfl) (Or.inl ⟨re_none _ rfl, fun wx hS => rr_lK _ _ _ _ _ _ _ _ g1 vv' mv' (by simp [re_ne, re_eq, re_size, re_const, hsz, h2, h3]) (kc0 hS.2) (kc1 hS.2)⟩) hHeld ?_
  have G0 : Gr w w.drew := (Gr.refl w).drew
  refine st_tri (i := 1) (j := 4) (k := 5) (oi := jn4_1) (oj := jn4_4) (ok := jn4_5) (by kernel_rfl) rfl rfl rfl rfl rfl rfl ?_ ?_ ?_
  · refine st_call (d := 18) rfl (rr_enter1 _ _ _ _ _ _ _ 81 _ (.agg #[vv, mv]) _ (by simp [re_ne, re_eq, re_size, re_const, hsz, h2, h3]) rfl (rr_enter_of Tryz.func81 (by kernel_rfl) (by kernel_rfl) _ _)) (HC w.drew G0) ?_
    rintro e w1 ⟨rfl, g1x⟩
    have G1 := Gr.trans G0 g1x
    have s1 : w.drew.heap.size ≤ w1.heap.size := g1x.le
    refine ⟨_, rfl, keep _ G1, ?_⟩
    refine st_tri (i := 3) (j := 4) (k := 5) (oi := jn4_3) (oj := jn4_4) (ok := jn4_5) (by kernel_rfl) rfl rfl rfl rfl rfl rfl ?_ ?_ ?_
    · refine st_call (d := 20) rfl (rr_enter1 _ _ _ _ _ _ _ 81 _ (.agg #[vv', mv']) _ (by simp [re_ne, re_eq, re_size, re_const, hsz, h2, h3]) rfl (rr_enter_of Tryz.func81 (by kernel_rfl) (by kernel_rfl) _ _)) (HC' w1 G1) ?_
      rintro e w2 ⟨rfl, g2x⟩
      have G2 := Gr.trans G1 g2x
      have s2 : w1.heap.size ≤ w2.heap.size := g2x.le
      refine ⟨_, rfl, keep _ G2, ?_⟩
      refine st_pair (i := 4) (j := 5) (oi := jn4_4) (oj := jn4_5) (by kernel_rfl) rfl rfl rfl rfl ?_ ?_
      · have G3 := Gr.alloc G2 (.cells zC 130)
        have f3_4 := al_new w2 (.cells zC 130) _ rfl
        have t3 : w.heap.size ≤ w2.heap.size := G2.le
        have u3 : w2.heap.size = w2.heap.size := rfl
        refine st_val (d := 7) rfl (rr_alloc _ _ _ _ _ _ _ counts_zero) (keep _ G3) ?_
        refine st_one (i := 5) (oi := jn4_5) (by kernel_rfl) rfl rfl ?_
        have G4 := Gr.alloc G3 (.cells zC 130)
        have f4_4 := (Below.heap_alloc (w2.alloc (.cells zC 130)) (.cells zC 130) _ (Array.getElem?_eq_some_iff.1 f3_4).1).trans f3_4
        have f4_5 := al_new (w2.alloc (.cells zC 130)) (.cells zC 130) _ rfl
        have t4 : w.heap.size ≤ (w2.alloc (.cells zC 130)).heap.size := G3.le
        have u4 : (w2.alloc (.cells zC 130)).heap.size = (w2.alloc (.cells zC 130)).heap.size := rfl
        have v4_4 : w2.heap.size < (w2.alloc (.cells zC 130)).heap.size := (Array.getElem?_eq_some_iff.1 f3_4).1
        refine st_val (d := 8) rfl (rr_alloc _ _ _ _ _ _ _ counts_zero) (keep _ G4) ?_
        exact fin ((w2.alloc (.cells zC 130)).alloc (.cells zC 130)) w2.heap.size (w2.alloc (.cells zC 130)).heap.size _ rfl G4 t3 t4 (by have := u3; have := u4; omega) f4_4 f4_5
      · have G5 := Gr.alloc G2 (.cells zC 130)
        have f5_5 := al_new w2 (.cells zC 130) _ rfl
        have t5 : w.heap.size ≤ w2.heap.size := G2.le
        have u5 : w2.heap.size = w2.heap.size := rfl
        refine st_val (d := 8) rfl (rr_alloc _ _ _ _ _ _ _ counts_zero) (keep _ G5) ?_
        refine st_one (i := 4) (oi := jn4_4) (by kernel_rfl) rfl rfl ?_
        have G6 := Gr.alloc G5 (.cells zC 130)
        have f6_5 := (Below.heap_alloc (w2.alloc (.cells zC 130)) (.cells zC 130) _ (Array.getElem?_eq_some_iff.1 f5_5).1).trans f5_5
        have f6_4 := al_new (w2.alloc (.cells zC 130)) (.cells zC 130) _ rfl
        have t6 : w.heap.size ≤ (w2.alloc (.cells zC 130)).heap.size := G5.le
        have u6 : (w2.alloc (.cells zC 130)).heap.size = (w2.alloc (.cells zC 130)).heap.size := rfl
        have v6_5 : w2.heap.size < (w2.alloc (.cells zC 130)).heap.size := (Array.getElem?_eq_some_iff.1 f5_5).1
        refine st_val (d := 7) rfl (rr_alloc _ _ _ _ _ _ _ counts_zero) (keep _ G6) ?_
        rw [re_comm _ 8 7 _ _ (by decide)]
        exact fin ((w2.alloc (.cells zC 130)).alloc (.cells zC 130)) (w2.alloc (.cells zC 130)).heap.size w2.heap.size _ rfl G6 t6 t5 (by have := u6; have := u5; omega) f6_4 f6_5
    · have G7 := Gr.alloc G1 (.cells zC 130)
      have f7_4 := al_new w1 (.cells zC 130) _ rfl
      have t7 : w.heap.size ≤ w1.heap.size := G1.le
      have u7 : w1.heap.size = w1.heap.size := rfl
      refine st_val (d := 7) rfl (rr_alloc _ _ _ _ _ _ _ counts_zero) (keep _ G7) ?_
      refine st_pair (i := 3) (j := 5) (oi := jn4_3) (oj := jn4_5) (by kernel_rfl) rfl rfl rfl rfl ?_ ?_
      · refine st_call (d := 20) rfl (rr_enter1 _ _ _ _ _ _ _ 81 _ (.agg #[vv', mv']) _ (by simp [re_ne, re_eq, re_size, re_const, hsz, h2, h3]) rfl (rr_enter_of Tryz.func81 (by kernel_rfl) (by kernel_rfl) _ _)) (HC' (w1.alloc (.cells zC 130)) G7) ?_
        rintro e w8 ⟨rfl, g8x⟩
        have G8 := Gr.trans G7 g8x
        have f8_4 := (Below.block g8x _ (Array.getElem?_eq_some_iff.1 f7_4).1).trans f7_4
        have s8 : (w1.alloc (.cells zC 130)).heap.size ≤ w8.heap.size := g8x.le
        refine ⟨_, rfl, keep _ G8, ?_⟩
        refine st_one (i := 5) (oi := jn4_5) (by kernel_rfl) rfl rfl ?_
        have G9 := Gr.alloc G8 (.cells zC 130)
        have f9_4 := (Below.heap_alloc w8 (.cells zC 130) _ (Array.getElem?_eq_some_iff.1 f8_4).1).trans f8_4
        have f9_5 := al_new w8 (.cells zC 130) _ rfl
        have t9 : w.heap.size ≤ w8.heap.size := G8.le
        have u9 : w8.heap.size = w8.heap.size := rfl
        have v9_4 : w1.heap.size < w8.heap.size := (Array.getElem?_eq_some_iff.1 f8_4).1
        refine st_val (d := 8) rfl (rr_alloc _ _ _ _ _ _ _ counts_zero) (keep _ G9) ?_
        rw [re_comm _ 7 20 _ _ (by decide)]
        exact fin (w8.alloc (.cells zC 130)) w1.heap.size w8.heap.size _ rfl G9 t7 t9 (by have := u7; have := u9; omega) f9_4 f9_5
      · have G10 := Gr.alloc G7 (.cells zC 130)
        have f10_4 := (Below.heap_alloc (w1.alloc (.cells zC 130)) (.cells zC 130) _ (Array.getElem?_eq_some_iff.1 f7_4).1).trans f7_4
        have f10_5 := al_new (w1.alloc (.cells zC 130)) (.cells zC 130) _ rfl
        have t10 : w.heap.size ≤ (w1.alloc (.cells zC 130)).heap.size := G7.le
        have u10 : (w1.alloc (.cells zC 130)).heap.size = (w1.alloc (.cells zC 130)).heap.size := rfl
        have v10_4 : w1.heap.size < (w1.alloc (.cells zC 130)).heap.size := (Array.getElem?_eq_some_iff.1 f7_4).1
        refine st_val (d := 8) rfl (rr_alloc _ _ _ _ _ _ _ counts_zero) (keep _ G10) ?_
        refine st_one (i := 3) (oi := jn4_3) (by kernel_rfl) rfl rfl ?_
        refine st_call (d := 20) rfl (rr_enter1 _ _ _ _ _ _ _ 81 _ (.agg #[vv', mv']) _ (by simp [re_ne, re_eq, re_size, re_const, hsz, h2, h3]) rfl (rr_enter_of Tryz.func81 (by kernel_rfl) (by kernel_rfl) _ _)) (HC' ((w1.alloc (.cells zC 130)).alloc (.cells zC 130)) G10) ?_
        rintro e w11 ⟨rfl, g11x⟩
        have G11 := Gr.trans G10 g11x
        have f11_4 := (Below.block g11x _ (Array.getElem?_eq_some_iff.1 f10_4).1).trans f10_4
        have f11_5 := (Below.block g11x _ (Array.getElem?_eq_some_iff.1 f10_5).1).trans f10_5
        have s11 : ((w1.alloc (.cells zC 130)).alloc (.cells zC 130)).heap.size ≤ w11.heap.size := g11x.le
        refine ⟨_, rfl, keep _ G11, ?_⟩
        rw [re_comm _ 8 20 _ _ (by decide), re_comm _ 7 20 _ _ (by decide)]
        exact fin w11 w1.heap.size (w1.alloc (.cells zC 130)).heap.size _ rfl G11 t7 t10 (by have := u7; have := u10; omega) f11_4 f11_5
    · have G12 := Gr.alloc G1 (.cells zC 130)
      have f12_5 := al_new w1 (.cells zC 130) _ rfl
      have t12 : w.heap.size ≤ w1.heap.size := G1.le
      have u12 : w1.heap.size = w1.heap.size := rfl
      refine st_val (d := 8) rfl (rr_alloc _ _ _ _ _ _ _ counts_zero) (keep _ G12) ?_
      refine st_pair (i := 3) (j := 4) (oi := jn4_3) (oj := jn4_4) (by kernel_rfl) rfl rfl rfl rfl ?_ ?_
      · refine st_call (d := 20) rfl (rr_enter1 _ _ _ _ _ _ _ 81 _ (.agg #[vv', mv']) _ (by simp [re_ne, re_eq, re_size, re_const, hsz, h2, h3]) rfl (rr_enter_of Tryz.func81 (by kernel_rfl) (by kernel_rfl) _ _)) (HC' (w1.alloc (.cells zC 130)) G12) ?_
        rintro e w13 ⟨rfl, g13x⟩
        have G13 := Gr.trans G12 g13x
        have f13_5 := (Below.block g13x _ (Array.getElem?_eq_some_iff.1 f12_5).1).trans f12_5
        have s13 : (w1.alloc (.cells zC 130)).heap.size ≤ w13.heap.size := g13x.le
        refine ⟨_, rfl, keep _ G13, ?_⟩
        refine st_one (i := 4) (oi := jn4_4) (by kernel_rfl) rfl rfl ?_
        have G14 := Gr.alloc G13 (.cells zC 130)
        have f14_5 := (Below.heap_alloc w13 (.cells zC 130) _ (Array.getElem?_eq_some_iff.1 f13_5).1).trans f13_5
        have f14_4 := al_new w13 (.cells zC 130) _ rfl
        have t14 : w.heap.size ≤ w13.heap.size := G13.le
        have u14 : w13.heap.size = w13.heap.size := rfl
        have v14_5 : w1.heap.size < w13.heap.size := (Array.getElem?_eq_some_iff.1 f13_5).1
        refine st_val (d := 7) rfl (rr_alloc _ _ _ _ _ _ _ counts_zero) (keep _ G14) ?_
        rw [re_comm _ 8 20 _ _ (by decide), re_comm _ 8 7 _ _ (by decide)]
        exact fin (w13.alloc (.cells zC 130)) w13.heap.size w1.heap.size _ rfl G14 t14 t12 (by have := u14; have := u12; omega) f14_4 f14_5
      · have G15 := Gr.alloc G12 (.cells zC 130)
        have f15_5 := (Below.heap_alloc (w1.alloc (.cells zC 130)) (.cells zC 130) _ (Array.getElem?_eq_some_iff.1 f12_5).1).trans f12_5
        have f15_4 := al_new (w1.alloc (.cells zC 130)) (.cells zC 130) _ rfl
        have t15 : w.heap.size ≤ (w1.alloc (.cells zC 130)).heap.size := G12.le
        have u15 : (w1.alloc (.cells zC 130)).heap.size = (w1.alloc (.cells zC 130)).heap.size := rfl
        have v15_5 : w1.heap.size < (w1.alloc (.cells zC 130)).heap.size := (Array.getElem?_eq_some_iff.1 f12_5).1
        refine st_val (d := 7) rfl (rr_alloc _ _ _ _ _ _ _ counts_zero) (keep _ G15) ?_
        refine st_one (i := 3) (oi := jn4_3) (by kernel_rfl) rfl rfl ?_
        refine st_call (d := 20) rfl (rr_enter1 _ _ _ _ _ _ _ 81 _ (.agg #[vv', mv']) _ (by simp [re_ne, re_eq, re_size, re_const, hsz, h2, h3]) rfl (rr_enter_of Tryz.func81 (by kernel_rfl) (by kernel_rfl) _ _)) (HC' ((w1.alloc (.cells zC 130)).alloc (.cells zC 130)) G15) ?_
        rintro e w16 ⟨rfl, g16x⟩
        have G16 := Gr.trans G15 g16x
        have f16_5 := (Below.block g16x _ (Array.getElem?_eq_some_iff.1 f15_5).1).trans f15_5
        have f16_4 := (Below.block g16x _ (Array.getElem?_eq_some_iff.1 f15_4).1).trans f15_4
        have s16 : ((w1.alloc (.cells zC 130)).alloc (.cells zC 130)).heap.size ≤ w16.heap.size := g16x.le
        refine ⟨_, rfl, keep _ G16, ?_⟩
        rw [re_comm _ 8 7 _ _ (by decide), re_comm _ 8 20 _ _ (by decide), re_comm _ 7 20 _ _ (by decide)]
        exact fin w16 (w1.alloc (.cells zC 130)).heap.size w1.heap.size _ rfl G16 t15 t12 (by have := u15; have := u12; omega) f16_4 f16_5
  · have G17 := Gr.alloc G0 (.cells zC 130)
    have f17_4 := al_new w.drew (.cells zC 130) _ rfl
    have t17 : w.heap.size ≤ w.drew.heap.size := G0.le
    have u17 : w.drew.heap.size = w.drew.heap.size := rfl
    refine st_val (d := 7) rfl (rr_alloc _ _ _ _ _ _ _ counts_zero) (keep _ G17) ?_
    refine st_pair (i := 1) (j := 5) (oi := jn4_1) (oj := jn4_5) (by kernel_rfl) rfl rfl rfl rfl ?_ ?_
    · refine st_call (d := 18) rfl (rr_enter1 _ _ _ _ _ _ _ 81 _ (.agg #[vv, mv]) _ (by simp [re_ne, re_eq, re_size, re_const, hsz, h2, h3]) rfl (rr_enter_of Tryz.func81 (by kernel_rfl) (by kernel_rfl) _ _)) (HC (w.drew.alloc (.cells zC 130)) G17) ?_
      rintro e w18 ⟨rfl, g18x⟩
      have G18 := Gr.trans G17 g18x
      have f18_4 := (Below.block g18x _ (Array.getElem?_eq_some_iff.1 f17_4).1).trans f17_4
      have s18 : (w.drew.alloc (.cells zC 130)).heap.size ≤ w18.heap.size := g18x.le
      refine ⟨_, rfl, keep _ G18, ?_⟩
      refine st_pair (i := 3) (j := 5) (oi := jn4_3) (oj := jn4_5) (by kernel_rfl) rfl rfl rfl rfl ?_ ?_
      · refine st_call (d := 20) rfl (rr_enter1 _ _ _ _ _ _ _ 81 _ (.agg #[vv', mv']) _ (by simp [re_ne, re_eq, re_size, re_const, hsz, h2, h3]) rfl (rr_enter_of Tryz.func81 (by kernel_rfl) (by kernel_rfl) _ _)) (HC' w18 G18) ?_
        rintro e w19 ⟨rfl, g19x⟩
        have G19 := Gr.trans G18 g19x
        have f19_4 := (Below.block g19x _ (Array.getElem?_eq_some_iff.1 f18_4).1).trans f18_4
        have s19 : w18.heap.size ≤ w19.heap.size := g19x.le
        refine ⟨_, rfl, keep _ G19, ?_⟩
        refine st_one (i := 5) (oi := jn4_5) (by kernel_rfl) rfl rfl ?_
        have G20 := Gr.alloc G19 (.cells zC 130)
        have f20_4 := (Below.heap_alloc w19 (.cells zC 130) _ (Array.getElem?_eq_some_iff.1 f19_4).1).trans f19_4
        have f20_5 := al_new w19 (.cells zC 130) _ rfl
        have t20 : w.heap.size ≤ w19.heap.size := G19.le
        have u20 : w19.heap.size = w19.heap.size := rfl
        have v20_4 : w.drew.heap.size < w19.heap.size := (Array.getElem?_eq_some_iff.1 f19_4).1
        refine st_val (d := 8) rfl (rr_alloc _ _ _ _ _ _ _ counts_zero) (keep _ G20) ?_
        rw [re_comm _ 7 18 _ _ (by decide), re_comm _ 7 20 _ _ (by decide)]
        exact fin (w19.alloc (.cells zC 130)) w.drew.heap.size w19.heap.size _ rfl G20 t17 t20 (by have := u17; have := u20; omega) f20_4 f20_5
      · have G21 := Gr.alloc G18 (.cells zC 130)
        have f21_4 := (Below.heap_alloc w18 (.cells zC 130) _ (Array.getElem?_eq_some_iff.1 f18_4).1).trans f18_4
        have f21_5 := al_new w18 (.cells zC 130) _ rfl
        have t21 : w.heap.size ≤ w18.heap.size := G18.le
        have u21 : w18.heap.size = w18.heap.size := rfl
        have v21_4 : w.drew.heap.size < w18.heap.size := (Array.getElem?_eq_some_iff.1 f18_4).1
        refine st_val (d := 8) rfl (rr_alloc _ _ _ _ _ _ _ counts_zero) (keep _ G21) ?_
        refine st_one (i := 3) (oi := jn4_3) (by kernel_rfl) rfl rfl ?_
        refine st_call (d := 20) rfl (rr_enter1 _ _ _ _ _ _ _ 81 _ (.agg #[vv', mv']) _ (by simp [re_ne, re_eq, re_size, re_const, hsz, h2, h3]) rfl (rr_enter_of Tryz.func81 (by kernel_rfl) (by kernel_rfl) _ _)) (HC' (w18.alloc (.cells zC 130)) G21) ?_
        rintro e w22 ⟨rfl, g22x⟩
        have G22 := Gr.trans G21 g22x
        have f22_4 := (Below.block g22x _ (Array.getElem?_eq_some_iff.1 f21_4).1).trans f21_4
        have f22_5 := (Below.block g22x _ (Array.getElem?_eq_some_iff.1 f21_5).1).trans f21_5
        have s22 : (w18.alloc (.cells zC 130)).heap.size ≤ w22.heap.size := g22x.le
        refine ⟨_, rfl, keep _ G22, ?_⟩
        rw [re_comm _ 7 18 _ _ (by decide), re_comm _ 8 20 _ _ (by decide), re_comm _ 7 20 _ _ (by decide)]
        exact fin w22 w.drew.heap.size w18.heap.size _ rfl G22 t17 t21 (by have := u17; have := u21; omega) f22_4 f22_5
    · have G23 := Gr.alloc G17 (.cells zC 130)
      have f23_4 := (Below.heap_alloc (w.drew.alloc (.cells zC 130)) (.cells zC 130) _ (Array.getElem?_eq_some_iff.1 f17_4).1).trans f17_4
      have f23_5 := al_new (w.drew.alloc (.cells zC 130)) (.cells zC 130) _ rfl
      have t23 : w.heap.size ≤ (w.drew.alloc (.cells zC 130)).heap.size := G17.le
      have u23 : (w.drew.alloc (.cells zC 130)).heap.size = (w.drew.alloc (.cells zC 130)).heap.size := rfl
      have v23_4 : w.drew.heap.size < (w.drew.alloc (.cells zC 130)).heap.size := (Array.getElem?_eq_some_iff.1 f17_4).1
      refine st_val (d := 8) rfl (rr_alloc _ _ _ _ _ _ _ counts_zero) (keep _ G23) ?_
      refine st_one (i := 1) (oi := jn4_1) (by kernel_rfl) rfl rfl ?_
      refine st_call (d := 18) rfl (rr_enter1 _ _ _ _ _ _ _ 81 _ (.agg #[vv, mv]) _ (by simp [re_ne, re_eq, re_size, re_const, hsz, h2, h3]) rfl (rr_enter_of Tryz.func81 (by kernel_rfl) (by kernel_rfl) _ _)) (HC ((w.drew.alloc (.cells zC 130)).alloc (.cells zC 130)) G23) ?_
      rintro e w24 ⟨rfl, g24x⟩
      have G24 := Gr.trans G23 g24x
      have f24_4 := (Below.block g24x _ (Array.getElem?_eq_some_iff.1 f23_4).1).trans f23_4
      have f24_5 := (Below.block g24x _ (Array.getElem?_eq_some_iff.1 f23_5).1).trans f23_5
      have s24 : ((w.drew.alloc (.cells zC 130)).alloc (.cells zC 130)).heap.size ≤ w24.heap.size := g24x.le
      refine ⟨_, rfl, keep _ G24, ?_⟩
      refine st_one (i := 3) (oi := jn4_3) (by kernel_rfl) rfl rfl ?_
      refine st_call (d := 20) rfl (rr_enter1 _ _ _ _ _ _ _ 81 _ (.agg #[vv', mv']) _ (by simp [re_ne, re_eq, re_size, re_const, hsz, h2, h3]) rfl (rr_enter_of Tryz.func81 (by kernel_rfl) (by kernel_rfl) _ _)) (HC' w24 G24) ?_
      rintro e w25 ⟨rfl, g25x⟩
      have G25 := Gr.trans G24 g25x
      have f25_4 := (Below.block g25x _ (Array.getElem?_eq_some_iff.1 f24_4).1).trans f24_4
      have f25_5 := (Below.block g25x _ (Array.getElem?_eq_some_iff.1 f24_5).1).trans f24_5
      have s25 : w24.heap.size ≤ w25.heap.size := g25x.le
      refine ⟨_, rfl, keep _ G25, ?_⟩
      rw [re_comm _ 8 18 _ _ (by decide), re_comm _ 8 20 _ _ (by decide), re_comm _ 7 18 _ _ (by decide), re_comm _ 7 20 _ _ (by decide)]
      exact fin w25 w.drew.heap.size (w.drew.alloc (.cells zC 130)).heap.size _ rfl G25 t17 t23 (by have := u17; have := u23; omega) f25_4 f25_5
  · have G26 := Gr.alloc G0 (.cells zC 130)
    have f26_5 := al_new w.drew (.cells zC 130) _ rfl
    have t26 : w.heap.size ≤ w.drew.heap.size := G0.le
    have u26 : w.drew.heap.size = w.drew.heap.size := rfl
    refine st_val (d := 8) rfl (rr_alloc _ _ _ _ _ _ _ counts_zero) (keep _ G26) ?_
    refine st_pair (i := 1) (j := 4) (oi := jn4_1) (oj := jn4_4) (by kernel_rfl) rfl rfl rfl rfl ?_ ?_
    · refine st_call (d := 18) rfl (rr_enter1 _ _ _ _ _ _ _ 81 _ (.agg #[vv, mv]) _ (by simp [re_ne, re_eq, re_size, re_const, hsz, h2, h3]) rfl (rr_enter_of Tryz.func81 (by kernel_rfl) (by kernel_rfl) _ _)) (HC (w.drew.alloc (.cells zC 130)) G26) ?_
      rintro e w27 ⟨rfl, g27x⟩
      have G27 := Gr.trans G26 g27x
      have f27_5 := (Below.block g27x _ (Array.getElem?_eq_some_iff.1 f26_5).1).trans f26_5
      have s27 : (w.drew.alloc (.cells zC 130)).heap.size ≤ w27.heap.size := g27x.le
      refine ⟨_, rfl, keep _ G27, ?_⟩
      refine st_pair (i := 3) (j := 4) (oi := jn4_3) (oj := jn4_4) (by kernel_rfl) rfl rfl rfl rfl ?_ ?_
      · refine st_call (d := 20) rfl (rr_enter1 _ _ _ _ _ _ _ 81 _ (.agg #[vv', mv']) _ (by simp [re_ne, re_eq, re_size, re_const, hsz, h2, h3]) rfl (rr_enter_of Tryz.func81 (by kernel_rfl) (by kernel_rfl) _ _)) (HC' w27 G27) ?_
        rintro e w28 ⟨rfl, g28x⟩
        have G28 := Gr.trans G27 g28x
        have f28_5 := (Below.block g28x _ (Array.getElem?_eq_some_iff.1 f27_5).1).trans f27_5
        have s28 : w27.heap.size ≤ w28.heap.size := g28x.le
        refine ⟨_, rfl, keep _ G28, ?_⟩
        refine st_one (i := 4) (oi := jn4_4) (by kernel_rfl) rfl rfl ?_
        have G29 := Gr.alloc G28 (.cells zC 130)
        have f29_5 := (Below.heap_alloc w28 (.cells zC 130) _ (Array.getElem?_eq_some_iff.1 f28_5).1).trans f28_5
        have f29_4 := al_new w28 (.cells zC 130) _ rfl
        have t29 : w.heap.size ≤ w28.heap.size := G28.le
        have u29 : w28.heap.size = w28.heap.size := rfl
        have v29_5 : w.drew.heap.size < w28.heap.size := (Array.getElem?_eq_some_iff.1 f28_5).1
        refine st_val (d := 7) rfl (rr_alloc _ _ _ _ _ _ _ counts_zero) (keep _ G29) ?_
        rw [re_comm _ 8 18 _ _ (by decide), re_comm _ 8 20 _ _ (by decide), re_comm _ 8 7 _ _ (by decide)]
        exact fin (w28.alloc (.cells zC 130)) w28.heap.size w.drew.heap.size _ rfl G29 t29 t26 (by have := u29; have := u26; omega) f29_4 f29_5
      · have G30 := Gr.alloc G27 (.cells zC 130)
        have f30_5 := (Below.heap_alloc w27 (.cells zC 130) _ (Array.getElem?_eq_some_iff.1 f27_5).1).trans f27_5
        have f30_4 := al_new w27 (.cells zC 130) _ rfl
        have t30 : w.heap.size ≤ w27.heap.size := G27.le
        have u30 : w27.heap.size = w27.heap.size := rfl
        have v30_5 : w.drew.heap.size < w27.heap.size := (Array.getElem?_eq_some_iff.1 f27_5).1
        refine st_val (d := 7) rfl (rr_alloc _ _ _ _ _ _ _ counts_zero) (keep _ G30) ?_
        refine st_one (i := 3) (oi := jn4_3) (by kernel_rfl) rfl rfl ?_
        refine st_call (d := 20) rfl (rr_enter1 _ _ _ _ _ _ _ 81 _ (.agg #[vv', mv']) _ (by simp [re_ne, re_eq, re_size, re_const, hsz, h2, h3]) rfl (rr_enter_of Tryz.func81 (by kernel_rfl) (by kernel_rfl) _ _)) (HC' (w27.alloc (.cells zC 130)) G30) ?_
        rintro e w31 ⟨rfl, g31x⟩
        have G31 := Gr.trans G30 g31x
        have f31_5 := (Below.block g31x _ (Array.getElem?_eq_some_iff.1 f30_5).1).trans f30_5
        have f31_4 := (Below.block g31x _ (Array.getElem?_eq_some_iff.1 f30_4).1).trans f30_4
        have s31 : (w27.alloc (.cells zC 130)).heap.size ≤ w31.heap.size := g31x.le
        refine ⟨_, rfl, keep _ G31, ?_⟩
        rw [re_comm _ 8 18 _ _ (by decide), re_comm _ 8 7 _ _ (by decide), re_comm _ 8 20 _ _ (by decide), re_comm _ 7 20 _ _ (by decide)]
        exact fin w31 w27.heap.size w.drew.heap.size _ rfl G31 t30 t26 (by have := u30; have := u26; omega) f31_4 f31_5
    · have G32 := Gr.alloc G26 (.cells zC 130)
      have f32_5 := (Below.heap_alloc (w.drew.alloc (.cells zC 130)) (.cells zC 130) _ (Array.getElem?_eq_some_iff.1 f26_5).1).trans f26_5
      have f32_4 := al_new (w.drew.alloc (.cells zC 130)) (.cells zC 130) _ rfl
      have t32 : w.heap.size ≤ (w.drew.alloc (.cells zC 130)).heap.size := G26.le
      have u32 : (w.drew.alloc (.cells zC 130)).heap.size = (w.drew.alloc (.cells zC 130)).heap.size := rfl
      have v32_5 : w.drew.heap.size < (w.drew.alloc (.cells zC 130)).heap.size := (Array.getElem?_eq_some_iff.1 f26_5).1
      refine st_val (d := 7) rfl (rr_alloc _ _ _ _ _ _ _ counts_zero) (keep _ G32) ?_
      refine st_one (i := 1) (oi := jn4_1) (by kernel_rfl) rfl rfl ?_
      refine st_call (d := 18) rfl (rr_enter1 _ _ _ _ _ _ _ 81 _ (.agg #[vv, mv]) _ (by simp [re_ne, re_eq, re_size, re_const, hsz, h2, h3]) rfl (rr_enter_of Tryz.func81 (by kernel_rfl) (by kernel_rfl) _ _)) (HC ((w.drew.alloc (.cells zC 130)).alloc (.cells zC 130)) G32) ?_
      rintro e w33 ⟨rfl, g33x⟩
      have G33 := Gr.trans G32 g33x
      have f33_5 := (Below.block g33x _ (Array.getElem?_eq_some_iff.1 f32_5).1).trans f32_5
      have f33_4 := (Below.block g33x _ (Array.getElem?_eq_some_iff.1 f32_4).1).trans f32_4
      have s33 : ((w.drew.alloc (.cells zC 130)).alloc (.cells zC 130)).heap.size ≤ w33.heap.size := g33x.le
      refine ⟨_, rfl, keep _ G33, ?_⟩
      refine st_one (i := 3) (oi := jn4_3) (by kernel_rfl) rfl rfl ?_
      refine st_call (d := 20) rfl (rr_enter1 _ _ _ _ _ _ _ 81 _ (.agg #[vv', mv']) _ (by simp [re_ne, re_eq, re_size, re_const, hsz, h2, h3]) rfl (rr_enter_of Tryz.func81 (by kernel_rfl) (by kernel_rfl) _ _)) (HC' w33 G33) ?_
      rintro e w34 ⟨rfl, g34x⟩
      have G34 := Gr.trans G33 g34x
      have f34_5 := (Below.block g34x _ (Array.getElem?_eq_some_iff.1 f33_5).1).trans f33_5
      have f34_4 := (Below.block g34x _ (Array.getElem?_eq_some_iff.1 f33_4).1).trans f33_4
      have s34 : w33.heap.size ≤ w34.heap.size := g34x.le
      refine ⟨_, rfl, keep _ G34, ?_⟩
      rw [re_comm _ 8 7 _ _ (by decide), re_comm _ 8 18 _ _ (by decide), re_comm _ 8 20 _ _ (by decide), re_comm _ 7 18 _ _ (by decide), re_comm _ 7 20 _ _ (by decide)]
      exact fin w34 (w.drew.alloc (.cells zC 130)).heap.size w.drew.heap.size _ rfl G34 t32 t26 (by have := u32; have := u26; omega) f34_4 f34_5
def wi4_0 : Oper := Oper.mk (some 16) (Op.load 33 (Operand.tmp 2)) 33 "know.go:86" #[] none
def wi4_1 : Oper := Oper.mk (some 17) (Op.call (Call.mk (Callee.value (Operand.func 81)) #[Operand.tmp 16] #[33])) 130 "know.go:86" #[Edge.mk 0 Ground.data] none
def wi4_2 : Oper := Oper.mk (some 18) (Op.load 33 (Operand.tmp 3)) 33 "know.go:86" #[] none
def wi4_3 : Oper := Oper.mk (some 19) (Op.call (Call.mk (Callee.value (Operand.func 81)) #[Operand.tmp 18] #[33])) 130 "know.go:86" #[Edge.mk 2 Ground.data, Edge.mk 1 Ground.chain] none
def wi4_4 : Oper := Oper.mk (some 7) (Op.alloc 130) 0 "know.go:86" #[] none
def wi4_5 : Oper := Oper.mk (some 8) (Op.alloc 130) 0 "know.go:86" #[] none
def wi4_6 : Oper := Oper.mk none (Op.store 130 (Operand.tmp 7) (Operand.tmp 17)) 0 "know.go:86" #[Edge.mk 4 Ground.data, Edge.mk 1 Ground.data, Edge.mk 3 Ground.chain, Edge.mk 0 Ground.phase, Edge.mk 1 Ground.phase, Edge.mk 2 (Ground.textOnly Departure.lateStores), Edge.mk 3 (Ground.textOnly Departure.lateStoresUnsure), Edge.mk 4 Ground.phase, Edge.mk 5 Ground.phase] none
def wi4_7 : Oper := Oper.mk none (Op.store 130 (Operand.tmp 8) (Operand.tmp 19)) 0 "know.go:86" #[Edge.mk 5 Ground.data, Edge.mk 3 Ground.data, Edge.mk 6 Ground.chain, Edge.mk 0 Ground.phase, Edge.mk 1 Ground.phase, Edge.mk 2 Ground.phase, Edge.mk 3 Ground.phase, Edge.mk 4 Ground.phase, Edge.mk 5 Ground.phase, Edge.mk 6 Ground.phase] none
def wi4_Ops : Array Oper := #[wi4_0, wi4_1, wi4_2, wi4_3, wi4_4, wi4_5, wi4_6, wi4_7]
set_option maxHeartbeats 200000 in
set_option maxRecDepth 100000 in
theorem wi4_reg (Q : Exit → Act → World → Prop) (hQ : ∀ c a d v w, Q (.panic c) (Act.put a (some d) v) w → Q (.panic c) a w) (a : Act) (w : World) (g0 g1 : Nat) (vv mv vv' mv' : Value) (A A' : Array Value)
    (hsz : a.tmps.size = 40) (h2 : a.eval (.tmp 2) = .pointer (some ⟨g0, 0, none⟩)) (h3 : a.eval (.tmp 3) = .pointer (some ⟨g1, 0, none⟩))
    (hS0 : KS2 g0 g1 vv mv vv' mv' w) (hl0 : g0 < w.heap.size) (hl1 : g1 < w.heap.size)
    (hA5 : A.size = 5) (hA1 : A.all (·.oneCell') = true) (hB5 : A'.size = 5) (hB1 : A'.all (·.oneCell') = true)
    (HC : ∀ w', Gr w w' → Calls Tryz.prog 81 #[.agg #[vv, mv]] w' fun e w'' => e = .returned (.agg A) ∧ Gr w' w'')
    (HC' : ∀ w', Gr w w' → Calls Tryz.prog 81 #[.agg #[vv', mv']] w' fun e w'' => e = .returned (.agg A') ∧ Gr w' w'')
    (h : ∀ w' b7 b8, Gr w w' → w.heap.size ≤ b7 → w.heap.size ≤ b8 → b7 ≠ b8 → w'.heap[b7]? = some (.cells A 130 (0, 0)) → w'.heap[b8]? = some (.cells A' 130 (0, 0)) → Q .normal (Act.put (Act.put (Act.put (Act.put (Act.put (Act.put a (some 16) (.agg #[vv, mv])) (some 18) (.agg #[vv', mv'])) (some 17) (.agg A)) (some 19) (.agg A')) (some 7) (.pointer (some ⟨b7, 0, none⟩))) (some 8) (.pointer (some ⟨b8, 0, none⟩))) w') : (Code.region 4 wi4_Ops true).wp Tryz.prog Q a w := by
  have keep : ∀ x, Gr w x → KS2 g0 g1 vv mv vv' mv' x := fun x gx => ⟨(Below.block gx g0 hl0).trans hS0.1, (Below.block gx g1 hl1).trans hS0.2⟩
  have szA : (Tryz.prog.info? 130).map (·.size) = some A.size := by rw [hA5]; exact counts_size
  have szB : (Tryz.prog.info? 130).map (·.size) = some A'.size := by rw [hB5]; exact counts_size
  have fin : ∀ (W : World) (b7 b8 : Nat) (L : Array Bool), L = #[true, true, true, true, true, true, false, false] → Gr w W → w.heap.size ≤ b7 → w.heap.size ≤ b8 → b7 ≠ b8 → W.heap[b7]? = some (.cells zC 130 (0, 0)) → W.heap[b8]? = some (.cells zC 130 (0, 0)) →
      wpAnyH Tryz.prog .any wi4_Ops Q (KS2 g0 g1 vv mv vv' mv') 2 L (Act.put (Act.put (Act.put (Act.put (Act.put (Act.put a (some 16) (.agg #[vv, mv])) (some 18) (.agg #[vv', mv'])) (some 17) (.agg A)) (some 19) (.agg A')) (some 7) (.pointer (some ⟨b7, 0, none⟩))) (some 8) (.pointer (some ⟨b8, 0, none⟩))) W := by
    intro W b7 b8 L hL hg h7 h8 hne e7 e8
    subst hL
    have l7 := (Array.getElem?_eq_some_iff.1 e7).1
    have l8 := (Array.getElem?_eq_some_iff.1 e8).1
    refine st_one (i := 6) (oi := wi4_6) (by kernel_rfl) rfl rfl ?_
    have gA : Gr w (W.setRow b7 A) := below_setRow hg h7 A
    have e8' : (W.setRow b7 A).heap[b8]? = some (.cells zC 130 (0, 0)) := (setRow_other W b7 b8 A (Ne.symm hne)).trans e8
    have e7' : (W.setRow b7 A).heap[b7]? = some (.cells A 130 (0, 0)) := setRow_heap W b7 _ A _ _ e7
    refine st_row 130 (.tmp 7) (.tmp 17) rfl rfl b7 A (by simp [re_ne, re_eq, re_size, re_const, hsz, h2, h3]) (by simp [re_ne, re_eq, re_size, re_const, hsz, h2, h3]) 130 zC e7 szA (by rw [hA5]; rfl) hA1 (keep _ gA) ?_
    refine st_one (i := 7) (oi := wi4_7) (by kernel_rfl) rfl rfl ?_
    have gB : Gr w ((W.setRow b7 A).setRow b8 A') := below_setRow gA h8 A'
    have e7'' : ((W.setRow b7 A).setRow b8 A').heap[b7]? = some (.cells A 130 (0, 0)) := (setRow_other _ b8 b7 A' hne).trans e7'
    refine st_row 130 (.tmp 8) (.tmp 19) rfl rfl b8 A' (by simp [re_ne, re_eq, re_size, re_const, hsz, h2, h3]) (by simp [re_ne, re_eq, re_size, re_const, hsz, h2, h3]) 130 zC e8' szB (by rw [hB5]; rfl) hB1 (keep _ gB) ?_
    exact wpAnyH_done (by kernel_rfl) (h _ b7 b8 gB h7 h8 hne e7'' (setRow_heap _ b8 _ A' _ _ e8')) _
  refine wp_region_held_drew (S := KS2 g0 g1 vv mv vv' mv') (by kernel_rfl) hS0 (fun hHeld => ?_)
  show wpAnyH Tryz.prog .any wi4_Ops Q _ 8 (Array.replicate 8 false) a w.drew
  refine re_tk (i := 0) (oi := wi4_0) (v := .agg #[vv, mv]) (d := 16) hQ rfl rfl (by kernel_rfl) (by kernel_rfl) (by kernel_rfl) (Or.inl ⟨re_none _ rfl, fun wx hS => rr_lK _ _ _ _ _ _ _ _ g0 vv mv (by simp [re_ne, re_eq, re_size, re_const, hsz, h2, h3]) (kc0 hS.1) (kc1 hS.1)⟩) hHeld ?_
  refine re_tk (i := 2) (oi := wi4_2) (v := .agg #[vv', mv']) (d := 18) hQ rfl rfl (by kernel_rfl) (by kernel_rfl) (by kernel_rfl) (Or.inl ⟨re_none _ rfl, fun wx hS => rr_lK _ _ _ _ _ _ _ _ g1 vv' mv' (by simp [re_ne, re_eq, re_size, re_const, hsz, h2, h3]) (kc0 hS.2) (kc1 hS.2)⟩) hHeld ?_
  have G0 : Gr w w.drew := (Gr.refl w).drew
  refine st_tri (i := 1) (j := 4) (k := 5) (oi := wi4_1) (oj := wi4_4) (ok := wi4_5) (by kernel_rfl) rfl rfl rfl rfl rfl rfl ?_ ?_ ?_
  · refine st_call (d := 17) rfl (rr_enter1 _ _ _ _ _ _ _ 81 _ (.agg #[vv, mv]) _ (by simp [re_ne, re_eq, re_size, re_const, hsz, h2, h3]) rfl (rr_enter_of Tryz.func81 (by kernel_rfl) (by kernel_rfl) _ _)) (HC w.drew G0) ?_
    rintro e w1 ⟨rfl, g1x⟩
    have G1 := Gr.trans G0 g1x
    have s1 : w.drew.heap.size ≤ w1.heap.size := g1x.le
    refine ⟨_, rfl, keep _ G1, ?_⟩
    refine st_tri (i := 3) (j := 4) (k := 5) (oi := wi4_3) (oj := wi4_4) (ok := wi4_5) (by kernel_rfl) rfl rfl rfl rfl rfl rfl ?_ ?_ ?_
    · refine st_call (d := 19) rfl (rr_enter1 _ _ _ _ _ _ _ 81 _ (.agg #[vv', mv']) _ (by simp [re_ne, re_eq, re_size, re_const, hsz, h2, h3]) rfl (rr_enter_of Tryz.func81 (by kernel_rfl) (by kernel_rfl) _ _)) (HC' w1 G1) ?_
      rintro e w2 ⟨rfl, g2x⟩
      have G2 := Gr.trans G1 g2x
      have s2 : w1.heap.size ≤ w2.heap.size := g2x.le
      refine ⟨_, rfl, keep _ G2, ?_⟩
      refine st_pair (i := 4) (j := 5) (oi := wi4_4) (oj := wi4_5) (by kernel_rfl) rfl rfl rfl rfl ?_ ?_
      · have G3 := Gr.alloc G2 (.cells zC 130)
        have f3_4 := al_new w2 (.cells zC 130) _ rfl
        have t3 : w.heap.size ≤ w2.heap.size := G2.le
        have u3 : w2.heap.size = w2.heap.size := rfl
        refine st_val (d := 7) rfl (rr_alloc _ _ _ _ _ _ _ counts_zero) (keep _ G3) ?_
        refine st_one (i := 5) (oi := wi4_5) (by kernel_rfl) rfl rfl ?_
        have G4 := Gr.alloc G3 (.cells zC 130)
        have f4_4 := (Below.heap_alloc (w2.alloc (.cells zC 130)) (.cells zC 130) _ (Array.getElem?_eq_some_iff.1 f3_4).1).trans f3_4
        have f4_5 := al_new (w2.alloc (.cells zC 130)) (.cells zC 130) _ rfl
        have t4 : w.heap.size ≤ (w2.alloc (.cells zC 130)).heap.size := G3.le
        have u4 : (w2.alloc (.cells zC 130)).heap.size = (w2.alloc (.cells zC 130)).heap.size := rfl
        have v4_4 : w2.heap.size < (w2.alloc (.cells zC 130)).heap.size := (Array.getElem?_eq_some_iff.1 f3_4).1
        refine st_val (d := 8) rfl (rr_alloc _ _ _ _ _ _ _ counts_zero) (keep _ G4) ?_
        exact fin ((w2.alloc (.cells zC 130)).alloc (.cells zC 130)) w2.heap.size (w2.alloc (.cells zC 130)).heap.size _ rfl G4 t3 t4 (by have := u3; have := u4; omega) f4_4 f4_5
      · have G5 := Gr.alloc G2 (.cells zC 130)
        have f5_5 := al_new w2 (.cells zC 130) _ rfl
        have t5 : w.heap.size ≤ w2.heap.size := G2.le
        have u5 : w2.heap.size = w2.heap.size := rfl
        refine st_val (d := 8) rfl (rr_alloc _ _ _ _ _ _ _ counts_zero) (keep _ G5) ?_
        refine st_one (i := 4) (oi := wi4_4) (by kernel_rfl) rfl rfl ?_
        have G6 := Gr.alloc G5 (.cells zC 130)
        have f6_5 := (Below.heap_alloc (w2.alloc (.cells zC 130)) (.cells zC 130) _ (Array.getElem?_eq_some_iff.1 f5_5).1).trans f5_5
        have f6_4 := al_new (w2.alloc (.cells zC 130)) (.cells zC 130) _ rfl
        have t6 : w.heap.size ≤ (w2.alloc (.cells zC 130)).heap.size := G5.le
        have u6 : (w2.alloc (.cells zC 130)).heap.size = (w2.alloc (.cells zC 130)).heap.size := rfl
        have v6_5 : w2.heap.size < (w2.alloc (.cells zC 130)).heap.size := (Array.getElem?_eq_some_iff.1 f5_5).1
        refine st_val (d := 7) rfl (rr_alloc _ _ _ _ _ _ _ counts_zero) (keep _ G6) ?_
        rw [re_comm _ 8 7 _ _ (by decide)]
        exact fin ((w2.alloc (.cells zC 130)).alloc (.cells zC 130)) (w2.alloc (.cells zC 130)).heap.size w2.heap.size _ rfl G6 t6 t5 (by have := u6; have := u5; omega) f6_4 f6_5
    · have G7 := Gr.alloc G1 (.cells zC 130)
      have f7_4 := al_new w1 (.cells zC 130) _ rfl
      have t7 : w.heap.size ≤ w1.heap.size := G1.le
      have u7 : w1.heap.size = w1.heap.size := rfl
      refine st_val (d := 7) rfl (rr_alloc _ _ _ _ _ _ _ counts_zero) (keep _ G7) ?_
      refine st_pair (i := 3) (j := 5) (oi := wi4_3) (oj := wi4_5) (by kernel_rfl) rfl rfl rfl rfl ?_ ?_
      · refine st_call (d := 19) rfl (rr_enter1 _ _ _ _ _ _ _ 81 _ (.agg #[vv', mv']) _ (by simp [re_ne, re_eq, re_size, re_const, hsz, h2, h3]) rfl (rr_enter_of Tryz.func81 (by kernel_rfl) (by kernel_rfl) _ _)) (HC' (w1.alloc (.cells zC 130)) G7) ?_
        rintro e w8 ⟨rfl, g8x⟩
        have G8 := Gr.trans G7 g8x
        have f8_4 := (Below.block g8x _ (Array.getElem?_eq_some_iff.1 f7_4).1).trans f7_4
        have s8 : (w1.alloc (.cells zC 130)).heap.size ≤ w8.heap.size := g8x.le
        refine ⟨_, rfl, keep _ G8, ?_⟩
        refine st_one (i := 5) (oi := wi4_5) (by kernel_rfl) rfl rfl ?_
        have G9 := Gr.alloc G8 (.cells zC 130)
        have f9_4 := (Below.heap_alloc w8 (.cells zC 130) _ (Array.getElem?_eq_some_iff.1 f8_4).1).trans f8_4
        have f9_5 := al_new w8 (.cells zC 130) _ rfl
        have t9 : w.heap.size ≤ w8.heap.size := G8.le
        have u9 : w8.heap.size = w8.heap.size := rfl
        have v9_4 : w1.heap.size < w8.heap.size := (Array.getElem?_eq_some_iff.1 f8_4).1
        refine st_val (d := 8) rfl (rr_alloc _ _ _ _ _ _ _ counts_zero) (keep _ G9) ?_
        rw [re_comm _ 7 19 _ _ (by decide)]
        exact fin (w8.alloc (.cells zC 130)) w1.heap.size w8.heap.size _ rfl G9 t7 t9 (by have := u7; have := u9; omega) f9_4 f9_5
      · have G10 := Gr.alloc G7 (.cells zC 130)
        have f10_4 := (Below.heap_alloc (w1.alloc (.cells zC 130)) (.cells zC 130) _ (Array.getElem?_eq_some_iff.1 f7_4).1).trans f7_4
        have f10_5 := al_new (w1.alloc (.cells zC 130)) (.cells zC 130) _ rfl
        have t10 : w.heap.size ≤ (w1.alloc (.cells zC 130)).heap.size := G7.le
        have u10 : (w1.alloc (.cells zC 130)).heap.size = (w1.alloc (.cells zC 130)).heap.size := rfl
        have v10_4 : w1.heap.size < (w1.alloc (.cells zC 130)).heap.size := (Array.getElem?_eq_some_iff.1 f7_4).1
        refine st_val (d := 8) rfl (rr_alloc _ _ _ _ _ _ _ counts_zero) (keep _ G10) ?_
        refine st_one (i := 3) (oi := wi4_3) (by kernel_rfl) rfl rfl ?_
        refine st_call (d := 19) rfl (rr_enter1 _ _ _ _ _ _ _ 81 _ (.agg #[vv', mv']) _ (by simp [re_ne, re_eq, re_size, re_const, hsz, h2, h3]) rfl (rr_enter_of Tryz.func81 (by kernel_rfl) (by kernel_rfl) _ _)) (HC' ((w1.alloc (.cells zC 130)).alloc (.cells zC 130)) G10) ?_
        rintro e w11 ⟨rfl, g11x⟩
        have G11 := Gr.trans G10 g11x
        have f11_4 := (Below.block g11x _ (Array.getElem?_eq_some_iff.1 f10_4).1).trans f10_4
        have f11_5 := (Below.block g11x _ (Array.getElem?_eq_some_iff.1 f10_5).1).trans f10_5
        have s11 : ((w1.alloc (.cells zC 130)).alloc (.cells zC 130)).heap.size ≤ w11.heap.size := g11x.le
        refine ⟨_, rfl, keep _ G11, ?_⟩
        rw [re_comm _ 8 19 _ _ (by decide), re_comm _ 7 19 _ _ (by decide)]
        exact fin w11 w1.heap.size (w1.alloc (.cells zC 130)).heap.size _ rfl G11 t7 t10 (by have := u7; have := u10; omega) f11_4 f11_5
    · have G12 := Gr.alloc G1 (.cells zC 130)
      have f12_5 := al_new w1 (.cells zC 130) _ rfl
      have t12 : w.heap.size ≤ w1.heap.size := G1.le
      have u12 : w1.heap.size = w1.heap.size := rfl
      refine st_val (d := 8) rfl (rr_alloc _ _ _ _ _ _ _ counts_zero) (keep _ G12) ?_
      refine st_pair (i := 3) (j := 4) (oi := wi4_3) (oj := wi4_4) (by kernel_rfl) rfl rfl rfl rfl ?_ ?_
      · refine st_call (d := 19) rfl (rr_enter1 _ _ _ _ _ _ _ 81 _ (.agg #[vv', mv']) _ (by simp [re_ne, re_eq, re_size, re_const, hsz, h2, h3]) rfl (rr_enter_of Tryz.func81 (by kernel_rfl) (by kernel_rfl) _ _)) (HC' (w1.alloc (.cells zC 130)) G12) ?_
        rintro e w13 ⟨rfl, g13x⟩
        have G13 := Gr.trans G12 g13x
        have f13_5 := (Below.block g13x _ (Array.getElem?_eq_some_iff.1 f12_5).1).trans f12_5
        have s13 : (w1.alloc (.cells zC 130)).heap.size ≤ w13.heap.size := g13x.le
        refine ⟨_, rfl, keep _ G13, ?_⟩
        refine st_one (i := 4) (oi := wi4_4) (by kernel_rfl) rfl rfl ?_
        have G14 := Gr.alloc G13 (.cells zC 130)
        have f14_5 := (Below.heap_alloc w13 (.cells zC 130) _ (Array.getElem?_eq_some_iff.1 f13_5).1).trans f13_5
        have f14_4 := al_new w13 (.cells zC 130) _ rfl
        have t14 : w.heap.size ≤ w13.heap.size := G13.le
        have u14 : w13.heap.size = w13.heap.size := rfl
        have v14_5 : w1.heap.size < w13.heap.size := (Array.getElem?_eq_some_iff.1 f13_5).1
        refine st_val (d := 7) rfl (rr_alloc _ _ _ _ _ _ _ counts_zero) (keep _ G14) ?_
        rw [re_comm _ 8 19 _ _ (by decide), re_comm _ 8 7 _ _ (by decide)]
        exact fin (w13.alloc (.cells zC 130)) w13.heap.size w1.heap.size _ rfl G14 t14 t12 (by have := u14; have := u12; omega) f14_4 f14_5
      · have G15 := Gr.alloc G12 (.cells zC 130)
        have f15_5 := (Below.heap_alloc (w1.alloc (.cells zC 130)) (.cells zC 130) _ (Array.getElem?_eq_some_iff.1 f12_5).1).trans f12_5
        have f15_4 := al_new (w1.alloc (.cells zC 130)) (.cells zC 130) _ rfl
        have t15 : w.heap.size ≤ (w1.alloc (.cells zC 130)).heap.size := G12.le
        have u15 : (w1.alloc (.cells zC 130)).heap.size = (w1.alloc (.cells zC 130)).heap.size := rfl
        have v15_5 : w1.heap.size < (w1.alloc (.cells zC 130)).heap.size := (Array.getElem?_eq_some_iff.1 f12_5).1
        refine st_val (d := 7) rfl (rr_alloc _ _ _ _ _ _ _ counts_zero) (keep _ G15) ?_
        refine st_one (i := 3) (oi := wi4_3) (by kernel_rfl) rfl rfl ?_
        refine st_call (d := 19) rfl (rr_enter1 _ _ _ _ _ _ _ 81 _ (.agg #[vv', mv']) _ (by simp [re_ne, re_eq, re_size, re_const, hsz, h2, h3]) rfl (rr_enter_of Tryz.func81 (by kernel_rfl) (by kernel_rfl) _ _)) (HC' ((w1.alloc (.cells zC 130)).alloc (.cells zC 130)) G15) ?_
        rintro e w16 ⟨rfl, g16x⟩
        have G16 := Gr.trans G15 g16x
        have f16_5 := (Below.block g16x _ (Array.getElem?_eq_some_iff.1 f15_5).1).trans f15_5
        have f16_4 := (Below.block g16x _ (Array.getElem?_eq_some_iff.1 f15_4).1).trans f15_4
        have s16 : ((w1.alloc (.cells zC 130)).alloc (.cells zC 130)).heap.size ≤ w16.heap.size := g16x.le
        refine ⟨_, rfl, keep _ G16, ?_⟩
        rw [re_comm _ 8 7 _ _ (by decide), re_comm _ 8 19 _ _ (by decide), re_comm _ 7 19 _ _ (by decide)]
        exact fin w16 (w1.alloc (.cells zC 130)).heap.size w1.heap.size _ rfl G16 t15 t12 (by have := u15; have := u12; omega) f16_4 f16_5
  · have G17 := Gr.alloc G0 (.cells zC 130)
    have f17_4 := al_new w.drew (.cells zC 130) _ rfl
    have t17 : w.heap.size ≤ w.drew.heap.size := G0.le
    have u17 : w.drew.heap.size = w.drew.heap.size := rfl
    refine st_val (d := 7) rfl (rr_alloc _ _ _ _ _ _ _ counts_zero) (keep _ G17) ?_
    refine st_pair (i := 1) (j := 5) (oi := wi4_1) (oj := wi4_5) (by kernel_rfl) rfl rfl rfl rfl ?_ ?_
    · refine st_call (d := 17) rfl (rr_enter1 _ _ _ _ _ _ _ 81 _ (.agg #[vv, mv]) _ (by simp [re_ne, re_eq, re_size, re_const, hsz, h2, h3]) rfl (rr_enter_of Tryz.func81 (by kernel_rfl) (by kernel_rfl) _ _)) (HC (w.drew.alloc (.cells zC 130)) G17) ?_
      rintro e w18 ⟨rfl, g18x⟩
      have G18 := Gr.trans G17 g18x
      have f18_4 := (Below.block g18x _ (Array.getElem?_eq_some_iff.1 f17_4).1).trans f17_4
      have s18 : (w.drew.alloc (.cells zC 130)).heap.size ≤ w18.heap.size := g18x.le
      refine ⟨_, rfl, keep _ G18, ?_⟩
      refine st_pair (i := 3) (j := 5) (oi := wi4_3) (oj := wi4_5) (by kernel_rfl) rfl rfl rfl rfl ?_ ?_
      · refine st_call (d := 19) rfl (rr_enter1 _ _ _ _ _ _ _ 81 _ (.agg #[vv', mv']) _ (by simp [re_ne, re_eq, re_size, re_const, hsz, h2, h3]) rfl (rr_enter_of Tryz.func81 (by kernel_rfl) (by kernel_rfl) _ _)) (HC' w18 G18) ?_
        rintro e w19 ⟨rfl, g19x⟩
        have G19 := Gr.trans G18 g19x
        have f19_4 := (Below.block g19x _ (Array.getElem?_eq_some_iff.1 f18_4).1).trans f18_4
        have s19 : w18.heap.size ≤ w19.heap.size := g19x.le
        refine ⟨_, rfl, keep _ G19, ?_⟩
        refine st_one (i := 5) (oi := wi4_5) (by kernel_rfl) rfl rfl ?_
        have G20 := Gr.alloc G19 (.cells zC 130)
        have f20_4 := (Below.heap_alloc w19 (.cells zC 130) _ (Array.getElem?_eq_some_iff.1 f19_4).1).trans f19_4
        have f20_5 := al_new w19 (.cells zC 130) _ rfl
        have t20 : w.heap.size ≤ w19.heap.size := G19.le
        have u20 : w19.heap.size = w19.heap.size := rfl
        have v20_4 : w.drew.heap.size < w19.heap.size := (Array.getElem?_eq_some_iff.1 f19_4).1
        refine st_val (d := 8) rfl (rr_alloc _ _ _ _ _ _ _ counts_zero) (keep _ G20) ?_
        rw [re_comm _ 7 17 _ _ (by decide), re_comm _ 7 19 _ _ (by decide)]
        exact fin (w19.alloc (.cells zC 130)) w.drew.heap.size w19.heap.size _ rfl G20 t17 t20 (by have := u17; have := u20; omega) f20_4 f20_5
      · have G21 := Gr.alloc G18 (.cells zC 130)
        have f21_4 := (Below.heap_alloc w18 (.cells zC 130) _ (Array.getElem?_eq_some_iff.1 f18_4).1).trans f18_4
        have f21_5 := al_new w18 (.cells zC 130) _ rfl
        have t21 : w.heap.size ≤ w18.heap.size := G18.le
        have u21 : w18.heap.size = w18.heap.size := rfl
        have v21_4 : w.drew.heap.size < w18.heap.size := (Array.getElem?_eq_some_iff.1 f18_4).1
        refine st_val (d := 8) rfl (rr_alloc _ _ _ _ _ _ _ counts_zero) (keep _ G21) ?_
        refine st_one (i := 3) (oi := wi4_3) (by kernel_rfl) rfl rfl ?_
        refine st_call (d := 19) rfl (rr_enter1 _ _ _ _ _ _ _ 81 _ (.agg #[vv', mv']) _ (by simp [re_ne, re_eq, re_size, re_const, hsz, h2, h3]) rfl (rr_enter_of Tryz.func81 (by kernel_rfl) (by kernel_rfl) _ _)) (HC' (w18.alloc (.cells zC 130)) G21) ?_
        rintro e w22 ⟨rfl, g22x⟩
        have G22 := Gr.trans G21 g22x
        have f22_4 := (Below.block g22x _ (Array.getElem?_eq_some_iff.1 f21_4).1).trans f21_4
        have f22_5 := (Below.block g22x _ (Array.getElem?_eq_some_iff.1 f21_5).1).trans f21_5
        have s22 : (w18.alloc (.cells zC 130)).heap.size ≤ w22.heap.size := g22x.le
        refine ⟨_, rfl, keep _ G22, ?_⟩
        rw [re_comm _ 7 17 _ _ (by decide), re_comm _ 8 19 _ _ (by decide), re_comm _ 7 19 _ _ (by decide)]
        exact fin w22 w.drew.heap.size w18.heap.size _ rfl G22 t17 t21 (by have := u17; have := u21; omega) f22_4 f22_5
    · have G23 := Gr.alloc G17 (.cells zC 130)
      have f23_4 := (Below.heap_alloc (w.drew.alloc (.cells zC 130)) (.cells zC 130) _ (Array.getElem?_eq_some_iff.1 f17_4).1).trans f17_4
      have f23_5 := al_new (w.drew.alloc (.cells zC 130)) (.cells zC 130) _ rfl
      have t23 : w.heap.size ≤ (w.drew.alloc (.cells zC 130)).heap.size := G17.le
      have u23 : (w.drew.alloc (.cells zC 130)).heap.size = (w.drew.alloc (.cells zC 130)).heap.size := rfl
      have v23_4 : w.drew.heap.size < (w.drew.alloc (.cells zC 130)).heap.size := (Array.getElem?_eq_some_iff.1 f17_4).1
      refine st_val (d := 8) rfl (rr_alloc _ _ _ _ _ _ _ counts_zero) (keep _ G23) ?_
      refine st_one (i := 1) (oi := wi4_1) (by kernel_rfl) rfl rfl ?_
      refine st_call (d := 17) rfl (rr_enter1 _ _ _ _ _ _ _ 81 _ (.agg #[vv, mv]) _ (by simp [re_ne, re_eq, re_size, re_const, hsz, h2, h3]) rfl (rr_enter_of Tryz.func81 (by kernel_rfl) (by kernel_rfl) _ _)) (HC ((w.drew.alloc (.cells zC 130)).alloc (.cells zC 130)) G23) ?_
      rintro e w24 ⟨rfl, g24x⟩
      have G24 := Gr.trans G23 g24x
      have f24_4 := (Below.block g24x _ (Array.getElem?_eq_some_iff.1 f23_4).1).trans f23_4
      have f24_5 := (Below.block g24x _ (Array.getElem?_eq_some_iff.1 f23_5).1).trans f23_5
      have s24 : ((w.drew.alloc (.cells zC 130)).alloc (.cells zC 130)).heap.size ≤ w24.heap.size := g24x.le
      refine ⟨_, rfl, keep _ G24, ?_⟩
      refine st_one (i := 3) (oi := wi4_3) (by kernel_rfl) rfl rfl ?_
      refine st_call (d := 19) rfl (rr_enter1 _ _ _ _ _ _ _ 81 _ (.agg #[vv', mv']) _ (by simp [re_ne, re_eq, re_size, re_const, hsz, h2, h3]) rfl (rr_enter_of Tryz.func81 (by kernel_rfl) (by kernel_rfl) _ _)) (HC' w24 G24) ?_
      rintro e w25 ⟨rfl, g25x⟩
      have G25 := Gr.trans G24 g25x
      have f25_4 := (Below.block g25x _ (Array.getElem?_eq_some_iff.1 f24_4).1).trans f24_4
      have f25_5 := (Below.block g25x _ (Array.getElem?_eq_some_iff.1 f24_5).1).trans f24_5
      have s25 : w24.heap.size ≤ w25.heap.size := g25x.le
      refine ⟨_, rfl, keep _ G25, ?_⟩
      rw [re_comm _ 8 17 _ _ (by decide), re_comm _ 8 19 _ _ (by decide), re_comm _ 7 17 _ _ (by decide), re_comm _ 7 19 _ _ (by decide)]
      exact fin w25 w.drew.heap.size (w.drew.alloc (.cells zC 130)).heap.size _ rfl G25 t17 t23 (by have := u17; have := u23; omega) f25_4 f25_5
  · have G26 := Gr.alloc G0 (.cells zC 130)
    have f26_5 := al_new w.drew (.cells zC 130) _ rfl
    have t26 : w.heap.size ≤ w.drew.heap.size := G0.le
    have u26 : w.drew.heap.size = w.drew.heap.size := rfl
    refine st_val (d := 8) rfl (rr_alloc _ _ _ _ _ _ _ counts_zero) (keep _ G26) ?_
    refine st_pair (i := 1) (j := 4) (oi := wi4_1) (oj := wi4_4) (by kernel_rfl) rfl rfl rfl rfl ?_ ?_
    · refine st_call (d := 17) rfl (rr_enter1 _ _ _ _ _ _ _ 81 _ (.agg #[vv, mv]) _ (by simp [re_ne, re_eq, re_size, re_const, hsz, h2, h3]) rfl (rr_enter_of Tryz.func81 (by kernel_rfl) (by kernel_rfl) _ _)) (HC (w.drew.alloc (.cells zC 130)) G26) ?_
      rintro e w27 ⟨rfl, g27x⟩
      have G27 := Gr.trans G26 g27x
      have f27_5 := (Below.block g27x _ (Array.getElem?_eq_some_iff.1 f26_5).1).trans f26_5
      have s27 : (w.drew.alloc (.cells zC 130)).heap.size ≤ w27.heap.size := g27x.le
      refine ⟨_, rfl, keep _ G27, ?_⟩
      refine st_pair (i := 3) (j := 4) (oi := wi4_3) (oj := wi4_4) (by kernel_rfl) rfl rfl rfl rfl ?_ ?_
      · refine st_call (d := 19) rfl (rr_enter1 _ _ _ _ _ _ _ 81 _ (.agg #[vv', mv']) _ (by simp [re_ne, re_eq, re_size, re_const, hsz, h2, h3]) rfl (rr_enter_of Tryz.func81 (by kernel_rfl) (by kernel_rfl) _ _)) (HC' w27 G27) ?_
        rintro e w28 ⟨rfl, g28x⟩
        have G28 := Gr.trans G27 g28x
        have f28_5 := (Below.block g28x _ (Array.getElem?_eq_some_iff.1 f27_5).1).trans f27_5
        have s28 : w27.heap.size ≤ w28.heap.size := g28x.le
        refine ⟨_, rfl, keep _ G28, ?_⟩
        refine st_one (i := 4) (oi := wi4_4) (by kernel_rfl) rfl rfl ?_
        have G29 := Gr.alloc G28 (.cells zC 130)
        have f29_5 := (Below.heap_alloc w28 (.cells zC 130) _ (Array.getElem?_eq_some_iff.1 f28_5).1).trans f28_5
        have f29_4 := al_new w28 (.cells zC 130) _ rfl
        have t29 : w.heap.size ≤ w28.heap.size := G28.le
        have u29 : w28.heap.size = w28.heap.size := rfl
        have v29_5 : w.drew.heap.size < w28.heap.size := (Array.getElem?_eq_some_iff.1 f28_5).1
        refine st_val (d := 7) rfl (rr_alloc _ _ _ _ _ _ _ counts_zero) (keep _ G29) ?_
        rw [re_comm _ 8 17 _ _ (by decide), re_comm _ 8 19 _ _ (by decide), re_comm _ 8 7 _ _ (by decide)]
        exact fin (w28.alloc (.cells zC 130)) w28.heap.size w.drew.heap.size _ rfl G29 t29 t26 (by have := u29; have := u26; omega) f29_4 f29_5
      · have G30 := Gr.alloc G27 (.cells zC 130)
        have f30_5 := (Below.heap_alloc w27 (.cells zC 130) _ (Array.getElem?_eq_some_iff.1 f27_5).1).trans f27_5
        have f30_4 := al_new w27 (.cells zC 130) _ rfl
        have t30 : w.heap.size ≤ w27.heap.size := G27.le
        have u30 : w27.heap.size = w27.heap.size := rfl
        have v30_5 : w.drew.heap.size < w27.heap.size := (Array.getElem?_eq_some_iff.1 f27_5).1
        refine st_val (d := 7) rfl (rr_alloc _ _ _ _ _ _ _ counts_zero) (keep _ G30) ?_
        refine st_one (i := 3) (oi := wi4_3) (by kernel_rfl) rfl rfl ?_
        refine st_call (d := 19) rfl (rr_enter1 _ _ _ _ _ _ _ 81 _ (.agg #[vv', mv']) _ (by simp [re_ne, re_eq, re_size, re_const, hsz, h2, h3]) rfl (rr_enter_of Tryz.func81 (by kernel_rfl) (by kernel_rfl) _ _)) (HC' (w27.alloc (.cells zC 130)) G30) ?_
        rintro e w31 ⟨rfl, g31x⟩
        have G31 := Gr.trans G30 g31x
        have f31_5 := (Below.block g31x _ (Array.getElem?_eq_some_iff.1 f30_5).1).trans f30_5
        have f31_4 := (Below.block g31x _ (Array.getElem?_eq_some_iff.1 f30_4).1).trans f30_4
        have s31 : (w27.alloc (.cells zC 130)).heap.size ≤ w31.heap.size := g31x.le
        refine ⟨_, rfl, keep _ G31, ?_⟩
        rw [re_comm _ 8 17 _ _ (by decide), re_comm _ 8 7 _ _ (by decide), re_comm _ 8 19 _ _ (by decide), re_comm _ 7 19 _ _ (by decide)]
        exact fin w31 w27.heap.size w.drew.heap.size _ rfl G31 t30 t26 (by have := u30; have := u26; omega) f31_4 f31_5
    · have G32 := Gr.alloc G26 (.cells zC 130)
      have f32_5 := (Below.heap_alloc (w.drew.alloc (.cells zC 130)) (.cells zC 130) _ (Array.getElem?_eq_some_iff.1 f26_5).1).trans f26_5
      have f32_4 := al_new (w.drew.alloc (.cells zC 130)) (.cells zC 130) _ rfl
      have t32 : w.heap.size ≤ (w.drew.alloc (.cells zC 130)).heap.size := G26.le
      have u32 : (w.drew.alloc (.cells zC 130)).heap.size = (w.drew.alloc (.cells zC 130)).heap.size := rfl
      have v32_5 : w.drew.heap.size < (w.drew.alloc (.cells zC 130)).heap.size := (Array.getElem?_eq_some_iff.1 f26_5).1
      refine st_val (d := 7) rfl (rr_alloc _ _ _ _ _ _ _ counts_zero) (keep _ G32) ?_
      refine st_one (i := 1) (oi := wi4_1) (by kernel_rfl) rfl rfl ?_
      refine st_call (d := 17) rfl (rr_enter1 _ _ _ _ _ _ _ 81 _ (.agg #[vv, mv]) _ (by simp [re_ne, re_eq, re_size, re_const, hsz, h2, h3]) rfl (rr_enter_of Tryz.func81 (by kernel_rfl) (by kernel_rfl) _ _)) (HC ((w.drew.alloc (.cells zC 130)).alloc (.cells zC 130)) G32) ?_
      rintro e w33 ⟨rfl, g33x⟩
      have G33 := Gr.trans G32 g33x
      have f33_5 := (Below.block g33x _ (Array.getElem?_eq_some_iff.1 f32_5).1).trans f32_5
      have f33_4 := (Below.block g33x _ (Array.getElem?_eq_some_iff.1 f32_4).1).trans f32_4
      have s33 : ((w.drew.alloc (.cells zC 130)).alloc (.cells zC 130)).heap.size ≤ w33.heap.size := g33x.le
      refine ⟨_, rfl, keep _ G33, ?_⟩
      refine st_one (i := 3) (oi := wi4_3) (by kernel_rfl) rfl rfl ?_
      refine st_call (d := 19) rfl (rr_enter1 _ _ _ _ _ _ _ 81 _ (.agg #[vv', mv']) _ (by simp [re_ne, re_eq, re_size, re_const, hsz, h2, h3]) rfl (rr_enter_of Tryz.func81 (by kernel_rfl) (by kernel_rfl) _ _)) (HC' w33 G33) ?_
      rintro e w34 ⟨rfl, g34x⟩
      have G34 := Gr.trans G33 g34x
      have f34_5 := (Below.block g34x _ (Array.getElem?_eq_some_iff.1 f33_5).1).trans f33_5
      have f34_4 := (Below.block g34x _ (Array.getElem?_eq_some_iff.1 f33_4).1).trans f33_4
      have s34 : w33.heap.size ≤ w34.heap.size := g34x.le
      refine ⟨_, rfl, keep _ G34, ?_⟩
      rw [re_comm _ 8 7 _ _ (by decide), re_comm _ 8 17 _ _ (by decide), re_comm _ 8 19 _ _ (by decide), re_comm _ 7 17 _ _ (by decide), re_comm _ 7 19 _ _ (by decide)]
      exact fin w34 (w.drew.alloc (.cells zC 130)).heap.size w.drew.heap.size _ rfl G34 t32 t26 (by have := u32; have := u26; omega) f34_4 f34_5
end Go.Proofs.YtbpkfkljeibjoaaGreat
/- know.Add, Join, Meet, Within: the regions that build the answers, over any frame. -/
namespace Go.Proofs.YtbpkfkljeibjoaaGreat
open Go.RowKit Rm
section
variable (ev : Operand → Value) (d : Option Tmp) (ty : TypeId) (p : String) (af : Array Edge) (g : Option (Nat × Bool)) (w : World)
theorem rr_bs2 (x y : Operand) (a1 : Option Addr) (n1 c1 : Nat) (a2 : Option Addr) (n2 c2 : Nat) (hx : ev x = .slice a1 n1 c1) (hy : ev y = .slice a2 n2 c2) : (execOp ev (Oper.mk d (.buildSlice 185 2 #[(0, x), (1, y)]) ty p af g)).run Tryz.prog w = .ok (.value (.slice (some ⟨w.heap.size, 0, none⟩) 2 2)) (w.alloc (.cells #[.slice a1 n1 c1, .slice a2 n2 c2] 31)) := by
  go_simp
theorem rr_len (x : Operand) (a1 : Option Addr) (n1 c1 : Nat) (hx : ev x = .slice a1 n1 c1) : (execOp ev (Oper.mk d (.call (Call.mk (.builtin .len) #[x] #[31])) ty p af g)).run Tryz.prog w = .ok (.value (.int .i64 (n1 : Nat))) w := by
  go_simp
theorem rr_eqI (x y : Operand) (m n : Nat) (hx : ev x = .int .i64 (m : Nat)) (hy : ev y = .int .i64 (n : Nat)) : (execOp ev (Oper.mk d (.binOp .eql 3 x y 3) ty p af g)).run Tryz.prog w = .ok (.value (.bool (decide ((m : Int) = (n : Int))))) w := by
  go_simp
  rw [Bool.eq_iff_iff]
  simp
end
theorem two_one (a1 : Option Addr) (n1 c1 : Nat) (a2 : Option Addr) (n2 c2 : Nat) : (#[Value.slice a1 n1 c1, .slice a2 n2 c2]).all (·.oneCell') = true := by simp [Value.oneCell']
theorem know_size2 : (Tryz.prog.info? 33).map (·.size) = some 2 := by kernel_rfl
def KS3 (g0 g1 b7 : Nat) (vv mv vv' mv' : Value) (A : Array Value) (x : World) : Prop := KS2 g0 g1 vv mv vv' mv' x ∧ x.heap[b7]? = some (.cells A 130 (0, 0))
def jn10_0 : Oper := Oper.mk (some 34) (Op.load 130 (Operand.tmp 7)) 130 "know.go:62" #[] none
def jn10_1 : Oper := Oper.mk (some 35) (Op.fieldAddr 33 (Operand.tmp 2) 1) 0 "know.go:62" #[] none
def jn10_2 : Oper := Oper.mk (some 36) (Op.load 31 (Operand.tmp 35)) 31 "know.go:62" #[Edge.mk 1 Ground.data] none
def jn10_3 : Oper := Oper.mk (some 37) (Op.fieldAddr 33 (Operand.tmp 3) 1) 0 "know.go:62" #[] none
def jn10_4 : Oper := Oper.mk (some 38) (Op.load 31 (Operand.tmp 37)) 31 "know.go:62" #[Edge.mk 3 Ground.data] none
def jn10_5 : Oper := Oper.mk (some 39) (Op.buildSlice 185 2 #[(0, Operand.tmp 36), (1, Operand.tmp 38)]) 185 "know.go:62" #[Edge.mk 2 Ground.data, Edge.mk 4 Ground.data] none
def jn10_6 : Oper := Oper.mk (some 40) (Op.call (Call.mk (Callee.value (Operand.func 82)) #[Operand.tmp 39] #[185])) 31 "know.go:62" #[Edge.mk 5 Ground.data] none
def jn10_7 : Oper := Oper.mk (some 41) (Op.call (Call.mk (Callee.value (Operand.func 80)) #[Operand.tmp 34, Operand.tmp 40] #[130, 31])) 71 "know.go:62" #[Edge.mk 0 Ground.data, Edge.mk 6 Ground.data, Edge.mk 6 Ground.chain] none
def jn10_8 : Oper := Oper.mk (some 42) (Op.extract (Operand.tmp 41) 0) 33 "know.go:62" #[Edge.mk 7 Ground.data] none
def jn10_9 : Oper := Oper.mk (some 43) (Op.extract (Operand.tmp 41) 1) 24 "know.go:62" #[Edge.mk 7 Ground.data] none
def jn10_10 : Oper := Oper.mk none (Op.store 33 (Operand.tmp 4) (Operand.tmp 42)) 0 "know.go:62" #[Edge.mk 8 Ground.data, Edge.mk 7 Ground.chain, Edge.mk 0 Ground.phase, Edge.mk 1 Ground.phase, Edge.mk 2 Ground.phase, Edge.mk 3 Ground.phase, Edge.mk 4 Ground.phase, Edge.mk 5 Ground.phase, Edge.mk 6 Ground.phase, Edge.mk 7 Ground.phase, Edge.mk 8 Ground.phase, Edge.mk 9 Ground.phase] none
def jn10_11 : Oper := Oper.mk (some 5) (Op.assign (Operand.tmp 43)) 24 "know.go:62" #[Edge.mk 9 Ground.data, Edge.mk 10 Ground.chain, Edge.mk 0 Ground.phase, Edge.mk 1 Ground.phase, Edge.mk 2 Ground.phase, Edge.mk 3 Ground.phase, Edge.mk 4 Ground.phase, Edge.mk 5 Ground.phase, Edge.mk 6 Ground.phase, Edge.mk 7 Ground.phase, Edge.mk 8 Ground.phase, Edge.mk 9 Ground.phase, Edge.mk 10 Ground.phase] none
def jn10_Ops : Array Oper := #[jn10_0, jn10_1, jn10_2, jn10_3, jn10_4, jn10_5, jn10_6, jn10_7, jn10_8, jn10_9, jn10_10, jn10_11]
set_option maxHeartbeats 1000000 in
set_option maxRecDepth 100000 in
theorem jn10_reg (Q : Exit → Act → World → Prop) (hQ : ∀ c a d v w, Q (.panic c) (Act.put a (some d) v) w → Q (.panic c) a w) (a : Act) (w : World) (g0 g1 g4 b7 : Nat) (vv vv' : Value) (ma ma' : Option Addr) (mn mc mn' mc' : Nat) (A : Array Value)
    (hsz : a.tmps.size = 44) (h2 : a.eval (.tmp 2) = .pointer (some ⟨g0, 0, none⟩)) (h3 : a.eval (.tmp 3) = .pointer (some ⟨g1, 0, none⟩)) (h4 : a.eval (.tmp 4) = .pointer (some ⟨g4, 0, none⟩)) (h7 : a.eval (.tmp 7) = .pointer (some ⟨b7, 0, none⟩))
    (hS0 : KS3 g0 g1 b7 vv (.slice ma mn mc) vv' (.slice ma' mn' mc') A w) (hl0 : g0 < w.heap.size) (hl1 : g1 < w.heap.size) (hl7 : b7 < w.heap.size) (hA5 : A.size = 5)
    (h40 : w.heap[g4]? = some (.cells #[.slice none 0 0, .slice none 0 0] 33 (0, 0))) (hn0 : g0 ≠ g4) (hn1 : g1 ≠ g4) (hn7 : b7 ≠ g4)
    (FC : Value → World → World → Prop) (FB : Option Addr → Nat → Nat → Option Addr → Nat → Nat → Int → World → Prop)
    (HCC : ∀ W b, Gr w W → W.heap[b]? = some (.cells #[.slice ma mn mc, .slice ma' mn' mc'] 31 (0, 0)) → Calls Tryz.prog 82 #[.slice (some ⟨b, 0, none⟩) 2 2] W fun e W' => ∃ u, e = .returned u ∧ Gr W W' ∧ FC u W W')
    (HB : ∀ W W' u, Gr w W → Gr W W' → FC u W W' → Calls Tryz.prog 80 #[.agg A, u] W' fun e W'' => ∃ a1 n1 c1 a2 n2 c2 r, e = .returned (.tuple #[.agg #[.slice a1 n1 c1, .slice a2 n2 c2], .int .i64 r]) ∧ Gr w W'' ∧ FB a1 n1 c1 a2 n2 c2 r W'')
    (h : ∀ (W : World) (b39 : Nat) (u : Value) a1 n1 c1 a2 n2 c2 r, Gr w W → FB a1 n1 c1 a2 n2 c2 r W → Q .normal (Act.put (Act.put (Act.put (Act.put (Act.put (Act.put (Act.put (Act.put (Act.put (Act.put (Act.put a (some 34) (.agg A)) (some 35) (.pointer (some ⟨g0, 1, none⟩))) (some 37) (.pointer (some ⟨g1, 1, none⟩))) (some 36) (.slice ma mn mc)) (some 38) (.slice ma' mn' mc')) (some 39) (.slice (some ⟨b39, 0, none⟩) 2 2)) (some 40) (u)) (some 41) (.tuple #[.agg #[.slice a1 n1 c1, .slice a2 n2 c2], .int .i64 r])) (some 42) (.agg #[.slice a1 n1 c1, .slice a2 n2 c2])) (some 43) (.int .i64 r)) (some 5) (.int .i64 r)) (W.setRow g4 #[.slice a1 n1 c1, .slice a2 n2 c2])) : (Code.region 10 jn10_Ops true).wp Tryz.prog Q a w := by
  have keep : ∀ x, Gr w x → KS3 g0 g1 b7 vv (.slice ma mn mc) vv' (.slice ma' mn' mc') A x := fun x gx => ⟨⟨(Below.block gx g0 hl0).trans hS0.1.1, (Below.block gx g1 hl1).trans hS0.1.2⟩, (Below.block gx b7 hl7).trans hS0.2⟩
  have keep4 : ∀ x, Gr w x → x.heap[g4]? = some (.cells #[.slice none 0 0, .slice none 0 0] 33 (0, 0)) := fun x gx => (Below.block gx g4 (Array.getElem?_eq_some_iff.1 h40).1).trans h40
  have szA : (Tryz.prog.info? 130).map (·.size) = some A.size := by rw [hA5]; exact counts_size
  refine wp_region_held_drew (S := KS3 g0 g1 b7 vv (.slice ma mn mc) vv' (.slice ma' mn' mc') A) (by kernel_rfl) hS0 (fun hHeld => ?_)
  show wpAnyH Tryz.prog .any jn10_Ops Q _ 12 (Array.replicate 12 false) a w.drew
  have G0 : Gr w w.drew := (Gr.refl w).drew
  refine re_tk (i := 0) (oi := jn10_0) (v := .agg A) (d := 34) hQ rfl rfl (by kernel_rfl) (by kernel_rfl) (by kernel_rfl) (Or.inl ⟨re_none _ rfl, fun wx hS => rr_row _ _ _ _ _ _ _ 130 _ b7 A (by simp [re_ne, re_eq, re_size, re_const, hsz, h2, h3, h4, h7]) (run_loadVar_row wx b7 130 130 A (0, 0) _ (hS.2) Tryz.underlying130 rfl szA)⟩) hHeld ?_
  refine re_tk (i := 1) (oi := jn10_1) (v := .pointer (some ⟨g0, 1, none⟩)) (d := 35) hQ rfl rfl (by kernel_rfl) (by kernel_rfl) (by kernel_rfl) (Or.inl ⟨re_none _ rfl, fun wx hS => rr_fK1 _ _ _ _ _ _ _ _ g0 (by simp [re_ne, re_eq, re_size, re_const, hsz, h2, h3, h4, h7])⟩) hHeld ?_
  refine re_tk (i := 3) (oi := jn10_3) (v := .pointer (some ⟨g1, 1, none⟩)) (d := 37) hQ rfl rfl (by kernel_rfl) (by kernel_rfl) (by kernel_rfl) (Or.inl ⟨re_none _ rfl, fun wx hS => rr_fK1 _ _ _ _ _ _ _ _ g1 (by simp [re_ne, re_eq, re_size, re_const, hsz, h2, h3, h4, h7])⟩) hHeld ?_
  refine re_tk (i := 2) (oi := jn10_2) (v := .slice ma mn mc) (d := 36) hQ rfl rfl (by kernel_rfl) (by kernel_rfl) (by kernel_rfl) (Or.inl ⟨re_none _ rfl, fun wx hS => rr_lS _ _ _ _ _ _ _ _ g0 1 (.slice ma mn mc) (by simp [re_ne, re_eq, re_size, re_const, hsz, h2, h3, h4, h7]) (kc1 (hS.1.1))⟩) hHeld ?_
  refine re_tk (i := 4) (oi := jn10_4) (v := .slice ma' mn' mc') (d := 38) hQ rfl rfl (by kernel_rfl) (by kernel_rfl) (by kernel_rfl) (Or.inl ⟨re_none _ rfl, fun wx hS => rr_lS _ _ _ _ _ _ _ _ g1 1 (.slice ma' mn' mc') (by simp [re_ne, re_eq, re_size, re_const, hsz, h2, h3, h4, h7]) (kc1 (hS.1.2))⟩) hHeld ?_
  refine st_one (i := 5) (oi := jn10_5) (by kernel_rfl) rfl rfl ?_
  have f1 := al_new w.drew (.cells #[.slice ma mn mc, .slice ma' mn' mc'] 31) _ rfl
  have G1 := Gr.alloc G0 (.cells #[.slice ma mn mc, .slice ma' mn' mc'] 31)
  have hHeld1 := keep _ G1
  refine st_val (d := 39) rfl (rr_bs2 _ _ _ _ _ _ _ _ _ ma mn mc ma' mn' mc' (by simp [re_ne, re_eq, re_size, re_const, hsz, h2, h3, h4, h7]) (by simp [re_ne, re_eq, re_size, re_const, hsz, h2, h3, h4, h7])) hHeld1 ?_
  refine st_one (i := 6) (oi := jn10_6) (by kernel_rfl) rfl rfl ?_
  refine st_call (d := 40) rfl (rr_enter1 _ _ _ _ _ _ _ 82 _ (.slice (some ⟨w.drew.heap.size, 0, none⟩) 2 2) _ (by simp [re_ne, re_eq, re_size, re_const, hsz, h2, h3, h4, h7]) rfl (rr_enter_of Tryz.func82 (by kernel_rfl) (by kernel_rfl) _ _)) (HCC _ _ G1 f1) ?_
  rintro e W2 ⟨u, rfl, gC, fC⟩
  have G2 := Gr.trans G1 gC
  have hHeld2 := keep _ G2
  refine ⟨_, rfl, hHeld2, ?_⟩
  refine st_one (i := 7) (oi := jn10_7) (by kernel_rfl) rfl rfl ?_
  refine st_call (d := 41) rfl (rr_enter2 _ _ _ _ _ _ _ 80 _ _ (.agg A) (u) _ (by simp [re_ne, re_eq, re_size, re_const, hsz, h2, h3, h4, h7]) (by simp [re_ne, re_eq, re_size, re_const, hsz, h2, h3, h4, h7]) rfl (rr_enter_of Tryz.func80 (by kernel_rfl) (by kernel_rfl) _ _)) (HB _ _ u G1 gC fC) ?_
  rintro e W3 ⟨a1, n1, c1, a2, n2, c2, r, rfl, gB, fB⟩
  have G3 := gB
  have hHeld3 := keep _ G3
  refine ⟨_, rfl, hHeld3, ?_⟩
  refine re_tk (i := 8) (oi := jn10_8) (v := .agg #[.slice a1 n1 c1, .slice a2 n2 c2]) (d := 42) hQ rfl rfl (by kernel_rfl) (by kernel_rfl) (by kernel_rfl) (Or.inl ⟨re_none _ rfl, fun wx hS => rr_ext0 _ _ _ _ _ _ _ _ (.agg #[.slice a1 n1 c1, .slice a2 n2 c2]) (.int .i64 r) (by simp [re_ne, re_eq, re_size, re_const, hsz, h2, h3, h4, h7])⟩) hHeld3 ?_
  refine re_tk (i := 9) (oi := jn10_9) (v := .int .i64 r) (d := 43) hQ rfl rfl (by kernel_rfl) (by kernel_rfl) (by kernel_rfl) (Or.inl ⟨re_none _ rfl, fun wx hS => rr_ext1 _ _ _ _ _ _ _ _ (.agg #[.slice a1 n1 c1, .slice a2 n2 c2]) (.int .i64 r) (by simp [re_ne, re_eq, re_size, re_const, hsz, h2, h3, h4, h7])⟩) hHeld3 ?_
  refine st_one (i := 10) (oi := jn10_10) (by kernel_rfl) rfl rfl ?_
  have e4 := keep4 _ G3
  have hSt := (show KS3 g0 g1 b7 vv (.slice ma mn mc) vv' (.slice ma' mn' mc') A _ from ⟨⟨(setRow_other _ g4 g0 #[.slice a1 n1 c1, .slice a2 n2 c2] hn0).trans hHeld3.1.1, (setRow_other _ g4 g1 #[.slice a1 n1 c1, .slice a2 n2 c2] hn1).trans hHeld3.1.2⟩, (setRow_other _ g4 b7 #[.slice a1 n1 c1, .slice a2 n2 c2] hn7).trans hHeld3.2⟩)
  refine st_row 33 (.tmp 4) (.tmp 42) rfl rfl g4 #[.slice a1 n1 c1, .slice a2 n2 c2] (by simp [re_ne, re_eq, re_size, re_const, hsz, h2, h3, h4, h7]) (by simp [re_ne, re_eq, re_size, re_const, hsz, h2, h3, h4, h7]) 33 #[.slice none 0 0, .slice none 0 0] e4 know_size2 rfl (two_one _ _ _ _ _ _) hSt ?_
  refine re_tk (i := 11) (oi := jn10_11) (v := .int .i64 r) (d := 5) hQ rfl rfl (by kernel_rfl) (by kernel_rfl) (by kernel_rfl) (Or.inl ⟨re_none _ rfl, fun wx hS => rr_assign _ _ _ _ _ _ _ _ _ (by simp [re_ne, re_eq, re_size, re_const, hsz, h2, h3, h4, h7])⟩) hSt ?_
  exact wpAnyH_done (by kernel_rfl) (h _ (w.drew.heap.size) u a1 n1 c1 a2 n2 c2 r G3 fB) _
def wi11_0 : Oper := Oper.mk (some 31) (Op.fieldAddr 33 (Operand.tmp 2) 1) 0 "know.go:92" #[] none
def wi11_1 : Oper := Oper.mk (some 32) (Op.load 31 (Operand.tmp 31)) 31 "know.go:92" #[Edge.mk 0 Ground.data] none
def wi11_2 : Oper := Oper.mk (some 33) (Op.load 33 (Operand.tmp 3)) 33 "know.go:92" #[] none
def wi11_3 : Oper := Oper.mk (some 34) (Op.call (Call.mk (Callee.value (Operand.func 84)) #[Operand.tmp 32, Operand.tmp 33] #[31, 33])) 31 "know.go:92" #[Edge.mk 1 Ground.data, Edge.mk 2 Ground.data] none
def wi11_4 : Oper := Oper.mk (some 35) (Op.call (Call.mk (Callee.builtin Builtin.len) #[Operand.tmp 34] #[31])) 3 "know.go:92" #[Edge.mk 3 Ground.data] none
def wi11_5 : Oper := Oper.mk (some 36) (Op.fieldAddr 33 (Operand.tmp 2) 1) 0 "know.go:92" #[] none
def wi11_6 : Oper := Oper.mk (some 37) (Op.load 31 (Operand.tmp 36)) 31 "know.go:92" #[Edge.mk 5 Ground.data] none
def wi11_7 : Oper := Oper.mk (some 38) (Op.call (Call.mk (Callee.builtin Builtin.len) #[Operand.tmp 37] #[31])) 3 "know.go:92" #[Edge.mk 6 Ground.data] none
def wi11_8 : Oper := Oper.mk (some 39) (Op.binOp BinOp.eql 3 (Operand.tmp 35) (Operand.tmp 38) 3) 4 "know.go:92" #[Edge.mk 4 Ground.data, Edge.mk 7 Ground.data] none
def wi11_9 : Oper := Oper.mk (some 4) (Op.assign (Operand.tmp 39)) 4 "know.go:92" #[Edge.mk 8 Ground.data, Edge.mk 3 Ground.chain, Edge.mk 0 Ground.phase, Edge.mk 1 Ground.phase, Edge.mk 2 Ground.phase, Edge.mk 3 Ground.phase, Edge.mk 4 Ground.phase, Edge.mk 5 Ground.phase, Edge.mk 6 Ground.phase, Edge.mk 7 Ground.phase, Edge.mk 8 Ground.phase] none
def wi11_10 : Oper := Oper.mk (some 5) (Op.assign (Operand.const (Value.int IntKind.i64 0))) 24 "know.go:92" #[Edge.mk 9 Ground.chain, Edge.mk 0 Ground.phase, Edge.mk 1 Ground.phase, Edge.mk 2 Ground.phase, Edge.mk 3 Ground.phase, Edge.mk 4 Ground.phase, Edge.mk 5 Ground.phase, Edge.mk 6 Ground.phase, Edge.mk 7 Ground.phase, Edge.mk 8 Ground.phase, Edge.mk 9 Ground.phase] none
def wi11_Ops : Array Oper := #[wi11_0, wi11_1, wi11_2, wi11_3, wi11_4, wi11_5, wi11_6, wi11_7, wi11_8, wi11_9, wi11_10]
set_option maxHeartbeats 1000000 in
set_option maxRecDepth 100000 in
theorem wi11_reg (Q : Exit → Act → World → Prop) (hQ : ∀ c a d v w, Q (.panic c) (Act.put a (some d) v) w → Q (.panic c) a w) (a : Act) (w : World) (g0 g1 : Nat) (vv vv' : Value) (ma ma' : Option Addr) (mn mc mn' mc' : Nat)
    (hsz : a.tmps.size = 40) (h2 : a.eval (.tmp 2) = .pointer (some ⟨g0, 0, none⟩)) (h3 : a.eval (.tmp 3) = .pointer (some ⟨g1, 0, none⟩))
    (hS0 : KS2 g0 g1 vv (.slice ma mn mc) vv' (.slice ma' mn' mc') w) (hl0 : g0 < w.heap.size) (hl1 : g1 < w.heap.size) (F1 : Option Addr → Nat → Nat → World → Prop)
    (HM : ∀ W, Gr w W → Calls Tryz.prog 84 #[.slice ma mn mc, .agg #[vv', .slice ma' mn' mc']] W fun e W' => ∃ p1 p2 p3, e = .returned (.slice p1 p2 p3) ∧ Gr W W' ∧ F1 p1 p2 p3 W')
    (h : ∀ (W : World) (p1 : Option Addr) (p2 p3 : Nat), Gr w W → F1 p1 p2 p3 W → Q .normal (Act.put (Act.put (Act.put (Act.put (Act.put (Act.put (Act.put (Act.put (Act.put (Act.put (Act.put a (some 31) (.pointer (some ⟨g0, 1, none⟩))) (some 33) (.agg #[vv', .slice ma' mn' mc'])) (some 36) (.pointer (some ⟨g0, 1, none⟩))) (some 32) (.slice ma mn mc)) (some 37) (.slice ma mn mc)) (some 38) (.int .i64 (mn : Nat))) (some 34) (.slice p1 p2 p3)) (some 35) (.int .i64 (p2 : Nat))) (some 39) (.bool (decide ((p2 : Int) = (mn : Int))))) (some 4) (.bool (decide ((p2 : Int) = (mn : Int))))) (some 5) (.int .i64 0)) W) : (Code.region 11 wi11_Ops true).wp Tryz.prog Q a w := by
  have keep : ∀ x, Gr w x → KS2 g0 g1 vv (.slice ma mn mc) vv' (.slice ma' mn' mc') x := fun x gx => ⟨(Below.block gx g0 hl0).trans hS0.1, (Below.block gx g1 hl1).trans hS0.2⟩
  refine wp_region_held_drew (S := KS2 g0 g1 vv (.slice ma mn mc) vv' (.slice ma' mn' mc')) (by kernel_rfl) hS0 (fun hHeld => ?_)
  show wpAnyH Tryz.prog .any wi11_Ops Q _ 11 (Array.replicate 11 false) a w.drew
  have G0 : Gr w w.drew := (Gr.refl w).drew
  refine re_tk (i := 0) (oi := wi11_0) (v := .pointer (some ⟨g0, 1, none⟩)) (d := 31) hQ rfl rfl (by kernel_rfl) (by kernel_rfl) (by kernel_rfl) (Or.inl ⟨re_none _ rfl, fun wx hS => rr_fK1 _ _ _ _ _ _ _ _ g0 (by simp [re_ne, re_eq, re_size, re_const, hsz, h2, h3])⟩) hHeld ?_
  refine re_tk (i := 2) (oi := wi11_2) (v := .agg #[vv', .slice ma' mn' mc']) (d := 33) hQ rfl rfl (by kernel_rfl) (by kernel_rfl) (by kernel_rfl) (Or.inl ⟨re_none _ rfl, fun wx hS => rr_lK _ _ _ _ _ _ _ _ g1 (vv') (.slice ma' mn' mc') (by simp [re_ne, re_eq, re_size, re_const, hsz, h2, h3]) (kc0 (hS.2)) (kc1 (hS.2))⟩) hHeld ?_
  refine re_tk (i := 5) (oi := wi11_5) (v := .pointer (some ⟨g0, 1, none⟩)) (d := 36) hQ rfl rfl (by kernel_rfl) (by kernel_rfl) (by kernel_rfl) (Or.inl ⟨re_none _ rfl, fun wx hS => rr_fK1 _ _ _ _ _ _ _ _ g0 (by simp [re_ne, re_eq, re_size, re_const, hsz, h2, h3])⟩) hHeld ?_
  refine re_tk (i := 1) (oi := wi11_1) (v := .slice ma mn mc) (d := 32) hQ rfl rfl (by kernel_rfl) (by kernel_rfl) (by kernel_rfl) (Or.inl ⟨re_none _ rfl, fun wx hS => rr_lS _ _ _ _ _ _ _ _ g0 1 (.slice ma mn mc) (by simp [re_ne, re_eq, re_size, re_const, hsz, h2, h3]) (kc1 (hS.1))⟩) hHeld ?_
  refine re_tk (i := 6) (oi := wi11_6) (v := .slice ma mn mc) (d := 37) hQ rfl rfl (by kernel_rfl) (by kernel_rfl) (by kernel_rfl) (Or.inl ⟨re_none _ rfl, fun wx hS => rr_lS _ _ _ _ _ _ _ _ g0 1 (.slice ma mn mc) (by simp [re_ne, re_eq, re_size, re_const, hsz, h2, h3]) (kc1 (hS.1))⟩) hHeld ?_
  refine re_tk (i := 7) (oi := wi11_7) (v := .int .i64 (mn : Nat)) (d := 38) hQ rfl rfl (by kernel_rfl) (by kernel_rfl) (by kernel_rfl) (Or.inl ⟨re_none _ rfl, fun wx hS => rr_len _ _ _ _ _ _ _ _ ma mn mc (by simp [re_ne, re_eq, re_size, re_const, hsz, h2, h3])⟩) hHeld ?_
  refine st_one (i := 3) (oi := wi11_3) (by kernel_rfl) rfl rfl ?_
  refine st_call (d := 34) rfl (rr_enter2 _ _ _ _ _ _ _ 84 _ _ (.slice ma mn mc) (.agg #[vv', .slice ma' mn' mc']) _ (by simp [re_ne, re_eq, re_size, re_const, hsz, h2, h3]) (by simp [re_ne, re_eq, re_size, re_const, hsz, h2, h3]) rfl (rr_enter_of Tryz.func84 (by kernel_rfl) (by kernel_rfl) _ _)) (HM _ G0) ?_
  rintro e W1 ⟨p1, p2, p3, rfl, gM, fM⟩
  have G1 := Gr.trans G0 gM
  have hHeld1 := keep _ G1
  refine ⟨_, rfl, hHeld1, ?_⟩
  refine re_tk (i := 4) (oi := wi11_4) (v := .int .i64 (p2 : Nat)) (d := 35) hQ rfl rfl (by kernel_rfl) (by kernel_rfl) (by kernel_rfl) (Or.inl ⟨re_none _ rfl, fun wx hS => rr_len _ _ _ _ _ _ _ _ p1 p2 p3 (by simp [re_ne, re_eq, re_size, re_const, hsz, h2, h3])⟩) hHeld1 ?_
  refine re_tk (i := 8) (oi := wi11_8) (v := .bool (decide ((p2 : Int) = (mn : Int)))) (d := 39) hQ rfl rfl (by kernel_rfl) (by kernel_rfl) (by kernel_rfl) (Or.inl ⟨re_none _ rfl, fun wx hS => rr_eqI _ _ _ _ _ _ _ _ _ (p2 : Nat) (mn : Nat) (by simp [re_ne, re_eq, re_size, re_const, hsz, h2, h3]) (by simp [re_ne, re_eq, re_size, re_const, hsz, h2, h3])⟩) hHeld1 ?_
  refine re_tk (i := 9) (oi := wi11_9) (v := .bool (decide ((p2 : Int) = (mn : Int)))) (d := 4) hQ rfl rfl (by kernel_rfl) (by kernel_rfl) (by kernel_rfl) (Or.inl ⟨re_none _ rfl, fun wx hS => rr_assign _ _ _ _ _ _ _ _ _ (by simp [re_ne, re_eq, re_size, re_const, hsz, h2, h3])⟩) hHeld1 ?_
  refine re_tk (i := 10) (oi := wi11_10) (v := .int .i64 0) (d := 5) hQ rfl rfl (by kernel_rfl) (by kernel_rfl) (by kernel_rfl) (Or.inl ⟨re_none _ rfl, fun wx hS => rr_assign _ _ _ _ _ _ _ _ _ (by simp [re_ne, re_eq, re_size, re_const, hsz, h2, h3])⟩) hHeld1 ?_
  exact wpAnyH_done (by kernel_rfl) (h _ p1 p2 p3 G1 fM) _
end Go.Proofs.YtbpkfkljeibjoaaGreat
/- know.common: the dots of a list that are in a set. -/
namespace Rm
def comL (l : List (Nat × Nat)) (v : List Nat) (m : List (Nat × Nat)) : List (Nat × Nat) := l.filter fun d => memB v m d.1 d.2
theorem comL_snoc {l : List (Nat × Nat)} {v : List Nat} {m : List (Nat × Nat)} {i s c : Nat} (h : l[i]? = some (s, c)) : comL (l.take (i + 1)) v m = if memB v m s c then comL (l.take i) v m ++ [(s, c)] else comL (l.take i) v m := by
  unfold comL
  rw [take_snoc h, List.filter_append]
  by_cases e : memB v m s c = true
  · simp [e]
  · simp [e]
theorem comL_len (l : List (Nat × Nat)) (v : List Nat) (m : List (Nat × Nat)) (i : Nat) : (comL (l.take i) v m).length ≤ i := by
  unfold comL
  exact Nat.le_trans (List.length_filter_le _ _) (by simp; omega)
end Rm
namespace Go.Proofs.YtbpkfkljeibjoaaGreat
open Go.RowKit Rm
def ComAt (base : Nat) (L : List (Nat × Nat)) (p1 : Option Addr) (p2 p3 : Nat) (w : World) : Prop := p2 = L.length ∧ w.ownsRow base 55 2 (.slice p1 p2 p3) L.length (flat (pairs L))
set_option maxHeartbeats 2000000 in
set_option maxRecDepth 100000 in
theorem common_any (lv : Value) (l : List (Nat × Nat)) (k : Value) (v : List Nat) (m : List (Nat × Nat)) (w : World) (hr : Rd2 w lv (pairs l)) (hll : l.length ≤ 1000) (hd : ∀ d ∈ l, inR d.1 d.2) (hk : KnR w k (ints v) (pairs m)) (ho : OkV v m) (hm : m.length ≤ 60) :
    Calls Tryz.prog 84 #[lv, k] w fun e w' => ∃ p1 p2 p3, e = .returned (.slice p1 p2 p3) ∧ Gr w w' ∧ ComAt w.heap.size (comL l v m) p1 p2 p3 w' := by
  obtain ⟨i0, hi0, hz0, hz1, hz2⟩ := info_parts ccd_info
  have HH : Hid (∀ s c W, inR s c → Gr w W → Calls Tryz.prog 134 #[k, .agg #[.int .i64 (s : Int), .int .i64 (c : Int)]] W fun e w' => e = .returned (.bool (memB v m s c)) ∧ Gr W w') := fun s c W hd g => khas_any k v m s c W (hk.gr g) ho hm hd
  obtain ⟨vv, mv, rfl, r1, r2, r3⟩ := hk
  obtain ⟨va, vc, rfl, -⟩ := id r1
  obtain ⟨ma, mc, rfl, -⟩ := id r2
  obtain ⟨a, c, rfl, hc, hx⟩ := hr
  have HX := Lib.hid hx
  have HD := Lib.hid hd
  have HPL : (pairs l).length = l.length := pairs_len l
  generalize hN1 : (ints v).length = N1 at *
  generalize hN2 : (pairs m).length = N2 at *
  rw [HPL] at hc
  rw [HPL]
  have hlI : (l.length : Int) ≤ 1000 := by omega
  have G1 := Lib.hid ((Gr.refl w).alloc (.cells #[.slice va N1 vc, .slice ma N2 mc] 33))
  have B1 : Hid ((w.alloc (.cells #[.slice va N1 vc, .slice ma N2 mc] 33)).heap[w.heap.size]? = some (.cells #[.slice va N1 vc, .slice ma N2 mc] 33 (0, 0))) := al_new _ _ _ rfl
  have S1 : (w.alloc (.cells #[.slice va N1 vc, .slice ma N2 mc] 33)).heap.size = w.heap.size + 1 := by simp
  have HS1 := Lib.hid S1
  clear hx hd r1 r2 r3 ho hN1 hN2 S1
  go_enter Tryz.func84, Tryz.ntmps84
  go_wp2_with fail
  generalize w.alloc (.cells #[.slice va N1 vc, .slice ma N2 mc] 33) = w1 at *
  go_loopg [5, 10] l.length (fun gh rv ix wr => ∃ i : Nat, i ≤ l.length ∧ l.length - i ≤ gh ∧ ix = .int .i64 (i : Int) ∧ Gr w1 wr ∧ wr.ownsRow (w.heap.size + 1) 55 2 rv (comL (l.take i) v m).length (flat (pairs (comL (l.take i) v m))))
  case atStart => exact ⟨0, by omega, by omega, rfl, Gr.refl _, World.ownsRow_nil _ _ _ _⟩
  case round =>
    obtain ⟨i, hi, hgh, rfl, gr, hown⟩ := hrel
    obtain ⟨ra, rc, hre, hrc⟩ := own_formD hown
    subst hre
    have hrl := comL_len l v m i
    have hrlI : ((comL (l.take i) v m).length : Int) ≤ 1000 := by omega
    have GR := Lib.hid gr
    have HO := Lib.hid hown
    have B2 := (Below.block gr _ (Array.getElem?_eq_some_iff.1 B1.out).1).trans B1.out
    have hsz : w.heap.size + 1 ≤ wr.heap.size := by rw [← HS1.out]; exact gr.le
    clear gr hown
    by_cases hil : i < l.length
    · obtain ⟨⟨s, cc⟩, hd⟩ : ∃ d, l[i]? = some d := ⟨_, List.getElem?_eq_getElem hil⟩
      obtain ⟨b, off, hab, hb, hcell⟩ := HX.out (by intro e; rw [e] at HPL; simp at HPL; omega)
      subst hab
      have G01 := Lib.hid (G1.out.trans GR.out)
      have q1 := (G01.out.cells.1 b (off + i * 2) hb).trans (hcell i _ (pairs_at hd)).1
      have q2 := (G01.out.cells.1 b (off + i * 2 + 1) hb).trans (hcell i _ (pairs_at hd)).2
      simp only at q1 q2
      have hin : Hid (inR s cc) := HD.out _ (List.mem_of_getElem? hd)
      have HC := Lib.hid (comL_snoc (v := v) (m := m) hd)
      have HH1 := Lib.hid (HH.out s cc (wr.alloc (.cells #[.int .i64 (s : Int), .int .i64 (cc : Int)] 55)) hin.out (G01.out.alloc _))
      have c0 := kc0 B2
      have c1 := kc1 B2
      have hg0 : w.heap.size < wr.heap.size := by omega
      have hiI : (i : Int) < (l.length : Int) := by omega
      have T0 := Lib.hid (Two.new wr s cc 55)
      have A0 := Lib.hid ((Gr.refl wr).alloc (.cells #[.int .i64 (s : Int), .int .i64 (cc : Int)] 55))
      have HFl : Hid (∀ L : List (Nat × Nat), flat (pairs L) ++ [.int .i64 (s : Int), .int .i64 (cc : Int)] = flat (pairs (L ++ [(s, cc)]))) := fun L => by simp [pairs, flat]
      clear hd hcell HX HD HH B2
      generalize comL (l.take i) v m = L at *
      cases hq : memB v m s cc
      · rw [hq] at HH1 HC
        go_wp2_with (go_at_call 134; refine HH1.out.mono ?_; rintro e w3 ⟨rfl, g3⟩; have G3 := Lib.hid (A0.out.trans g3); clear g3)
        go_roundg (l.length - (i + 1))
        case measure => omega
        case rel => exact ⟨i + 1, by omega, Nat.le_refl _, by go_num, GR.out.trans G3.out, by rw [HC.out]; exact kown_gr HO.out G3.out⟩
      · rw [hq] at HH1 HC
        go_wp2_with (first
          | (go_at_call 134; refine HH1.out.mono ?_; rintro e w3 ⟨rfl, g3⟩; have G3 := Lib.hid (A0.out.trans g3); obtain ⟨t0, t1, t2⟩ := T0.out.gr g3; have HO3 := Lib.hid (kown_gr HO.out G3.out); have hsz3 := Nat.le_trans hsz G3.out.le; clear g3 q1 q2 c0 c1)
          | (at_builtin; refine wpList_append_own _ rfl (.tmp 17) (.tmp 19) 31 rfl (w.heap.size + 1) 55 i0 _ 2 16 Tryz.underlying31 hi0 hz0 hz1 hz2 rfl (by omega) _ _ _ rfl (HO3.out.alloc _) ⟨w3.heap.size, 0, none⟩ 1 1 [.int .i64 (s : Int), .int .i64 (cc : Int)] rfl rfl (new2 _ _ _ _) (one2 _ _) (by simp only [maxLen]; omega) (by omega) (by simp; omega) ?_; intro v1 w5 hown hg1 _))
        have HO5 : Hid (w5.ownsRow (w.heap.size + 1) 55 2 v1 (L ++ [(s, cc)]).length (flat (pairs (L ++ [(s, cc)])))) := by
          rw [← HFl.out, List.length_append]; exact hown
        have G5 : Hid (Gr w1 w5) := ((GR.out.trans G3.out).alloc _).grown hg1 (fun q e => by rw [HS1.out]; exact (HO3.out.lt q e).1)
        go_roundg (l.length - (i + 1))
        case measure => omega
        case rel => exact ⟨i + 1, by omega, Nat.le_refl _, by go_num, G5.out, by rw [HC.out]; exact HO5.out⟩
    · obtain rfl : i = l.length := by omega
      go_wp2
      go_ret
      refine ⟨_, _, _, rfl, G1.out.trans GR.out, ?_⟩
      have := HO.out
      rw [List.take_length] at this ⊢
      exact ⟨rfl, own_less this (by omega)⟩
end Go.Proofs.YtbpkfkljeibjoaaGreat
/- know.Join, Meet of sets in their form. -/
namespace Rm
open Go Go.RowKit
theorem cArr_ext {a b : List Nat} (h : ∀ s, s < 5 → cv a s = cv b s) : cArr a = cArr b := by
  unfold cArr
  rw [h 0 (by omega), h 1 (by omega), h 2 (by omega), h 3 (by omega), h 4 (by omega)]
def mixV (f : Nat → Nat → Nat) (v v' : List Nat) (i : Nat) : List Nat := (List.range 5).map fun j => if j < i then f (cv v j) (cv v' j) else cv v j
theorem mixV_cv (f : Nat → Nat → Nat) (v v' : List Nat) (i s : Nat) (hs : s < 5) : cv (mixV f v v' i) s = if s < i then f (cv v s) (cv v' s) else cv v s := by
  unfold mixV cv
  rw [List.getD_eq_getElem?_getD, List.getElem?_map, List.getElem?_range hs]
  rfl
theorem mixV_zero (f : Nat → Nat → Nat) (v v' : List Nat) : cArr (mixV f v v' 0) = cArr v := cArr_ext fun s hs => by rw [mixV_cv f v v' 0 s hs, if_neg (by omega)]
theorem mixV_step (f : Nat → Nat → Nat) (v v' : List Nat) (i : Nat) (hi : i < 5) : (cArr (mixV f v v' i)).setIfInBounds i (.int .i64 ((f (cv v i) (cv v' i) : Nat) : Int)) = cArr (mixV f v v' (i + 1)) := by
  rw [cArr_setC _ _ _ hi]
  refine cArr_ext fun s hs => ?_
  rw [cv_setC _ _ _ _ hi hs, mixV_cv f v v' (i + 1) s hs]
  by_cases e : s = i
  · subst e; rw [if_pos rfl, if_pos (by omega)]
  · rw [if_neg e, mixV_cv f v v' i s hs]
    by_cases e' : s < i
    · rw [if_pos e', if_pos (by omega)]
    · rw [if_neg e', if_neg (by omega)]
theorem join_eq {v v' : List Nat} {m m' : List (Nat × Nat)} : EqD (upD (mixV max v v' 5) (m ++ m')) (orD (memB v m) (memB v' m')) := by
  rintro s c ⟨hs, h1, h2⟩
  rw [Bool.eq_iff_iff]
  unfold orD
  rw [Bool.or_eq_true, memB_iff, memB_iff]
  simp only [upD, Bool.or_eq_true, decide_eq_true_eq, List.contains_iff_mem, List.mem_append]
  rw [mixV_cv max v v' 5 s hs, if_pos hs]
  have : c ≤ max (cv v s) (cv v' s) ↔ c ≤ cv v s ∨ c ≤ cv v' s := by omega
  rw [this]
  constructor
  · rintro (⟨_, q | q⟩ | q | q)
    · exact .inl (.inl ⟨h1, q⟩)
    · exact .inr (.inl ⟨h1, q⟩)
    · exact .inl (.inr q)
    · exact .inr (.inr q)
  · rintro ((q | q) | (q | q))
    · exact .inl ⟨h1, .inl q.2⟩
    · exact .inr (.inl q)
    · exact .inl ⟨h1, .inr q.2⟩
    · exact .inr (.inr q)
theorem mix_le {f : Nat → Nat → Nat} (hf : ∀ a b, f a b ≤ max a b) {v v' : List Nat} (h : ∀ x ∈ v, x ≤ 1000) (h' : ∀ x ∈ v', x ≤ 1000) : ∀ s, s < 5 → cv (mixV f v v' 5) s ≤ 1000 := by
  intro s hs
  rw [mixV_cv f v v' 5 s hs, if_pos hs]
  have := hf (cv v s) (cv v' s)
  have := cv_le h s
  have := cv_le h' s
  omega
theorem OkV.ins {v : List Nat} {m : List (Nat × Nat)} (h : OkV v m) : ∀ d ∈ m, Rm.inR d.1 d.2 := fun d hd => by
  have := h.dots d hd
  exact ⟨this.1, by omega, this.2.1⟩
end Rm
namespace Go.Proofs.YtbpkfkljeibjoaaGreat
open Go.RowKit Rm
theorem grown_setRow (w : World) (g : Nat) (cs : Array Value) : w.grownBy (w.setRow g cs) (some g) := ⟨rfl, rfl, rfl, by simp, fun k _ hk => setRow_other w g k _ (fun e => hk (by rw [e]))⟩
theorem own_setRow {w : World} {base g : Nat} {e : TypeId} {s n : Nat} {v : Value} {xs : List Value} (h : w.ownsRow base e s v n xs) (hg : g < base) (cs : Array Value) : (w.setRow g cs).ownsRow base e s v n xs := by
  refine h.kept (grown_setRow w g cs) ?_
  cases e : v.ownBlock with
  | none => exact .inl rfl
  | some b => exact .inr (fun e' => by have := (h.lt b e).1; have := Option.some.inj e'; omega)
theorem KnO.setRow {base g : Nat} {w : World} {k : Value} {v : List Nat} {m : List (Nat × Nat)} (h : KnO base w k v m) (hg : g < base) (cs : Array Value) : KnO base (w.setRow g cs) k v m := by
  obtain ⟨vv, mv, e, h1, h2⟩ := h
  exact ⟨vv, mv, e, own_setRow h1 hg cs, own_setRow h2 hg cs⟩
theorem frmK.setRow {base g : Nat} {w : World} {e : Ending} {D : DS} (h : frmK base w e D) (hg : g < base) (cs : Array Value) : frmK base (w.setRow g cs) e D := by
  obtain ⟨k, r, h1, ⟨h2, h3, h4⟩ | ⟨h2, h3, h4⟩⟩ := h
  · exact ⟨k, r, h1, .inl ⟨h2, h3, h4.setRow hg cs⟩⟩
  · exact ⟨k, r, h1, .inr ⟨h2, h3, h4.setRow hg cs⟩⟩
theorem frmK.form {base : Nat} {w : World} {e : Ending} {D : DS} (h : frmK base w e D) : ∃ a1 n1 c1 a2 n2 c2 r, e = .returned (.tuple #[.agg #[.slice a1 n1 c1, .slice a2 n2 c2], .int .i64 r]) ∧ frmK base w (.returned (.tuple #[.agg #[.slice a1 n1 c1, .slice a2 n2 c2], .int .i64 r])) D := by
  obtain ⟨k, r, rfl, h1⟩ := id h
  have hk : ∃ v m, KnO base w k v m := by rcases h1 with ⟨_, _, q⟩ | ⟨_, _, q⟩ <;> exact ⟨_, _, q⟩
  obtain ⟨v, m, vv, mv, rfl, o1, o2⟩ := hk
  obtain ⟨a1, c1, rfl, -⟩ := own_formD o1
  obtain ⟨a2, c2, rfl, -⟩ := own_formD o2
  exact ⟨_, _, _, _, _, _, _, rfl, h⟩
theorem src2 {W : World} {b : Nat} {u u' : Value} {t : TypeId} {fr : Nat × Nat} {n n' : Nat} {xs xs' : List Value} (hb : W.heap[b]? = some (.cells #[u, u'] t fr)) (h : RdC 2 W u n xs) (h' : RdC 2 W u' n' xs') : SrcD W b [(n, xs), (n', xs')] := by
  refine ⟨(Array.getElem?_eq_some_iff.1 hb).1, fun i p hp => ?_⟩
  match i, hp with
  | 0, hp => simp at hp; subst hp; exact ⟨u, kc0 hb, h⟩
  | 1, hp => simp at hp; subst hp; exact ⟨u', kc1 hb, h'⟩
  | i + 2, hp => simp at hp
theorem flat_two (l l' : List (Nat × Nat)) : catD [(l.length, flat (pairs l)), (l'.length, flat (pairs l'))] = flat (pairs (l ++ l')) := by simp [catD, pairs, flat]
theorem sum_two (l l' : List (Nat × Nat)) : sumD [(l.length, flat (pairs l)), (l'.length, flat (pairs l'))] = (l ++ l').length := by simp [sumD]
theorem concat_two {W : World} {b : Nat} {u u' : Value} {t : TypeId} {fr : Nat × Nat} {l l' : List (Nat × Nat)} (hb : W.heap[b]? = some (.cells #[u, u'] t fr)) (h : RdC 2 W u l.length (flat (pairs l))) (h' : RdC 2 W u' l'.length (flat (pairs l'))) (hl : l.length + l'.length ≤ 1000) :
    Calls Tryz.prog 82 #[.slice (some ⟨b, 0, none⟩) 2 2] W fun e W' => ∃ u, e = .returned u ∧ Gr W W' ∧ W'.ownsRow W.heap.size 55 2 u (l ++ l').length (flat (pairs (l ++ l'))) := by
  have hs := sum_two l l'
  have := concatD [(l.length, flat (pairs l)), (l'.length, flat (pairs l'))] b 2 W (src2 hb h h') (by rw [hs, List.length_append]; exact hl) (by simp)
  rw [hs, flat_two] at this
  exact this
theorem build_then {w W W' : World} {u : Value} {V : List Nat} {L : List (Nat × Nat)} (D : DS) (hD : EqD (upD V L) D) (hv : ∀ s, s < 5 → cv V s ≤ 1000) (hL : ∀ d ∈ L, inR d.1 d.2) (hlen : L.length ≤ 1000) (g : Gr w W) (g' : Gr W W') (ho : W'.ownsRow W.heap.size 55 2 u L.length (flat (pairs L))) :
    Calls Tryz.prog 80 #[.agg (cArr V), u] W' fun e W'' => ∃ a1 n1 c1 a2 n2 c2 r, e = .returned (.tuple #[.agg #[.slice a1 n1 c1, .slice a2 n2 c2], .int .i64 r]) ∧ Gr w W'' ∧ frmK w.heap.size W'' (.returned (.tuple #[.agg #[.slice a1 n1 c1, .slice a2 n2 c2], .int .i64 r])) D := by
  refine (build_any V L u W' W.heap.size hv hL hlen ho g'.le).mono ?_
  rintro e W'' ⟨h1, h2⟩
  obtain ⟨a1, n1, c1, a2, n2, c2, r, he, hf⟩ := (h1.congr hD).form
  exact ⟨a1, n1, c1, a2, n2, c2, r, he, Below.trans (g.trans g') (Below.mono h2 g.le), hf.less (g.trans g').le⟩
set_option maxHeartbeats 2000000 in
set_option maxRecDepth 100000 in
theorem join_ok (k k' : Value) (v v' : List Nat) (m m' : List (Nat × Nat)) (w : World) (hk : KnR w k (ints v) (pairs m)) (hk' : KnR w k' (ints v') (pairs m')) (ho : OkV v m) (ho' : OkV v' m') (hl : m.length ≤ 60) (hl' : m'.length ≤ 60) :
    Calls Tryz.prog 27 #[k, k'] w fun e w' => frmK w.heap.size w' e (orD (memB v m) (memB v' m')) ∧ Gr w w' := by
  have H1 : Hid (∀ W, Gr w W → Calls Tryz.prog 83 #[k, k'] W fun e w' => e = .returned (.int .i64 0) ∧ Gr W w') := fun W g => by
    have := kcheckBoth k k' _ _ _ _ W (hk.gr g) (hk'.gr g)
    rw [ho.chk hl, ho'.chk hl'] at this
    simpa using this
  have HC : Hid (∀ W, Gr w W → Calls Tryz.prog 81 #[k] W fun e w' => e = .returned (.agg (cArr v)) ∧ Gr W w') := fun W g => countsOf_any k v _ W (hk.gr g) ho.len
  have HC' : Hid (∀ W, Gr w W → Calls Tryz.prog 81 #[k'] W fun e w' => e = .returned (.agg (cArr v')) ∧ Gr W w') := fun W g => countsOf_any k' v' _ W (hk'.gr g) ho'.len
  obtain ⟨vv, mv, rfl, r1, r2, r3⟩ := hk
  obtain ⟨vv', mv', rfl, r1', r2', r3'⟩ := hk'
  obtain ⟨va, vc, rfl, -⟩ := id r1
  obtain ⟨ma, mc, rfl, -⟩ := id r2
  obtain ⟨va', vc', rfl, -⟩ := id r1'
  obtain ⟨ma', mc', rfl, -⟩ := id r2'
  have hpl := pairs_len m
  have hpl' := pairs_len m'
  have R3 := Lib.hid r3
  have R3' := Lib.hid r3'
  have HLv := Lib.hid (fun s => cv_le ho.le s)
  have HLv' := Lib.hid (fun s => cv_le ho'.le s)
  have HML := Lib.hid (mix_le (f := max) (fun a b => by omega) ho.le ho'.le)
  have HIN := Lib.hid ho.ins
  have HIN' := Lib.hid ho'.ins
  generalize hN1 : (ints v).length = N1 at *
  generalize hN2 : (pairs m).length = N2 at *
  generalize hN1' : (ints v').length = N1' at *
  generalize hN2' : (pairs m').length = N2' at *
  have HN2 := Lib.hid hpl
  have HN2' := Lib.hid hpl'
  clear r1 r2 r3 r1' r2' r3' ho ho' hN1 hN2 hN1' hN2' hpl hpl'
  generalize hU : (Value.slice va N1 vc) = U at *
  generalize hU' : (Value.slice va' N1' vc') = U' at *
  have HU := Lib.hid hU
  have HU' := Lib.hid hU'
  clear hU hU'
  have G3 := Lib.hid ((((Gr.refl w).alloc (.cells #[U, .slice ma N2 mc] 33)).alloc (.cells #[U', .slice ma' N2' mc'] 33)).alloc (.cells #[.slice none 0 0, .slice none 0 0] 33))
  have B0 : Hid ((((w.alloc (.cells #[U, .slice ma N2 mc] 33)).alloc (.cells #[U', .slice ma' N2' mc'] 33)).alloc (.cells #[.slice none 0 0, .slice none 0 0] 33)).heap[w.heap.size]? = some (.cells #[U, .slice ma N2 mc] 33 (0, 0))) := (al_old _ _ _ (by simp; omega)).trans ((al_old _ _ _ (by simp)).trans (al_new _ _ _ rfl))
  have B1 : Hid ((((w.alloc (.cells #[U, .slice ma N2 mc] 33)).alloc (.cells #[U', .slice ma' N2' mc'] 33)).alloc (.cells #[.slice none 0 0, .slice none 0 0] 33)).heap[w.heap.size + 1]? = some (.cells #[U', .slice ma' N2' mc'] 33 (0, 0))) := (al_old _ _ _ (by simp)).trans (al_new _ _ _ (by simp))
  have B4 : Hid ((((w.alloc (.cells #[U, .slice ma N2 mc] 33)).alloc (.cells #[U', .slice ma' N2' mc'] 33)).alloc (.cells #[.slice none 0 0, .slice none 0 0] 33)).heap[w.heap.size + 1 + 1]? = some (.cells #[.slice none 0 0, .slice none 0 0] 33 (0, 0))) := al_new _ _ _ (by simp)
  go_enter Tryz.func27, Tryz.ntmps27
  go_wp2_with (go_at_call 83; refine (H1.out _ G3.out).mono ?_; rintro e w4 ⟨rfl, g4⟩; have G4 := Lib.hid (G3.out.trans g4); have b0 := (Below.block g4 _ (Array.getElem?_eq_some_iff.1 B0.out).1).trans B0.out; have b1 := (Below.block g4 _ (Array.getElem?_eq_some_iff.1 B1.out).1).trans B1.out; have b4 := (Below.block g4 _ (Array.getElem?_eq_some_iff.1 B4.out).1).trans B4.out; clear g4 B0 B1 B4 G3 H1)
  generalize hg0 : w.heap.size = g0 at *
  have l0 := (Array.getElem?_eq_some_iff.1 b0).1
  have l1 := (Array.getElem?_eq_some_iff.1 b1).1
  have l4 := (Array.getElem?_eq_some_iff.1 b4).1
  refine jn4_reg _ (fun _ _ _ _ _ h => h) _ w4 g0 (g0 + 1) U (.slice ma N2 mc) U' (.slice ma' N2' mc') (cArr v) (cArr v') rfl rfl rfl ⟨b0, b1⟩ l0 l1 rfl (cArr_one v) rfl (cArr_one v') (fun W g => HC.out W (G4.out.trans g)) (fun W g => HC'.out W (G4.out.trans g)) (fun w5 b7 b8 g5 l7 l8 hne e7 e8 => ?_)
  simp only [Act.put, List.setIfInBounds_toArray, List.set_cons_zero, List.set_cons_succ]
  have G5 := Lib.hid (G4.out.trans g5)
  have d0 := Lib.hid ((Below.block g5 _ l0).trans b0)
  have d1 := Lib.hid ((Below.block g5 _ l1).trans b1)
  have d4 := Lib.hid ((Below.block g5 _ l4).trans b4)
  have D7 : Hid (w5.heap[b7]? = some (.cells (cArr (mixV max v v' 0)) 130 (0, 0))) := by rw [mixV_zero]; exact e7
  have D8 := Lib.hid e8
  have hL5 : Hid (w4.heap.size ≤ w5.heap.size) := g5.le
  clear g5 b0 b1 b4 e7 e8 HC HC'
  go_wp2_with fail
  go_loopg [21] 5 (fun gh ix wr => ∃ i : Nat, i ≤ 5 ∧ 5 - i ≤ gh ∧ ix = .int .i64 (i : Int) ∧ Below w4.heap.size w5 wr ∧ wr.heap[b7]? = some (.cells (cArr (mixV max v v' i)) 130 (0, 0)) ∧ wr.heap[b8]? = some (.cells (cArr v') 130 (0, 0)))
  case atStart => exact ⟨0, by omega, by omega, rfl, Below.refl _ _, D7.out, D8.out⟩
  case round =>
    obtain ⟨i, hi, hgh, rfl, hb, e7, e8⟩ := hrel
    have HB := Lib.hid hb
    have E7 := Lib.hid e7
    have E8 := Lib.hid e8
    by_cases hi5 : i < 5
    · have c7 : wr.cell? ⟨b7, i, none⟩ = some (.int .i64 (cv v i : Nat)) := by
        have := cell_cArr e7 hi5
        rw [mixV_cv max v v' i i hi5, if_neg (by omega)] at this
        exact this
      have c8 := cell_cArr e8 hi5
      have f7 : wr.frozen? ⟨b7, i, none⟩ = false := by simp [World.frozen?, e7]
      have HST := Lib.hid (mixV_step max v v' i hi5)
      have hiI : (i : Int) < 5 := by omega
      have q1 : (cv v i : Int) ≤ 1000 := by have := HLv.out i; omega
      have q2 : (cv v' i : Int) ≤ 1000 := by have := HLv'.out i; omega
      have hmx : ((max (cv v i) (cv v' i) : Nat) : Int) = max ((cv v i : Nat) : Int) ((cv v' i : Nat) : Int) := by omega
      have HMX := Lib.hid hmx
      clear e7 e8 hb hmx
      generalize cv v i = x at *
      generalize cv v' i = y at *
      go_wp2_with fail
      go_still_tail 9, (by kernel_rfl)
      repeat still_step
      change wpList _ _ _ _ _ wr.drew
      have HX : Hid (Below w4.heap.size w5 ((wr.drew.setCell ⟨b7, i, none⟩ (.int .i64 (max (x : Int) (y : Int))))) ∧ (wr.drew.setCell ⟨b7, i, none⟩ (.int .i64 (max (x : Int) (y : Int)))).heap[b7]? = some (.cells (cArr (mixV max v v' (i + 1))) 130 (0, 0)) ∧ (wr.drew.setCell ⟨b7, i, none⟩ (.int .i64 (max (x : Int) (y : Int)))).heap[b8]? = some (.cells (cArr v') 130 (0, 0))) := by
        refine ⟨HB.out.drew.setCell l7 _, ?_, ?_⟩
        · rw [← HMX.out, ← HST.out]
          exact hsc (w := wr.drew) E7.out
        · exact (Below.heap_setCell wr.drew _ _ _ (Ne.symm hne)).trans E8.out
      go_wp2_with fail
      go_roundg (5 - (i + 1))
      case measure => omega
      case rel => exact ⟨i + 1, by omega, Nat.le_refl _, by go_num, HX.out.1, HX.out.2.1, HX.out.2.2⟩
    · obtain rfl : i = 5 := by omega
      have GW : Hid (Gr w wr) := Below.trans G5.out (Below.mono HB.out (by rw [hg0]; omega))
      have k0 := (HB.out.block _ l0).trans d0.out
      have k1 := (HB.out.block _ l1).trans d1.out
      have k4 := (HB.out.block _ l4).trans d4.out
      have m0 := (Array.getElem?_eq_some_iff.1 k0).1
      have m1 := (Array.getElem?_eq_some_iff.1 k1).1
      have m4 := (Array.getElem?_eq_some_iff.1 k4).1
      have m7 := (Array.getElem?_eq_some_iff.1 e7).1
      have hR3 : Hid (∀ W, Gr wr W → RdC 2 W (.slice ma N2 mc) m.length (flat (pairs m))) := fun W g => by
        have := (R3.out.gr (GW.out.trans g))
        rw [HN2.out] at this ⊢
        exact this
      have hR3' : Hid (∀ W, Gr wr W → RdC 2 W (.slice ma' N2' mc') m'.length (flat (pairs m'))) := fun W g => by
        have := (R3'.out.gr (GW.out.trans g))
        rw [HN2'.out] at this ⊢
        exact this
      clear e8 E8 D7 D8 HLv HLv' hb
      generalize hV : mixV max v v' 5 = V at *
      go_wp2_with fail
      refine jn10_reg _ (fun _ _ _ _ _ h => h) _ wr g0 (g0 + 1) (g0 + 1 + 1) b7 U U' ma ma' N2 mc N2' mc' (cArr V) rfl rfl rfl rfl rfl ⟨⟨k0, k1⟩, e7⟩ m0 m1 m7 rfl k4 (by omega) (by omega) (by omega)
        (fun u W W' => W'.ownsRow W.heap.size 55 2 u (m ++ m').length (flat (pairs (m ++ m')))) (fun a1 n1 c1 a2 n2 c2 r W'' => frmK wr.heap.size W'' (.returned (.tuple #[.agg #[.slice a1 n1 c1, .slice a2 n2 c2], .int .i64 r])) (orD (memB v m) (memB v' m')))
        (fun W b g hb => concat_two hb (hR3.out W g) (hR3'.out W g) (by omega))
        (fun W W' u g g' f => build_then (orD (memB v m) (memB v' m')) (by rw [← hV]; exact join_eq) HML.out (fun d hd => (List.mem_append.1 hd).elim (HIN.out d) (HIN'.out d)) (by rw [List.length_append]; omega) g g' f) (fun W b39 u a1 n1 c1 a2 n2 c2 r g f => ?_)
      simp only [Act.put, List.setIfInBounds_toArray, List.set_cons_zero, List.set_cons_succ]
      have k4' := (Below.block g _ m4).trans k4
      have k5 := setRow_heap W (g0 + 1 + 1) _ #[.slice a1 n1 c1, .slice a2 n2 c2] _ _ k4'
      have GF : Hid (Gr w (W.setRow (g0 + 1 + 1) #[.slice a1 n1 c1, .slice a2 n2 c2])) := below_setRow (GW.out.trans g) (by omega) _
      have HF := Lib.hid ((f.setRow m4 #[.slice a1 n1 c1, .slice a2 n2 c2]).less (base' := w.heap.size) GW.out.le)
      generalize W.setRow (g0 + 1 + 1) #[.slice a1 n1 c1, .slice a2 n2 c2] = w9 at *
      go_wp2_with fail
      refine bodyPost_ret (res_know Tryz.results27 _ _ (g0 + 1 + 1) _ _ _ rfl rfl (kc0 k5) (kc1 k5)) rfl ⟨HF.out, GF.out⟩
end Go.Proofs.YtbpkfkljeibjoaaGreat
/- know.Join, Meet, Within, Add, Count, Has: errors; Within, Add, Count, Has of sets in their form. -/
namespace Rm
open Go Go.RowKit
def leV (v v' : List Nat) : Bool := decide (cv v 0 ≤ cv v' 0) && decide (cv v 1 ≤ cv v' 1) && decide (cv v 2 ≤ cv v' 2) && decide (cv v 3 ≤ cv v' 3) && decide (cv v 4 ≤ cv v' 4)
theorem leV_iff (v v' : List Nat) : leV v v' = true ↔ ∀ s, s < 5 → cv v s ≤ cv v' s := by
  simp only [leV, Bool.and_eq_true, decide_eq_true_eq]
  constructor
  · rintro ⟨⟨⟨⟨h0, h1⟩, h2⟩, h3⟩, h4⟩ s hs
    match s, hs with
    | 0, _ => exact h0
    | 1, _ => exact h1
    | 2, _ => exact h2
    | 3, _ => exact h3
    | 4, _ => exact h4
  · intro h; exact ⟨⟨⟨⟨h 0 (by omega), h 1 (by omega)⟩, h 2 (by omega)⟩, h 3 (by omega)⟩, h 4 (by omega)⟩
def withB (v v' : List Nat) (m m' : List (Nat × Nat)) : Bool := leV v v' && decide ((comL m v' m').length = m.length)
theorem withB_iff {v v' : List Nat} {m m' : List (Nat × Nat)} (h : OkV v m) (h' : OkV v' m') : withB v v' m m' = true ↔ subD (memB v m) (memB v' m') := by
  unfold withB
  rw [Bool.and_eq_true, leV_iff, decide_eq_true_eq]
  constructor
  · rintro ⟨h1, h2⟩ s c hr hm
    rcases (memB_iff ..).1 hm with q | q
    · exact (memB_iff ..).2 (.inl ⟨q.1, Nat.le_trans q.2 (h1 s hr.1)⟩)
    · have h3 := List.length_filter_eq_length_iff.1 h2
      exact h3 _ q
  · intro hs
    refine ⟨fun s h5 => ?_, ?_⟩
    · rcases Nat.lt_or_ge (cv v' s) (cv v s) with q | q
      · exfalso
        have hle := cv_le h.le s
        have h1 := hs s (cv v' s + 1) ⟨h5, by omega, by omega⟩ ((memB_iff ..).2 (.inl ⟨by omega, by omega⟩))
        rcases (memB_iff ..).1 h1 with k | k
        · omega
        · have := (h'.dots _ k).2.2
          simp only at this
          omega
      · exact q
    · refine List.length_filter_eq_length_iff.2 fun d hd => ?_
      exact hs d.1 d.2 (h.ins d hd) ((memB_iff ..).2 (.inr hd))
end Rm
namespace Go.Proofs.YtbpkfkljeibjoaaGreat
open Go.RowKit Rm
set_option maxHeartbeats 2000000 in
set_option maxRecDepth 100000 in
theorem within_ok (k k' : Value) (v v' : List Nat) (m m' : List (Nat × Nat)) (w : World) (hk : KnR w k (ints v) (pairs m)) (hk' : KnR w k' (ints v') (pairs m')) (ho : OkV v m) (ho' : OkV v' m') (hl : m.length ≤ 60) (hl' : m'.length ≤ 60) :
    Calls Tryz.prog 136 #[k, k'] w fun e w' => e = .returned (.tuple #[.bool (withB v v' m m'), .int .i64 0]) ∧ Gr w w' := by
  have H1 : Hid (∀ W, Gr w W → Calls Tryz.prog 83 #[k, k'] W fun e w' => e = .returned (.int .i64 0) ∧ Gr W w') := fun W g => by
    have := kcheckBoth k k' _ _ _ _ W (hk.gr g) (hk'.gr g)
    rw [ho.chk hl, ho'.chk hl'] at this
    simpa using this
  have HC : Hid (∀ W, Gr w W → Calls Tryz.prog 81 #[k] W fun e w' => e = .returned (.agg (cArr v)) ∧ Gr W w') := fun W g => countsOf_any k v _ W (hk.gr g) ho.len
  have HC' : Hid (∀ W, Gr w W → Calls Tryz.prog 81 #[k'] W fun e w' => e = .returned (.agg (cArr v')) ∧ Gr W w') := fun W g => countsOf_any k' v' _ W (hk'.gr g) ho'.len
  have HQ : Hid (∀ lv W, Rd2 W lv (pairs m) → Gr w W → Calls Tryz.prog 84 #[lv, k'] W fun e W' => ∃ p1 p2 p3, e = .returned (.slice p1 p2 p3) ∧ Gr W W' ∧ ComAt W.heap.size (comL m v' m') p1 p2 p3 W') := fun lv W h g => common_any lv m k' v' m' W h (by omega) ho.ins (hk'.gr g) ho' hl'
  obtain ⟨vv, mv, rfl, r1, r2, r3⟩ := hk
  obtain ⟨vv', mv', rfl, r1', r2', r3'⟩ := hk'
  obtain ⟨va, vc, rfl, -⟩ := id r1
  obtain ⟨ma, mc, rfl, -⟩ := id r2
  obtain ⟨va', vc', rfl, -⟩ := id r1'
  obtain ⟨ma', mc', rfl, -⟩ := id r2'
  have R2 := Lib.hid r2
  have HLv := Lib.hid (fun s => cv_le ho.le s)
  have HLv' := Lib.hid (fun s => cv_le ho'.le s)
  have hpl := pairs_len m
  generalize hN1 : (ints v).length = N1 at *
  generalize hN2 : (pairs m).length = N2 at *
  generalize hN1' : (ints v').length = N1' at *
  generalize hN2' : (pairs m').length = N2' at *
  have HN2 := Lib.hid hpl
  clear r1 r2 r3 r1' r2' r3' ho ho' hN1 hN2 hN1' hN2' hpl
  generalize hU : (Value.slice va N1 vc) = U at *
  generalize hU' : (Value.slice va' N1' vc') = U' at *
  clear hU hU'
  have G3 := Lib.hid (((Gr.refl w).alloc (.cells #[U, .slice ma N2 mc] 33)).alloc (.cells #[U', .slice ma' N2' mc'] 33))
  have B0 : Hid (((w.alloc (.cells #[U, .slice ma N2 mc] 33)).alloc (.cells #[U', .slice ma' N2' mc'] 33)).heap[w.heap.size]? = some (.cells #[U, .slice ma N2 mc] 33 (0, 0))) := (al_old _ _ _ (by simp)).trans (al_new _ _ _ rfl)
  have B1 : Hid (((w.alloc (.cells #[U, .slice ma N2 mc] 33)).alloc (.cells #[U', .slice ma' N2' mc'] 33)).heap[w.heap.size + 1]? = some (.cells #[U', .slice ma' N2' mc'] 33 (0, 0))) := al_new _ _ _ (by simp)
  go_enter Tryz.func136, Tryz.ntmps136
  go_wp2_with (go_at_call 83; refine (H1.out _ G3.out).mono ?_; rintro e w4 ⟨rfl, g4⟩; have G4 := Lib.hid (G3.out.trans g4); have b0 := (Below.block g4 _ (Array.getElem?_eq_some_iff.1 B0.out).1).trans B0.out; have b1 := (Below.block g4 _ (Array.getElem?_eq_some_iff.1 B1.out).1).trans B1.out; clear g4 B0 B1 G3 H1)
  generalize hg0 : w.heap.size = g0 at *
  have l0 := (Array.getElem?_eq_some_iff.1 b0).1
  have l1 := (Array.getElem?_eq_some_iff.1 b1).1
  refine wi4_reg _ (fun _ _ _ _ _ h => h) _ w4 g0 (g0 + 1) U (.slice ma N2 mc) U' (.slice ma' N2' mc') (cArr v) (cArr v') rfl rfl rfl ⟨b0, b1⟩ l0 l1 rfl (cArr_one v) rfl (cArr_one v') (fun W g => HC.out W (G4.out.trans g)) (fun W g => HC'.out W (G4.out.trans g)) (fun w5 b7 b8 g5 l7 l8 hne e7 e8 => ?_)
  simp only [Act.put, List.setIfInBounds_toArray, List.set_cons_zero, List.set_cons_succ]
  have G5 := Lib.hid (G4.out.trans g5)
  have d0 := Lib.hid ((Below.block g5 _ l0).trans b0)
  have d1 := Lib.hid ((Below.block g5 _ l1).trans b1)
  have D7 := Lib.hid e7
  have D8 := Lib.hid e8
  clear g5 b0 b1 e7 e8 HC HC'
  go_wp2_with fail
  go_loopg [20] 5 (fun gh ix wr => ∃ i : Nat, i ≤ 5 ∧ 5 - i ≤ gh ∧ ix = .int .i64 (i : Int) ∧ (∃ q, wr = w5.drewN q) ∧ ∀ s, s < i → cv v s ≤ cv v' s)
  case atStart => exact ⟨0, by omega, by omega, rfl, ⟨0, rfl⟩, fun s hs => by omega⟩
  case round =>
    obtain ⟨i, hi, hgh, rfl, ⟨q, hwr⟩, hall⟩ := hrel
    have HW := Lib.hid hwr
    have HA := Lib.hid hall
    have e7 : wr.heap[b7]? = some (.cells (cArr v) 130 (0, 0)) := by rw [hwr]; exact D7.out
    have e8 : wr.heap[b8]? = some (.cells (cArr v') 130 (0, 0)) := by rw [hwr]; exact D8.out
    have GW : Hid (Gr w wr) := by rw [hwr]; exact G5.out.drewN q
    clear hwr hall
    by_cases hi5 : i < 5
    · have c7 := cell_cArr e7 hi5
      have c8 := cell_cArr e8 hi5
      have hiI : (i : Int) < 5 := by omega
      have q1 : (cv v i : Int) ≤ 1000 := by have := HLv.out i; omega
      have q2 : (cv v' i : Int) ≤ 1000 := by have := HLv'.out i; omega
      have HI : Hid (¬ cv v i ≤ cv v' i → withB v v' m m' = false) := fun h => by
        unfold withB
        have : leV v v' = false := by rw [Bool.eq_false_iff, ne_eq, leV_iff]; exact fun e => h (e i hi5)
        rw [this]; rfl
      have HN : Hid (cv v i ≤ cv v' i → ∀ s, s < i + 1 → cv v s ≤ cv v' s) := fun h s hs => by
        by_cases e : s = i
        · subst e; exact h
        · exact HA.out s (by omega)
      clear e7 e8
      generalize cv v i = x at *
      generalize cv v' i = y at *
      by_cases hxy : x ≤ y
      · have hxyI : ¬ (y : Int) < (x : Int) := by omega
        go_wp2_with fail
        go_quiet (fail)
        go_wp2
        go_roundg (5 - (i + 1))
        case measure => omega
        case rel => exact ⟨i + 1, by omega, Nat.le_refl _, by go_num, ⟨q + nq, by rw [HW.out]; exact drewN_add ..⟩, HN.out hxy⟩
      · have hxyI : (y : Int) < (x : Int) := by omega
        go_wp2_with fail
        go_quiet (fail)
        go_wp2
        go_ret2
        exact ⟨by rw [HI.out hxy]; rfl, GW.out.drewN _⟩
    · obtain rfl : i = 5 := by omega
      have k0 : wr.heap[g0]? = some (.cells #[U, .slice ma N2 mc] 33 (0, 0)) := by rw [HW.out]; exact d0.out
      have k1 : wr.heap[g0 + 1]? = some (.cells #[U', .slice ma' N2' mc'] 33 (0, 0)) := by rw [HW.out]; exact d1.out
      have HF : Hid (withB v v' m m' = decide ((comL m v' m').length = m.length)) := by
        show _ = _
        unfold withB
        rw [(leV_iff v v').2 HA.out]; rfl
      clear e7 e8
      go_wp2_with fail
      refine wi11_reg _ (fun _ _ _ _ _ h => h) _ wr g0 (g0 + 1) U U' ma ma' N2 mc N2' mc' rfl rfl rfl ⟨k0, k1⟩ (Array.getElem?_eq_some_iff.1 k0).1 (Array.getElem?_eq_some_iff.1 k1).1 (fun p1 p2 p3 W => p2 = (comL m v' m').length)
        (fun W g => (HQ.out _ W (R2.out.gr (GW.out.trans g)) (GW.out.trans g)).mono fun e W' ⟨p1, p2, p3, h1, h2, h3⟩ => ⟨p1, p2, p3, h1, h2, h3.1⟩) (fun W p1 p2 p3 g f => ?_)
      simp only [Act.put, List.setIfInBounds_toArray, List.set_cons_zero, List.set_cons_succ]
      subst f
      have HE : Hid (decide ((((comL m v' m').length : Nat) : Int) = (N2 : Int)) = withB v v' m m') := by
        show _ = _
        rw [HF.out, HN2.out, Bool.eq_iff_iff]
        simp only [decide_eq_true_eq]
        omega
      have GF := Lib.hid (GW.out.trans g)
      generalize decide ((((comL m v' m').length : Nat) : Int) = (N2 : Int)) = bb at *
      go_wp2_with fail
      go_ret2
      exact ⟨by rw [← HE.out]; rfl, GF.out⟩
theorem sum_take (v : List Nat) (i x : Nat) (h : v[i]? = some x) : (v.take (i + 1)).sum = (v.take i).sum + x := by rw [take_snoc h, List.sum_append]; simp
theorem sum_bound (v : List Nat) (h : ∀ x ∈ v, x ≤ 1000) : v.sum ≤ v.length * 1000 := by
  induction v with
  | nil => simp
  | cons a v ih =>
    have h1 := h a (by simp)
    have h2 := ih (fun x hx => h x (by simp [hx]))
    simp only [List.sum_cons, List.length_cons]
    omega
set_option maxHeartbeats 1000000 in
set_option maxRecDepth 100000 in
theorem count_ok (k : Value) (v : List Nat) (m : List (Nat × Nat)) (w : World) (hk : KnR w k (ints v) (pairs m)) (ho : OkV v m) (hl : m.length ≤ 60) :
    Calls Tryz.prog 139 #[k] w fun e w' => e = .returned (.tuple #[.int .i64 ((v.sum + m.length : Nat) : Int), .int .i64 0]) ∧ Gr w w' := by
  have H1 : Hid (∀ W, Gr w W → Calls Tryz.prog 65 #[k] W fun e w' => e = .returned (.int .i64 0) ∧ Gr W w') := fun W g => by
    have := kcheck_any k _ _ W (hk.gr g)
    rwa [ho.chk hl] at this
  obtain ⟨vv, mv, rfl, r1, r2, -⟩ := hk
  obtain ⟨va, vc, rfl, hvc, hv⟩ := r1
  obtain ⟨ma, mc, rfl, -⟩ := r2
  have HV := Lib.hid hv
  have hle := ho.le
  have hlen := ho.len
  have HLE := Lib.hid hle
  have hn1 := ints_len v
  have hn2 := pairs_len m
  clear hv hle
  rw [hn1] at hvc
  generalize hN1 : (ints v).length = N1 at *
  generalize hN2 : (pairs m).length = N2 at *
  subst hn1
  subst hn2
  have G2 := Lib.hid ((Gr.refl w).alloc (.cells #[.slice va v.length vc, .slice ma m.length mc] 33))
  have B0 : Hid ((w.alloc (.cells #[.slice va v.length vc, .slice ma m.length mc] 33)).heap[w.heap.size]? = some (.cells #[.slice va v.length vc, .slice ma m.length mc] 33 (0, 0))) := al_new _ _ _ rfl
  have hmI : (m.length : Int) ≤ 60 := by omega
  have hvI : (v.length : Int) ≤ 5 := by omega
  go_enter Tryz.func139, Tryz.ntmps139
  go_wp2_with (go_at_call 65; refine (H1.out _ G2.out).mono ?_; rintro e w4 ⟨rfl, g4⟩; have b0 := (Below.block g4 _ (Array.getElem?_eq_some_iff.1 B0.out).1).trans B0.out; have c0 := kc0 b0; have c1 := kc1 b0; have G4 := Lib.hid (G2.out.trans g4); clear g4 B0 b0 H1 G2)
  go_loopg [5, 19] v.length (fun gh s5 ix wr => ∃ i : Nat, i ≤ v.length ∧ v.length - i ≤ gh ∧ ix = .int .i64 (i : Int) ∧ s5 = .int .i64 (((v.take i).sum + m.length : Nat) : Int) ∧ wr = w4)
  case atStart => exact ⟨0, by omega, by omega, rfl, by simp, rfl⟩
  case round =>
    obtain ⟨i, hi, hgh, rfl, rfl, rfl⟩ := hrel
    by_cases hil : i < v.length
    · obtain ⟨x, hx⟩ : ∃ x, v[i]? = some x := ⟨_, List.getElem?_eq_getElem hil⟩
      obtain ⟨b, off, hab, hb, hcell⟩ := HV.out (by intro e; simp [ints] at e; rw [e] at hil; simp at hil)
      subst hab
      have q1 := (G4.out.cells.1 b (off + i) hb).trans (hcell i _ (ints_at hx))
      have hiI : (i : Int) < (v.length : Int) := by omega
      have HS := Lib.hid (sum_take v i x hx)
      have h1 : (v.take i).sum ≤ 5000 := by
        have := sum_bound (v.take i) (fun y hy => HLE.out y (List.mem_of_mem_take hy))
        have : (v.take i).length ≤ 5 := by simp; omega
        omega
      have h2 : x ≤ 1000 := HLE.out x (List.mem_of_getElem? hx)
      clear hcell hx
      generalize (v.take i).sum = S at *
      have hSI : (S : Int) ≤ 5000 := by omega
      have hxI : (x : Int) ≤ 1000 := by omega
      go_wp2
      go_roundg (v.length - (i + 1))
      case measure => omega
      case rel => exact ⟨i + 1, by omega, Nat.le_refl _, by go_num, by rw [HS.out]; congr 1; omega, rfl⟩
    · obtain rfl : i = v.length := by omega
      rw [List.take_length]
      go_wp2
      go_ret2
      exact ⟨rfl, G4.out⟩
end Go.Proofs.YtbpkfkljeibjoaaGreat
/- slices.Equal at integers and at dots; the document's SameKnow. -/
namespace Go.Proofs.YtbpkfkljeibjoaaGreat
open Go.RowKit Rm
set_option maxHeartbeats 1000000 in
set_option maxRecDepth 100000 in
theorem equalI (x y : Value) (l l' : List (Int)) (w : World) (h : R1 w x l) (h' : R1 w y l') (hl : l.length ≤ 100000) :
    Calls Tryz.prog 93 #[x, y] w fun e w' => e = .returned (.bool (decide (l = l'))) ∧ Gr w w' := by
  obtain ⟨a, c, rfl, hc, hx⟩ := h
  obtain ⟨a', c', rfl, hc', hx'⟩ := h'
  have HX := Lib.hid hx
  have HX' := Lib.hid hx'
  clear hx hx'
  by_cases hlen : l.length = l'.length
  · have hlI : (l.length : Int) ≤ 100000 := by omega
    rw [← hlen] at hc' ⊢
    have HLN := Lib.hid hlen
    clear hlen
    go_enter Tryz.func93, Tryz.ntmps93
    go_wp2
    go_loopg [13] l.length (fun gh ix wr => ∃ i : Nat, i ≤ l.length ∧ l.length - i ≤ gh ∧ ix = .int .i64 (i : Int) ∧ (∃ q, wr = w.drewN q) ∧ ∀ j, j < i → l[j]? = l'[j]?)
    case atStart => exact ⟨0, by omega, by omega, rfl, ⟨0, rfl⟩, fun j hj => by omega⟩
    case round =>
      obtain ⟨i, hi, hgh, rfl, ⟨q, hwr⟩, hall⟩ := hrel
      have HW := Lib.hid hwr
      have HA := Lib.hid hall
      have GW : Hid (Gr w wr) := by rw [hwr]; exact (Gr.refl w).drewN q
      clear hwr hall
      by_cases hil : i < l.length
      · obtain ⟨p, hp⟩ : ∃ p, l[i]? = some p := ⟨_, List.getElem?_eq_getElem hil⟩
        obtain ⟨p', hp'⟩ : ∃ p', l'[i]? = some p' := ⟨_, List.getElem?_eq_getElem (by have := HLN.out; omega)⟩
        obtain ⟨b, off, hab, hb, hcell⟩ := HX.out (by intro e; rw [e] at hil; simp at hil)
        obtain ⟨b', off', hab', hb', hcell'⟩ := HX'.out (by intro e; have hq := HLN.out; rw [e] at hq; simp at hq; rw [hq] at hil; simp at hil)
        subst hab
        subst hab'
        have q1 := (GW.out.cells.1 b (off + i) hb).trans (hcell i p hp)
        have q2 := (GW.out.cells.1 b' (off' + i) hb').trans (hcell' i p' hp')
        have hiI : (i : Int) < (l.length : Int) := by omega
        have HP := Lib.hid hp
        have HP' := Lib.hid hp'
        clear hcell hcell' hp hp'
        by_cases he : p = p'
        · subst he
          have HN : Hid (∀ j, j < i + 1 → l[j]? = l'[j]?) := fun j hj => by
            by_cases e : j = i
            · subst e; rw [HP.out, HP'.out]
            · exact HA.out j (by omega)
          go_wp2_with fail
          go_quiet (fail)
          go_wp2
          go_roundg (l.length - (i + 1))
          case measure => omega
          case rel => exact ⟨i + 1, by omega, Nat.le_refl _, by go_num, ⟨q + nq, by rw [HW.out]; exact drewN_add ..⟩, HN.out⟩
        · have HF : Hid (decide (l = l') = false) := by
            show _ = _
            rw [decide_eq_false_iff_not]
            rintro rfl
            have := HP.out.symm.trans HP'.out
            exact he (Option.some.inj this)
          go_wp2_with fail
          go_quiet (fail)
          go_wp2
          go_ret
          exact ⟨by rw [HF.out]; rfl, GW.out.drewN _⟩
      · obtain rfl : i = l.length := by omega
        have HT : Hid (decide (l = l') = true) := by
          show _ = _
          rw [decide_eq_true_eq]
          apply List.ext_getElem?
          intro j
          by_cases hj : j < l.length
          · exact HA.out j hj
          · rw [List.getElem?_eq_none (by omega), List.getElem?_eq_none (by have := HLN.out; omega)]
        go_wp2
        go_ret
        exact ⟨by rw [HT.out]; rfl, GW.out⟩
  · have HF : Hid (decide (l = l') = false) := by
      show _ = _
      rw [decide_eq_false_iff_not]
      rintro rfl
      exact hlen rfl
    have hI : ¬ (l.length : Int) = (l'.length : Int) := by omega
    go_enter Tryz.func93, Tryz.ntmps93
    go_wp2
    go_ret
    exact ⟨by rw [HF.out]; rfl, Gr.refl _⟩
set_option maxHeartbeats 1000000 in
set_option maxRecDepth 100000 in
theorem equalD (x y : Value) (l l' : List (Int × Int)) (w : World) (h : Rd2 w x l) (h' : Rd2 w y l') (hl : l.length ≤ 100000) :
    Calls Tryz.prog 94 #[x, y] w fun e w' => e = .returned (.bool (decide (l = l'))) ∧ Gr w w' := by
  obtain ⟨a, c, rfl, hc, hx⟩ := h
  obtain ⟨a', c', rfl, hc', hx'⟩ := h'
  have HX := Lib.hid hx
  have HX' := Lib.hid hx'
  clear hx hx'
  by_cases hlen : l.length = l'.length
  · have hlI : (l.length : Int) ≤ 100000 := by omega
    rw [← hlen] at hc' ⊢
    have HLN := Lib.hid hlen
    clear hlen
    go_enter Tryz.func94, Tryz.ntmps94
    go_wp2
    go_loopg [13] l.length (fun gh ix wr => ∃ i : Nat, i ≤ l.length ∧ l.length - i ≤ gh ∧ ix = .int .i64 (i : Int) ∧ (∃ q, wr = w.drewN q) ∧ ∀ j, j < i → l[j]? = l'[j]?)
    case atStart => exact ⟨0, by omega, by omega, rfl, ⟨0, rfl⟩, fun j hj => by omega⟩
    case round =>
      obtain ⟨i, hi, hgh, rfl, ⟨q, hwr⟩, hall⟩ := hrel
      have HW := Lib.hid hwr
      have HA := Lib.hid hall
      have GW : Hid (Gr w wr) := by rw [hwr]; exact (Gr.refl w).drewN q
      clear hwr hall
      by_cases hil : i < l.length
      · obtain ⟨p, hp⟩ : ∃ p, l[i]? = some p := ⟨_, List.getElem?_eq_getElem hil⟩
        obtain ⟨p', hp'⟩ : ∃ p', l'[i]? = some p' := ⟨_, List.getElem?_eq_getElem (by have := HLN.out; omega)⟩
        obtain ⟨b, off, hab, hb, hcell⟩ := HX.out (by intro e; rw [e] at hil; simp at hil)
        obtain ⟨b', off', hab', hb', hcell'⟩ := HX'.out (by intro e; have hq := HLN.out; rw [e] at hq; simp at hq; rw [hq] at hil; simp at hil)
        subst hab
        subst hab'
        obtain ⟨u, v⟩ := p
        obtain ⟨u', v'⟩ := p'
        have q1 := (GW.out.cells.1 b (off + i * 2) hb).trans (hcell i _ hp).1
        have q2 := (GW.out.cells.1 b (off + i * 2 + 1) hb).trans (hcell i _ hp).2
        have q3 := (GW.out.cells.1 b' (off' + i * 2) hb').trans (hcell' i _ hp').1
        have q4 := (GW.out.cells.1 b' (off' + i * 2 + 1) hb').trans (hcell' i _ hp').2
        simp only at q1 q2 q3 q4
        have hiI : (i : Int) < (l.length : Int) := by omega
        have HP := Lib.hid hp
        have HP' := Lib.hid hp'
        clear hcell hcell' hp hp'
        by_cases he : (u, v) = (u', v')
        · obtain ⟨rfl, rfl⟩ := Prod.mk.inj he
          have HN : Hid (∀ j, j < i + 1 → l[j]? = l'[j]?) := fun j hj => by
            by_cases e : j = i
            · subst e; rw [HP.out, HP'.out]
            · exact HA.out j (by omega)
          go_wp2_with fail
          go_quiet (fail)
          go_wp2
          go_roundg (l.length - (i + 1))
          case measure => omega
          case rel => exact ⟨i + 1, by omega, Nat.le_refl _, by go_num, ⟨q + nq, by rw [HW.out]; exact drewN_add ..⟩, HN.out⟩
        · have HF : Hid (decide (l = l') = false) := by
            show _ = _
            rw [decide_eq_false_iff_not]
            rintro rfl
            have := HP.out.symm.trans HP'.out
            exact he (Option.some.inj this)
          by_cases hu : u = u'
          · subst hu
            have hv : ¬ v = v' := fun e => he (by rw [e])
            clear he
            go_wp2_with fail
            go_quiet (fail)
            go_wp2
            go_ret
            exact ⟨by rw [HF.out]; rfl, GW.out.drewN _⟩
          · clear he
            go_wp2_with fail
            go_quiet (fail)
            go_wp2
            go_ret
            exact ⟨by rw [HF.out]; rfl, GW.out.drewN _⟩
      · obtain rfl : i = l.length := by omega
        have HT : Hid (decide (l = l') = true) := by
          show _ = _
          rw [decide_eq_true_eq]
          apply List.ext_getElem?
          intro j
          by_cases hj : j < l.length
          · exact HA.out j hj
          · rw [List.getElem?_eq_none (by omega), List.getElem?_eq_none (by have := HLN.out; omega)]
        go_wp2
        go_ret
        exact ⟨by rw [HT.out]; rfl, GW.out⟩
  · have HF : Hid (decide (l = l') = false) := by
      show _ = _
      rw [decide_eq_false_iff_not]
      rintro rfl
      exact hlen rfl
    have hI : ¬ (l.length : Int) = (l'.length : Int) := by omega
    go_enter Tryz.func94, Tryz.ntmps94
    go_wp2
    go_ret
    exact ⟨by rw [HF.out]; rfl, Gr.refl _⟩
theorem sameK_any (k k' : Value) (V V' : List Int) (M M' : List (Int × Int)) (w : World) (hk : KnR w k V M) (hk' : KnR w k' V' M') (hl : V.length ≤ 100000) (hl' : M.length ≤ 100000) :
    Calls Tryz.prog 34 #[k, k'] w fun e w' => e = .returned (.bool (decide (V = V') && decide (M = M'))) ∧ Gr w w' := by
  obtain ⟨vv, mv, rfl, r1, r2, r3⟩ := hk
  obtain ⟨vv', mv', rfl, r1', r2', r3'⟩ := hk'
  have H1 : Hid (∀ W, Gr w W → Calls Tryz.prog 93 #[vv, vv'] W fun e w' => e = .returned (.bool (decide (V = V'))) ∧ Gr W w') := fun W g => equalI vv vv' V V' W (r1.gr g) (r1'.gr g) hl
  have H2 : Hid (∀ W, Gr w W → Calls Tryz.prog 94 #[mv, mv'] W fun e w' => e = .returned (.bool (decide (M = M'))) ∧ Gr W w') := fun W g => equalD mv mv' M M' W (r2.gr g) (r2'.gr g) hl'
  clear r1 r2 r3 r1' r2' r3'
  have G2 := Lib.hid (((Gr.refl w).alloc (.cells #[vv, mv] 33)).alloc (.cells #[vv', mv'] 33))
  have B0 : Hid (((w.alloc (.cells #[vv, mv] 33)).alloc (.cells #[vv', mv'] 33)).heap[w.heap.size]? = some (.cells #[vv, mv] 33 (0, 0))) := (al_old _ _ _ (by simp)).trans (al_new _ _ _ rfl)
  have B1 : Hid (((w.alloc (.cells #[vv, mv] 33)).alloc (.cells #[vv', mv'] 33)).heap[w.heap.size + 1]? = some (.cells #[vv', mv'] 33 (0, 0))) := al_new _ _ _ (by simp)
  generalize decide (V = V') = p at *
  generalize decide (M = M') = q at *
  cases p
  · go_enter Tryz.func34, Tryz.ntmps34
    go_wp2_with (go_at_call 93; refine (H1.out _ G2.out).mono ?_; rintro e w4 ⟨rfl, g4⟩)
    go_ret
    exact ⟨rfl, G2.out.trans g4⟩
  · go_enter Tryz.func34, Tryz.ntmps34
    go_wp2_with (first
      | (go_at_call 93; refine (H1.out _ G2.out).mono ?_; rintro e w4 ⟨rfl, g4⟩; have b0 := (Below.block g4 _ (Array.getElem?_eq_some_iff.1 B0.out).1).trans B0.out; have b1 := (Below.block g4 _ (Array.getElem?_eq_some_iff.1 B1.out).1).trans B1.out; have c0 := kc1 b0; have c1 := kc1 b1; have G4 := Lib.hid (G2.out.trans g4); clear g4 b0 b1 B0 B1)
      | (go_at_call 94; refine (H2.out _ G4.out).mono ?_; rintro e w5 ⟨rfl, g5⟩))
    go_ret
    exact ⟨by simp, G4.out.trans g5⟩
end Go.Proofs.YtbpkfkljeibjoaaGreat
