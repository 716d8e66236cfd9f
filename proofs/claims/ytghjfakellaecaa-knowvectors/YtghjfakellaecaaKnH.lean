/- slices.Compact at dots, over a row that is owned. -/
import Derived.Test.YtghjfakellaecaaKnG
import Derived.BigQuiet
import Derived.Deep.QuietTactic
import Derived.IntWalk
import Derived.Lib.SliceRun
import Derived.Deep.LoopGhost
set_option linter.unusedVariables false
set_option linter.unusedSimpArgs false
namespace Rm
open Go Go.RowKit
/-- the first i dots of a list, none behind its like -/
def ddT (l : List (Nat × Nat)) : Nat → List (Nat × Nat)
  | 0 => []
  | i + 1 => match l[i]? with
    | none => ddT l i
    | some d => if 0 < i ∧ l[i - 1]? = some d then ddT l i else ddT l i ++ [d]
theorem ddT_same {l : List (Nat × Nat)} {i : Nat} {d : Nat × Nat} (h : l[i]? = some d) (h' : 0 < i ∧ l[i - 1]? = some d) : ddT l (i + 1) = ddT l i := by
  show (match l[i]? with | none => ddT l i | some d => if 0 < i ∧ l[i - 1]? = some d then ddT l i else ddT l i ++ [d]) = _
  rw [h]; simp only; rw [if_pos h']
theorem ddT_more {l : List (Nat × Nat)} {i : Nat} {d : Nat × Nat} (h : l[i]? = some d) (h' : ¬ (0 < i ∧ l[i - 1]? = some d)) : ddT l (i + 1) = ddT l i ++ [d] := by
  show (match l[i]? with | none => ddT l i | some d => if 0 < i ∧ l[i - 1]? = some d then ddT l i else ddT l i ++ [d]) = _
  rw [h]; simp only; rw [if_neg h']
theorem ddT_all {l : List (Nat × Nat)} : ∀ {k : Nat}, k ≤ l.length → (∀ j, j < k → 0 < j → l[j]? ≠ l[j - 1]?) → ddT l k = l.take k
  | 0, _, _ => by simp [ddT]
  | k + 1, hk, h => by
    obtain ⟨d, hd⟩ : ∃ d, l[k]? = some d := ⟨_, List.getElem?_eq_getElem (by omega)⟩
    rw [ddT_more hd (fun q => h k (by omega) q.1 (by rw [hd, q.2])), ddT_all (by omega) (fun j hj h0 => h j (by omega) h0), List.take_add_one, hd]
    rfl
theorem ddT_mem {l : List (Nat × Nat)} : ∀ {k : Nat}, k ≤ l.length → ∀ x, x ∈ ddT l k ↔ ∃ j, j < k ∧ l[j]? = some x
  | 0, _, x => by simp [ddT]
  | k + 1, hk, x => by
    obtain ⟨d, hd⟩ : ∃ d, l[k]? = some d := ⟨_, List.getElem?_eq_getElem (by omega)⟩
    have ih := ddT_mem (l := l) (k := k) (by omega) x
    by_cases h : 0 < k ∧ l[k - 1]? = some d
    · rw [ddT_same hd h, ih]
      constructor
      · rintro ⟨j, h1, h2⟩; exact ⟨j, by omega, h2⟩
      · rintro ⟨j, h1, h2⟩
        by_cases e : j = k
        · subst e; rw [hd] at h2; exact ⟨j - 1, by omega, by rw [h.2, h2]⟩
        · exact ⟨j, by omega, h2⟩
    · rw [ddT_more hd h, List.mem_append, ih, List.mem_singleton]
      constructor
      · rintro (⟨j, h1, h2⟩ | rfl)
        · exact ⟨j, by omega, h2⟩
        · exact ⟨k, by omega, hd⟩
      · rintro ⟨j, h1, h2⟩
        by_cases e : j = k
        · subst e; rw [hd] at h2; exact .inr (Option.some.inj h2).symm
        · exact .inl ⟨j, by omega, h2⟩
theorem ltD_eq {a b : Nat × Nat} (h : ¬ ltD a b) (h' : ¬ ltD b a) : a = b := by
  obtain ⟨a1, a2⟩ := a
  obtain ⟨b1, b2⟩ := b
  unfold ltD at h h'
  simp only at h h'
  congr <;> omega
theorem ddT_sort {l : List (Nat × Nat)} (hs : l.Pairwise (fun a b => ¬ ltD b a)) : ∀ {k : Nat}, k ≤ l.length → (ddT l k).Pairwise ltD
  | 0, _ => List.Pairwise.nil
  | k + 1, hk => by
    obtain ⟨d, hd⟩ : ∃ d, l[k]? = some d := ⟨_, List.getElem?_eq_getElem (by omega)⟩
    have ih := ddT_sort hs (k := k) (by omega)
    have at' : ∀ {i j : Nat} {x y : Nat × Nat}, i < j → l[i]? = some x → l[j]? = some y → ¬ ltD y x := by
      intro i j x y hij hx hy
      obtain ⟨h1, e1⟩ := List.getElem?_eq_some_iff.1 hx
      obtain ⟨h2, e2⟩ := List.getElem?_eq_some_iff.1 hy
      have := List.pairwise_iff_getElem.1 hs i j h1 h2 hij
      rw [e1, e2] at this
      exact this
    by_cases h : 0 < k ∧ l[k - 1]? = some d
    · rw [ddT_same hd h]; exact ih
    · rw [ddT_more hd h, List.pairwise_append]
      refine ⟨ih, List.pairwise_singleton _ _, fun x hx y hy => ?_⟩
      rw [List.mem_singleton] at hy
      subst hy
      obtain ⟨j, hj, hjx⟩ := (ddT_mem (by omega) x).1 hx
      have h1 := at' hj hjx hd
      apply Classical.byContradiction
      intro hn
      have e := ltD_eq hn h1
      subst e
      apply h
      refine ⟨by omega, ?_⟩
      obtain ⟨z, hz⟩ : ∃ z, l[k - 1]? = some z := ⟨_, List.getElem?_eq_getElem (by omega)⟩
      rw [hz]
      congr 1
      by_cases e : j = k - 1
      · subst e; rw [hz] at hjx; exact Option.some.inj hjx
      · exact (ltD_eq (at' (show k - 1 < k by omega) hz hd) (at' (show j < k - 1 by omega) hjx hz)).symm
/-- a row that holds dots -/
def RowD (e : TypeId) (w : World) (g cap : Nat) (c : List (Nat × Nat)) : Prop := c.length ≤ cap ∧ ∃ cur, w.heap[g]? = some (.cells cur e (0, 0)) ∧ cur.size = cap * 2 ∧ cur.toList.take (c.length * 2) = flat (pairs c)
theorem RowD.cell {e : TypeId} {w : World} {g cap : Nat} {c : List (Nat × Nat)} (h : RowD e w g cap c) {i : Nat} {d : Nat × Nat} (hd : c[i]? = some d) :
    w.cell? ⟨g, i * 2, none⟩ = some (.int .i64 (d.1 : Int)) ∧ w.cell? ⟨g, i * 2 + 1, none⟩ = some (.int .i64 (d.2 : Int)) ∧ w.frozen? ⟨g, i * 2, none⟩ = false ∧ w.frozen? ⟨g, i * 2 + 1, none⟩ = false := by
  obtain ⟨hl, cur, hg, hsz, ht⟩ := h
  have hi : i < c.length := (List.getElem?_eq_some_iff.1 hd).1
  have hf := flat_at (pairs c) i _ (pairs_at hd)
  rw [← ht] at hf
  rw [List.getElem?_take_of_lt (by omega), List.getElem?_take_of_lt (by omega)] at hf
  refine ⟨?_, ?_, by simp [World.frozen?, hg], by simp [World.frozen?, hg]⟩
  · have := hf.1; simpa [World.cell?, hg] using this
  · have := hf.2; simpa [World.cell?, hg] using this
theorem hsc {w : World} {B o : Nat} {cur : Array Value} {e : TypeId} {v : Value} (h : w.heap[B]? = some (.cells cur e (0, 0))) : (w.setCell ⟨B, o, none⟩ v).heap[B]? = some (.cells (cur.setIfInBounds o v) e (0, 0)) := by
  simp [World.setCell, Array.getElem?_modify, h]
theorem gset (w : World) (B o : Nat) (v : Value) : w.grownBy (w.setCell ⟨B, o, none⟩ v) (some B) := by
  refine ⟨by simp [World.setCell], by simp [World.setCell], by simp [World.setCell], by simp [World.setCell], fun k hk hne => ?_⟩
  have : B ≠ k := fun e => hne (by rw [e])
  simp [World.setCell, Array.getElem?_modify, this]
theorem flat_setD (c : List (Nat × Nat)) (i : Nat) (d : Nat × Nat) (hi : i < c.length) : ((flat (pairs c)).set (i * 2) (.int .i64 (d.1 : Int))).set (i * 2 + 1) (.int .i64 (d.2 : Int)) = flat (pairs (c.set i d)) := by
  induction c generalizing i with
  | nil => simp at hi
  | cons a c ih =>
    cases i with
    | zero => rfl
    | succ i =>
      have h1 : (i + 1) * 2 = i * 2 + 1 + 1 := by omega
      have := ih i (by simpa using hi)
      simp only [pairs, List.map_cons, flat_cons, List.set_cons_succ, h1] at this ⊢
      rw [this]
theorem take_set2 {α : Type} (L : List α) (n i j : Nat) (x y : α) : ((L.set i x).set j y).take n = ((L.take n).set i x).set j y := by rw [List.take_set, List.take_set]
theorem RowD.put {e : TypeId} {w : World} {g cap : Nat} {c : List (Nat × Nat)} (h : RowD e w g cap c) {i : Nat} (d : Nat × Nat) (hi : i < c.length) :
    RowD e ((w.setCell ⟨g, i * 2, none⟩ (.int .i64 (d.1 : Int))).setCell ⟨g, i * 2 + 1, none⟩ (.int .i64 (d.2 : Int))) g cap (c.set i d) := by
  obtain ⟨hl, cur, hg, hsz, ht⟩ := h
  refine ⟨by simpa using hl, _, hsc (hsc hg), by simpa using hsz, ?_⟩
  rw [← flat_setD c i d hi, ← ht]
  simp only [Array.toList_setIfInBounds, List.length_set]
  exact take_set2 _ _ _ _ _ _
theorem gb_trans {w w1 w2 : World} {g : Nat} (h : w.grownBy w1 (some g)) (k : w1.grownBy w2 (some g)) : w.grownBy w2 (some g) :=
  h.andThen k (fun j e => .inr (by rw [e]))
/-- the inner loop's state -/
def CmpAt (l : List (Nat × Nat)) (w wr : World) (g cap k0 k j : Nat) (c : List (Nat × Nat)) : Prop :=
  k0 + j + 1 ≤ l.length ∧ k ≤ k0 + j ∧ c.length = l.length ∧ k = (ddT l (k0 + j + 1)).length ∧ c.take k = ddT l (k0 + j + 1) ∧ (∀ i, k0 + j ≤ i → c[i]? = l[i]?) ∧ RowD 26 wr g cap c ∧ w.grownBy wr (some g)
theorem CmpAt.same {l : List (Nat × Nat)} {w wr wr' : World} {g cap k0 k j : Nat} {c : List (Nat × Nat)} (h : CmpAt l w wr g cap k0 k j c) (hlt : k0 + j + 1 < l.length) (he : l[k0 + j + 1]? = l[k0 + j]?) (hr : RowD 26 wr' g cap c) (hg : wr.grownBy wr' (some g)) : CmpAt l w wr' g cap k0 k (j + 1) c := by
  obtain ⟨h1, h2, h3, h4, h5, h6, h7, h8⟩ := h
  obtain ⟨d, hd⟩ : ∃ d, l[k0 + j + 1]? = some d := ⟨_, List.getElem?_eq_getElem hlt⟩
  have e : ddT l (k0 + (j + 1) + 1) = ddT l (k0 + j + 1) := ddT_same (i := k0 + j + 1) hd ⟨by omega, by rw [show k0 + j + 1 - 1 = k0 + j from rfl, ← he, hd]⟩
  exact ⟨by omega, by omega, h3, by rw [e]; exact h4, by rw [e]; exact h5, fun i hi => h6 i (by omega), hr, gb_trans h8 hg⟩
theorem CmpAt.more {l : List (Nat × Nat)} {w wr wr' : World} {g cap k0 k j : Nat} {c : List (Nat × Nat)} {d : Nat × Nat} (h : CmpAt l w wr g cap k0 k j c) (hd : l[k0 + j + 1]? = some d) (he : l[k0 + j]? ≠ some d) (hr : RowD 26 wr' g cap (c.set k d)) (hg : wr.grownBy wr' (some g)) : CmpAt l w wr' g cap k0 (k + 1) (j + 1) (c.set k d) := by
  obtain ⟨h1, h2, h3, h4, h5, h6, h7, h8⟩ := h
  have hlt : k0 + j + 1 < l.length := (List.getElem?_eq_some_iff.1 hd).1
  have e : ddT l (k0 + (j + 1) + 1) = ddT l (k0 + j + 1) ++ [d] := ddT_more (i := k0 + j + 1) hd (fun q => he q.2)
  refine ⟨by omega, by omega, by simpa using h3, by rw [e, h4]; simp, ?_, fun i hi => ?_, hr, gb_trans h8 hg⟩
  · rw [e, ← h5, List.take_set, List.take_add_one, List.getElem?_eq_getElem (by omega : k < c.length), List.set_append_right _ _ (by simp; omega)]
    have : k - (List.take k c).length = 0 := by simp; omega
    rw [this]
    rfl
  · rw [List.getElem?_set_ne (by omega)]; exact h6 i (by omega)
theorem setCells_block (b : Nat) : ∀ (vs : List Value) (o : Nat) (w : World) (cur : Array Value) (e : TypeId), w.heap[b]? = some (.cells cur e (0, 0)) → ∃ cur', (w.setCells b o vs).heap[b]? = some (.cells cur' e (0, 0)) ∧ cur'.size = cur.size ∧ ∀ n, n ≤ o → cur'.toList.take n = cur.toList.take n
  | [], o, w, cur, e, h => ⟨cur, h, rfl, fun _ _ => rfl⟩
  | v :: vs, o, w, cur, e, h => by
    obtain ⟨cur', h1, h2, h3⟩ := setCells_block b vs (o + 1) _ _ e (hsc (o := o) (v := v) h)
    refine ⟨cur', h1, by simpa using h2, fun n hn => ?_⟩
    rw [h3 n (by omega), Array.toList_setIfInBounds, List.take_set, List.set_eq_of_length_le (by simp; omega)]
theorem setCells_grown (b : Nat) : ∀ (vs : List Value) (o : Nat) (w : World), w.grownBy (w.setCells b o vs) (some b)
  | [], o, w => ⟨rfl, rfl, rfl, Nat.le_refl _, fun _ _ _ => rfl⟩
  | v :: vs, o, w => gb_trans (gset w b o v) (setCells_grown b vs (o + 1) _)
end Rm
namespace Go.Proofs.Ytghjfakellaecaa
open Go.RowKit Rm
set_option linter.unusedVariables false
set_option linter.unusedSimpArgs false
def zsD (n : Nat) : List Value := (Builtin.zeroCells #[.int .i64 0, .int .i64 0] n).toList
theorem zsD_len (n : Nat) : (zsD n).length = n * 2 := by simp [zsD, Builtin.zeroCells]
theorem zsD_one (n : Nat) : ∀ v ∈ zsD n, v.oneCell' = true := by
  intro v hv
  simp only [zsD, Builtin.zeroCells, Array.toList_map, List.mem_map] at hv
  obtain ⟨i, _, rfl⟩ := hv
  have h2 : i % 2 = 0 ∨ i % 2 = 1 := by omega
  rcases h2 with h | h <;> simp [h, Value.oneCell']
theorem run_clear_dots (w : World) (ty : TypeId) (b o n c : Nat) (hn : 0 < n) (hc : ∀ j, j < n * 2 → (w.cell? ⟨b, o + j, none⟩).isSome = true) (hf : ∀ j, j < n * 2 → w.frozen? ⟨b, o + j, none⟩ = false) :
    (Builtin.clear_ #[33] ty #[.slice (some ⟨b, o, none⟩) n c]).run Try.prog w = .ok (.tuple #[]) (w.setCells b o (zsD n)) := by
  have hst := run_storeCells_cells (P := Try.prog) b o (zsD n) 0 w (by rw [zsD_len]; simpa using hc) (by rw [zsD_len]; simpa using hf) (zsD_one n)
  simp only [Nat.add_zero] at hst
  have hv : ∀ w, (zeroValue 26).run Try.prog w = .ok (.agg #[.int .i64 0, .int .i64 0]) w := Try.zeroValue26
  have hzc : (Builtin.zeroCells (Value.agg #[.int .i64 0, .int .i64 0]).cells n).toList = zsD n := rfl
  obtain ⟨m, rfl⟩ : ∃ m, n = m + 1 := ⟨n - 1, by omega⟩
  simp [Builtin.clear_, run_underlying Try.underlying33, hv, hzc, hst]
theorem flat_takeP (c : List (Nat × Nat)) (k : Nat) : (flat (pairs c)).take (k * 2) = flat (pairs (c.take k)) := by
  induction c generalizing k with
  | nil => simp [pairs, flat]
  | cons a c ih =>
    cases k with
    | zero => simp [pairs, flat]
    | succ k =>
      have h1 : (k + 1) * 2 = k * 2 + 1 + 1 := by omega
      have := ih k
      simp only [pairs, List.map_cons, flat_cons, List.take_succ_cons, h1] at this ⊢
      rw [this]
theorem gb_refl (w : World) (g : Nat) : w.grownBy w (some g) := ⟨rfl, rfl, rfl, Nat.le_refl _, fun _ _ _ => rfl⟩
theorem gb_drewN (w : World) (g q : Nat) : w.grownBy (w.drewN q) (some g) := ⟨rfl, rfl, rfl, Nat.le_refl _, fun _ _ _ => rfl⟩
theorem drewN_add (w : World) (q m : Nat) : (w.drewN q).drewN m = w.drewN (q + m) := by
  simp [World.drewN, Nat.add_assoc]
theorem RowD.drewN {e : TypeId} {w : World} {g cap : Nat} {c : List (Nat × Nat)} (h : RowD e w g cap c) (q : Nat) : RowD e (w.drewN q) g cap c := h
theorem RowD.shrink {e : TypeId} {w : World} {g cap k : Nat} {c : List (Nat × Nat)} {vs : List Value} (h : RowD e w g cap c) (hk : k ≤ c.length) : RowD e (w.setCells g (k * 2) vs) g cap (c.take k) := by
  obtain ⟨hl, cur, hg, hsz, ht⟩ := h
  obtain ⟨cur', h1, h2, h3⟩ := setCells_block g vs (k * 2) w cur e hg
  refine ⟨by simp; omega, cur', h1, by rw [h2, hsz], ?_⟩
  have hlen : (c.take k).length = k := by simp; omega
  rw [hlen, h3 _ (Nat.le_refl _)]
  have : cur.toList.take (k * 2) = (cur.toList.take (c.length * 2)).take (k * 2) := by rw [List.take_take, Nat.min_eq_left (by omega)]
  rw [this, ht]
  exact flat_takeP _ _
set_option maxHeartbeats 4000000 in
set_option maxRecDepth 100000 in
theorem compact_row (l : List (Nat × Nat)) (g cap : Nat) (w : World) (hr : RowD 26 w g cap l) (hn : l.length ≤ 1000) :
    Calls Try.prog 95 #[.slice (some ⟨g, 0, none⟩) l.length cap] w fun e w' => e = .returned (.slice (some ⟨g, 0, none⟩) (ddT l l.length).length cap) ∧ RowD 26 w' g cap (ddT l l.length) ∧ w.grownBy w' (some g) := by
  have HR := Lib.hid hr
  have hnI : (l.length : Int) ≤ 1000 := by omega
  have hcap : l.length ≤ cap := hr.1
  by_cases h2 : l.length < 2
  · have HE : Hid (ddT l l.length = l) := by
      show _ = _
      rw [ddT_all (Nat.le_refl _) (fun j h1 h3 => by omega)]; simp
    have h2I : (l.length : Int) < 2 := by omega
    clear hr
    go_enter Try.func95, Try.ntmps95
    go_wp2
    go_ret
    rw [HE.out]
    exact ⟨rfl, HR.out, gb_refl _ _⟩
  · have h2I : ¬ (l.length : Int) < 2 := by omega
    clear hr
    go_enter Try.func95, Try.ntmps95
    go_wp2
    go_loopg [3] l.length (fun gh s3 wr => ∃ k : Nat, 1 ≤ k ∧ k ≤ l.length ∧ l.length - k ≤ gh ∧ s3 = .int .i64 (k : Int) ∧ (∃ q, wr = w.drewN q) ∧ ∀ j, j < k → 0 < j → l[j]? ≠ l[j - 1]?)
    case atStart => exact ⟨1, by omega, by omega, by omega, rfl, ⟨0, rfl⟩, fun j h1 h3 => by omega⟩
    case round =>
      obtain ⟨k, hk1, hk, hg, rfl, ⟨q, hwr⟩, hall⟩ := hrel
      have HA := Lib.hid hall
      have HW := Lib.hid hwr
      have HRr : Hid (RowD 26 wr g cap l) := by rw [hwr]; exact RowD.drewN HR.out q
      clear hall hwr
      by_cases hlt : k < l.length
      · obtain ⟨p, hkp⟩ : ∃ p, k = p + 1 := ⟨k - 1, by omega⟩
        obtain ⟨x, hx⟩ : ∃ x, l[p]? = some x := ⟨_, List.getElem?_eq_getElem (by omega)⟩
        obtain ⟨y, hy⟩ : ∃ y, l[k]? = some y := ⟨_, List.getElem?_eq_getElem (by omega)⟩
        obtain ⟨a0, a1, a2, a3⟩ := RowD.cell HRr.out hx
        obtain ⟨b0, b1, b2, b3⟩ := RowD.cell HRr.out hy
        have hltI : (k : Int) < (l.length : Int) := by omega
        have hsub : (k : Int) - 1 = (p : Int) := by omega
        have hpI : (p : Int) < (l.length : Int) := by omega
        have hwp : IntKind.i64.wrap (p : Int) = (p : Int) := IntWalk.i64_in _ (by omega)
        have HX := Lib.hid hx
        have HY := Lib.hid hy
        have HK := Lib.hid hkp
        obtain ⟨x1, x2⟩ := x
        obtain ⟨y1, y2⟩ := y
        simp only at a0 a1 b0 b1
        clear hx hy a2 a3 b2 b3 hkp
        by_cases hdup : (y1, y2) = (x1, x2)
        · obtain ⟨rfl, rfl⟩ := Prod.mk.inj hdup
          clear hdup
          have HS : Hid (∀ m, CmpAt l w (wr.drewN m) g cap k k 0 l) := by
            intro m
            have hks := HK.out
            have e1 : ddT l (k + 1) = ddT l k := ddT_same (i := k) HY.out ⟨by omega, by rw [show k - 1 = p by omega]; exact HX.out⟩
            have e2 : ddT l k = l.take k := ddT_all (by omega) HA.out
            refine ⟨by omega, by omega, rfl, ?_, ?_, fun i _ => rfl, RowD.drewN HRr.out m, ?_⟩
            · show k = (ddT l (k + 1)).length
              rw [e1, e2]; simp; omega
            · show l.take k = ddT l (k + 1)
              rw [e1, e2]
            · rw [HW.out]; exact gb_trans (gb_drewN w g q) (gb_drewN _ g m)
          go_wp2_with fail
          go_quiet (fail)
          have HI := Lib.hid (HS.out nq)
          generalize (wr.drewN nq) = w1 at *
          clear HS a0 a1 b0 b1
          have hkc : k ≤ cap := by omega
          go_wp2
          generalize hn2 : l.length - k = n2 at *
          have HN2 := Lib.hid hn2
          clear hn2
          go_loopg [3, 5] l.length (fun gh s3 s5 wr => ∃ (i j j' : Nat) (c : List (Nat × Nat)), s3 = .int .i64 (i : Int) ∧ s5 = .int .i64 (j : Int) ∧ j = j' + 1 ∧ l.length - (k + j) ≤ gh ∧ CmpAt l w wr g cap k i j' c)
          case atStart => exact ⟨k, 1, 0, l, rfl, rfl, rfl, by omega, HI.out⟩
          case round =>
            obtain ⟨i, j, j', c, rfl, rfl, hjj, hg2, hat⟩ := hrel
            have HT := Lib.hid hat
            have HJ := Lib.hid hjj
            have hij : i ≤ k + j' := hat.2.1
            have hcl : c.length = l.length := hat.2.2.1
            have hle : k + j ≤ l.length := by have := hat.1; omega
            clear hat hjj
            by_cases hjl : k + j < l.length
            · obtain ⟨x, hx⟩ : ∃ x, l[k + j]? = some x := ⟨_, List.getElem?_eq_getElem (by omega)⟩
              obtain ⟨y, hy⟩ : ∃ y, l[k + j']? = some y := ⟨_, List.getElem?_eq_getElem (by have := HJ.out; omega)⟩
              obtain ⟨z, hz⟩ : ∃ z, c[i]? = some z := ⟨_, List.getElem?_eq_getElem (by have := HJ.out; omega)⟩
              have hRow := HT.out.2.2.2.2.2.2.1
              have hhi := HT.out.2.2.2.2.2.1
              have hx' := (hhi (k + j) (by have := HJ.out; omega)).trans hx
              have hy' := (hhi (k + j') (by omega)).trans hy
              obtain ⟨a0, a1, a2, a3⟩ := RowD.cell hRow hx'
              obtain ⟨b0, b1, b2, b3⟩ := RowD.cell hRow hy'
              obtain ⟨d0, d1, d2, d3⟩ := RowD.cell hRow hz
              have o1 : (k + j) * 2 = k * 2 + j * 2 := by omega
              have o2 : (k + j') * 2 = k * 2 + j' * 2 := by omega
              rw [o1] at a0 a1
              rw [o2] at b0 b1
              have HX2 := Lib.hid hx
              have HY2 := Lib.hid hy
              have hjI : (j : Int) < (n2 : Int) := by have := HN2.out; omega
              have hsub : (j : Int) - 1 = (j' : Int) := by have := HJ.out; omega
              have hj'I : (j' : Int) < (n2 : Int) := by omega
              have hiI : (i : Int) < (l.length : Int) := by have := HJ.out; omega
              have hjb : (j : Int) ≤ 1000 := by omega
              have hwj : IntKind.i64.wrap (j' : Int) = (j' : Int) := IntWalk.i64_in _ (by omega)
              have HRow := Lib.hid hRow
              have HIC : Hid (i < c.length) := by show _ < _; have := HJ.out; omega
              obtain ⟨x1, x2⟩ := x
              obtain ⟨y1, y2⟩ := y
              obtain ⟨z1, z2⟩ := z
              simp only at a0 a1 b0 b1 d0 d1
              clear hx hy hz hx' hy' hRow hhi a2 a3 b2 b3 o1 o2
              by_cases hsame : (x1, x2) = (y1, y2)
              · obtain ⟨rfl, rfl⟩ := Prod.mk.inj hsame
                clear hsame
                have HN : Hid (∀ m, CmpAt l w (wr.drewN m) g cap k i (j' + 1) c) := fun m => CmpAt.same HT.out (by have := HJ.out; omega) (by rw [show k + j' + 1 = k + j by have := HJ.out; omega, HX2.out, HY2.out]) (RowD.drewN HRow.out m) (gb_drewN _ g m)
                go_wp2_with fail
                go_quiet (fail)
                go_wp2
                go_roundg (l.length - (k + (j + 1)))
                case measure => omega
                case rel => exact ⟨i, j + 1, j' + 1, c, rfl, by go_num, by rw [HJ.out], Nat.le_refl _, HN.out _⟩
              · have HN : Hid (∀ m, CmpAt l w (((wr.drewN m).setCell ⟨g, i * 2, none⟩ (.int .i64 (x1 : Int))).setCell ⟨g, i * 2 + 1, none⟩ (.int .i64 (x2 : Int))) g cap k (i + 1) (j' + 1) (c.set i (x1, x2))) := fun m =>
                  CmpAt.more (d := (x1, x2)) HT.out (by rw [show k + j' + 1 = k + j by have := HJ.out; omega, HX2.out]) (by rw [HY2.out]; intro e; exact hsame (Option.some.inj e).symm) (RowD.put (RowD.drewN HRow.out m) (x1, x2) HIC.out) (gb_trans (gb_drewN _ g m) (gb_trans (gset _ g _ _) (gset _ g _ _)))
                have hne : ¬ (x1 = y1 ∧ x2 = y2) := fun e => hsame (by rw [e.1, e.2])
                clear hsame
                have hcase : (¬ x1 = y1) ∨ (x1 = y1 ∧ ¬ x2 = y2) := by omega
                rcases hcase with h1 | ⟨rfl, h1⟩
                · clear hne
                  go_wp2_with fail
                  go_quiet (fail)
                  go_wp2
                  go_roundg (l.length - (k + (j + 1)))
                  case measure => omega
                  case rel => exact ⟨i + 1, j + 1, j' + 1, _, by go_num, by go_num, by rw [HJ.out], Nat.le_refl _, HN.out _⟩
                · clear hne
                  have h1I : ¬ (x2 : Int) = (y2 : Int) := by omega
                  go_wp2_with fail
                  go_quiet (fail)
                  go_wp2
                  go_roundg (l.length - (k + (j + 1)))
                  case measure => omega
                  case rel => exact ⟨i + 1, j + 1, j' + 1, _, by go_num, by go_num, by rw [HJ.out], Nat.le_refl _, HN.out _⟩
            · have hend : k + j = l.length := by omega
              have hjI : ¬ (j : Int) < (n2 : Int) := by have := HN2.out; omega
              have hil : i < l.length := by have := HJ.out; omega
              have hRow := HT.out.2.2.2.2.2.2.1
              have hblk := hRow.2
              have hclr : ∀ ty, (Builtin.clear_ #[33] ty #[.slice (some ⟨g, i * 2, none⟩) (l.length - i) (cap - i)]).run Try.prog wr = .ok (.tuple #[]) (wr.setCells g (i * 2) (zsD (l.length - i))) := fun ty => by
                obtain ⟨cur, hgc, hsz, htk⟩ := hblk
                exact run_clear_dots wr ty g (i * 2) _ _ (by omega) (fun m hm => by simp only [World.cell?, hgc]; simp; omega) (fun m hm => by simp [World.frozen?, hgc])
              have HF : Hid ((ddT l l.length).length = i ∧ RowD 26 (wr.setCells g (i * 2) (zsD (l.length - i))) g cap (ddT l l.length) ∧ w.grownBy (wr.setCells g (i * 2) (zsD (l.length - i))) (some g)) := by
                obtain ⟨q1, q2, q3, q4, q5, q6, q7, q8⟩ := HT.out
                have e : k + j' + 1 = l.length := by have := HJ.out; omega
                rw [e] at q4 q5
                refine ⟨q4.symm, ?_, gb_trans q8 (setCells_grown g _ _ _)⟩
                rw [← q5]
                exact RowD.shrink q7 (by omega)
              have hiI : (i : Int) < (l.length : Int) := by omega
              clear hRow hblk
              go_wp2
              go_ret
              obtain ⟨f1, f2, f3⟩ := HF.out
              exact ⟨by rw [f1]; rfl, f2, f3⟩
        · have HN : Hid (∀ j, j < k + 1 → 0 < j → l[j]? ≠ l[j - 1]?) := fun j h1 h3 => by
            by_cases e : j = k
            · subst e
              rw [show j - 1 = p by have := HK.out; omega, HX.out, HY.out]
              intro e; exact hdup (Option.some.inj e)
            · exact HA.out j (by omega) h3
          have hcase : (¬ y1 = x1) ∨ (y1 = x1 ∧ ¬ y2 = x2) := by
            by_cases e : y1 = x1
            · exact .inr ⟨e, fun e' => hdup (by rw [e, e'])⟩
            · exact .inl e
          clear hdup
          rcases hcase with h1 | ⟨rfl, h1⟩
          · go_wp2_with fail
            go_quiet (fail)
            go_wp2
            go_roundg (l.length - (k + 1))
            case measure => omega
            case rel => exact ⟨k + 1, by omega, by omega, Nat.le_refl _, by go_num, ⟨q + nq, by rw [HW.out]; exact (drewN_add ..)⟩, HN.out⟩
          · have h1I : ¬ (y2 : Int) = (x2 : Int) := by omega
            go_wp2_with fail
            go_quiet (fail)
            go_wp2
            go_roundg (l.length - (k + 1))
            case measure => omega
            case rel => exact ⟨k + 1, by omega, by omega, Nat.le_refl _, by go_num, ⟨q + nq, by rw [HW.out]; exact (drewN_add ..)⟩, HN.out⟩
      · obtain rfl : k = l.length := by omega
        have HE : Hid (ddT l l.length = l) := by
          show _ = _
          rw [ddT_all (Nat.le_refl _) HA.out]; simp
        go_wp2
        go_ret
        rw [HE.out]
        exact ⟨rfl, HRr.out, by rw [HW.out]; exact gb_drewN w g q⟩
/-- over a row that is owned -/
theorem compact_own (l : List (Nat × Nat)) (v : Value) (w : World) (base : Nat) (hl : l.length ≤ 1000) (ho : w.ownsRow base 26 2 v l.length (flat (pairs l))) :
    Calls Try.prog 95 #[v] w fun e w' => ∃ u, e = .returned u ∧ u.ownBlock = v.ownBlock ∧ w'.ownsRow base 26 2 u (ddT l l.length).length (flat (pairs (ddT l l.length))) ∧ w.grownBy w' v.ownBlock := by
  obtain ⟨hxl, ⟨rfl, hn⟩ | ⟨g, cap, cur, rfl, hbg, hg, hnc, hcm, hcs, htake⟩⟩ := ho
  · obtain rfl : l = [] := List.eq_nil_of_length_eq_zero hn
    go_enter Try.func95, Try.ntmps95
    go_wp2
    go_ret
    exact ⟨_, rfl, rfl, World.ownsRow_nil _ _ _ _, ⟨rfl, rfl, rfl, Nat.le_refl _, fun _ _ _ => rfl⟩⟩
  · refine (compact_row l g cap w ⟨hnc, cur, hg, hcs, htake⟩ hl).mono ?_
    rintro e w' ⟨rfl, ⟨h1, cur', h2, h3, h4⟩, h5⟩
    exact ⟨_, rfl, rfl, ⟨by rw [flat_len, pairs_len], .inr ⟨g, cap, cur', rfl, hbg, h2, h1, hcm, h3, h4⟩⟩, h5⟩
end Go.Proofs.Ytghjfakellaecaa
