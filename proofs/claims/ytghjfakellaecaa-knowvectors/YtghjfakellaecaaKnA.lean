/- Sets of dots as values: reading them; Dot, countsOf. -/
import Derived.Test.YtghjfakellaecaaKnQ
import Derived.Test.YtghjfakellaecaaKnSort
import Derived.Test.YtghjfakellaecaaRdC
import Derived.Laws.CopyOwn
namespace Rm
open Go Go.RowKit
/-- a slice of integers reads as a list -/
def R1 (w : World) (v : Value) (l : List Int) : Prop :=
  ∃ a c, v = .slice a l.length c ∧ l.length ≤ c ∧ (l ≠ [] → ∃ b off, a = some ⟨b, off, none⟩ ∧ b < w.heap.size ∧ ∀ i x, l[i]? = some x → w.cell? ⟨b, off + i, none⟩ = some (.int .i64 x))
theorem R1.gr {w w' : World} {v : Value} {l : List Int} (h : R1 w v l) (g : Gr w w') : R1 w' v l := by
  obtain ⟨a, c, e, hc, h⟩ := h
  refine ⟨a, c, e, hc, fun hl => ?_⟩
  obtain ⟨b, off, ea, hb, hx⟩ := h hl
  exact ⟨b, off, ea, Nat.lt_of_lt_of_le hb g.le, fun i p hp => (g.cells.1 b _ hb).trans (hx i p hp)⟩
theorem R1.nil (w : World) : R1 w (.slice none 0 0) [] := ⟨none, 0, rfl, Nat.le_refl _, fun h => absurd rfl h⟩
/-- a set of dots as it is read -/
def KnR (w : World) (k : Value) (V : List Int) (M : List (Int × Int)) : Prop :=
  ∃ vv mv, k = .agg #[vv, mv] ∧ R1 w vv V ∧ Rd2 w mv M ∧ RdC 2 w mv M.length (flat M)
theorem KnR.gr {w w' : World} {k : Value} {V : List Int} {M : List (Int × Int)} (h : KnR w k V M) (g : Gr w w') : KnR w' k V M := by
  obtain ⟨vv, mv, e, h1, h2, h3⟩ := h
  exact ⟨vv, mv, e, h1.gr g, h2.gr g, h3.gr g⟩
theorem adn {b off k : Nat} : (⟨b, off, none⟩ : Addr).add k = ⟨b, off + k, none⟩ := by
  unfold Addr.add
  split
  · rename_i h; simp_all
  · rfl
/-- a vector at its full length -/
def cArr (v : List Nat) : Array Value := #[.int .i64 (cv v 0 : Nat), .int .i64 (cv v 1 : Nat), .int .i64 (cv v 2 : Nat), .int .i64 (cv v 3 : Nat), .int .i64 (cv v 4 : Nat)]
theorem splice_cArr (v : List Nat) (h : v.length ≤ 5) :
    (Go.splice [Value.int .i64 0, .int .i64 0, .int .i64 0, .int .i64 0, .int .i64 0] 0 ((ints v).map (Value.int .i64))).toArray = cArr v := by
  match v, h with
  | [], _ => rfl
  | [a], _ => rfl
  | [a, b], _ => rfl
  | [a, b, c], _ => rfl
  | [a, b, c, d], _ => rfl
  | [a, b, c, d, e], _ => rfl
  | _ :: _ :: _ :: _ :: _ :: _ :: _, h => simp only [List.length_cons] at h; omega
end Rm
namespace Go.Proofs.Ytghjfakellaecaa
open Go.RowKit Rm
set_option linter.unusedVariables false
set_option linter.unusedSimpArgs false

set_option maxHeartbeats 1000000 in
set_option maxRecDepth 100000 in
theorem dot_any (d : Int × Int) (w : World) : Calls Try.prog 30 #[.agg #[.int .i64 d.1, .int .i64 d.2]] w fun e w' => e = .returned (.bool (dotB d)) ∧ Gr w w' := by
  obtain ⟨x, y⟩ := d
  by_cases h : dotB (x, y) = true
  · obtain ⟨h1, h2, h3, h4⟩ := (dotB_iff _).1 h
    simp only at h1 h2 h3 h4
    rw [h]
    go_enter Try.func30, Try.ntmps30
    go_wp2
    go_ret
    exact ⟨rfl, (Gr.refl _).alloc _⟩
  · rw [Bool.not_eq_true] at h
    rw [h]
    have h' := h
    rw [Bool.eq_false_iff, ne_eq, dotB_iff] at h'
    simp only at h'
    go_enter Try.func30, Try.ntmps30
    go_wp2
    all_goals first
      | (exfalso; omega)
      | (go_ret; exact ⟨rfl, (Gr.refl _).alloc _⟩)
      | (go_ret; exact ⟨by simp; omega, (Gr.refl _).alloc _⟩)
set_option maxHeartbeats 1000000 in
set_option maxRecDepth 100000 in
theorem rwithin_any (x a b : Int) (w : World) : Calls Try.prog 44 #[.int .i64 x, .int .i64 a, .int .i64 b] w fun e w' => e = .returned (.bool (decide (a ≤ x) && decide (x ≤ b))) ∧ w' = w := by
  by_cases h1 : a ≤ x
  · by_cases h2 : x ≤ b
    · rw [decide_eq_true h1, decide_eq_true h2]
      go_enter Try.func44, Try.ntmps44
      go_wp2
      go_ret
      exact ⟨rfl, rfl⟩
    · rw [decide_eq_true h1, decide_eq_false h2]
      go_enter Try.func44, Try.ntmps44
      go_wp2
      go_ret
      exact ⟨rfl, rfl⟩
  · rw [decide_eq_false h1]
    go_enter Try.func44, Try.ntmps44
    go_wp2
    go_ret
    exact ⟨rfl, rfl⟩
set_option maxHeartbeats 1000000 in
set_option maxRecDepth 100000 in
theorem rdot_any (d : Int × Int) (w : World) : Calls Try.prog 11 #[.agg #[.int .i64 d.1, .int .i64 d.2]] w fun e w' => e = .returned (.bool (dotB d)) ∧ Gr w w' := by
  obtain ⟨x, y⟩ := d
  have HE : Hid (dotB (x, y) = ((decide (0 ≤ x) && decide (x ≤ 4)) && (decide (1 ≤ y) && decide (y ≤ 1000)))) := by
    show _ = _
    rw [Bool.eq_iff_iff, dotB_iff]; simp; omega
  have H1 := Lib.hid (rwithin_any x 0 4)
  have H2 := Lib.hid (rwithin_any y 1 1000)
  rw [HE.out]
  clear HE
  generalize (decide (0 ≤ x) && decide (x ≤ 4)) = p at *
  generalize (decide (1 ≤ y) && decide (y ≤ 1000)) = q at *
  cases p
  · go_enter Try.func11, Try.ntmps11
    go_wp2_with (first | (go_at_call 44; refine (H1.out _).mono ?_; rintro e w' ⟨rfl, rfl⟩))
    go_ret
    exact ⟨rfl, (Gr.refl _).alloc _⟩
  · go_enter Try.func11, Try.ntmps11
    go_wp2_with (first | (go_at_call_of 44 (Value.int .i64 x); refine (H1.out _).mono ?_; rintro e w' ⟨rfl, rfl⟩) | (go_at_call_of 44 (Value.int .i64 y); refine (H2.out _).mono ?_; rintro e w' ⟨rfl, rfl⟩))
    go_ret
    exact ⟨by simp, (Gr.refl _).alloc _⟩
theorem al_new (w : World) (o : Obj) (n : Nat) (h : n = w.heap.size) : (w.alloc o).heap[n]? = some o := by subst h; show (w.heap.push o)[w.heap.size]? = _; simp
theorem al_old (w : World) (o : Obj) (n : Nat) (h : n < w.heap.size) : (w.alloc o).heap[n]? = w.heap[n]? := by show (w.heap.push o)[n]? = _; rw [Array.getElem?_push_lt h, Array.getElem?_eq_getElem h]
theorem cArr_one (v : List Nat) : (cArr v).all (·.oneCell') = true := by simp [cArr, Value.oneCell']
theorem counts_size : (Try.prog.info? 108).map (·.size) = some 5 := by kernel_rfl
theorem counts_cArr (v : List Nat) : (Try.prog.info? 108).map (·.size) = some (cArr v).size := counts_size
theorem int_size1 : (Try.prog.info? 3).map (·.size) = some 1 := by kernel_rfl
set_option maxHeartbeats 1000000 in
set_option maxRecDepth 100000 in
theorem countsOf_any (k : Value) (v : List Nat) (M : List (Int × Int)) (w : World) (hk : KnR w k (ints v) M) (hl : v.length ≤ 5) :
    Calls Try.prog 61 #[k] w fun e w' => e = .returned (.agg (cArr v)) ∧ Gr w w' := by
  obtain ⟨vv, mv, rfl, ⟨va, vc, rfl, hvc, hv⟩, -, -⟩ := hk
  have HS := Lib.hid (splice_cArr v hl)
  have HV := Lib.hid hv
  have HL : Hid ((ints v).length = v.length) := ints_len v
  generalize hN : (ints v).length = N at *
  clear hv
  go_enter Try.func61, Try.ntmps61
  go_wp2_with fail
  have G2 := Lib.hid ((((Gr.refl w).alloc (.cells #[.slice va N vc, mv] 35)).alloc (.cells #[.int .i64 0, .int .i64 0, .int .i64 0, .int .i64 0, .int .i64 0] 108)).alloc (.cells #[.int .i64 0, .int .i64 0, .int .i64 0, .int .i64 0, .int .i64 0] 108))
  have e0 : (((w.alloc (.cells #[.slice va N vc, mv] 35)).alloc (.cells #[.int .i64 0, .int .i64 0, .int .i64 0, .int .i64 0, .int .i64 0] 108)).alloc (.cells #[.int .i64 0, .int .i64 0, .int .i64 0, .int .i64 0, .int .i64 0] 108)).cell? ⟨w.heap.size, 0, none⟩ = some (.slice va N vc) := by simp [go_sem]
  have e1 : Hid ((((w.alloc (.cells #[.slice va N vc, mv] 35)).alloc (.cells #[.int .i64 0, .int .i64 0, .int .i64 0, .int .i64 0, .int .i64 0] 108)).alloc (.cells #[.int .i64 0, .int .i64 0, .int .i64 0, .int .i64 0, .int .i64 0] 108)).heap[w.heap.size + 1]? = some (.cells #[.int .i64 0, .int .i64 0, .int .i64 0, .int .i64 0, .int .i64 0] 108 (0, 0))) := (al_old _ _ _ (by simp)).trans (al_new _ _ _ (by simp))
  have e2 : Hid ((((w.alloc (.cells #[.slice va N vc, mv] 35)).alloc (.cells #[.int .i64 0, .int .i64 0, .int .i64 0, .int .i64 0, .int .i64 0] 108)).alloc (.cells #[.int .i64 0, .int .i64 0, .int .i64 0, .int .i64 0, .int .i64 0] 108)).heap[w.heap.size + 1 + 1]? = some (.cells #[.int .i64 0, .int .i64 0, .int .i64 0, .int .i64 0, .int .i64 0] 108 (0, 0))) := al_new _ _ _ (by simp)
  generalize ((w.alloc (.cells #[.slice va N vc, mv] 35)).alloc (.cells #[.int .i64 0, .int .i64 0, .int .i64 0, .int .i64 0, .int .i64 0] 108)).alloc (.cells #[.int .i64 0, .int .i64 0, .int .i64 0, .int .i64 0, .int .i64 0] 108) = w2 at *
  go_still_tail 3, (by kernel_rfl)
  repeat still_step
  change wpList _ _ _ _ _ w2.drew
  refine Go.wpList_copy_splice rfl (.tmp 4) (.tmp 6) 32 32 rfl 3 Try.underlying32 int_size1 _ _ _ _ _ _ rfl rfl (w.heap.size + 1 + 1) 0 [.int .i64 0, .int .i64 0, .int .i64 0, .int .i64 0, .int .i64 0] 108 e2.out ((ints v).map (Value.int .i64)) (by have := HL.out; simp only [List.length_map, hN]; exact (Nat.min_eq_left (by omega)).symm) (fun hp => ?_) (by have := HL.out; simp; omega) (by simp [Value.oneCell']) (w.heap.size + 1 + 1) w2.drew (Below.refl _ _) (Nat.le_refl _) ?_
  · obtain ⟨b, off, rfl, hb, hx⟩ := HV.out (by intro e; rw [e] at hp; simp at hp)
    refine ⟨by simp, _, rfl, fun j u hu => ?_⟩
    simp only [List.getElem?_map, Option.map_eq_some_iff] at hu
    obtain ⟨x, hx1, rfl⟩ := hu
    have := (G2.out.drew.cells.1 b (off + j) hb).trans (hx j x hx1)
    rw [adn]
    exact this
  · intro w3 hw3 hb3
    have f1 : w3.heap[w.heap.size + 1]? = some (.cells #[.int .i64 0, .int .i64 0, .int .i64 0, .int .i64 0, .int .i64 0] 108 (0, 0)) := (Below.block hb3 _ (by omega)).trans e1.out
    have G3 : Hid (Gr w w3) := Below.trans G2.out.drew (Below.mono hb3 (by omega))
    have f2 := hw3.out
    rw [HS.out] at f2
    have f6 : Hid (w.heap.size ≤ w.heap.size + 1) := Nat.le_add_right _ _
    clear e0 e1 e2 HS HV hw3 hb3 G2 hN HL hvc
    generalize w.heap.size + 1 = g1 at *
    have f3 := Lib.hid (counts_cArr v)
    have f4 := Lib.hid (cArr_one v)
    have f5 : Hid ((cArr v).size = 5) := rfl
    generalize hA : cArr v = A at *
    go_wp2_with (first
      | (refine Go.wpList_load_row rfl 108 (.tmp 3) rfl (g1 + 1) rfl 108 A (0, 0) _ f2 Try.underlying108 rfl f3.out ?_)
      | (refine Go.wpList_store_row rfl 108 (.tmp 2) (.tmp 8) rfl g1 A rfl rfl 108 _ f1 f3.out f5.out.symm f4.out ?_))
    refine bodyPost_ret (v := .agg A) (results_cell_row Try.results61 _ _ g1 108 _ (0, 0) _ rfl (setRow_heap _ _ _ _ _ _ f1) Try.underlying108 rfl f3.out) rfl ⟨by rw [hA], ?_⟩
    exact Go.below_setRow G3.out f6.out _
end Go.Proofs.Ytghjfakellaecaa
