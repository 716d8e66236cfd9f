/- A slice of nodes reads as a list; the contract of formula.Check. -/
import Derived.Test.YthnoafmdecehcaaFormP
import Derived.Test.YthnoafmdecehcaaFilJ
namespace Rm
open Go Go.RowKit
def flatN (l : List Nd) : List Value := l.flatMap fun p => [.int .i64 p.1, .int .i64 p.2.1, .int .i64 p.2.2]
theorem flatN_cons (p : Nd) (l : List Nd) : flatN (p :: l) = .int .i64 p.1 :: .int .i64 p.2.1 :: .int .i64 p.2.2 :: flatN l := rfl
theorem flatN_app (l r : List Nd) : flatN (l ++ r) = flatN l ++ flatN r := by simp [flatN]
theorem flatN_len (l : List Nd) : (flatN l).length = l.length * 3 := by
  induction l with
  | nil => rfl
  | cons p l ih => rw [flatN_cons]; simp [ih]; omega
theorem flatN_at (l : List Nd) (i : Nat) (p : Nd) (h : l[i]? = some p) : (flatN l)[i * 3]? = some (.int .i64 p.1) ∧ (flatN l)[i * 3 + 1]? = some (.int .i64 p.2.1) ∧ (flatN l)[i * 3 + 2]? = some (.int .i64 p.2.2) := by
  induction l generalizing i with
  | nil => simp at h
  | cons q l ih =>
    rw [flatN_cons]
    cases i with
    | zero => simp at h; subst h; simp
    | succ i =>
      have e : (i + 1) * 3 = i * 3 + 1 + 1 + 1 := by omega
      rw [e]
      simpa using ih i (by simpa using h)
theorem flatN_one (l : List Nd) : ∀ u ∈ flatN l, u.oneCell' = true := by
  intro u hu
  simp only [flatN, List.mem_flatMap] at hu
  obtain ⟨p, _, hp⟩ := hu
  simp at hp
  rcases hp with rfl | rfl | rfl <;> rfl
/-- a slice of nodes reads as a list -/
def RdN (w : World) (v : Value) (l : List Nd) : Prop :=
  ∃ a c, v = .slice a l.length c ∧ l.length ≤ c ∧ (l ≠ [] → ∃ b off, a = some ⟨b, off, none⟩ ∧ b < w.heap.size ∧
    ∀ i p, l[i]? = some p → w.cell? ⟨b, off + i * 3, none⟩ = some (.int .i64 p.1) ∧ w.cell? ⟨b, off + i * 3 + 1, none⟩ = some (.int .i64 p.2.1) ∧ w.cell? ⟨b, off + i * 3 + 2, none⟩ = some (.int .i64 p.2.2))
theorem RdN.gr {w w' : World} {v : Value} {l : List Nd} (h : RdN w v l) (g : Gr w w') : RdN w' v l := by
  obtain ⟨a, c, e, hc, h⟩ := h
  refine ⟨a, c, e, hc, fun hl => ?_⟩
  obtain ⟨b, off, ea, hb, hx⟩ := h hl
  refine ⟨b, off, ea, Nat.lt_of_lt_of_le hb g.le, fun i p hp => ?_⟩
  obtain ⟨h1, h2, h3⟩ := hx i p hp
  exact ⟨(g.cells.1 b _ hb).trans h1, (g.cells.1 b _ hb).trans h2, (g.cells.1 b _ hb).trans h3⟩
theorem RdN.alloc {w : World} {v : Value} {l : List Nd} (h : RdN w v l) (o : Obj) : RdN (w.alloc o) v l := h.gr ((Gr.refl w).alloc o)
theorem RdN.drew {w : World} {v : Value} {l : List Nd} (h : RdN w v l) : RdN w.drew v l := h
theorem RdN.nil (w : World) : RdN w (.slice none 0 0) [] := ⟨none, 0, rfl, Nat.le_refl _, fun h => absurd rfl h⟩
theorem RdN.own {w : World} {base : Nat} {e : TypeId} {v : Value} {l : List Nd} (h : w.ownsRow base e 3 v l.length (flatN l)) : RdN w v l := by
  obtain ⟨hl, h⟩ := h
  rcases h with ⟨rfl, h0⟩ | ⟨g, cap, cur, rfl, _, hg, hn, _, hs, ht⟩
  · have : l = [] := List.eq_nil_of_length_eq_zero h0
    subst this
    exact RdN.nil w
  · refine ⟨_, _, rfl, hn, fun hne => ?_⟩
    have hlt : g < w.heap.size := by
      rcases Nat.lt_or_ge g w.heap.size with h | h
      · exact h
      · rw [Array.getElem?_eq_none h] at hg; cases hg
    refine ⟨g, 0, rfl, hlt, fun i p hp => ?_⟩
    have hi : i < l.length := (List.getElem?_eq_some_iff.1 hp).1
    have hf := flatN_at l i p hp
    rw [← ht] at hf
    have key : ∀ j, j < l.length * 3 → w.cell? ⟨g, 0 + j, none⟩ = (cur.toList.take (l.length * 3))[j]? := by
      intro j hj
      rw [List.getElem?_take_of_lt hj]
      simp [World.cell?, hg]
    have k2 := key (i * 3 + 1) (by omega)
    have k3 := key (i * 3 + 2) (by omega)
    rw [← Nat.add_assoc] at k2 k3
    exact ⟨(key (i * 3) (by omega)).trans hf.1, k2.trans hf.2.1, k3.trans hf.2.2⟩
theorem RdN.take {w : World} {a : Option Addr} {n c : Nat} {l : List Nd} (h : RdN w (.slice a n c) l) {k : Nat} (hk : k ≤ l.length) : RdN w (.slice a k c) (l.take k) := by
  obtain ⟨a', c', e, hc, h⟩ := h
  simp only [Value.slice.injEq] at e
  obtain ⟨rfl, rfl, rfl⟩ := e
  have hlen : (l.take k).length = k := by rw [List.length_take]; omega
  refine ⟨a, c, by rw [hlen], by rw [hlen]; omega, fun hne => ?_⟩
  obtain ⟨b, off, ea, hb, hx⟩ := h (by intro e; subst e; simp at hne)
  refine ⟨b, off, ea, hb, fun i p hp => ?_⟩
  have hi : i < k := by have := (List.getElem?_eq_some_iff.1 hp).1; omega
  rw [List.getElem?_take_of_lt hi] at hp
  exact hx i p hp
theorem rdN_form {w : World} {v : Value} {l : List Nd} (h : RdN w v l) : ∃ a c, v = .slice a l.length c ∧ l.length ≤ c := by
  obtain ⟨a, c, e, hc, _⟩ := h
  exact ⟨a, c, e, hc⟩
end Rm
namespace Go.Proofs.Ythnoafmdecehcaa
open Go.RowKit Rm
set_option linter.unusedVariables false

set_option maxHeartbeats 400000 in
set_option maxRecDepth 100000 in
theorem isEarlier_any (k i : Int) (w : World) :
    Calls Try.prog 82 #[.int .i64 k, .int .i64 i] w fun e w' => e = .returned (.bool (earB k i)) ∧ w' = w := by
  by_cases h1 : 0 ≤ k
  · by_cases h2 : k < i
    · have e : earB k i = true := by simp [earB, h1, h2]
      rw [e]
      go_enter Try.func82, Try.ntmps82
      go_wp2
      go_ret
      exact ⟨rfl, rfl⟩
    · have e : earB k i = false := by simp [earB, h2]
      rw [e]
      go_enter Try.func82, Try.ntmps82
      go_wp2
      go_ret
      exact ⟨rfl, rfl⟩
  · have e : earB k i = false := by simp [earB, h1]
    rw [e]
    go_enter Try.func82, Try.ntmps82
    go_wp2
    go_ret
    exact ⟨rfl, rfl⟩

theorem kind_no {k : Int} (h : kindB k = false) : (k == 1) = false ∧ (k == 2) = false ∧ (k == 3) = false ∧ (k == 4) = false ∧ (k == 5) = false ∧ (k == 6) = false := by
  simp [kindB] at h
  simp only [Bool.eq_false_iff, ne_eq, beq_iff_eq]
  omega

set_option maxHeartbeats 1000000 in
set_option maxRecDepth 100000 in
theorem checkNode_any (k a b i : Int) (w : World) :
    Calls Try.prog 49 #[.agg #[.int .i64 k, .int .i64 a, .int .i64 b], .int .i64 i] w fun e w' => e = .returned (.int .i64 (chkN (k, a, b) i)) ∧ Gr w w' := by
  cases hk : kindB k
  · obtain ⟨k1, k2, k3, k4, k5, k6⟩ := kind_no hk
    have e : chkN (k, a, b) i = 3 := by simp [chkN, hk]
    rw [e]
    clear e hk
    go_enter Try.func49, Try.ntmps49
    go_wp2
    go_ret
    exact ⟨rfl, (Gr.refl _).alloc _⟩
  · have e : chkN (k, a, b) i = if okN (k, a, b) i then 0 else 1 := by simp [chkN, hk]
    rw [e]
    clear e
    have hk' : k = 1 ∨ k = 2 ∨ k = 3 ∨ k = 4 ∨ k = 5 ∨ k = 6 := by simp [kindB] at hk; omega
    clear hk
    rcases hk' with rfl | rfl | rfl | rfl | rfl | rfl
    · have e : okN (1, a, b) i = true := rfl
      rw [e]
      clear e
      go_enter Try.func49, Try.ntmps49
      go_wp2
      go_ret
      exact ⟨rfl, (Gr.refl _).alloc _⟩
    · have e : okN (2, a, b) i = (decide (0 ≤ a) && decide (a < 4)) := rfl
      rw [e]
      clear e
      by_cases h1 : 0 ≤ a
      · by_cases h2 : a < 4
        · have e : (decide (0 ≤ a) && decide (a < 4)) = true := by simp [h1, h2]
          rw [e]
          clear e
          go_enter Try.func49, Try.ntmps49
          go_wp2
          go_ret
          exact ⟨rfl, (Gr.refl _).alloc _⟩
        · have e : (decide (0 ≤ a) && decide (a < 4)) = false := by simp [h2]
          rw [e]
          clear e
          go_enter Try.func49, Try.ntmps49
          go_wp2
          go_ret
          exact ⟨rfl, (Gr.refl _).alloc _⟩
      · have e : (decide (0 ≤ a) && decide (a < 4)) = false := by simp [h1]
        rw [e]
        clear e
        go_enter Try.func49, Try.ntmps49
        go_wp2
        go_ret
        exact ⟨rfl, (Gr.refl _).alloc _⟩
    · have e : okN (3, a, b) i = (decide (0 ≤ a) && decide (b ≤ 32) && decide (a < b)) := rfl
      rw [e]
      clear e
      by_cases h1 : 0 ≤ a
      · by_cases h2 : b ≤ 32
        · by_cases h3 : a < b
          · have e : (decide (0 ≤ a) && decide (b ≤ 32) && decide (a < b)) = true := by simp [h1, h2, h3]
            rw [e]
            clear e
            go_enter Try.func49, Try.ntmps49
            go_wp2
            go_ret
            exact ⟨rfl, (Gr.refl _).alloc _⟩
          · have e : (decide (0 ≤ a) && decide (b ≤ 32) && decide (a < b)) = false := by simp [h3]
            rw [e]
            clear e
            go_enter Try.func49, Try.ntmps49
            go_wp2
            go_ret
            exact ⟨rfl, (Gr.refl _).alloc _⟩
        · have e : (decide (0 ≤ a) && decide (b ≤ 32) && decide (a < b)) = false := by simp [h2]
          rw [e]
          clear e
          go_enter Try.func49, Try.ntmps49
          go_wp2
          go_ret
          exact ⟨rfl, (Gr.refl _).alloc _⟩
      · have e : (decide (0 ≤ a) && decide (b ≤ 32) && decide (a < b)) = false := by simp [h1]
        rw [e]
        clear e
        go_enter Try.func49, Try.ntmps49
        go_wp2
        go_ret
        exact ⟨rfl, (Gr.refl _).alloc _⟩
    · have e : okN (4, a, b) i = earB a i := rfl
      rw [e]
      clear e
      cases h : earB a i
      all_goals
        go_enter Try.func49, Try.ntmps49
        go_wp2_with fail
        refine (isEarlier_any _ _ _).mono ?_
        rw [h]
        rintro e w1 ⟨rfl, rfl⟩
        go_wp2_with fail
        go_ret
        exact ⟨rfl, (Gr.refl _).alloc _⟩
    all_goals
      first
        | rw [show okN (5, a, b) i = (earB a i && earB b i) from rfl]
        | rw [show okN (6, a, b) i = (earB a i && earB b i) from rfl]
      cases h : earB a i
      · go_enter Try.func49, Try.ntmps49
        go_wp2_with fail
        refine (isEarlier_any _ _ _).mono ?_
        rw [h]
        rintro e w1 ⟨rfl, rfl⟩
        go_wp2_with fail
        go_ret
        exact ⟨rfl, (Gr.refl _).alloc _⟩
      · cases h2 : earB b i
        all_goals
          go_enter Try.func49, Try.ntmps49
          go_wp2_with fail
          refine (isEarlier_any _ _ _).mono ?_
          rw [h]
          rintro e w1 ⟨rfl, rfl⟩
          go_wp2_with fail
          refine (isEarlier_any _ _ _).mono ?_
          rw [h2]
          rintro e w1 ⟨rfl, rfl⟩
          go_wp2_with fail
          go_ret
          exact ⟨rfl, (Gr.refl _).alloc _⟩

/-- a node alone in its block -/
def NdAt (w : World) (b : Nat) (n : Nd) : Prop := b < w.heap.size ∧ w.cell? ⟨b, 0, none⟩ = some (.int .i64 n.1) ∧ w.cell? ⟨b, 1, none⟩ = some (.int .i64 n.2.1) ∧ w.cell? ⟨b, 2, none⟩ = some (.int .i64 n.2.2)

set_option maxHeartbeats 1000000 in
set_option maxRecDepth 100000 in
theorem lcheck_any (v : Value) (l : List Nd) (w : World) (hr : RdN w v l) :
    Calls Try.prog 12 #[v] w fun e w' => e = .returned (.int .i64 (chkL l)) ∧ Gr w w' := by
  obtain ⟨a, cp, rfl, hcp, hx⟩ := hr
  by_cases h0 : l.length = 0
  · have e : chkL l = 2 := by simp [chkL, h0]
    rw [e]
    have hz : ((l.length : Int) == 0) = true := by rw [beq_iff_eq]; omega
    clear hx
    go_enter Try.func12, Try.ntmps12
    go_wp2
    go_ret
    exact ⟨rfl, Gr.refl _⟩
  · have hz : ((l.length : Int) == 0) = false := by rw [Bool.eq_false_iff]; intro h; rw [beq_iff_eq] at h; omega
    by_cases h30 : 30 < l.length
    · have e : chkL l = 2 := by simp [chkL, h30]
      rw [e]
      have hz2 : (30 : Int) < (l.length : Int) := by omega
      clear hx
      go_enter Try.func12, Try.ntmps12
      go_wp2
      go_ret
      exact ⟨rfl, Gr.refl _⟩
    · have e : chkL l = chkNs 0 l := by simp [chkL, h30]; intro e; subst e; simp at h0
      rw [e]
      clear e
      have hz2 : ¬ (30 : Int) < (l.length : Int) := by omega
      have HX := Lib.hid hx
      clear hx
      go_enter Try.func12, Try.ntmps12
      go_wp2
      go_loopw [16] (fun i wr => ∃ k : Nat, k ≤ l.length ∧ i = .int .i64 k ∧ Hid (chkNs 0 l = chkNs k (l.drop k)) ∧ Gr w wr) (fun i _ => l.length - (intOf i).toNat)
      case atStart => exact ⟨0, by omega, rfl, rfl, Gr.refl _⟩
      case round =>
        obtain ⟨k, hk, rfl, he, hg⟩ := hrel
        by_cases hlt : k < l.length
        · obtain ⟨⟨kd, na, nb⟩, hp⟩ : ∃ p, l[k]? = some p := ⟨_, List.getElem?_eq_getElem hlt⟩
          obtain ⟨b, off, rfl, hb, hcell⟩ := HX.out (by intro e; rw [e] at hlt; simp at hlt)
          obtain ⟨c1, c2, c3⟩ := hcell k _ hp
          rw [← hg.cells.1 b _ hb] at c1 c2 c3
          simp only at c1 c2 c3
          have hbr : b < wr.heap.size := Nat.lt_of_lt_of_le hb hg.le
          have hk30 : (k : Int) < 30 := by omega
          have HE := Lib.hid (he.out.trans (chkNs_drop hp))
          clear hcell hp he
          go_wp2_with fail
          refine (checkNode_any _ _ _ _ _).mono ?_
          rintro e w1 ⟨rfl, g1⟩
          have G1 := (hg.alloc (.cells #[.int .i64 kd, .int .i64 na, .int .i64 nb] 46)).trans g1
          clear g1
          cases hc : (chkN (kd, na, nb) (k : Int) == 0)
          · have hc' := bne_of' hc
            have HF : Hid (chkNs 0 l = chkN (kd, na, nb) (k : Int)) := by rw [HE.out, hc]; rfl
            clear HE
            go_wp2_with fail
            go_ret
            exact ⟨by rw [HF.out]; rfl, G1⟩
          · have hc' := bne_of hc
            have HF : Hid (chkNs 0 l = chkNs (k + 1) (l.drop (k + 1))) := by rw [HE.out, hc]; rfl
            clear HE
            go_wp2_with fail
            go_roundw
            case rel => exact ⟨k + 1, by omega, by go_num, HF, G1⟩
            case measure => simp [intOf]; omega
        · obtain rfl : k = l.length := by omega
          have HF : Hid (chkNs 0 l = 0) := by rw [he.out, List.drop_length]; rfl
          clear he
          go_wp2_with fail
          go_ret
          exact ⟨by rw [HF.out]; rfl, hg⟩
end Go.Proofs.Ythnoafmdecehcaa
