/- A filter with room behind it: reedkeep's room. -/
import Derived.Test.YtbodadddcbbjeaaOwnD
namespace Rm
open Go Go.RowKit
/-- the cells of boxes whose rows are at hand -/
def flatX (l : List ((Int × Int) × Value)) : List Value := l.flatMap fun b => [.int .i64 b.1.1, .int .i64 b.1.2, b.2]
theorem flatX_cons (p : (Int × Int) × Value) (l : List ((Int × Int) × Value)) : flatX (p :: l) = .int .i64 p.1.1 :: .int .i64 p.1.2 :: p.2 :: flatX l := rfl
theorem flatX_len (l : List ((Int × Int) × Value)) : (flatX l).length = l.length * 3 := by
  induction l with
  | nil => rfl
  | cons p l ih => rw [flatX_cons]; simp only [List.length_cons, ih]; omega
theorem flatX_at (l : List ((Int × Int) × Value)) (i : Nat) (p : (Int × Int) × Value) (h : l[i]? = some p) : (flatX l)[i * 3]? = some (.int .i64 p.1.1) ∧ (flatX l)[i * 3 + 1]? = some (.int .i64 p.1.2) ∧ (flatX l)[i * 3 + 2]? = some p.2 := by
  induction l generalizing i with
  | nil => simp at h
  | cons q l ih =>
    rw [flatX_cons]
    cases i with
    | zero => simp at h; subst h; simp
    | succ i =>
      have e : (i + 1) * 3 = i * 3 + 1 + 1 + 1 := by omega
      rw [e]
      simpa using ih i (by simpa using h)
theorem flatX_set (l : List ((Int × Int) × Value)) (i : Nat) (p : (Int × Int) × Value) (u : Value) (h : l[i]? = some p) : (flatX l).set (i * 3 + 2) u = flatX (l.set i (p.1, u)) := by
  induction l generalizing i with
  | nil => simp at h
  | cons q l ih =>
    cases i with
    | zero => simp at h; subst h; simp [flatX_cons]
    | succ i =>
      have e : (i + 1) * 3 + 2 = i * 3 + 2 + 1 + 1 + 1 := by omega
      rw [e, flatX_cons]
      simp only [List.set_cons_succ, flatX_cons]
      rw [ih i (by simpa using h)]
theorem rmX_set (l : List ((Int × Int) × Value)) (ys : List Value) (i : Nat) (p : (Int × Int) × Value) (u : Value) (h : l[i]? = some p) : (rmL (flatX l) ys).toArray.setIfInBounds (i * 3 + 2) u = (rmL (flatX (l.set i (p.1, u))) ys).toArray := by
  rw [List.setIfInBounds_toArray]
  unfold rmL
  have hi := (List.getElem?_eq_some_iff.1 h).1
  rw [List.set_append_left _ _ (by rw [flatX_len]; omega), flatX_set l i p u h]
theorem rmX_at (l : List ((Int × Int) × Value)) (ys : List Value) (i : Nat) (p : (Int × Int) × Value) (h : l[i]? = some p) : (rmL (flatX l) ys).toArray[i * 3]? = some (.int .i64 p.1.1) ∧ (rmL (flatX l) ys).toArray[i * 3 + 1]? = some (.int .i64 p.1.2) ∧ (rmL (flatX l) ys).toArray[i * 3 + 2]? = some p.2 := by
  have hi := (List.getElem?_eq_some_iff.1 h).1
  have hl := flatX_len l
  obtain ⟨a, b, c⟩ := flatX_at l i p h
  unfold rmL
  simp only [List.getElem?_toArray]
  refine ⟨?_, ?_, ?_⟩ <;> rw [List.getElem?_append_left (by omega)] <;> assumption
end Rm
namespace Go.Proofs.Ytbodadddcbbjeaa
open Go.RowKit Rm
set_option linter.unusedVariables false
/-- a slice of boxes at hand: its cells, and each box's row -/
def RdX (w : World) (v : Value) (l : List BoxI) : Prop := ∃ O : List ((Int × Int) × Value), O.length = l.length ∧ RdC 3 w v l.length (flatX O) ∧
  ∀ (k : Nat) (p : BoxI) (q : (Int × Int) × Value), l[k]? = some p → O[k]? = some q → q.1 = p.1 ∧ RdC 2 w q.2 p.2.length (flat p.2)
/-- a row of spans with room behind it -/
def Rmd (lo : Nat) (w : World) (v : Value) (ps : List (Int × Int)) : Prop := ∃ g, v = .slice (some ⟨g, 0, none⟩) ps.length (ps.length + 3) ∧ lo ≤ g ∧ w.heap[g]? = some (.cells (rmL (flat ps) [.int .i64 78, .int .i64 0]).toArray 53 (0, 0))
theorem Rmd.gr {lo : Nat} {w w' : World} {v : Value} {ps : List (Int × Int)} (h : Rmd lo w v ps) (g : Gr w w') : Rmd lo w' v ps := by
  obtain ⟨q, a, b, c⟩ := h
  exact ⟨q, a, b, (Below.block g _ (Blk_lt c)).trans c⟩
theorem Rmd.set {lo B o : Nat} {w : World} {v u : Value} {ps : List (Int × Int)} {cur : Array Value} (h : Rmd lo w v ps) (hB : w.heap[B]? = some (.cells cur 72 (0, 0))) : Rmd lo (w.setCell ⟨B, o, none⟩ u) v ps := by
  obtain ⟨q, a, b, c⟩ := h
  refine ⟨q, a, b, ?_⟩
  rw [heap_setCell_other _ _ _ _ ?_]
  · exact c
  · rintro rfl
    rw [hB] at c
    simp at c
/-- a filter with room behind it -/
def RmF (lo : Nat) (w : World) (v : Value) (l : List BoxI) : Prop := ∃ g O, v = .slice (some ⟨g, 0, none⟩) l.length (l.length + 3) ∧ lo ≤ g ∧ O.length = l.length ∧ w.heap[g]? = some (.cells (rmL (flatX O) [.int .i64 77, .int .i64 0, .slice none 0 0]).toArray 72 (0, 0)) ∧
  ∀ (k : Nat) (p : BoxI) (q : (Int × Int) × Value), l[k]? = some p → O[k]? = some q → q.1 = p.1 ∧ Rmd lo w q.2 p.2
theorem RmF.gr {lo : Nat} {w w' : World} {v : Value} {l : List BoxI} (h : RmF lo w v l) (g : Gr w w') : RmF lo w' v l := by
  obtain ⟨q, O, a, b, c, d, e⟩ := h
  exact ⟨q, O, a, b, c, (Below.block g _ (Blk_lt d)).trans d, fun k p r h1 h2 => ⟨(e k p r h1 h2).1, (e k p r h1 h2).2.gr g⟩⟩
set_option maxHeartbeats 2000000 in
set_option maxRecDepth 100000 in
theorem room_ok {v : Value} {l : List BoxI} {w : World} (hr : RdX w v l) (hl : l.length * 40 ≤ 2 ^ 47) (hb : ∀ p ∈ l, p.2.length * 16 ≤ 2 ^ 47) :
    Calls Try.prog 14 #[v] w fun e w' => ∃ u, e = .returned u ∧ Gr w w' ∧ RmF w.heap.size w' u l := by
  obtain ⟨O, hO, hc, hO2⟩ := hr
  have HA := Lib.hid hc
  have HO := Lib.hid hO2
  have HB := Lib.hid hb
  obtain ⟨a, cp, rfl⟩ : ∃ a cp, v = .slice a l.length cp := by
    rcases hc.2.2 with ⟨rfl, e⟩ | ⟨ad, c, rfl, _⟩
    · rw [e]; exact ⟨_, _, rfl⟩
    · exact ⟨_, _, rfl⟩
  have hl' : (l.length : Int) ≤ 140737488355328 := by omega
  clear hc hO2 hb
  go_enter Try.func14, Try.ntmps14
  go_wp2_with (go_at_call 41; refine (roomyB _ _ _ 77 0 _ HA.out hl).mono ?_; rintro e w1 ⟨g, rfl, g1, hgw, hg⟩)
  have HG := Lib.hid hg
  have G1 := Lib.hid g1
  clear hg g1
  go_loopw [11] (fun i wr => ∃ k : Nat, k ≤ l.length ∧ i = .int .i64 k ∧ Gr w wr ∧ ∃ O, O.length = l.length ∧ wr.heap[g]? = some (.cells (rmL (flatX O) [.int .i64 77, .int .i64 0, .slice none 0 0]).toArray 72 (0, 0)) ∧
      ∀ (j : Nat) (p : BoxI) (q : (Int × Int) × Value), l[j]? = some p → O[j]? = some q → q.1 = p.1 ∧ (j < k → Rmd w.heap.size wr q.2 p.2) ∧ (k ≤ j → RdC 2 w q.2 p.2.length (flat p.2))) (fun i _ => l.length - (intOf i).toNat)
  case atStart => exact ⟨0, by omega, rfl, G1.out, O, hO, HG.out, fun j p q h1 h2 => ⟨(HO.out j p q h1 h2).1, fun h => absurd h (Nat.not_lt_zero _), fun _ => (HO.out j p q h1 h2).2⟩⟩
  case round =>
    obtain ⟨k, hk, rfl, hgr, O2, hO2, hcur, hall⟩ := hrel
    by_cases hlt : k < l.length
    · have hlt' : (k : Int) < (l.length : Int) := by omega
      have hk0 : (0 : Int) ≤ (k : Int) := by omega
      have hk3 : (k : Int) < 140737488355328 := by omega
      obtain ⟨p, hp⟩ : ∃ p, l[k]? = some p := ⟨_, List.getElem?_eq_getElem hlt⟩
      obtain ⟨q, hq⟩ : ∃ q, O2[k]? = some q := ⟨_, List.getElem?_eq_getElem (by omega)⟩
      have hm := HB.out _ (List.mem_of_getElem? hp)
      have R := (hall k p q hp hq).2.2 (Nat.le_refl _)
      have HR := Lib.hid R
      obtain ⟨x0, x1, x2⟩ := rmX_at O2 [.int .i64 77, .int .i64 0, .slice none 0 0] k q hq
      rw [← cell_of_row _ _ _ _ _ _ hcur] at x0 x1 x2
      obtain ⟨qa, sv⟩ := q
      obtain ⟨sa, sc, rfl⟩ : ∃ sa sc, sv = .slice sa p.2.length sc := by
        rcases R.2.2 with ⟨e, e2⟩ | ⟨ad, c, e, _⟩
        · rw [e2]; exact ⟨_, _, e⟩
        · exact ⟨_, _, e⟩
      have f2 := frozen_of_row wr g (k * 3 + 2) _ _ hcur
      have hgl := Blk_lt hcur
      have HC := Lib.hid hcur
      have HL := Lib.hid hall
      simp only at x0 x1 x2
      have HS : Hid (∀ W, Gr w W → Calls Try.prog 42 #[.slice sa p.2.length sc, .agg #[.int .i64 78, .int .i64 0]] W fun e w' => ∃ g, e = .returned (.slice (some ⟨g, 0, none⟩) p.2.length (p.2.length + 3)) ∧ Gr W w' ∧ W.heap.size ≤ g ∧ w'.heap[g]? = some (.cells (rmL (flat p.2) [.int .i64 78, .int .i64 0]).toArray 53 (0, 0))) := fun W gW => roomyS _ _ _ 78 0 _ (HR.out.gr gW) hm
      clear hcur hall R hm
      go_wp2_with fail
      refine (HS.out _ hgr).mono ?_
      rintro e w2 ⟨g2, rfl, gr2, hg2w, hg2⟩
      have hc2 := (Below.block gr2 _ hgl).trans HC.out
      have x3 := (World.cell?_of_block (a := ⟨g, k * 3 + 2, none⟩) (Below.block gr2 _ hgl)).trans x2
      have f3 := frozen_of_row w2 g (k * 3 + 2) _ _ hc2
      have hne : g ≠ g2 := by omega
      have HC2 := Lib.hid hc2
      have HG2 := Lib.hid hg2
      clear hc2 hg2 x0 x1 x2 f2
      go_wp2_with fail
      go_roundw
      case rel =>
        refine ⟨k + 1, by omega, by go_num, (hgr.trans gr2).setCell (p := ⟨g, k * 3 + 2, none⟩) hgw _, O2.set k (qa, .slice (some ⟨g2, 0, none⟩) p.2.length (p.2.length + 3)), by simpa using hO2, ?_, fun j p' q' h1 h2 => ?_⟩
        · rw [heap_setCell_same _ _ (k * 3 + 2) _ _ _ HC2.out, rmX_set O2 _ k _ _ hq]
        · by_cases hj : j = k
          · subst hj
            rw [hp] at h1
            cases h1
            rw [List.getElem?_set_self (by omega)] at h2
            cases h2
            refine ⟨(HL.out _ _ _ hp hq).1, fun _ => ?_, fun h => absurd h (by omega)⟩
            exact Rmd.set ⟨g2, rfl, Nat.le_trans hgr.le hg2w, HG2.out⟩ HC2.out
          · rw [List.getElem?_set_ne (by omega)] at h2
            obtain ⟨i1, i2, i3⟩ := HL.out j p' q' h1 h2
            exact ⟨i1, fun h => ((i2 (by omega)).gr gr2).set HC2.out, fun h => i3 (by omega)⟩
      case measure => simp [intOf]; omega
    · obtain rfl : k = l.length := by omega
      have HC := Lib.hid hcur
      have HL := Lib.hid hall
      clear hcur hall
      go_wp2_with fail
      go_ret
      exact ⟨_, rfl, hgr, g, O2, rfl, hgw, hO2, HC.out, fun j p q h1 h2 => ⟨(HL.out j p q h1 h2).1, (HL.out j p q h1 h2).2.1 (List.getElem?_eq_some_iff.1 h1).1⟩⟩
end Go.Proofs.Ytbodadddcbbjeaa
