/- The contracts of the document's own filters: Filter, Point, At, Many, and the set of all points as an array. -/
import Derived.Test.YthnoafmdecehcaaFilL
import Derived.Test.YthnoafmdecehcaaSetB
import Derived.Test.YthnoafmdecehcaaDoc1
import Derived.Test.YthnoafmdecehcaaSayA
namespace Rm
open Go Go.RowKit
/-- a set of numbers below n, one by one, as an array of bools -/
def gArr (n : Nat) (s : Nat → Bool) : Array Value := ((List.range n).map fun i => Value.bool (s i)).toArray
theorem gArr_size (n : Nat) (s : Nat → Bool) : (gArr n s).size = n := by simp [gArr]
theorem gArr_at (n : Nat) (s : Nat → Bool) (i : Nat) (h : i < n) : (gArr n s)[i]? = some (.bool (s i)) := by simp [gArr, h]
theorem gArr_ext {n : Nat} {s t : Nat → Bool} (h : ∀ i, i < n → s i = t i) : gArr n s = gArr n t := by
  unfold gArr
  congr 1
  apply List.map_congr_left
  intro i hi
  rw [h i (List.mem_range.1 hi)]
theorem gArr_set (n : Nat) (s : Nat → Bool) (k : Nat) (b : Bool) : (gArr n s).setIfInBounds k (.bool b) = gArr n (fun i => if i = k then b else s i) := by
  apply Array.ext
  · simp [gArr]
  · intro i h1 h2
    simp [gArr] at h1 h2 ⊢
    by_cases e : i = k
    · subst e; simp
    · have : ¬ k = i := fun h => e h.symm
      simp [this, e]
theorem gArr_one (n : Nat) (s : Nat → Bool) : (gArr n s).all (·.oneCell') = true := by
  simp only [gArr, List.all_toArray, List.all_map, List.all_eq_true]
  intro i _
  rfl
/-- the points, one by one, as an array of bools -/
def pArr (s : Nat → Bool) : Array Value := gArr 512 s
theorem pArr_size (s : Nat → Bool) : (pArr s).size = 512 := gArr_size 512 s
theorem pArr_at (s : Nat → Bool) (i : Nat) (h : i < 512) : (pArr s)[i]? = some (.bool (s i)) := gArr_at 512 s i h
theorem pArr_ext {s t : Nat → Bool} (h : ∀ i, i < 512 → s i = t i) : pArr s = pArr t := gArr_ext h
theorem pArr_set (s : Nat → Bool) (k : Nat) (b : Bool) : (pArr s).setIfInBounds k (.bool b) = pArr (fun i => if i = k then b else s i) := gArr_set 512 s k b
theorem pArr_one (s : Nat → Bool) : (pArr s).all (·.oneCell') = true := gArr_one 512 s
/-- how many of the first k -/
def cntP (s : Nat → Bool) : Nat → Nat
  | 0 => 0
  | k + 1 => cntP s k + if s k then 1 else 0
theorem cntP_le (s : Nat → Bool) : ∀ k, cntP s k ≤ k
  | 0 => Nat.le_refl _
  | k + 1 => by simp only [cntP]; have := cntP_le s k; split <;> omega
end Rm
namespace Go.Proofs.Ythnoafmdecehcaa
open Go.RowKit Rm
set_option linter.unusedVariables false

theorem points_info : (Try.prog.info? 33).map (·.size) = some 512 := by kernel_rfl
theorem pinfo (s : Nat → Bool) : (Try.prog.info? 33).map (·.size) = some (pArr s).size := by rw [pArr_size]; exact points_info
theorem index_points (f : Nat → Bool) (k : Nat) (hk : k < 512) (w : World) : (Instr.index 33 (.agg (pArr f)) (.int .i64 (k : Int))).run Try.prog w = .ok (.bool (f k)) w := by
  have hz : (sizeOf 4).run Try.prog w = .ok 1 w := by
    cases hq : Try.prog.info? 4 with
    | none => have := bool_info; rw [hq] at this; simp at this
    | some i =>
      have hs : i.size = 1 := by have := bool_info; rw [hq] at this; simpa using this
      simp [sizeOf, typeInfo, hq, hs]
  have hc := pArr_at f k hk
  simp [Instr.index, Sem.run_bind, run_underlying Try.underlying33, asIntOf, part, hz, hc]
  intro h
  omega

set_option maxHeartbeats 1000000 in
set_option maxRecDepth 100000 in
theorem at_any (s : Nat → Bool) (a b : Nat) (ha : a < 16) (hb : b < 32) (w : World) :
    Calls Try.prog 16 #[.agg (pArr s), .agg #[.int .i64 a, .int .i64 b]] w fun e w' => e = .returned (.bool (s (32 * a + b))) ∧ Gr w w' := by
  have ha' : (a : Int) < 16 := by omega
  have hb' : (b : Int) < 32 := by omega
  obtain ⟨c, hcc⟩ : ∃ c, c = 32 * a + b := ⟨_, rfl⟩
  rw [← hcc]
  have hc : ((w.alloc (.cells (pArr s) 33)).alloc (.cells #[.int .i64 (a : Int), .int .i64 (b : Int)] 24)).cell? ⟨w.heap.size, c, none⟩ = some (.bool (s c)) := by
    rw [cell_of_row _ _ _ _ _ _ (heap_alloc2_old _ _ _), pArr_at _ _ (by omega)]
  have hi : (32 : Int) * (a : Int) + (b : Int) = (c : Int) := by omega
  have h512 : (c : Int) < 512 := by omega
  clear hcc
  go_enter Try.func16, Try.ntmps16
  go_wp2_with fail
  go_ret
  exact ⟨rfl, ((Gr.refl _).alloc _).alloc _⟩

theorem rwithin31 (x : Int) (w : World) :
    Calls Try.prog 48 #[.int .i64 x, .int .i64 0, .int .i64 31] w fun e w' => e = .returned (.bool (decide (0 ≤ x) && decide (x < 32))) ∧ w = w' := by
  by_cases h0 : 0 ≤ x
  · by_cases h1 : x ≤ 31
    · have ht : (decide (0 ≤ x) && decide (x < 32)) = true := by simp [h0]; omega
      rw [ht]
      go_enter Try.func48, Try.ntmps48
      go_wp2
      go_ret
      exact ⟨rfl, rfl⟩
    · have ht : (decide (0 ≤ x) && decide (x < 32)) = false := by simp; omega
      rw [ht]
      go_enter Try.func48, Try.ntmps48
      go_wp2
      go_ret
      exact ⟨rfl, rfl⟩
  · have ht : (decide (0 ≤ x) && decide (x < 32)) = false := by simp [h0]
    rw [ht]
    go_enter Try.func48, Try.ntmps48
    go_wp2
    go_ret
    exact ⟨rfl, rfl⟩
set_option maxHeartbeats 1000000 in
set_option maxRecDepth 100000 in
theorem rpoint_any (t n : Int) (w : World) :
    Calls Try.prog 15 #[.agg #[.int .i64 t, .int .i64 n]] w fun e w' => e = .returned (.bool (pointB t n)) ∧ Gr w w' := by
  have ep : pointB t n = (tagsB t && (decide (0 ≤ n) && decide (n < 32))) := by
    unfold pointB tagsB
    have : decide (t < 16) = decide (t ≤ 15) := by simp; omega
    rw [this]
  rw [ep]
  cases h1 : tagsB t
  · go_enter Try.func15, Try.ntmps15
    go_wp2_with fail
    refine (rwithin_any _ _).mono ?_
    rw [h1]
    rintro e w' ⟨rfl, rfl⟩
    go_wp2_with fail
    go_ret
    exact ⟨rfl, (Gr.refl _).alloc _⟩
  · generalize hd : (decide (0 ≤ n) && decide (n < 32)) = d
    go_enter Try.func15, Try.ntmps15
    go_wp2_with fail
    refine (rwithin_any _ _).mono ?_
    rw [h1]
    rintro e w' ⟨rfl, rfl⟩
    go_wp2_with fail
    refine (rwithin31 _ _).mono ?_
    rw [hd]
    rintro e w' ⟨rfl, rfl⟩
    cases d
    · go_wp2_with fail
      go_ret
      exact ⟨rfl, (Gr.refl _).alloc _⟩
    · go_wp2_with fail
      go_ret
      exact ⟨rfl, (Gr.refl _).alloc _⟩

set_option maxHeartbeats 1000000 in
set_option maxRecDepth 100000 in
theorem rfilter_any (v : Value) (l : List BoxI) (w : World) (hr : RdF w v l) :
    Calls Try.prog 18 #[v] w fun e w' => e = .returned (.int .i64 (chkF l)) ∧ Gr w w' := by
  obtain ⟨a, cp, rfl, hcp, hx⟩ := hr
  by_cases h40 : 40 < l.length
  · have e : chkF l = 2 := by simp [chkF, h40]
    rw [e]
    have hz : (40 : Int) < (l.length : Int) := by omega
    clear hx
    go_enter Try.func18, Try.ntmps18
    go_wp2
    go_ret
    exact ⟨rfl, Gr.refl _⟩
  · have e : chkF l = chkFGo l := by simp [chkF, h40]
    rw [e]
    clear e
    have hz : ¬ (40 : Int) < (l.length : Int) := by omega
    have HX := Lib.hid hx
    clear hx
    go_enter Try.func18, Try.ntmps18
    go_wp2
    go_loopw [12] (fun i wr => ∃ k : Nat, k ≤ l.length ∧ i = .int .i64 k ∧ Hid (chkFGo l = chkFGo (l.drop k)) ∧ Gr w wr) (fun i _ => l.length - (intOf i).toNat)
    case atStart => exact ⟨0, by omega, rfl, rfl, Gr.refl _⟩
    case round =>
      obtain ⟨k, hk, rfl, hh, hg⟩ := hrel
      generalize wr = wo at *
      by_cases hlt : k < l.length
      · obtain ⟨⟨⟨y, n⟩, s⟩, hp⟩ : ∃ p, l[k]? = some p := ⟨_, List.getElem?_eq_getElem hlt⟩
        obtain ⟨b, off, rfl, hb, hcell⟩ := HX.out (by intro e; rw [e] at hlt; simp at hlt)
        obtain ⟨sv, c1, c2, c3, hs⟩ := hcell k _ hp
        rw [← hg.cells.1 b _ hb] at c1 c2 c3
        simp only at c1 c2 c3 hs
        obtain ⟨sa, sc, rfl⟩ := rd2_form hs
        have hs1 := Lib.hid (hs.gr hg)
        have hbr : b < wo.heap.size := Nat.lt_of_lt_of_le hb hg.le
        have HH : Hid (chkFGo l = if chkB ((y, n), s) == 0 then chkFGo (l.drop (k + 1)) else chkB ((y, n), s)) := by
          rw [hh.out, fdrop_at hp]; rfl
        clear hh hcell hs hp
        have hk16 : (k : Int) ≤ 40 := by omega
        cases hc : (chk y n == 0)
        · have hc' := bne_of' hc
          have E1 : Hid (chkFGo l = chk y n) := by
            have := HH.out
            simp only [chkB, hc, Bool.false_eq_true, if_false] at this
            exact this
          clear HH
          go_wp2_with fail
          refine (rcube_any _ _ _).mono ?_
          rintro e w1 ⟨rfl, g1⟩
          go_wp2_with fail
          go_ret
          exact ⟨by rw [E1.out]; rfl, (hg.alloc _).trans g1⟩
        · have hc' := bne_of hc
          cases hd : (chkS s == 0)
          · have hd' := sbne_of' hd
            have E1 : Hid (chkFGo l = chkS s) := by
              have := HH.out
              simp only [chkB, hc, if_true, hd, Bool.false_eq_true, if_false] at this
              exact this
            clear HH
            go_wp2_with fail
            refine (rcube_any _ _ _).mono ?_
            rintro e w1 ⟨rfl, g1⟩
            obtain ⟨k1, k2⟩ := g1.cells
            go_wp2_with fail
            refine (rspans_any _ _ _ ((hs1.out.alloc _).gr g1)).mono ?_
            rintro e w2 ⟨rfl, g2⟩
            go_wp2_with fail
            go_ret
            exact ⟨by rw [E1.out]; rfl, ((hg.alloc _).trans g1).trans g2⟩
          · have hd' := sbne_of hd
            have E1 : Hid (chkFGo l = chkFGo (l.drop (k + 1))) := by
              have := HH.out
              simp only [chkB, hc, if_true, hd] at this
              exact this
            clear HH
            go_wp2_with fail
            refine (rcube_any _ _ _).mono ?_
            rintro e w1 ⟨rfl, g1⟩
            obtain ⟨k1, k2⟩ := g1.cells
            go_wp2_with fail
            refine (rspans_any _ _ _ ((hs1.out.alloc _).gr g1)).mono ?_
            rintro e w2 ⟨rfl, g2⟩
            go_wp2_with fail
            go_roundw
            case rel => exact ⟨k + 1, by omega, by go_num, E1, ((hg.alloc _).trans g1).trans g2⟩
            case measure => simp [intOf]; omega
      · obtain rfl : k = l.length := by omega
        have E1 : Hid (chkFGo l = 0) := by rw [hh.out, List.drop_length]; rfl
        clear hh
        go_wp2
        go_ret
        exact ⟨by rw [E1.out]; rfl, hg⟩
end Go.Proofs.Ythnoafmdecehcaa
