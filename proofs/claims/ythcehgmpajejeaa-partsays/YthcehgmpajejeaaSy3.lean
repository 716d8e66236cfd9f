/- Joined: FilA, FilE, FilK, FilL, FilS, PtC, PtD, PtE, In16, Doc1, SetC, RefA, RefB, RefC, RefE, PtR, PtS, PtT, PtU, PtV, MkSort, MkComp. -/
import Derived.Test.YthcehgmpajejeaaSy2
import Derived.StillTailTactics
import Derived.Deep.RegionHeld3
import Derived.Deep.AppendLies
import Derived.Deep.DrawnRows
import Derived.Laws.Bits128
import Derived.ChangeKeysEq
import Derived.LoopTactic
import Derived.BigRegion
import Derived.Great.Walk
/- Joined: FilP, FilA, FilB, FilC, FilD. -/
/- The plain mathematics of filters: boxes as they are read, valid boxes, the table of a filter. -/
namespace Rm
open Go Go.RowKit

/-- a box, as it is read -/
abbrev BoxI := (Int × Int) × List (Int × Int)
/-- what Check says of a box -/
def chkB (b : BoxI) : Int := if chk b.1.1 b.1.2 == 0 then chkS b.2 else chk b.1.1 b.1.2
def chkFGo : List BoxI → Int
  | [] => 0
  | b :: r => if chkB b == 0 then chkFGo r else chkB b
/-- what Check says of a filter -/
def chkF (l : List BoxI) : Int := if 40 < l.length then 2 else chkFGo l
/-- a valid box: the tags that must be, the tags that must not be, the numbers as a mask -/
abbrev Bx := (Nat × Nat) × Nat
def OkB (b : Bx) : Prop := Vld b.1.1 b.1.2 ∧ b.2 < 2 ^ 32
def OkF (F : List Bx) : Prop := ∀ b ∈ F, OkB b
def boxI (b : Bx) : BoxI := (((b.1.1 : Nat), (b.1.2 : Nat)), pairs (canon b.2))
theorem chkB_of {b : Bx} (h : OkB b) : chkB (boxI b) = 0 := by
  unfold chkB boxI
  simp only
  rw [h.1.chk, chkS_of (canon_VF b.2)]
  rfl
theorem okB_of {b : BoxI} (h : chkB b = 0) : ∃ B : Bx, b = boxI B ∧ OkB B := by
  obtain ⟨⟨y, n⟩, s⟩ := b
  unfold chkB at h
  simp only at h
  split at h
  · rename_i h0
    obtain ⟨a, c, hv, rfl, rfl⟩ := Vld.of (by simpa using h0)
    obtain ⟨L, rfl, hL⟩ := valid_of h
    exact ⟨((a, c), maskL L), by simp [boxI, canon_maskL hL], hv, maskL_lt hL.le⟩
  · rename_i h0
    rw [h] at h0
    simp at h0
theorem chkFGo_of {F : List Bx} (h : OkF F) : chkFGo (F.map boxI) = 0 := by
  induction F with
  | nil => rfl
  | cons b F ih =>
    show (if chkB (boxI b) == 0 then chkFGo (F.map boxI) else chkB (boxI b)) = 0
    rw [chkB_of (h b (List.mem_cons_self ..)), ih (fun c hc => h c (List.mem_cons_of_mem _ hc))]
    rfl
theorem okFGo_of {l : List BoxI} (h : chkFGo l = 0) : ∃ F, l = F.map boxI ∧ OkF F := by
  induction l with
  | nil => exact ⟨[], rfl, fun b hb => by cases hb⟩
  | cons b l ih =>
    unfold chkFGo at h
    split at h
    · rename_i h0
      obtain ⟨B, rfl, hB⟩ := okB_of (by simpa using h0)
      obtain ⟨F, rfl, hF⟩ := ih h
      refine ⟨B :: F, rfl, fun c hc => ?_⟩
      rcases List.mem_cons.1 hc with rfl | hc
      · exact hB
      · exact hF c hc
    · rename_i h0
      rw [h] at h0
      simp at h0
theorem chkF_of {F : List Bx} (h : OkF F) (hl : F.length ≤ 40) : chkF (F.map boxI) = 0 := by
  unfold chkF
  rw [if_neg (by simp; omega)]
  exact chkFGo_of h
theorem okF_of {l : List BoxI} (h : chkF l = 0) : ∃ F, l = F.map boxI ∧ OkF F ∧ F.length ≤ 40 := by
  unfold chkF at h
  split at h
  · omega
  · rename_i h0
    obtain ⟨F, rfl, hF⟩ := okFGo_of h
    exact ⟨F, rfl, hF, by simpa using h0⟩

/-- is a combination of tags in the cube of a box? -/
def inC (b : Bx) (t : Nat) : Bool := hasR (b.1.1 : Nat) (b.1.2 : Nat) (t : Nat)
/-- the numbers that a filter has for a combination of tags -/
def addB (t m : Nat) (b : Bx) : Nat := if inC b t then m ||| b.2 else m
def tabF (F : List Bx) (t : Nat) : Nat := F.foldl (addB t) 0
theorem tabF_nil (t : Nat) : tabF [] t = 0 := rfl
theorem tabF_snoc (F : List Bx) (b : Bx) (t : Nat) : tabF (F ++ [b]) t = addB t (tabF F t) b := by simp [tabF]
theorem tabF_take {F : List Bx} {k : Nat} {b : Bx} (h : F[k]? = some b) (t : Nat) : tabF (F.take (k + 1)) t = addB t (tabF (F.take k) t) b := by
  obtain ⟨hk, e⟩ := List.getElem?_eq_some_iff.1 h
  rw [List.take_succ_eq_append_getElem hk, e, tabF_snoc]
theorem foldB_lt (F : List Bx) (t m : Nat) (hm : m < 2 ^ 32) (h : OkF F) : F.foldl (addB t) m < 2 ^ 32 := by
  induction F generalizing m with
  | nil => exact hm
  | cons b F ih =>
    refine ih _ ?_ (fun c hc => h c (List.mem_cons_of_mem _ hc))
    unfold addB
    split
    · exact Nat.or_lt_two_pow hm (h b (List.mem_cons_self ..)).2
    · exact hm
theorem tabF_lt {F : List Bx} (h : OkF F) (t : Nat) : tabF F t < 2 ^ 32 := foldB_lt F t 0 (by decide) h
theorem OkF.take {F : List Bx} (h : OkF F) (k : Nat) : OkF (F.take k) := fun b hb => h b (List.mem_of_mem_take hb)
end Rm
/- A slice of boxes reads as a list; the contract of filter.Check. -/
namespace Go.Proofs.Ythcehgmpajejeaa
open Go.RowKit Rm
set_option linter.unusedVariables false

/-- a slice of boxes reads as a list -/
def RdF (w : World) (v : Value) (l : List BoxI) : Prop :=
  ∃ a c, v = .slice a l.length c ∧ l.length ≤ c ∧ (l ≠ [] → ∃ b off, a = some ⟨b, off, none⟩ ∧ b < w.heap.size ∧
    ∀ i p, l[i]? = some p → ∃ sv, w.cell? ⟨b, off + i * 3, none⟩ = some (.int .i64 p.1.1) ∧ w.cell? ⟨b, off + i * 3 + 1, none⟩ = some (.int .i64 p.1.2) ∧ w.cell? ⟨b, off + i * 3 + 2, none⟩ = some sv ∧ Rd2 w sv p.2)
theorem RdF.gr {w w' : World} {v : Value} {l : List BoxI} (h : RdF w v l) (g : Gr w w') : RdF w' v l := by
  obtain ⟨a, c, e, hc, h⟩ := h
  refine ⟨a, c, e, hc, fun hl => ?_⟩
  obtain ⟨b, off, ea, hb, hx⟩ := h hl
  refine ⟨b, off, ea, Nat.lt_of_lt_of_le hb g.le, fun i p hp => ?_⟩
  obtain ⟨sv, h1, h2, h3, h4⟩ := hx i p hp
  exact ⟨sv, (g.cells.1 b _ hb).trans h1, (g.cells.1 b _ hb).trans h2, (g.cells.1 b _ hb).trans h3, h4.gr g⟩
theorem RdF.alloc {w : World} {v : Value} {l : List BoxI} (h : RdF w v l) (o : Obj) : RdF (w.alloc o) v l := h.gr ((Gr.refl w).alloc o)
theorem RdF.nil (w : World) : RdF w (.slice none 0 0) [] := ⟨none, 0, rfl, Nat.le_refl _, fun h => absurd rfl h⟩

theorem rd2_form {w : World} {v : Value} {l : List (Int × Int)} (h : Rd2 w v l) : ∃ a c, v = .slice a l.length c := by
  obtain ⟨a, c, e, _⟩ := h
  exact ⟨a, c, e⟩

theorem fdrop_at {l : List BoxI} {k : Nat} {p : BoxI} (h : l[k]? = some p) : l.drop k = p :: l.drop (k + 1) := by
  obtain ⟨hk, e⟩ := List.getElem?_eq_some_iff.1 h
  rw [List.drop_eq_getElem_cons hk, e]

set_option maxHeartbeats 1000000 in
set_option maxRecDepth 100000 in
theorem fcheck_any (v : Value) (l : List BoxI) (w : World) (hr : RdF w v l) :
    Calls Try.prog 26 #[v] w fun e w' => e = .returned (.int .i64 (chkF l)) ∧ Gr w w' := by
  obtain ⟨a, cp, rfl, hcp, hx⟩ := hr
  by_cases h40 : 40 < l.length
  · have e : chkF l = 2 := by simp [chkF, h40]
    rw [e]
    have hz : (40 : Int) < (l.length : Int) := by omega
    clear hx
    go_enter Try.func26, Try.ntmps26
    go_wp2
    go_ret
    exact ⟨rfl, Gr.refl _⟩
  · have e : chkF l = chkFGo l := by simp [chkF, h40]
    rw [e]
    clear e
    have hz : ¬ (40 : Int) < (l.length : Int) := by omega
    have HX := Lib.hid hx
    clear hx
    go_enter Try.func26, Try.ntmps26
    go_wp2
    go_loopw [12] (fun i wr => ∃ k : Nat, k ≤ l.length ∧ i = .int .i64 k ∧ Hid (chkFGo l = chkFGo (l.drop k)) ∧ Gr w wr) (fun i _ => l.length - (intOf i).toNat)
    case atStart => exact ⟨0, by omega, rfl, rfl, Gr.refl _⟩
    case round =>
      obtain ⟨k, hk, rfl, hh, hg⟩ := hrel
      generalize wr = wo at *
      by_cases hlt : k < l.length
      · obtain ⟨⟨⟨y, n⟩, s⟩, hp⟩ : ∃ p, l[k]? = some p := ⟨_, List.getElem?_eq_getElem hlt⟩
        obtain ⟨b, off, rfl, hb, hcell⟩ := HX.out (by intro e; rw [e] at hlt; simp at hlt)
        obtain ⟨sv, c1, c2, c3, hs⟩ := hcell k _ hp
        rw [← hg.cells.1 b _ hb] at c1 c2 c3
        simp only at c1 c2 c3 hs
        obtain ⟨sa, sc, rfl⟩ := rd2_form hs
        have hs1 := Lib.hid (hs.gr hg)
        have hbr : b < wo.heap.size := Nat.lt_of_lt_of_le hb hg.le
        have HH : Hid (chkFGo l = if chkB ((y, n), s) == 0 then chkFGo (l.drop (k + 1)) else chkB ((y, n), s)) := by
          rw [hh.out, fdrop_at hp]; rfl
        clear hh hcell hs hp
        have hk16 : (k : Int) ≤ 40 := by omega
        cases hc : (chk y n == 0)
        · have hc' := bne_of' hc
          have E1 : Hid (chkFGo l = chk y n) := by
            have := HH.out
            simp only [chkB, hc, Bool.false_eq_true, if_false] at this
            exact this
          clear HH
          go_wp2_with fail
          refine (check_any _ _ _).mono ?_
          rintro e w1 ⟨rfl, g1⟩
          go_wp2_with fail
          go_ret
          exact ⟨by rw [E1.out]; rfl, (hg.alloc _).trans g1⟩
        · have hc' := bne_of hc
          cases hd : (chkS s == 0)
          · have hd' := sbne_of' hd
            have E1 : Hid (chkFGo l = chkS s) := by
              have := HH.out
              simp only [chkB, hc, if_true, hd, Bool.false_eq_true, if_false] at this
              exact this
            clear HH
            go_wp2_with fail
            refine (check_any _ _ _).mono ?_
            rintro e w1 ⟨rfl, g1⟩
            obtain ⟨k1, k2⟩ := g1.cells
            go_wp2_with fail
            refine (scheck_any _ _ _ ((hs1.out.alloc _).gr g1)).mono ?_
            rintro e w2 ⟨rfl, g2⟩
            go_wp2_with fail
            go_ret
            exact ⟨by rw [E1.out]; rfl, ((hg.alloc _).trans g1).trans g2⟩
          · have hd' := sbne_of hd
            have E1 : Hid (chkFGo l = chkFGo (l.drop (k + 1))) := by
              have := HH.out
              simp only [chkB, hc, if_true, hd] at this
              exact this
            clear HH
            go_wp2_with fail
            refine (check_any _ _ _).mono ?_
            rintro e w1 ⟨rfl, g1⟩
            obtain ⟨k1, k2⟩ := g1.cells
            go_wp2_with fail
            refine (scheck_any _ _ _ ((hs1.out.alloc _).gr g1)).mono ?_
            rintro e w2 ⟨rfl, g2⟩
            go_wp2_with fail
            go_roundw
            case rel => exact ⟨k + 1, by omega, by go_num, E1, ((hg.alloc _).trans g1).trans g2⟩
            case measure => simp [intOf]; omega
      · obtain rfl : k = l.length := by omega
        have E1 : Hid (chkFGo l = 0) := by rw [hh.out, List.drop_length]; rfl
        clear hh
        go_wp2
        go_ret
        exact ⟨by rw [E1.out]; rfl, hg⟩
end Go.Proofs.Ythcehgmpajejeaa
/- The contracts of package filter's has, setOf and tableOf. -/
namespace Rm
open Go Go.RowKit
theorem u64_pow (n : Nat) (h : n ≤ 32) : IntKind.u64.wrap (2 ^ n) = ((2 ^ n : Nat) : Int) := by
  rw [IntKind.wrap_u64]
  have h1 : (2 : Nat) ^ n ≤ 2 ^ 32 := Nat.pow_le_pow_right (by omega) h
  have h2 : ((2 ^ n : Nat) : Int) = (2 : Int) ^ n := by simp
  rw [← h2]
  generalize 2 ^ n = x at *
  omega
theorem bit_eq64 (m n : Nat) (hm : m < 2 ^ 32) (hn : n < 32) : (bits .and .u64 (m : Int) (IntKind.u64.wrap (2 ^ n)) != 0) = m.testBit n := by
  have h1 : (2 : Nat) ^ n < 2 ^ 32 := Nat.pow_lt_pow_right (by omega) hn
  rw [u64_pow n (by omega), u64_and_nat m (2 ^ n) (by omega) (by omega), ← and_pow_bne]
  rw [Bool.eq_iff_iff]
  simp only [bne_iff_ne, ne_eq]
  omega
/-- the numbers from f to t -/
theorem fill_bit (f t i : Nat) (h : f ≤ t) : (2 ^ t - 2 ^ f).testBit i = decide (f ≤ i ∧ i < t) := by
  obtain ⟨d, rfl⟩ : ∃ d, t = f + d := ⟨t - f, by omega⟩
  have e : 2 ^ (f + d) - 2 ^ f = 2 ^ f * (2 ^ d - 1) := by rw [Nat.pow_add, Nat.mul_sub, Nat.mul_one]
  rw [e, Nat.testBit_two_pow_mul, Nat.testBit_two_pow_sub_one, Bool.eq_iff_iff]
  simp
  omega
theorem or_fill (m f t : Nat) (h : f ≤ t) : m ||| (2 ^ t - 2 ^ f) = orTo m f (t - f) := by
  apply Nat.eq_of_testBit_eq
  intro i
  rw [Nat.testBit_or, fill_bit f t i h, orTo_bit]
  congr 2
  have : f + (t - f) = t := by omega
  rw [this]
theorem fill_eq (m f t : Nat) (hm : m < 2 ^ 32) (h : f ≤ t) (ht : t ≤ 32) : bits .or .u64 (m : Int) (IntKind.u64.wrap (IntKind.u64.wrap (2 ^ t) - IntKind.u64.wrap (2 ^ f))) = ((orTo m f (t - f) : Nat) : Int) := by
  have h1 : (2 : Nat) ^ t ≤ 2 ^ 32 := Nat.pow_le_pow_right (by omega) ht
  have h2 : (2 : Nat) ^ f ≤ 2 ^ t := Nat.pow_le_pow_right (by omega) h
  rw [u64_pow t ht, u64_pow f (by omega), ← or_fill m f t h]
  have e : IntKind.u64.wrap (((2 ^ t : Nat) : Int) - ((2 ^ f : Nat) : Int)) = ((2 ^ t - 2 ^ f : Nat) : Int) := by
    rw [IntKind.wrap_u64]
    generalize 2 ^ t = x at *
    generalize 2 ^ f = y at *
    omega
  have h3 : 2 ^ t - 2 ^ f < 18446744073709551616 := Nat.lt_of_le_of_lt (Nat.sub_le _ _) (by omega)
  rw [e, u64_or_nat m _ (by omega) h3]
/-- a table as an array -/
def tArr (T : Nat → Nat) : Array Value := ((List.range 16).map fun i => Value.int .u64 (T i : Nat)).toArray
theorem tArr_size (T : Nat → Nat) : (tArr T).size = 16 := by simp [tArr]
theorem tArr_at (T : Nat → Nat) (i : Nat) (h : i < 16) : (tArr T)[i]? = some (.int .u64 (T i : Nat)) := by simp [tArr, h]
theorem tArr_one (T : Nat → Nat) : (tArr T).all (·.oneCell') = true := by
  simp [tArr, Value.oneCell']
theorem tArr_ext {s t : Nat → Nat} (h : ∀ i, i < 16 → s i = t i) : tArr s = tArr t := by
  unfold tArr
  congr 1
  apply List.map_congr_left
  intro i hi
  rw [h i (List.mem_range.1 hi)]
theorem tArr_set (s : Nat → Nat) (k : Nat) (b : Nat) (hk : k < 16) : (tArr s).setIfInBounds k (.int .u64 (b : Nat)) = tArr (fun i => if i = k then b else s i) := by
  apply Array.ext
  · simp [tArr]
  · intro i h1 h2
    simp [tArr] at h1 h2 ⊢
    by_cases e : i = k
    · subst e; simp
    · have : ¬ k = i := fun h => e h.symm
      simp [this, e]
end Rm
namespace Go.Proofs.Ythcehgmpajejeaa
open Go.RowKit Rm
set_option linter.unusedVariables false

set_option maxHeartbeats 400000 in
set_option maxRecDepth 100000 in
theorem fhas_any (m n : Nat) (w : World) (hm : m < 2 ^ 32) (hn : n < 32) :
    Calls Try.prog 53 #[.int .u64 m, .int .i64 n] w fun e w' => e = .returned (.bool (m.testBit n)) ∧ w = w' := by
  have h1 : ((n : Nat) : Int) < 32 := by omega
  have HB := Lib.hid (bit_eq64 m n hm hn)
  clear hm
  go_enter Try.func53, Try.ntmps53
  go_wp2
  go_ret
  exact ⟨by rw [← HB.out]; rfl, rfl⟩

set_option maxHeartbeats 1000000 in
set_option maxRecDepth 100000 in
theorem setOf_any (v : Value) (L : List (Nat × Nat)) (w : World) (hr : Rd2 w v (pairs L)) (hv : VF 0 L) :
    Calls Try.prog 64 #[v] w fun e w' => e = .returned (.int .u64 (maskL L : Nat)) ∧ Gr w w' := by
  obtain ⟨a, cp, rfl, hcp, hx⟩ := hr
  rw [pairs_len] at hcp
  rw [pairs_len]
  have HX := Lib.hid hx
  have HV := Lib.hid hv
  have hlen := hv.len16
  have hlen' : (L.length : Int) ≤ 16 := by omega
  clear hx hv
  go_enter Try.func64, Try.ntmps64
  go_wp2
  go_loopw [3, 8] (fun m i wr => ∃ k : Nat, k ≤ L.length ∧ i = .int .i64 k ∧ m = .int .u64 (maskL (L.take k) : Nat) ∧ Gr w wr) (fun _ i _ => L.length - (intOf i).toNat)
  case atStart => exact ⟨0, by omega, rfl, rfl, Gr.refl _⟩
  case round =>
    obtain ⟨k, hk, rfl, rfl, hg⟩ := hrel
    generalize wr = wo at *
    by_cases hlt : k < L.length
    · obtain ⟨⟨f, t⟩, hp⟩ : ∃ p, L[k]? = some p := ⟨_, List.getElem?_eq_getElem hlt⟩
      obtain ⟨b, off, rfl, hb, hcell⟩ := HX.out (by intro e; rw [← pairs_len, e] at hlt; simp at hlt)
      have c1 : w.cell? ⟨b, off + k * 2, none⟩ = some (.int .i64 f) := (hcell k _ (pairs_at hp)).1
      have c2 : w.cell? ⟨b, off + k * 2 + 1, none⟩ = some (.int .i64 t) := (hcell k _ (pairs_at hp)).2
      rw [← hg.cells.1 b _ hb] at c1 c2
      have hbr : b < wo.heap.size := Nat.lt_of_lt_of_le hb hg.le
      have hft : f < t ∧ t ≤ 32 := HV.out.le (f, t) (List.mem_of_getElem? hp)
      have HM := Lib.hid (maskL_take hp)
      have hml : maskL (L.take k) < 2 ^ 32 := maskL_lt (fun p hp => HV.out.le p (List.mem_of_mem_take hp))
      clear hcell
      generalize maskL (L.take k) = m at *
      have HF := Lib.hid (fill_eq m f t hml (by omega) hft.2)
      have hk16 : (k : Int) ≤ 16 := by omega
      have hf32 : (f : Int) < 32 := by omega
      have ht32 : (t : Int) ≤ 32 := by omega
      clear hml
      go_wp2
      go_quiet (fail)
      go_wp2
      go_roundw
      case rel => exact ⟨k + 1, by omega, by go_num, by rw [HM.out, ← HF.out], (hg.alloc _).drewN _⟩
      case measure => simp [intOf]; omega
    · obtain rfl : k = L.length := by omega
      go_wp2
      go_ret
      exact ⟨by rw [List.take_length]; rfl, hg⟩

theorem table_info : (Try.prog.info? 99).map (·.size) = some 16 := by kernel_rfl
/-- the table in the making: below j the box has been added -/
def midT (F : List Bx) (b : Bx) (k j t : Nat) : Nat := if t < j then addB t (tabF (F.take k) t) b else tabF (F.take k) t
/-- where the loops stand -/
def TabAt (w wr : World) (T : Nat → Nat) : Prop := Gr w wr ∧ wr.heap[w.heap.size + 1]? = some (.cells (tArr T) 99 (0, 0)) ∧ wr.heap[w.heap.size]? = some (.cells (tArr fun _ => 0) 99 (0, 0))
theorem TabAt.more {w wr w' : World} {T : Nat → Nat} (h : TabAt w wr T) (g : Gr wr w') : TabAt w w' T :=
  ⟨h.1.trans g, (Below.block g _ (Blk_lt h.2.1)).trans h.2.1, (Below.block g _ (Blk_lt h.2.2)).trans h.2.2⟩
theorem TabAt.set {w wr : World} {T : Nat → Nat} (h : TabAt w wr T) (k m : Nat) (hk : k < 16) : TabAt w (wr.setCell ⟨w.heap.size + 1, k, none⟩ (.int .u64 (m : Nat))) (fun i => if i = k then m else T i) := by
  refine ⟨h.1.setCell (by simp) _, ?_, ?_⟩
  · rw [heap_setCell_same _ _ _ _ _ _ h.2.1, tArr_set _ _ _ hk]
  · rw [heap_setCell_other _ _ _ _ (by simp)]; exact h.2.2
theorem TabAt.ext {w wr : World} {T T' : Nat → Nat} (h : TabAt w wr T) (e : ∀ i, i < 16 → T i = T' i) : TabAt w wr T' := by rw [TabAt, ← tArr_ext e]; exact h
/-- a box alone in its block -/
def Three (w : World) (b : Nat) (y n : Int) (s : Value) : Prop := b < w.heap.size ∧ w.cell? ⟨b, 0, none⟩ = some (.int .i64 y) ∧ w.cell? ⟨b, 1, none⟩ = some (.int .i64 n) ∧ w.cell? ⟨b, 2, none⟩ = some s
theorem Three.gr {w w' : World} {b : Nat} {y n : Int} {s : Value} (h : Three w b y n s) (g : Gr w w') : Three w' b y n s :=
  ⟨Nat.lt_of_lt_of_le h.1 g.le, (g.cells.1 b 0 h.1).trans h.2.1, (g.cells.1 b 1 h.1).trans h.2.2.1, (g.cells.1 b 2 h.1).trans h.2.2.2⟩
theorem Three.new (w : World) (y n : Int) (s : Value) (t : TypeId) : Three (w.alloc (.cells #[.int .i64 y, .int .i64 n, s] t)) w.heap.size y n s := by
  refine ⟨by simp, ?_, ?_, ?_⟩ <;> simp [go_sem]
theorem Three.far {w : World} {b : Nat} {y n : Int} {s : Value} (h : Three w b y n s) {p : Addr} (hp : b ≠ p.block) (u : Value) : Three (w.setCell p u) b y n s := by
  obtain ⟨h1, h2, h3, h4⟩ := h
  refine ⟨by simpa using h1, ?_, ?_, ?_⟩
  · rw [World.cell?_setCell_other _ _ _ _ (fun e => hp (by rw [e]))]; exact h2
  · rw [World.cell?_setCell_other _ _ _ _ (fun e => hp (by rw [e]))]; exact h3
  · rw [World.cell?_setCell_other _ _ _ _ (fun e => hp (by rw [e]))]; exact h4

set_option maxHeartbeats 1000000 in
set_option maxRecDepth 100000 in
theorem tableOf_any (v : Value) (F : List Bx) (w : World) (hr : RdF w v (F.map boxI)) (hF : OkF F) (hl : F.length ≤ 40) :
    Calls Try.prog 54 #[v] w fun e w' => e = .returned (.agg (tArr (tabF F))) ∧ Gr w w' := by
  obtain ⟨a, cp, rfl, hcp, hx⟩ := hr
  rw [List.length_map] at hcp
  rw [List.length_map]
  have HX := Lib.hid hx
  have HF := Lib.hid hF
  have hlen' : (F.length : Int) ≤ 40 := by omega
  clear hx hF
  go_enter Try.func54, Try.ntmps54
  go_wp2
  go_loopw [12] (fun i wr => ∃ k : Nat, k ≤ F.length ∧ i = .int .i64 k ∧ TabAt w wr (tabF (F.take k))) (fun i _ => F.length - (intOf i).toNat)
  case atStart =>
    refine ⟨0, by omega, rfl, ((Gr.refl _).alloc _).alloc _, ?_, ?_⟩
    · rw [heap_alloc2_new]; rfl
    · rw [heap_alloc2_old]; rfl
  case round =>
    obtain ⟨k, hk, rfl, hat⟩ := hrel
    generalize wr = wo at *
    have hg := hat.1
    by_cases hlt : k < F.length
    · obtain ⟨⟨⟨y, n⟩, m⟩, hp⟩ : ∃ p, F[k]? = some p := ⟨_, List.getElem?_eq_getElem hlt⟩
      obtain ⟨b, off, rfl, hb, hcell⟩ := HX.out (by intro e; rw [← List.length_map (f := boxI), e] at hlt; simp at hlt)
      obtain ⟨sv, c1, c2, c3, hs⟩ := hcell k (boxI ((y, n), m)) (by simp [hp])
      rw [← hg.cells.1 b _ hb] at c1 c2 c3
      simp only [boxI] at c1 c2 c3 hs
      obtain ⟨sa, sc, rfl⟩ := rd2_form hs
      have hok : OkB ((y, n), m) := HF.out _ (List.mem_of_getElem? hp)
      have hs1 := Lib.hid (hs.gr hg)
      have hbr : b < wo.heap.size := Nat.lt_of_lt_of_le hb hg.le
      have HT := Lib.hid (fun t => tabF_take hp t)
      have HO := Lib.hid hok
      have HL := Lib.hid (fun t => tabF_lt (HF.out.take k) t)
      have hk16 : (k : Int) ≤ 40 := by omega
      have HA := Lib.hid hat
      have hmk := maskL_canon hok.2
      clear hcell hs hp hat hok
      go_wp2_with fail
      refine (setOf_any _ _ _ (hs1.out.alloc _) (canon_VF m)).mono ?_
      rw [hmk]
      rintro e w1 ⟨rfl, g1⟩
      have T1 := Lib.hid ((Three.new wo y n (.slice sa (pairs (canon m)).length sc) 83).gr g1)
      have A1 := Lib.hid ((HA.out.more ((Gr.refl _).alloc (.cells #[.int .i64 y, .int .i64 n, .slice sa (pairs (canon m)).length sc] 83))).more g1)
      have hbb : wo.heap.size ≠ w.heap.size + 1 := by have := Blk_lt HA.out.2.1; omega
      clear HA hs1 hg c1 c2 c3 g1 hmk
      generalize wo.heap.size = BB at *
      go_wp2_with fail
      go_loopw [19] (fun jj wi => ∃ j : Nat, j ≤ 16 ∧ jj = .int .i64 j ∧ TabAt w wi (midT F ((y, n), m) k j) ∧ Three wi BB y n (.slice sa (pairs (canon m)).length sc)) (fun jj _ => 16 - (intOf jj).toNat)
      case atStart => exact ⟨0, by omega, rfl, A1.out.ext (fun i _ => by simp [midT]), T1.out⟩
      case round =>
        obtain ⟨j, hj, rfl, hti, h3⟩ := hrel
        by_cases hjt : j < 16
        · have hin : hasR (y : Int) (n : Int) (j : Int) = inC ((y, n), m) j := rfl
          have HTI := Lib.hid hti
          have H3 := Lib.hid h3
          obtain ⟨t1, t2, t3, t4⟩ := h3
          have hj16 : (j : Int) < 16 := by omega
          clear hti
          cases hc : inC ((y, n), m) j
          · rw [hc] at hin
            have E : Hid (∀ i, i < 16 → midT F ((y, n), m) k j i = midT F ((y, n), m) k (j + 1) i) := by
              intro i hi
              unfold midT
              by_cases e1 : i < j
              · rw [if_pos e1, if_pos (by omega)]
              · rw [if_neg e1]
                by_cases e2 : i < j + 1
                · obtain rfl : i = j := by omega
                  rw [if_pos e2]
                  simp [addB, hc]
                · rw [if_neg e2]
            clear hc
            go_wp2_with fail
            refine (has_any _ _ _ _).mono ?_
            rw [hin]
            rintro e w2 ⟨rfl, g2⟩
            have A2 := Lib.hid (HTI.out.more g2)
            have T2 := Lib.hid (H3.out.gr g2)
            clear g2
            go_wp2_with fail
            go_roundw
            case rel => exact ⟨j + 1, by omega, by go_num, A2.out.ext E.out, T2.out⟩
            case measure => simp [intOf]; omega
          · rw [hc] at hin
            have E : Hid (∀ i, i < 16 → (if i = j then (tabF (F.take k) j ||| m) else midT F ((y, n), m) k j i) = midT F ((y, n), m) k (j + 1) i) := by
              intro i hi
              unfold midT
              by_cases e1 : i < j
              · rw [if_neg (by omega), if_pos e1, if_pos (by omega)]
              · by_cases e2 : i < j + 1
                · obtain rfl : i = j := by omega
                  rw [if_pos rfl, if_pos e2]
                  simp [addB, hc]
                · rw [if_neg (by omega), if_neg e1, if_neg e2]
            have HU := Lib.hid (u64_or_nat (tabF (F.take k) j) m (by have := HL.out j; omega) (by have := HO.out.2; omega))
            clear hc
            go_wp2_with fail
            refine (has_any _ _ _ _).mono ?_
            rw [hin]
            rintro e w2 ⟨rfl, g2⟩
            have A2 := Lib.hid (HTI.out.more g2)
            have T2 := Lib.hid (H3.out.gr g2)
            have hc : w2.cell? ⟨w.heap.size + 1, j, none⟩ = some (.int .u64 (tabF (F.take k) j : Nat)) := by
              rw [cell_of_row _ _ _ _ _ _ A2.out.2.1, tArr_at _ j hjt]
              simp [midT]
            have hfz := frozen_of_row _ _ j _ _ A2.out.2.1
            clear g2
            go_wp2_with fail
            go_roundw
            case rel => exact ⟨j + 1, by omega, by go_num, by have := (A2.out.set j _ hjt).ext E.out; rw [← HU.out] at this; exact this, T2.out.far hbb _⟩
            case measure => simp [intOf]; omega
        · obtain rfl : j = 16 := by omega
          have HTI := Lib.hid hti
          clear hti
          go_wp2
          go_roundw
          case rel => exact ⟨k + 1, by omega, by go_num, HTI.out.ext (fun i hi => by rw [HT.out i]; simp [midT, hi])⟩
          case measure => simp [intOf]; omega
    · obtain rfl : k = F.length := by omega
      rw [List.take_length] at hat
      have HS : Hid ((Try.prog.info? 99).map (·.size) = some (tArr (tabF F)).size) := by rw [tArr_size]; exact table_info
      have HO : Hid ((tArr fun _ => 0).size = (tArr (tabF F)).size) := by rw [tArr_size, tArr_size]; rfl
      have H1 := Lib.hid (tArr_one (tabF F))
      have HB := Lib.hid hat.2.1
      have HR := Lib.hid hat.2.2
      clear hat
      go_wp2_with (first | (refine wpList_load_row rfl 99 _ rfl (w.heap.size + 1) rfl 99 _ (0, 0) _ HB.out Try.underlying99 rfl HS.out ?_) | (refine wpList_store_row rfl 99 _ _ rfl w.heap.size _ rfl rfl 99 _ HR.out HS.out HO.out H1.out ?_))
      refine bodyPost_ret (v := .agg (tArr (tabF F))) (results_cell_row Try.results54 _ _ w.heap.size 99 _ (0, 0) _ rfl (setRow_heap _ _ _ _ _ _ HR.out) Try.underlying99 rfl HS.out) rfl ⟨rfl, ?_⟩
      exact hg.setRow (Nat.le_refl _) _
end Go.Proofs.Ythcehgmpajejeaa
/- The contracts of package filter's combine. -/
namespace Rm
open Go Go.RowKit
end Rm
namespace Go.Proofs.Ythcehgmpajejeaa
open Go.RowKit Rm
set_option linter.unusedVariables false

end Go.Proofs.Ythcehgmpajejeaa
/- The contract of package filter's combine over valid filters. -/
namespace Go.Proofs.Ythcehgmpajejeaa
open Go.RowKit Rm
set_option linter.unusedVariables false

/-- where combine's loop stands -/
def CombAt (w wr : World) (b : Nat) (T U : Nat → Nat) : Prop :=
  Gr w wr ∧ w.heap.size < b ∧ wr.heap[w.heap.size]? = some (.cells (tArr fun _ => 0) 99 (0, 0)) ∧ wr.heap[b]? = some (.cells (tArr T) 99 (0, 0)) ∧ wr.heap[b + 1]? = some (.cells (tArr U) 99 (0, 0))
theorem CombAt.set {w wr : World} {b : Nat} {T U : Nat → Nat} (h : CombAt w wr b T U) (k m : Nat) (hk : k < 16) : CombAt w ((wr.setCell ⟨b, k, none⟩ (.int .u64 (m : Nat))).drew) b (fun i => if i = k then m else T i) U := by
  obtain ⟨g, hlt, h0, h1, h2⟩ := h
  refine ⟨(g.setCell (by simp; omega) _).drew, hlt, ?_, ?_, ?_⟩
  · show (wr.setCell _ _).heap[_]? = _
    rw [heap_setCell_other _ _ _ _ (by show w.heap.size ≠ b; omega)]; exact h0
  · show (wr.setCell _ _).heap[_]? = _
    rw [heap_setCell_same _ _ _ _ _ _ h1, tArr_set _ _ _ hk]
  · show (wr.setCell _ _).heap[_]? = _
    rw [heap_setCell_other _ _ _ _ (by simp)]; exact h2
theorem CombAt.ext {w wr : World} {b : Nat} {T T' U : Nat → Nat} (h : CombAt w wr b T U) (e : ∀ i, i < 16 → T i = T' i) : CombAt w wr b T' U := by rw [CombAt, ← tArr_ext e]; exact h
end Go.Proofs.Ythcehgmpajejeaa

/- Joined: FilE, FilF, FilG, FilH, FilI, FilJ. -/
/- The contract of package filter's spans; the plain mathematics of blocks and merge. -/
namespace Rm
open Go Go.RowKit
/-- the cells of a list of integers -/
def flat1 (l : List Int) : List Value := l.map fun x => .int .i64 x
end Rm
namespace Go.Proofs.Ythcehgmpajejeaa
open Go.RowKit Rm
set_option linter.unusedVariables false
theorem Rd1.own {w : World} {base : Nat} {e : TypeId} {v : Value} {l : List Int} (h : w.ownsRow base e 1 v l.length (flat1 l)) : Rd1 w v l := by
  obtain ⟨hl, h⟩ := h
  rcases h with ⟨rfl, h0⟩ | ⟨g, cap, cur, rfl, _, hg, hn, _, hs, ht⟩
  · have : l = [] := List.eq_nil_of_length_eq_zero h0
    subst this
    exact ⟨none, 0, rfl, Nat.le_refl _, fun h => absurd rfl h⟩
  · refine ⟨_, _, rfl, hn, fun hne => ?_⟩
    refine ⟨g, 0, rfl, Blk_lt hg, fun i x hp => ?_⟩
    have hi : i < l.length := (List.getElem?_eq_some_iff.1 hp).1
    have hf : (flat1 l)[i]? = some (.int .i64 x) := by simp [flat1, hp]
    rw [← ht] at hf
    rw [List.getElem?_take_of_lt (by omega)] at hf
    simpa [World.cell?, hg] using hf

end Go.Proofs.Ythcehgmpajejeaa
/- The plain mathematics of blocks and merge. -/
namespace Rm
open Go Go.RowKit
/-- what merge looks for, and what it makes of two -/
def twin (g : Nat) (b : Bx) : Bx := ((b.1.1 ^^^ g, b.1.2 ^^^ g), b.2)
def both (g : Nat) (b : Bx) : Bx := ((b.1.1 &&& (15 - g), b.1.2 &&& (15 - g)), b.2)
/-- the cells of a list of blocks -/
def flatK (l : List Bx) : List Value := l.flatMap fun b => [.int .i64 (b.1.1 : Nat), .int .i64 (b.1.2 : Nat), .int .u64 (b.2 : Nat)]
theorem flatK_cons (p : Bx) (l : List Bx) : flatK (p :: l) = .int .i64 (p.1.1 : Nat) :: .int .i64 (p.1.2 : Nat) :: .int .u64 (p.2 : Nat) :: flatK l := rfl
theorem flatK_at (l : List Bx) (i : Nat) (p : Bx) (h : l[i]? = some p) : (flatK l)[i * 3]? = some (.int .i64 (p.1.1 : Nat)) ∧ (flatK l)[i * 3 + 1]? = some (.int .i64 (p.1.2 : Nat)) ∧ (flatK l)[i * 3 + 2]? = some (.int .u64 (p.2 : Nat)) := by
  induction l generalizing i with
  | nil => simp at h
  | cons q l ih =>
    rw [flatK_cons]
    cases i with
    | zero => simp at h; subst h; simp
    | succ i =>
      have e : (i + 1) * 3 = i * 3 + 1 + 1 + 1 := by omega
      rw [e]
      simpa using ih i (by simpa using h)
end Rm
/- The contracts of package filter's blocks and of slices.Index over blocks. -/
namespace Go.Proofs.Ythcehgmpajejeaa
open Go.RowKit Rm
set_option linter.unusedVariables false

theorem set_info : (Try.prog.info? 97).map (·.size) = some 1 := by kernel_rfl
theorem index_table (T : Nat → Nat) (k : Nat) (hk : k < 16) (w : World) : (Instr.index 99 (.agg (tArr T)) (.int .i64 (k : Int))).run Try.prog w = .ok (.int .u64 (T k : Nat)) w := by
  have hz : (sizeOf 97).run Try.prog w = .ok 1 w := by
    cases hq : Try.prog.info? 97 with
    | none => have := set_info; rw [hq] at this; simp at this
    | some i =>
      have hs : i.size = 1 := by have := set_info; rw [hq] at this; simpa using this
      simp [sizeOf, typeInfo, hq, hs]
  have hc := tArr_at T k hk
  simp [Instr.index, Sem.run_bind, run_underlying Try.underlying99, asIntOf, part, hz, hc]
  intro h
  omega

/-- a slice of blocks reads as a list -/
def Rd3 (w : World) (v : Value) (l : List Bx) : Prop :=
  ∃ a c, v = .slice a l.length c ∧ l.length ≤ c ∧ (l ≠ [] → ∃ b off, a = some ⟨b, off, none⟩ ∧ b < w.heap.size ∧
    ∀ i p, l[i]? = some p → w.cell? ⟨b, off + i * 3, none⟩ = some (.int .i64 (p.1.1 : Nat)) ∧ w.cell? ⟨b, off + i * 3 + 1, none⟩ = some (.int .i64 (p.1.2 : Nat)) ∧ w.cell? ⟨b, off + i * 3 + 2, none⟩ = some (.int .u64 (p.2 : Nat)))
theorem Rd3.gr {w w' : World} {v : Value} {l : List Bx} (h : Rd3 w v l) (g : Gr w w') : Rd3 w' v l := by
  obtain ⟨a, c, e, hc, h⟩ := h
  refine ⟨a, c, e, hc, fun hl => ?_⟩
  obtain ⟨b, off, ea, hb, hx⟩ := h hl
  refine ⟨b, off, ea, Nat.lt_of_lt_of_le hb g.le, fun i p hp => ?_⟩
  obtain ⟨h1, h2, h3⟩ := hx i p hp
  exact ⟨(g.cells.1 b _ hb).trans h1, (g.cells.1 b _ hb).trans h2, (g.cells.1 b _ hb).trans h3⟩
theorem Rd3.own {w : World} {base : Nat} {e : TypeId} {v : Value} {l : List Bx} (h : w.ownsRow base e 3 v l.length (flatK l)) : Rd3 w v l := by
  obtain ⟨hl, h⟩ := h
  rcases h with ⟨rfl, h0⟩ | ⟨g, cap, cur, rfl, _, hg, hn, _, hs, ht⟩
  · have : l = [] := List.eq_nil_of_length_eq_zero h0
    subst this
    exact ⟨none, 0, rfl, Nat.le_refl _, fun h => absurd rfl h⟩
  · refine ⟨_, _, rfl, hn, fun hne => ?_⟩
    refine ⟨g, 0, rfl, Blk_lt hg, fun i p hp => ?_⟩
    have hi : i < l.length := (List.getElem?_eq_some_iff.1 hp).1
    have hf := flatK_at l i p hp
    rw [← ht] at hf
    have key : ∀ j, j < l.length * 3 → w.cell? ⟨g, 0 + j, none⟩ = (cur.toList.take (l.length * 3))[j]? := by
      intro j hj
      rw [List.getElem?_take_of_lt hj]
      simp [World.cell?, hg]
    have k2 := key (i * 3 + 1) (by omega)
    have k3 := key (i * 3 + 2) (by omega)
    rw [← Nat.add_assoc] at k2 k3
    exact ⟨(key (i * 3) (by omega)).trans hf.1, k2.trans hf.2.1, k3.trans hf.2.2⟩
end Go.Proofs.Ythcehgmpajejeaa
/- The contract of slices.Index over blocks. -/
namespace Go.Proofs.Ythcehgmpajejeaa
open Go.RowKit Rm
set_option linter.unusedVariables false

end Go.Proofs.Ythcehgmpajejeaa
/- The contract of package filter's merge. -/
namespace Rm
open Go Go.RowKit
theorem OkF.snoc {M : List Bx} {b : Bx} (h : OkF M) (hb : OkB b) : OkF (M ++ [b]) := by
  intro c hc
  rcases List.mem_append.1 hc with hc | hc
  · exact h c hc
  · obtain rfl : c = b := by simpa using hc
    exact hb
end Rm
namespace Go.Proofs.Ythcehgmpajejeaa
open Go.RowKit Rm
set_option linter.unusedVariables false

/-- where merge's loop stands: k blocks are in M -/
def MergAt (l : List Bx) (k : Nat) (M : List Bx) : Prop := OkF M ∧ M.length ≤ k ∧ ∀ t, t < 16 → tabF M t = tabF (l.take k) t
theorem own_gr {w w' : World} {base : Nat} {e : TypeId} {size : Nat} {v : Value} {n : Nat} {xs : List Value} (h : w.ownsRow base e size v n xs) (g : Gr w w') : w'.ownsRow base e size v n xs := by
  refine h.kept (row := none) ⟨g.os, g.tape, g.output, g.size, fun k hk _ => Below.block g k hk⟩ ?_
  cases v.ownBlock with
  | none => exact .inl rfl
  | some k => exact .inr (by simp)
theorem MergAt.set {l M : List Bx} {k g j : Nat} {b : Bx} (h : MergAt l k M) (hk : l[k]? = some b) (hj : M[j]? = some (twin g b)) (hb : OkB b) (ht : OkF (M.set j (both g b)) ∧ ∀ t, t < 16 → tabF (M.set j (both g b)) t = addB t (tabF M t) b) : MergAt l (k + 1) (M.set j (both g b)) :=
  ⟨ht.1, by rw [List.length_set]; have := h.2.1; omega, fun t h16 => by rw [ht.2 t h16, h.2.2 t h16, tabF_take hk]⟩
theorem MergAt.snoc {l M : List Bx} {k : Nat} {b : Bx} (h : MergAt l k M) (hk : l[k]? = some b) (hb : OkB b) : MergAt l (k + 1) (M ++ [b]) :=
  ⟨h.1.snoc hb, by have := h.2.1; simp; omega, fun t h16 => by rw [tabF_snoc, h.2.2 t h16, tabF_take hk]⟩


end Go.Proofs.Ythcehgmpajejeaa
/- The contract of package filter's boxes. -/
namespace Rm
open Go Go.RowKit
/-- the cells of boxes, each with the slice of its numbers -/
def flatO (l : List (Bx × Value)) : List Value := l.flatMap fun b => [.int .i64 (b.1.1.1 : Nat), .int .i64 (b.1.1.2 : Nat), b.2]
theorem flatO_cons (p : Bx × Value) (l : List (Bx × Value)) : flatO (p :: l) = .int .i64 (p.1.1.1 : Nat) :: .int .i64 (p.1.1.2 : Nat) :: p.2 :: flatO l := rfl
theorem flatO_app (l r : List (Bx × Value)) : flatO (l ++ r) = flatO l ++ flatO r := by simp [flatO]
theorem flatO_at (l : List (Bx × Value)) (i : Nat) (p : Bx × Value) (h : l[i]? = some p) : (flatO l)[i * 3]? = some (.int .i64 (p.1.1.1 : Nat)) ∧ (flatO l)[i * 3 + 1]? = some (.int .i64 (p.1.1.2 : Nat)) ∧ (flatO l)[i * 3 + 2]? = some p.2 := by
  induction l generalizing i with
  | nil => simp at h
  | cons q l ih =>
    rw [flatO_cons]
    cases i with
    | zero => simp at h; subst h; simp
    | succ i =>
      have e : (i + 1) * 3 = i * 3 + 1 + 1 + 1 := by omega
      rw [e]
      simpa using ih i (by simpa using h)
end Rm
namespace Go.Proofs.Ythcehgmpajejeaa
open Go.RowKit Rm
set_option linter.unusedVariables false
attribute [local go_sem ↓] Go.wp_at_zero Go.wp_at_succ

/-- boxes in new memory -/
def OutAt (w wr : World) (O : List (Bx × Value)) (u : Value) : Prop :=
  Gr w wr ∧ wr.ownsRow w.heap.size 83 3 u O.length (flatO O) ∧
  ∀ p ∈ O, wr.ownsRow w.heap.size 108 2 p.2 (pairs (canon p.1.2)).length (flat (pairs (canon p.1.2))) ∧ (p.2.ownBlock = none ∨ p.2.ownBlock ≠ u.ownBlock)
theorem OutAt.snoc {w wo w1 w2 w3 : World} {O : List (Bx × Value)} {u sv : Value} {b : Bx} {g cap : Nat} {o : Obj} (h : OutAt w wo O u) (g1 : Gr wo w1) (hl : ListAt w1 w2 (canon b.2) sv)
    (hown : w3.ownsRow w.heap.size 83 3 (.slice (some ⟨g, 0, none⟩) (O.length + 1) cap) (O.length + 1) (flatO O ++ [.int .i64 (b.1.1 : Nat), .int .i64 (b.1.2 : Nat), sv]))
    (hgrow : (w2.alloc o).grownBy w3 u.ownBlock) (hat : u.ownBlock = some g ∨ g = w2.heap.size + 1) : OutAt w w3 (O ++ [(b, sv)]) (.slice (some ⟨g, 0, none⟩) (O.length + 1) cap) := by
  obtain ⟨hg, ho, hs⟩ := h
  have hlt : ∀ k, u.ownBlock = some k → k < wo.heap.size := fun k hk => (ho.lt k hk).2
  have g2 := (g1.trans hl.1).alloc o
  refine ⟨Gr.grown (hg.trans g2) hgrow (fun k hk => (ho.lt k hk).1), ?_, ?_⟩
  · have e0 : (O ++ [(b, sv)]).length = O.length + 1 := by simp
    rw [e0, flatO_app]
    exact hown
  · intro p hp
    have far : ∀ {z : Value} {bb : Nat} {e : TypeId} {sz nn : Nat} {xs : List Value}, (w2.alloc o).ownsRow bb e sz z nn xs → (z.ownBlock = none ∨ z.ownBlock ≠ u.ownBlock) → (∀ k, z.ownBlock = some k → k < w2.heap.size + 1) →
        w3.ownsRow bb e sz z nn xs ∧ (z.ownBlock = none ∨ z.ownBlock ≠ some g) := by
      intro z bb e sz nn xs hz hne hk
      refine ⟨hz.kept hgrow hne, ?_⟩
      rcases hne with h0 | hne
      · exact .inl h0
      · refine .inr fun e0 => ?_
        rcases hat with h1 | h1
        · exact hne (e0.trans h1.symm)
        · have := hk _ e0; omega
    rcases List.mem_append.1 hp with hp | hp
    · obtain ⟨k1, k2⟩ := hs p hp
      refine far (own_gr k1 g2) k2 (fun k hk => ?_)
      have := (k1.lt k hk).2
      have := g1.le
      have := hl.1.le
      omega
    · obtain rfl : p = (b, sv) := by simpa using hp
      have hb : ∀ k, sv.ownBlock = some k → w1.heap.size ≤ k ∧ k < w2.heap.size := fun k hk => hl.2.lt k hk
      have hbase : (w2.alloc o).ownsRow w.heap.size 108 2 sv (pairs (canon b.2)).length (flat (pairs (canon b.2))) := (ListAt.more (hg.trans g1) hl).2.alloc o
      refine far hbase ?_ (fun k hk => by have := (hb k hk).2; omega)
      cases hsv : sv.ownBlock with
      | none => exact .inl rfl
      | some k =>
        refine .inr fun e0 => ?_
        have h1 := (hb k hsv).1
        have h2 := hlt k e0.symm
        have := g1.le
        omega
theorem rd_own {wr : World} {base : Nat} {O : List (Bx × Value)} {u : Value} (h : wr.ownsRow base 83 3 u O.length (flatO O)) (hs : ∀ p ∈ O, wr.ownsRow base 108 2 p.2 (pairs (canon p.1.2)).length (flat (pairs (canon p.1.2)))) : RdF wr u ((O.map (·.1)).map boxI) := by
  obtain ⟨hl, h⟩ := h
  rcases h with ⟨rfl, h0⟩ | ⟨g, cap, cur, rfl, _, hg, hn, _, hz, ht⟩
  · have : O = [] := List.eq_nil_of_length_eq_zero h0
    subst this
    exact RdF.nil _
  · refine ⟨some ⟨g, 0, none⟩, cap, by simp, by simpa using hn, fun hne => ⟨g, 0, rfl, Blk_lt hg, fun i p hp => ?_⟩⟩
    simp only [List.map_map, List.getElem?_map, Option.map_eq_some_iff] at hp
    obtain ⟨q, hq, rfl⟩ := hp
    have hi : i < O.length := (List.getElem?_eq_some_iff.1 hq).1
    have hf := flatO_at O i q hq
    rw [← ht] at hf
    have key : ∀ j, j < O.length * 3 → wr.cell? ⟨g, 0 + j, none⟩ = (cur.toList.take (O.length * 3))[j]? := by
      intro j hj
      rw [List.getElem?_take_of_lt hj]
      simp [World.cell?, hg]
    have k2 := key (i * 3 + 1) (by omega)
    have k3 := key (i * 3 + 2) (by omega)
    rw [← Nat.add_assoc] at k2 k3
    exact ⟨q.2, (key (i * 3) (by omega)).trans hf.1, k2.trans hf.2.1, k3.trans hf.2.2, Rd2.own (hs q (List.mem_of_getElem? hq))⟩
end Go.Proofs.Ythcehgmpajejeaa

/- Joined: FilO, FilK. -/
/- The contract of math/bits.OnesCount64 over words of 32 bits. -/
namespace Rm
open Go Go.RowKit
set_option linter.unusedVariables false
def s2 (a : Nat) : Nat := ((a / 4) &&& 51) + (a &&& 51)
def s3 (a : Nat) : Nat := (a / 16 + a) &&& 15
end Rm
namespace Go.Proofs.Ythcehgmpajejeaa
open Go.RowKit Rm
set_option linter.unusedVariables false

end Go.Proofs.Ythcehgmpajejeaa
/- Package filter by tables: what each function does to filters that are told by the numbers of each combination of tags. -/
namespace Rm
open Go Go.RowKit
end Rm
namespace Go.Proofs.Ythcehgmpajejeaa
open Go.RowKit Rm
set_option linter.unusedVariables false

/-- a slice that is the filter of a table -/
def FSn (n : Nat) (w : World) (v : Value) (T : Nat → Nat) : Prop := ∃ F, RdF w v (F.map boxI) ∧ OkF F ∧ F.length ≤ n ∧ ∀ t, t < 16 → tabF F t = T t
abbrev FS (w : World) (v : Value) (T : Nat → Nat) : Prop := FSn 40 w v T
theorem FSn.gr {n : Nat} {w w' : World} {v : Value} {T : Nat → Nat} (h : FSn n w v T) (g : Gr w w') : FSn n w' v T := by
  obtain ⟨F, h1, h2⟩ := h
  exact ⟨F, h1.gr g, h2⟩
theorem FSn.alloc {n : Nat} {w : World} {v : Value} {T : Nat → Nat} (h : FSn n w v T) (o : Obj) : FSn n (w.alloc o) v T := h.gr ((Gr.refl w).alloc o)
theorem FSn.le {n m : Nat} {w : World} {v : Value} {T : Nat → Nat} (h : FSn n w v T) (hn : n ≤ m) : FSn m w v T := by
  obtain ⟨F, h1, h2, h3, h4⟩ := h
  exact ⟨F, h1, h2, by omega, h4⟩
theorem FSn.lt {n : Nat} {w : World} {v : Value} {T : Nat → Nat} (h : FSn n w v T) (t : Nat) (ht : t < 16) : T t < 2 ^ 32 := by
  obtain ⟨F, h1, h2, h3, h4⟩ := h
  rw [← h4 t ht]
  exact tabF_lt h2 t
theorem FSn.ext {n : Nat} {w : World} {v : Value} {T U : Nat → Nat} (h : FSn n w v T) (e : ∀ t, t < 16 → T t = U t) : FSn n w v U := by
  obtain ⟨F, h1, h2, h3, h4⟩ := h
  exact ⟨F, h1, h2, h3, fun t ht => (h4 t ht).trans (e t ht)⟩
/-- a filter in new memory: the slice, and the slices of its boxes, own what they hold -/
def FO (base n : Nat) (w : World) (v : Value) (T : Nat → Nat) : Prop :=
  ∃ O : List (Bx × Value), w.ownsRow base 83 3 v O.length (flatO O) ∧ (∀ p ∈ O, w.ownsRow base 108 2 p.2 (pairs (canon p.1.2)).length (flat (pairs (canon p.1.2)))) ∧ OkF (O.map (·.1)) ∧ O.length ≤ n ∧ ∀ t, t < 16 → tabF (O.map (·.1)) t = T t
theorem own_base {w : World} {base base' : Nat} {e : TypeId} {size : Nat} {v : Value} {n : Nat} {xs : List Value} (h : w.ownsRow base e size v n xs) (hb : base' ≤ base) : w.ownsRow base' e size v n xs := by
  refine ⟨h.1, ?_⟩
  rcases h.2 with ⟨a, b⟩ | ⟨g, cap, cur, a, b, c⟩
  · exact .inl ⟨a, b⟩
  · exact .inr ⟨g, cap, cur, a, Nat.le_trans hb b, c⟩
theorem FO.gr {base n : Nat} {w w' : World} {v : Value} {T : Nat → Nat} (h : FO base n w v T) (g : Gr w w') : FO base n w' v T := by
  obtain ⟨O, h1, h2, h3⟩ := h
  exact ⟨O, own_gr h1 g, fun p hp => own_gr (h2 p hp) g, h3⟩
theorem FO.base {base base' n : Nat} {w : World} {v : Value} {T : Nat → Nat} (h : FO base n w v T) (hb : base' ≤ base) : FO base' n w v T := by
  obtain ⟨O, h1, h2, h3⟩ := h
  exact ⟨O, own_base h1 hb, fun p hp => own_base (h2 p hp) hb, h3⟩
theorem FO.le {base n m : Nat} {w : World} {v : Value} {T : Nat → Nat} (h : FO base n w v T) (hn : n ≤ m) : FO base m w v T := by
  obtain ⟨O, h1, h2, h3, h4, h5⟩ := h
  exact ⟨O, h1, h2, h3, by omega, h5⟩
theorem FO.ext {base n : Nat} {w : World} {v : Value} {T U : Nat → Nat} (h : FO base n w v T) (e : ∀ t, t < 16 → T t = U t) : FO base n w v U := by
  obtain ⟨O, h1, h2, h3, h4, h5⟩ := h
  exact ⟨O, h1, h2, h3, h4, fun t ht => (h5 t ht).trans (e t ht)⟩
theorem FO.fs {base n : Nat} {w : World} {v : Value} {T : Nat → Nat} (h : FO base n w v T) : FSn n w v T := by
  obtain ⟨O, h1, h2, h3, h4, h5⟩ := h
  exact ⟨O.map (·.1), rd_own h1 h2, h3, by simpa using h4, h5⟩
end Go.Proofs.Ythcehgmpajejeaa

/- Joined: FilL, FilN, FilQ, FilR. -/
/- Package filter by tables: Join, Meet, Less where Check refuses; Within and Same. -/
namespace Rm
open Go
end Rm
namespace Go.Proofs.Ythcehgmpajejeaa
open Go.RowKit Rm
set_option linter.unusedVariables false

end Go.Proofs.Ythcehgmpajejeaa
/- Package filter by tables: Point, Has, Count, Every; the statements' same and filterBegun. -/
namespace Rm
open Go Go.RowKit
/-- is it a point? -/
def pointB (t n : Int) : Bool := decide (0 ≤ t) && decide (t < 16) && (decide (0 ≤ n) && decide (n < 32))
theorem point_of {t n : Int} (h : pointB t n = true) : ∃ a b : Nat, a < 16 ∧ b < 32 ∧ t = a ∧ n = b := by
  simp [pointB] at h
  exact ⟨t.toNat, n.toNat, by omega, by omega, by omega, by omega⟩
theorem pointB_nat {a b : Nat} (ha : a < 16) (hb : b < 32) : pointB a b = true := by simp [pointB]; omega
/-- what Has answers -/
def bitT (T : Nat → Nat) (t n : Int) : Bool := pointB t n && (T t.toNat).testBit n.toNat
def errP (t n : Int) : Int := if pointB t n then 0 else 1
end Rm
namespace Go.Proofs.Ythcehgmpajejeaa
open Go.RowKit Rm
set_option linter.unusedVariables false
attribute [local go_sem ↓] Go.wp_at_zero Go.wp_at_succ

set_option maxHeartbeats 1000000 in
set_option maxRecDepth 100000 in
theorem point_any (t n : Int) (w : World) :
    Calls Try.prog 13 #[.agg #[.int .i64 t, .int .i64 n]] w fun e w' => e = .returned (.bool (pointB t n)) ∧ Gr w w' := by
  by_cases h1 : 0 ≤ t
  · by_cases h2 : t < 16
    · by_cases h3 : 0 ≤ n
      · by_cases h4 : n < 32
        · have e : pointB t n = true := by simp [pointB, h1, h2, h3, h4]
          rw [e]
          go_enter Try.func13, Try.ntmps13
          go_wp2
          go_ret
          exact ⟨rfl, (Gr.refl _).alloc _⟩
        · have e : pointB t n = false := by simp [pointB, h4]
          rw [e]
          go_enter Try.func13, Try.ntmps13
          go_wp2
          go_ret
          exact ⟨rfl, (Gr.refl _).alloc _⟩
      · have e : pointB t n = false := by simp [pointB, h3]
        rw [e]
        go_enter Try.func13, Try.ntmps13
        go_wp2
        go_ret
        exact ⟨rfl, (Gr.refl _).alloc _⟩
    · have e : pointB t n = false := by simp [pointB, h2]
      rw [e]
      go_enter Try.func13, Try.ntmps13
      go_wp2
      go_ret
      exact ⟨rfl, (Gr.refl _).alloc _⟩
  · have e : pointB t n = false := by simp [pointB, h1]
    rw [e]
    go_enter Try.func13, Try.ntmps13
    go_wp2
    go_ret
    exact ⟨rfl, (Gr.refl _).alloc _⟩

theorem tableOf_at (B : Nat) (t n : Int) (v : Value) (F : List Bx) (w : World) (hr : RdF w v (F.map boxI)) (hF : OkF F) (hl : F.length ≤ 40) (h : Two w B t n) :
    Calls Try.prog 54 #[v] w fun e w' => e = .returned (.agg (tArr (tabF F))) ∧ Gr w w' ∧ w'.cell? ⟨B, 0, none⟩ = some (.int .i64 t) ∧ w'.cell? ⟨B, 1, none⟩ = some (.int .i64 n) :=
  (tableOf_any v F w hr hF hl).mono fun e w' ⟨he, g⟩ => ⟨he, g, (h.gr g).2⟩

set_option maxHeartbeats 1000000 in
set_option maxRecDepth 100000 in
theorem fhas_ok {v : Value} {T : Nat → Nat} {w : World} (h : FS w v T) (t n : Int) :
    Calls Try.prog 36 #[v, .agg #[.int .i64 t, .int .i64 n]] w fun e w' => e = .returned (.tuple #[.bool (bitT T t n), .int .i64 (errP t n)]) ∧ Gr w w' := by
  obtain ⟨F, h1, hF, hl1, t1⟩ := h
  have hc := chkF_of hF hl1
  have HL := Lib.hid h1
  have HF := Lib.hid hF
  cases hp : pointB t n
  · have e1 : bitT T t n = false := by simp [bitT, hp]
    have e2 : errP t n = 1 := by simp [errP, hp]
    rw [e1, e2]
    clear h1 hF t1 e1 e2
    go_enter Try.func36, Try.ntmps36
    go_wp2_with fail
    refine (fcheck_any _ _ _ (HL.out.alloc _)).mono ?_
    rw [hc]
    rintro e w1 ⟨rfl, g1⟩
    obtain ⟨k1, k2⟩ := g1.cells
    go_wp2_with fail
    refine (point_any _ _ _).mono ?_
    rw [hp]
    rintro e w2 ⟨rfl, g2⟩
    go_wp2_with fail
    go_ret2
    exact ⟨rfl, (((Gr.refl _).alloc _).trans g1).trans g2⟩
  · obtain ⟨a, b, ha, hb, rfl, rfl⟩ := point_of hp
    have e1 : bitT T a b = (tabF F a).testBit b := by simp [bitT, hp, t1 a ha]
    have e2 : errP a b = 0 := by simp [errP, hp]
    rw [e1, e2]
    have HLT := Lib.hid (tabF_lt hF a)
    have hix := fun wx => index_table (tabF F) a ha wx
    have ha16 : (a : Int) < 16 := by omega
    have hb32 : (b : Int) < 32 := by omega
    clear h1 hF t1 e1 e2
    go_enter Try.func36, Try.ntmps36
    go_wp2_with fail
    refine (fcheck_any _ _ _ (HL.out.alloc _)).mono ?_
    rw [hc]
    rintro e w1 ⟨rfl, g1⟩
    obtain ⟨k1, k2⟩ := g1.cells
    go_wp2_with fail
    refine (point_any _ _ _).mono ?_
    rw [hp]
    rintro e w2 ⟨rfl, g2⟩
    have T2 := Lib.hid (((Two.new w a b 24).gr g1).gr g2)
    have G2 := (((Gr.refl w).alloc (.cells #[.int .i64 (a : Int), .int .i64 (b : Int)] 24)).trans g1).trans g2
    have T2d : Hid (Two w2.drew w.heap.size a b) := T2.out.gr ((Gr.refl _).drew)
    have R2 := Lib.hid (HL.out.gr G2.drew)
    clear k1 k2 g1 g2
    obtain ⟨q1, q2, q3⟩ := T2.out
    go_wp2_with fail
    go_region_held3 (fun x => x.cell? ⟨w.heap.size, 0, none⟩ = some (.int .i64 (a : Int)) ∧ x.cell? ⟨w.heap.size, 1, none⟩ = some (.int .i64 (b : Int))) (go_keep)
      (first
        | (go_at_call 54; refine (tableOf_at w.heap.size _ _ _ F _ R2.out HF.out hl1 T2d.out).mono ?_; rintro e w3 ⟨rfl, g3, k1, k2⟩)
        | (go_at_call 53; refine (fhas_any _ b _ HLT.out hb).mono ?_; rintro e w4 ⟨rfl, rfl⟩))
    go_wp2_with fail
    go_ret2
    exact ⟨rfl, G2.drew.trans g3⟩
end Go.Proofs.Ythcehgmpajejeaa
/- Package filter's Every; the statements' same and filterBegun; filters that are written out. -/
namespace Go.Proofs.Ythcehgmpajejeaa
open Go.RowKit Rm
set_option linter.unusedVariables false

end Go.Proofs.Ythcehgmpajejeaa
/- The plain mathematics of tables: what the statements on filters say of them. -/
namespace Rm
open Go Go.RowKit
end Rm
namespace Go.Proofs.Ythcehgmpajejeaa
open Go.RowKit Rm
set_option linter.unusedVariables false
end Go.Proofs.Ythcehgmpajejeaa

/- The plain mathematics of filters of one box. -/
namespace Rm
open Go Go.RowKit
end Rm
namespace Go.Proofs.Ythcehgmpajejeaa
open Go.RowKit Rm
set_option linter.unusedVariables false
theorem Three.alloc {w : World} {b : Nat} {y n : Int} {s : Value} (h : Three w b y n s) (o : Obj) : Three (w.alloc o) b y n s := h.gr ((Gr.refl w).alloc o)
theorem MS.form {w : World} {v : Value} {a : Nat} (h : MS w v a) : ∃ x c, v = .slice x (pairs (canon a)).length c := rd2_form h.1
end Go.Proofs.Ythcehgmpajejeaa

/- What parts say: the meaning of a part, of lists of parts. -/
set_option linter.unusedVariables false
set_option linter.unusedSimpArgs false
namespace Rm
open Go Go.RowKit Gx
def PtX.f (x : PtX) : Value := .slice x.fa x.fn x.fc
def PtX.k (x : PtX) : Value := .agg #[.slice x.va x.vn x.vc, .slice x.ma x.mn x.mc]
/-- what a list of parts says -/
def hasP (K : List PtX) (t n a b : Nat) : Bool := K.any fun x => (x.T t).testBit n && x.D a b
/-- the bits of the elements where a predicate holds -/
def mkTo {E : Type} (p : E → Bool) (K : List E) : Nat → Nat
  | 0 => 0
  | i + 1 => if (K[i]?).any p then mkTo p K i ||| 2 ^ i else mkTo p K i
theorem mkTo_lt {E : Type} (p : E → Bool) (K : List E) : ∀ i, mkTo p K i < 2 ^ i
  | 0 => by simp [mkTo]
  | i + 1 => by
    have h := mkTo_lt p K i
    have h2 : (2 : Nat) ^ i < 2 ^ (i + 1) := Nat.pow_lt_pow_right (by omega) (by omega)
    unfold mkTo
    split
    · exact Nat.or_lt_two_pow (by omega) h2
    · omega
theorem mkTo_bit {E : Type} (p : E → Bool) (K : List E) (j : Nat) : ∀ i, (mkTo p K i).testBit j = (decide (j < i) && (K[j]?).any p)
  | 0 => by simp [mkTo]
  | i + 1 => by
    have h := mkTo_bit p K j i
    unfold mkTo
    by_cases q : (K[i]?).any p = true
    · rw [if_pos q, Nat.testBit_or, h, Nat.testBit_two_pow]
      by_cases e : i = j
      · subst e
        rw [q]; simp
      · rw [Bool.eq_iff_iff]
        simp only [Bool.or_eq_true, Bool.and_eq_true, decide_eq_true_eq]
        constructor
        · rintro (⟨h1, h2⟩ | h1)
          · exact ⟨by omega, h2⟩
          · exact absurd h1 e
        · rintro ⟨h1, h2⟩
          exact .inl ⟨by omega, h2⟩
    · rw [if_neg q, h]
      by_cases e : i = j
      · subst e
        simp only [Bool.not_eq_true] at q
        rw [q]; simp
      · rw [Bool.eq_iff_iff]
        simp only [Bool.and_eq_true, decide_eq_true_eq]
        constructor
        · rintro ⟨h1, h2⟩; exact ⟨by omega, h2⟩
        · rintro ⟨h1, h2⟩; exact ⟨by omega, h2⟩
def mkL {E : Type} (p : E → Bool) (K : List E) : Nat := mkTo p K K.length
theorem mkL_lt {E : Type} (p : E → Bool) (K : List E) (h : K.length ≤ 30) : mkL p K < 4294967296 := by
  have h1 := mkTo_lt p K K.length
  have h2 : (2 : Nat) ^ K.length ≤ 2 ^ 30 := Nat.pow_le_pow_right (by omega) h
  unfold mkL; omega
theorem mkL_bit {E : Type} (p : E → Bool) (K : List E) (j : Nat) : (mkL p K).testBit j = (K[j]?).any p := by
  unfold mkL
  rw [mkTo_bit]
  by_cases h : j < K.length
  · simp [h]
  · simp [List.getElem?_eq_none (show K.length ≤ j by omega)]
theorem mkL_and {E : Type} (p q : E → Bool) (K : List E) : (mkL p K &&& mkL q K = 0) ↔ (K.any fun x => p x && q x) = false := by
  constructor
  · intro h
    rw [List.any_eq_false]
    intro x hx hpq
    obtain ⟨j, hj⟩ := List.getElem?_of_mem hx
    have := congrArg (fun n => Nat.testBit n j) h
    simp only [Nat.testBit_and, mkL_bit, hj, Option.any_some, Nat.zero_testBit] at this
    rw [this] at hpq
    cases hpq
  · intro h
    apply Nat.eq_of_testBit_eq
    intro j
    rw [Nat.testBit_and, mkL_bit, mkL_bit, Nat.zero_testBit]
    cases e : K[j]? with
    | none => rfl
    | some x =>
      rw [List.any_eq_false] at h
      have := h x (List.mem_of_getElem? e)
      simpa using this
end Rm
namespace Go.Proofs.Ythcehgmpajejeaa
open Go.RowKit Rm Gx
/-- what a part says -/
structure MeanP (w : World) (x : PtX) : Prop where
  fs : FS w x.f x.T
  kn : KnD w x.k x.D
  few : (formM x.D).length ≤ 60
theorem MeanP.gr {w w' : World} {x : PtX} (h : MeanP w x) (g : Gr w w') : MeanP w' x := ⟨h.fs.gr g, h.kn.gr g, h.few⟩
def MeansP (w : World) (K : List PtX) : Prop := ∀ x ∈ K, MeanP w x
theorem MeansP.gr {w w' : World} {K : List PtX} (h : MeansP w K) (g : Gr w w') : MeansP w' K := fun x hx => (h x hx).gr g
theorem khas (k : Value) (D : DS) (x y : Int) (w : World) (hk : KnD w k D) (hl : (formM D).length ≤ 60) :
    Calls Try.prog 37 #[k, .agg #[.int .i64 x, .int .i64 y]] w fun e w' => e = .returned (.tuple #[.bool (hasD D x y), .int .i64 (dotE x y)]) ∧ Gr w w' := by
  have hE : chkK (ints (formV D)) (pairs (formM D)) = 0 := (form_ok D).chk hl
  cases hd : dotB (x, y)
  · have h := hasf_any k _ _ (x, y) w hk (by rw [chkA_1 hE hd]; decide)
    rw [chkA_1 hE hd] at h
    have e1 : hasD D x y = false := by unfold hasD; rw [hd]; rfl
    have e2 : dotE x y = 1 := by unfold dotE; rw [hd]; rfl
    rw [e1, e2]
    exact h
  · obtain ⟨h1, h2, h3, h4⟩ := (dotB_iff _).1 hd
    simp only at h1 h2 h3 h4
    obtain ⟨s, rfl⟩ : ∃ n : Nat, x = n := ⟨x.toNat, by omega⟩
    obtain ⟨c, rfl⟩ : ∃ n : Nat, y = n := ⟨y.toNat, by omega⟩
    have hi : inR s c := ⟨by omega, by omega, by omega⟩
    have h := hasf_ok k _ _ s c w hk (form_ok D) hl hi
    rw [form_mem D s c hi] at h
    have e1 : hasD D (s : Int) (c : Int) = D s c := by unfold hasD; rw [hd]; simp
    have e2 : dotE (s : Int) (c : Int) = 0 := by unfold dotE; rw [hd]; rfl
    rw [e1, e2]
    exact h
end Go.Proofs.Ythcehgmpajejeaa

/- package part: what it does with single parts. -/
set_option linter.unusedVariables false
set_option linter.unusedSimpArgs false
namespace Go.Proofs.Ythcehgmpajejeaa
open Go.RowKit Rm Gx
set_option maxHeartbeats 8000000 in
set_option maxRecDepth 100000 in
theorem hasPoint_any (x : PtX) (t n : Int) (w : World) (hx : MeanP w x) :
    Calls Try.prog 17 #[.agg #[.slice x.fa x.fn x.fc, .slice x.va x.vn x.vc, .slice x.ma x.mn x.mc], .agg #[.int .i64 (t), .int .i64 (n)]] w fun e w' => e = .returned (.bool (bitT x.T t n)) ∧ Gr w w' := by
  refine enter (N := 15) Try.func17 rfl rfl rfl (fun a0 ok0 h0 => ?_)
  have e0_0 : a0.eval (.tmp 0) = .agg #[.slice x.fa x.fn x.fc, .slice x.va x.vn x.vc, .slice x.ma x.mn x.mc] := h0 0 _ rfl
  have e0_1 : a0.eval (.tmp 1) = .agg #[.int .i64 (t), .int .i64 (n)] := h0 1 _ rfl
  clear h0
  have G0 := Gr.refl w
  refine wp_seq_k (fun K1 hK1 => ?_)
  refine wp_region_lit ?_
  refine sal (cs := #[.slice x.fa x.fn x.fc, .slice x.va x.vn x.vc, .slice x.ma x.mn x.mc]) ok0 rfl (wn _ rfl) rfl (o_box e0_0) (fun an2 w4 b3 W5 n2 => ?_)
  have l6 : w.heap.size ≤ b3 := by rw [W5.eq]; exact G0.size
  have G7 := G0.trans W5.gr
  refine sal (cs := #[.int .i64 (t), .int .i64 (n)]) n2.ok rfl (wn _ rfl) rfl (o_box (n2.ne rfl e0_1)) (fun an8 w10 b9 W11 n8 => ?_)
  have l12 : b3 < b9 := by rw [W11.eq]; exact W5.bk.lt
  have l13 : w.heap.size ≤ b9 := by rw [W11.eq]; exact G7.size
  have G14 := G7.trans W11.gr
  have B15 := W5.bk.gr W11.gr
  refine sv n8.ok rfl (wn _ rfl) rfl (o_as ev_const) (fun an16 n16 => ?_)
  refine wpList_nil ?_
  refine th_n (hK1 _ _ ?_)
  refine wp_seq_k (fun K17 hK17 => ?_)
  refine wp_region_lit ?_
  refine sv n16.ok rfl (wn _ rfl) rfl (o_fa (z := 1) (n16.ne rfl (n8.ne rfl n2.at_)) Try.underlying38 rfl (by kernel_rfl) rfl rfl) (fun an18 n18 => ?_)
  refine sv n18.ok rfl (wn _ rfl) rfl (o_ld n18.at_ (Try.isAgg36 _) (B15.cell _ rfl)) (fun an19 n19 => ?_)
  have e20 := n19.ne rfl (n18.ne rfl (n16.ne rfl n8.at_))
  refine sv n19.ok rfl (wn _ rfl) rfl (o_ldR e20 W11.bk Try.underlying24 rfl (by kernel_rfl)) (fun an21 n21 => ?_)
  refine sc n21.ok rfl (wn _ rfl) rfl (o_f2 Try.func36 rfl rfl rfl (n21.ne rfl n19.at_) n21.at_) (fhas_ok (T := x.T) (hx.gr G14).fs t n) ?_
  rintro _ w23 ⟨rfl, g24⟩
  refine ⟨_, rfl, fun an22 n22 => ?_⟩
  have G25 := G14.trans g24
  have B26 := B15.gr g24
  have B27 := W11.bk.gr g24
  refine sv n22.ok rfl (wn _ rfl) rfl (o_mv n22.at_) (fun an28 n28 => ?_)
  refine sv n28.ok rfl (wn _ rfl) rfl (o_ex n28.at_ rfl) (fun an29 n29 => ?_)
  refine sv n29.ok rfl (wn _ rfl) rfl (o_ex (n29.ne rfl n28.at_) rfl) (fun an30 n30 => ?_)
  refine sv n30.ok rfl (wn _ rfl) rfl (o_as (n30.ne rfl n29.at_)) (fun an31 n31 => ?_)
  refine sv n31.ok rfl (wn _ rfl) rfl (o_as (n31.ne rfl n30.at_)) (fun an32 n32 => ?_)
  refine wpList_nil ?_
  refine th_n (hK17 _ _ ?_)
  refine wp_seq_k (fun K33 hK33 => ?_)
  refine wp_region_lit ?_
  refine sv n32.ok rfl (wn _ rfl) rfl (o_mv (n32.ne rfl n31.at_)) (fun an34 n34 => ?_)
  refine sv n34.ok rfl (wn _ rfl) rfl (o_as n34.at_) (fun an35 n35 => ?_)
  refine wpList_nil ?_
  refine th_n (hK33 _ _ ?_)
  refine wp_ret ?_
  exact ret1 n35.ok rfl (n35.at_) ⟨rfl, G25⟩
set_option maxHeartbeats 8000000 in
set_option maxRecDepth 100000 in
theorem hasDot_any (x : PtX) (a c : Int) (w : World) (hx : MeanP w x) :
    Calls Try.prog 18 #[.agg #[.slice x.fa x.fn x.fc, .slice x.va x.vn x.vc, .slice x.ma x.mn x.mc], .agg #[.int .i64 (a), .int .i64 (c)]] w fun e w' => e = .returned (.bool (hasD x.D a c)) ∧ Gr w w' := by
  refine enter (N := 15) Try.func18 rfl rfl rfl (fun a0 ok0 h0 => ?_)
  have e0_0 : a0.eval (.tmp 0) = .agg #[.slice x.fa x.fn x.fc, .slice x.va x.vn x.vc, .slice x.ma x.mn x.mc] := h0 0 _ rfl
  have e0_1 : a0.eval (.tmp 1) = .agg #[.int .i64 (a), .int .i64 (c)] := h0 1 _ rfl
  clear h0
  have G0 := Gr.refl w
  refine wp_seq_k (fun K1 hK1 => ?_)
  refine wp_region_lit ?_
  refine sal (cs := #[.slice x.fa x.fn x.fc, .slice x.va x.vn x.vc, .slice x.ma x.mn x.mc]) ok0 rfl (wn _ rfl) rfl (o_box e0_0) (fun an2 w4 b3 W5 n2 => ?_)
  have l6 : w.heap.size ≤ b3 := by rw [W5.eq]; exact G0.size
  have G7 := G0.trans W5.gr
  refine sal (cs := #[.int .i64 (a), .int .i64 (c)]) n2.ok rfl (wn _ rfl) rfl (o_box (n2.ne rfl e0_1)) (fun an8 w10 b9 W11 n8 => ?_)
  have l12 : b3 < b9 := by rw [W11.eq]; exact W5.bk.lt
  have l13 : w.heap.size ≤ b9 := by rw [W11.eq]; exact G7.size
  have G14 := G7.trans W11.gr
  have B15 := W5.bk.gr W11.gr
  refine sv n8.ok rfl (wn _ rfl) rfl (o_as ev_const) (fun an16 n16 => ?_)
  refine wpList_nil ?_
  refine th_n (hK1 _ _ ?_)
  refine wp_seq_k (fun K17 hK17 => ?_)
  refine wp_region_lit ?_
  refine sv n16.ok rfl (wn _ rfl) rfl (o_fa (z := 2) (n16.ne rfl (n8.ne rfl n2.at_)) Try.underlying38 rfl (by kernel_rfl) rfl rfl) (fun an18 n18 => ?_)
  refine sv n18.ok rfl (wn _ rfl) rfl (o_ldA (k := 1) (cs := [.slice x.va x.vn x.vc, .slice x.ma x.mn x.mc]) n18.at_ (bk_part B15 rfl) Try.underlying35 rfl (by kernel_rfl)) (fun an19 n19 => ?_)
  have e20 := n19.ne rfl (n18.ne rfl (n16.ne rfl n8.at_))
  refine sv n19.ok rfl (wn _ rfl) rfl (o_ldR e20 W11.bk Try.underlying26 rfl (by kernel_rfl)) (fun an21 n21 => ?_)
  refine sc n21.ok rfl (wn _ rfl) rfl (o_f2 Try.func37 rfl rfl rfl (n21.ne rfl n19.at_) n21.at_) (khas _ x.D a c w10 (hx.gr G14).kn hx.few) ?_
  rintro _ w23 ⟨rfl, g24⟩
  refine ⟨_, rfl, fun an22 n22 => ?_⟩
  have G25 := G14.trans g24
  have B26 := B15.gr g24
  have B27 := W11.bk.gr g24
  refine sv n22.ok rfl (wn _ rfl) rfl (o_mv n22.at_) (fun an28 n28 => ?_)
  refine sv n28.ok rfl (wn _ rfl) rfl (o_ex n28.at_ rfl) (fun an29 n29 => ?_)
  refine sv n29.ok rfl (wn _ rfl) rfl (o_ex (n29.ne rfl n28.at_) rfl) (fun an30 n30 => ?_)
  refine sv n30.ok rfl (wn _ rfl) rfl (o_as (n30.ne rfl n29.at_)) (fun an31 n31 => ?_)
  refine sv n31.ok rfl (wn _ rfl) rfl (o_as (n31.ne rfl n30.at_)) (fun an32 n32 => ?_)
  refine wpList_nil ?_
  refine th_n (hK17 _ _ ?_)
  refine wp_seq_k (fun K33 hK33 => ?_)
  refine wp_region_lit ?_
  refine sv n32.ok rfl (wn _ rfl) rfl (o_mv (n32.ne rfl n31.at_)) (fun an34 n34 => ?_)
  refine sv n34.ok rfl (wn _ rfl) rfl (o_as n34.at_) (fun an35 n35 => ?_)
  refine wpList_nil ?_
  refine th_n (hK33 _ _ ?_)
  refine wp_ret ?_
  exact ret1 n35.ok rfl (n35.at_) ⟨rfl, G25⟩
set_option maxHeartbeats 8000000 in
set_option maxRecDepth 100000 in
theorem has1_any (x : PtX) (b b2 : Nat) (t n a c : Int) (w : World) (hx : MeanP w x) (hb : Bk w b #[.int .i64 (t), .int .i64 (n)] 24) (hb2 : Bk w b2 #[.int .i64 (a), .int .i64 (c)] 26) :
    Calls Try.prog 16 #[.agg #[.slice x.fa x.fn x.fc, .slice x.va x.vn x.vc, .slice x.ma x.mn x.mc], .pointer (some ⟨b, 0, none⟩), .pointer (some ⟨b2, 0, none⟩)] w fun e w' => e = .returned (.bool (bitT x.T t n && hasD x.D a c)) ∧ Gr w w' := by
  refine enter (N := 13) Try.func16 rfl rfl rfl (fun a0 ok0 h0 => ?_)
  have e0_0 : a0.eval (.tmp 0) = .agg #[.slice x.fa x.fn x.fc, .slice x.va x.vn x.vc, .slice x.ma x.mn x.mc] := h0 0 _ rfl
  have e0_1 : a0.eval (.tmp 1) = .pointer (some ⟨b, 0, none⟩) := h0 1 _ rfl
  have e0_2 : a0.eval (.tmp 2) = .pointer (some ⟨b2, 0, none⟩) := h0 2 _ rfl
  clear h0
  have G0 := Gr.refl w
  refine wp_seq_k (fun K1 hK1 => ?_)
  refine wp_region_lit ?_
  refine sal (cs := #[.slice x.fa x.fn x.fc, .slice x.va x.vn x.vc, .slice x.ma x.mn x.mc]) ok0 rfl (wn _ rfl) rfl (o_box e0_0) (fun an2 w4 b3 W5 n2 => ?_)
  have l6 : b < b3 := by rw [W5.eq]; exact hb.lt
  have l7 : b2 < b3 := by rw [W5.eq]; exact hb2.lt
  have l8 : w.heap.size ≤ b3 := by rw [W5.eq]; exact G0.size
  have G9 := G0.trans W5.gr
  have B10 := hb.gr W5.gr
  have B11 := hb2.gr W5.gr
  refine sv n2.ok rfl (wn _ rfl) rfl (o_as ev_const) (fun an12 n12 => ?_)
  refine wpList_nil ?_
  refine th_n (hK1 _ _ ?_)
  refine wp_seq_k (fun K13 hK13 => ?_)
  refine wp_region_lit ?_
  refine sv n12.ok rfl (wn _ rfl) rfl (o_ldR (n12.ne rfl n2.at_) W5.bk Try.underlying38 rfl (by kernel_rfl)) (fun an14 n14 => ?_)
  have e15 := n14.ne rfl (n12.ne rfl (n2.ne rfl e0_1))
  refine sv n14.ok rfl (wn _ rfl) rfl (o_ldR e15 B10 Try.underlying24 rfl (by kernel_rfl)) (fun an16 n16 => ?_)
  refine sc n16.ok rfl (wn _ rfl) rfl (o_f2 Try.func17 rfl rfl rfl (n16.ne rfl n14.at_) n16.at_) (hasPoint_any x t n w4 (hx.gr G9)) ?_
  rintro _ w18 ⟨rfl, g19⟩
  refine ⟨_, rfl, fun an17 n17 => ?_⟩
  have G20 := G9.trans g19
  have B21 := B10.gr g19
  have B22 := B11.gr g19
  have B23 := W5.bk.gr g19
  refine sv n17.ok rfl (wn _ rfl) rfl (o_mv n17.at_) (fun an24 n24 => ?_)
  cases c25 : (bitT x.T t n)
  · have e26 := (n24.at_).trans (congrArg Value.bool (c25))
    have e27 := ((n24.ne rfl n17.at_)).trans (congrArg Value.bool (c25))
    refine sn n24.ok rfl (wgF rfl (yl 3 false rfl e26) rfl) rfl (fun an28 n28 => ?_)
    refine sn n28.ok rfl (wgF rfl (yl 3 false rfl (n28.ne rfl e26)) rfl) rfl (fun an29 n29 => ?_)
    refine sn n29.ok rfl (wgF rfl (yl 3 false rfl (n29.ne rfl (n28.ne rfl e26))) rfl) rfl (fun an30 n30 => ?_)
    have e31 := n30.ne rfl (n29.ne rfl (n28.ne rfl e26))
    refine sv n30.ok rfl (wn _ rfl) rfl (o_pkF e31 ev_const) (fun an32 n32 => ?_)
    refine sv n32.ok rfl (wn _ rfl) rfl (o_as n32.at_) (fun an33 n33 => ?_)
    refine wpList_nil ?_
    refine th_n (hK13 _ _ ?_)
    refine wp_ret ?_
    exact ret1 n33.ok rfl (n33.at_) ⟨congrArg (fun b => Ending.returned (Value.bool b)) (by simp [c25]), G20⟩
  · have e34 := (n24.at_).trans (congrArg Value.bool (c25))
    have e35 := ((n24.ne rfl n17.at_)).trans (congrArg Value.bool (c25))
    have e36 := n24.ne rfl (n17.ne rfl (n16.ne rfl (n14.ne rfl (n12.ne rfl n2.at_))))
    refine sv n24.ok rfl (wgT rfl (yl 3 true rfl e34) rfl) rfl (o_ldR e36 B23 Try.underlying38 rfl (by kernel_rfl)) (fun an37 n37 => ?_)
    have e38 := n37.ne rfl (n24.ne rfl (n17.ne rfl (n16.ne rfl (n14.ne rfl (n12.ne rfl (n2.ne rfl e0_2))))))
    refine sv n37.ok rfl (wgT rfl (yl 3 true rfl (n37.ne rfl e34)) rfl) rfl (o_ldR e38 B22 Try.underlying26 rfl (by kernel_rfl)) (fun an39 n39 => ?_)
    refine sc n39.ok rfl (wgT rfl (yl 3 true rfl (n39.ne rfl (n37.ne rfl e34))) rfl) rfl (o_f2 Try.func18 rfl rfl rfl (n39.ne rfl n37.at_) n39.at_) (hasDot_any x a c w18 (hx.gr G20)) ?_
    rintro _ w41 ⟨rfl, g42⟩
    refine ⟨_, rfl, fun an40 n40 => ?_⟩
    have G43 := G20.trans g42
    have B44 := B21.gr g42
    have B45 := B22.gr g42
    have B46 := B23.gr g42
    have e47 := n40.ne rfl (n39.ne rfl (n37.ne rfl e34))
    refine sv n40.ok rfl (wn _ rfl) rfl (o_pkT e47 n40.at_) (fun an48 n48 => ?_)
    refine sv n48.ok rfl (wn _ rfl) rfl (o_as n48.at_) (fun an49 n49 => ?_)
    refine wpList_nil ?_
    refine th_n (hK13 _ _ ?_)
    refine wp_ret ?_
    exact ret1 n49.ok rfl (n49.at_) ⟨congrArg (fun b => Ending.returned (Value.bool b)) (by simp [c25]), G43⟩
set_option maxHeartbeats 8000000 in
set_option maxRecDepth 100000 in
theorem mop1_any (x : PtX) (b : Nat) (t n : Int) (w : World) (hx : MeanP w x) (hb : Bk w b #[.int .i64 (t), .int .i64 (n)] 24) :
    Calls Try.prog 41 #[.agg #[.slice x.fa x.fn x.fc, .slice x.va x.vn x.vc, .slice x.ma x.mn x.mc], .pointer (some ⟨b, 0, none⟩)] w fun e w' => e = .returned (.bool (bitT x.T t n)) ∧ Gr w w' := by
  refine enter (N := 7) Try.func41 rfl rfl rfl (fun a0 ok0 h0 => ?_)
  have e0_0 : a0.eval (.tmp 0) = .agg #[.slice x.fa x.fn x.fc, .slice x.va x.vn x.vc, .slice x.ma x.mn x.mc] := h0 0 _ rfl
  have e0_1 : a0.eval (.tmp 1) = .pointer (some ⟨b, 0, none⟩) := h0 1 _ rfl
  clear h0
  have G0 := Gr.refl w
  refine wp_seq_k (fun K1 hK1 => ?_)
  refine wp_region_lit ?_
  refine sal (cs := #[.slice x.fa x.fn x.fc, .slice x.va x.vn x.vc, .slice x.ma x.mn x.mc]) ok0 rfl (wn _ rfl) rfl (o_box e0_0) (fun an2 w4 b3 W5 n2 => ?_)
  have l6 : b < b3 := by rw [W5.eq]; exact hb.lt
  have l7 : w.heap.size ≤ b3 := by rw [W5.eq]; exact G0.size
  have G8 := G0.trans W5.gr
  have B9 := hb.gr W5.gr
  refine sv n2.ok rfl (wn _ rfl) rfl (o_as ev_const) (fun an10 n10 => ?_)
  refine wpList_nil ?_
  refine th_n (hK1 _ _ ?_)
  refine wp_seq_k (fun K11 hK11 => ?_)
  refine wp_region_lit ?_
  refine sv n10.ok rfl (wn _ rfl) rfl (o_ldR (n10.ne rfl n2.at_) W5.bk Try.underlying38 rfl (by kernel_rfl)) (fun an12 n12 => ?_)
  have e13 := n12.ne rfl (n10.ne rfl (n2.ne rfl e0_1))
  refine sv n12.ok rfl (wn _ rfl) rfl (o_ldR e13 B9 Try.underlying24 rfl (by kernel_rfl)) (fun an14 n14 => ?_)
  refine sc n14.ok rfl (wn _ rfl) rfl (o_f2 Try.func17 rfl rfl rfl (n14.ne rfl n12.at_) n14.at_) (hasPoint_any x t n w4 (hx.gr G8)) ?_
  rintro _ w16 ⟨rfl, g17⟩
  refine ⟨_, rfl, fun an15 n15 => ?_⟩
  have G18 := G8.trans g17
  have B19 := B9.gr g17
  have B20 := W5.bk.gr g17
  refine sv n15.ok rfl (wn _ rfl) rfl (o_as n15.at_) (fun an21 n21 => ?_)
  refine wpList_nil ?_
  refine th_n (hK11 _ _ ?_)
  refine wp_ret ?_
  exact ret1 n21.ok rfl (n21.at_) ⟨rfl, G18⟩
set_option maxHeartbeats 8000000 in
set_option maxRecDepth 100000 in
theorem mod1_any (x : PtX) (b : Nat) (a c : Int) (w : World) (hx : MeanP w x) (hb : Bk w b #[.int .i64 (a), .int .i64 (c)] 26) :
    Calls Try.prog 39 #[.agg #[.slice x.fa x.fn x.fc, .slice x.va x.vn x.vc, .slice x.ma x.mn x.mc], .pointer (some ⟨b, 0, none⟩)] w fun e w' => e = .returned (.bool (hasD x.D a c)) ∧ Gr w w' := by
  refine enter (N := 7) Try.func39 rfl rfl rfl (fun a0 ok0 h0 => ?_)
  have e0_0 : a0.eval (.tmp 0) = .agg #[.slice x.fa x.fn x.fc, .slice x.va x.vn x.vc, .slice x.ma x.mn x.mc] := h0 0 _ rfl
  have e0_1 : a0.eval (.tmp 1) = .pointer (some ⟨b, 0, none⟩) := h0 1 _ rfl
  clear h0
  have G0 := Gr.refl w
  refine wp_seq_k (fun K1 hK1 => ?_)
  refine wp_region_lit ?_
  refine sal (cs := #[.slice x.fa x.fn x.fc, .slice x.va x.vn x.vc, .slice x.ma x.mn x.mc]) ok0 rfl (wn _ rfl) rfl (o_box e0_0) (fun an2 w4 b3 W5 n2 => ?_)
  have l6 : b < b3 := by rw [W5.eq]; exact hb.lt
  have l7 : w.heap.size ≤ b3 := by rw [W5.eq]; exact G0.size
  have G8 := G0.trans W5.gr
  have B9 := hb.gr W5.gr
  refine sv n2.ok rfl (wn _ rfl) rfl (o_as ev_const) (fun an10 n10 => ?_)
  refine wpList_nil ?_
  refine th_n (hK1 _ _ ?_)
  refine wp_seq_k (fun K11 hK11 => ?_)
  refine wp_region_lit ?_
  refine sv n10.ok rfl (wn _ rfl) rfl (o_ldR (n10.ne rfl n2.at_) W5.bk Try.underlying38 rfl (by kernel_rfl)) (fun an12 n12 => ?_)
  have e13 := n12.ne rfl (n10.ne rfl (n2.ne rfl e0_1))
  refine sv n12.ok rfl (wn _ rfl) rfl (o_ldR e13 B9 Try.underlying26 rfl (by kernel_rfl)) (fun an14 n14 => ?_)
  refine sc n14.ok rfl (wn _ rfl) rfl (o_f2 Try.func18 rfl rfl rfl (n14.ne rfl n12.at_) n14.at_) (hasDot_any x a c w4 (hx.gr G8)) ?_
  rintro _ w16 ⟨rfl, g17⟩
  refine ⟨_, rfl, fun an15 n15 => ?_⟩
  have G18 := G8.trans g17
  have B19 := B9.gr g17
  have B20 := W5.bk.gr g17
  refine sv n15.ok rfl (wn _ rfl) rfl (o_as n15.at_) (fun an21 n21 => ?_)
  refine wpList_nil ?_
  refine th_n (hK11 _ _ ?_)
  refine wp_ret ?_
  exact ret1 n21.ok rfl (n21.at_) ⟨rfl, G18⟩
end Go.Proofs.Ythcehgmpajejeaa

/- part.Check, checkBoth, Has. -/
set_option linter.unusedVariables false
set_option linter.unusedSimpArgs false
namespace Rm
open Go Go.RowKit Gx
/-- a part, as it is read -/
structure PtI where
  fa : Option Addr
  fn : Nat
  fc : Nat
  va : Option Addr
  vn : Nat
  vc : Nat
  ma : Option Addr
  mn : Nat
  mc : Nat
  l : List BoxI
  V : List Int
  M : List (Int × Int)
def encR (x : PtI) : List Value := [.slice x.fa x.fn x.fc, .slice x.va x.vn x.vc, .slice x.ma x.mn x.mc]
def PtI.f (x : PtI) : Value := .slice x.fa x.fn x.fc
def PtI.k (x : PtI) : Value := .agg #[.slice x.va x.vn x.vc, .slice x.ma x.mn x.mc]
/-- what Check says -/
def chkI (x : PtI) : Int := if chkF x.l = 0 then chkK x.V x.M else chkF x.l
def chkPGo : List PtI → Int
  | [] => 0
  | x :: r => if chkI x = 0 then chkPGo r else chkI x
def chkP (K : List PtI) : Int := if 30 < K.length then 2 else chkPGo K
theorem chkPGo_at {K : List PtI} {i : Nat} {x : PtI} (h : K[i]? = some x) : chkPGo (K.drop i) = if chkI x = 0 then chkPGo (K.drop (i + 1)) else chkI x := by
  obtain ⟨hi, e⟩ := List.getElem?_eq_some_iff.1 h
  rw [List.drop_eq_getElem_cons hi, e]
  rfl
theorem chkPGo_zero {K : List PtI} : chkPGo K = 0 ↔ ∀ x ∈ K, chkI x = 0 := by
  induction K with
  | nil => simp [chkPGo]
  | cons a K ih =>
    unfold chkPGo
    by_cases h : chkI a = 0
    · rw [if_pos h, ih]
      simp [h]
    · rw [if_neg h]
      simp [h]
end Rm
namespace Go.Proofs.Ythcehgmpajejeaa
open Go.RowKit Rm Gx
structure MeanI (w : World) (x : PtI) : Prop where
  fs : RdF w x.f x.l
  kn : KnR w x.k x.V x.M
theorem MeanI.gr {w w' : World} {x : PtI} (h : MeanI w x) (g : Gr w w') : MeanI w' x := ⟨h.fs.gr g, h.kn.gr g⟩
def MeansI (w : World) (K : List PtI) : Prop := ∀ x ∈ K, MeanI w x
theorem MeansI.gr {w w' : World} {K : List PtI} (h : MeansI w K) (g : Gr w w') : MeansI w' K := fun x hx => (h x hx).gr g
/-- a part that passes says something -/
theorem MeanI.x {w : World} {x : PtI} (h : MeanI w x) (hc : chkI x = 0) : ∃ y : PtX, encP y = encR x ∧ MeanP w y := by
  unfold chkI at hc
  by_cases h0 : chkF x.l = 0
  · rw [if_pos h0] at hc
    obtain ⟨F, h1, h2, h3⟩ := okF_of h0
    obtain ⟨v, m, h4, h5, h6, h7⟩ := chkK_zero hc
    obtain ⟨q1, q2⟩ := form_self h6
    refine ⟨⟨x.fa, x.fn, x.fc, x.va, x.vn, x.vc, x.ma, x.mn, x.mc, tabF F, memB v m⟩, rfl, ⟨F, h1 ▸ h.fs, h2, h3, fun _ _ => rfl⟩, ?_, ?_⟩
    · show KnR w _ (ints (formV (memB v m))) (pairs (formM (memB v m)))
      rw [q1, q2, ← h4, ← h5]
      exact h.kn
    · show (formM (memB v m)).length ≤ 60
      rw [q2]; exact h7
  · rw [if_neg h0] at hc
    exact absurd hc h0
theorem MeanP.i {w : World} {y : PtX} (h : MeanP w y) : ∃ x : PtI, encR x = encP y ∧ MeanI w x ∧ chkI x = 0 := by
  obtain ⟨F, h1, h2, h3, h4⟩ := h.fs
  have h5 : KnR w y.k (ints (formV y.D)) (pairs (formM y.D)) := h.kn
  have h6 : chkK (ints (formV y.D)) (pairs (formM y.D)) = 0 := (form_ok y.D).chk h.few
  generalize ints (formV y.D) = V at h5 h6
  generalize pairs (formM y.D) = M at h5 h6
  refine ⟨⟨y.fa, y.fn, y.fc, y.va, y.vn, y.vc, y.ma, y.mn, y.mc, F.map boxI, V, M⟩, rfl, ⟨h1, h5⟩, ?_⟩
  unfold chkI
  rw [if_pos (chkF_of h2 h3)]
  exact h6
/-- lists: from what is read to what it says, and back -/
theorem MeansI.xs {w : World} {K : List PtI} (h : MeansI w K) (hc : ∀ x ∈ K, chkI x = 0) : ∃ L : List PtX, L.map encP = K.map encR ∧ MeansP w L := by
  induction K with
  | nil => exact ⟨[], rfl, fun x hx => by cases hx⟩
  | cons a K ih =>
    obtain ⟨y, h1, h2⟩ := (h a (List.mem_cons_self ..)).x (hc a (List.mem_cons_self ..))
    obtain ⟨L, h3, h4⟩ := ih (fun x hx => h x (List.mem_cons_of_mem _ hx)) (fun x hx => hc x (List.mem_cons_of_mem _ hx))
    refine ⟨y :: L, by simp [h1, h3], fun x hx => ?_⟩
    rcases List.mem_cons.1 hx with rfl | hx
    · exact h2
    · exact h4 x hx
theorem MeansP.is {w : World} {L : List PtX} (h : MeansP w L) : ∃ K : List PtI, K.map encR = L.map encP ∧ MeansI w K ∧ ∀ x ∈ K, chkI x = 0 := by
  induction L with
  | nil => exact ⟨[], rfl, (fun x hx => by cases hx), fun x hx => by cases hx⟩
  | cons a L ih =>
    obtain ⟨y, h1, h2, h3⟩ := (h a (List.mem_cons_self ..)).i
    obtain ⟨K, h4, h5, h6⟩ := ih (fun x hx => h x (List.mem_cons_of_mem _ hx))
    refine ⟨y :: K, by simp [h1, h4], fun x hx => ?_, fun x hx => ?_⟩
    · rcases List.mem_cons.1 hx with rfl | hx
      · exact h2
      · exact h5 x hx
    · rcases List.mem_cons.1 hx with rfl | hx
      · exact h3
      · exact h6 x hx
theorem rd_map {E F : Type} {enc : E → List Value} {enc' : F → List Value} {s : Nat} {w : World} {a : Option Addr} {K : List E} {L : List F} (h : RdA enc s w a K) (e : L.map enc' = K.map enc) : RdA enc' s w a L := by
  intro hn
  have hl : L.length = K.length := by simpa using congrArg List.length e
  obtain ⟨b, off, h1, h2, h3⟩ := h (by intro q; rw [q] at hl; exact hn (List.eq_nil_of_length_eq_zero (by simpa using hl)))
  refine ⟨b, off, h1, h2, fun i y hy j u hu => ?_⟩
  have hi : i < K.length := by rw [← hl]; exact (List.getElem?_eq_some_iff.1 hy).1
  have e2 : (L.map enc')[i]? = (K.map enc)[i]? := by rw [e]
  rw [List.getElem?_map, List.getElem?_map, hy, List.getElem?_eq_getElem hi] at e2
  simp only [Option.map_some, Option.some.injEq] at e2
  rw [e2] at hu
  exact h3 i _ (List.getElem?_eq_getElem hi) j u hu
set_option maxHeartbeats 8000000 in
set_option maxRecDepth 100000 in
theorem pcheck_any (K : List PtI) (va : Option Addr) (vc : Nat) (w : World) (hl : K.length ≤ 9223372036854775807) (hv : RdA encR 3 w va K) (hm : MeansI w K) :
    Calls Try.prog 7 #[.slice va K.length vc] w fun e w' => e = .returned (.int .i64 (chkP K)) ∧ Gr w w' := by
  refine enter (N := 29) Try.func7 rfl rfl rfl (fun a0 ok0 h0 => ?_)
  have e0_0 : a0.eval (.tmp 0) = .slice va K.length vc := h0 0 _ rfl
  clear h0
  have G0 := Gr.refl w
  refine wp_seq_k (fun K1 hK1 => ?_)
  refine wp_region_lit ?_
  refine sv ok0 rfl (wn _ rfl) rfl (o_as ev_const) (fun an2 n2 => ?_)
  refine wpList_nil ?_
  refine th_n (hK1 _ _ ?_)
  refine wp_seq_k (fun K3 hK3 => ?_)
  refine wp_seq_k (fun K4 hK4 => ?_)
  refine wp_region_lit ?_
  refine sv n2.ok rfl (wn _ rfl) rfl (o_mv (n2.ne rfl e0_0)) (fun an5 n5 => ?_)
  refine sv n5.ok rfl (wn _ rfl) rfl (o_len n5.at_ Try.underlying22) (fun an6 n6 => ?_)
  refine sv n6.ok rfl (wn _ rfl) rfl (o_gtI n6.at_ ev_const) (fun an7 n7 => ?_)
  refine wpList_nil ?_
  refine th_n (hK4 _ _ ?_)
  by_cases c8 : (30 : Int) < ((K.length : Nat) : Int)
  · refine wp_cond_true ((n7.at_).trans (congrArg Value.bool (decide_eq_true c8))) ?_
    refine wp_seq_k (fun K9 hK9 => ?_)
    refine wp_region_lit ?_
    refine sv n7.ok rfl (wn _ rfl) rfl (o_as ev_const) (fun an10 n10 => ?_)
    refine wpList_nil ?_
    refine th_n (hK9 _ _ ?_)
    refine wp_ret ?_
    refine th_r ?_
    exact ret1 n10.ok rfl (n10.at_) ⟨congrArg (fun n => Ending.returned (Value.int .i64 n)) (by unfold chkP; rw [if_pos (by omega)]), G0⟩
  · refine wp_cond_false ((n7.at_).trans (congrArg Value.bool (decide_eq_false c8))) ?_
    refine wp_skip ?_
    refine th_n (hK3 _ _ ?_)
    refine wp_seq_k (fun K11 hK11 => ?_)
    refine wp_seq_k (fun K12 hK12 => ?_)
    refine wp_region_lit ?_
    have e13 := n7.ne rfl (n6.ne rfl (n5.ne rfl (n2.ne rfl e0_0)))
    refine sv n7.ok rfl (wn _ rfl) rfl (o_mv e13) (fun an14 n14 => ?_)
    refine sv n14.ok rfl (wn _ rfl) rfl (o_len n14.at_ Try.underlying22) (fun an15 n15 => ?_)
    refine sv n15.ok rfl (wn _ rfl) rfl (o_mv ev_const) (fun an16 n16 => ?_)
    refine wpList_nil ?_
    refine th_n (hK12 _ _ ?_)
    refine wp_block ?_
    have e18 := n16.ne rfl (n15.ne rfl (n14.ne rfl (n7.ne rfl (n6.ne rfl (n5.ne rfl n2.at_)))))
    refine lp (fun (nL : Nat) (aL : Act) (wL : World) => ∃ i : Nat, nL = K.length - i ∧ Ok 29 aL ∧ Gr w wL ∧ (aL.eval (.tmp 2) = .int .i64 0) ∧ (aL.eval (.tmp 10) = .slice va K.length vc) ∧ (aL.eval (.tmp 11) = .int .i64 ((K.length : Nat) : Int)) ∧ (aL.eval (.tmp 12) = .int .i64 (i : Int)) ∧ (i ≤ K.length) ∧ (chkPGo K = chkPGo (K.drop i))) _ ⟨0, rfl, n16.ok, G0, e18, (n16.ne rfl (n15.ne rfl n14.at_)), (n16.ne rfl n15.at_), n16.at_, by omega, rfl⟩ ?_
    rintro m19 aI17 w21 ⟨i, hmI17, okI17, GI17, s2I17, s10I17, s11I17, s12I17, hiI17, hgI17⟩ KI17 hKI17
    refine wp_seq_k (fun K22 hK22 => ?_)
    refine wp_region_lit ?_
    refine sv okI17 rfl (wn _ rfl) rfl (o_ltI s12I17 s11I17) (fun an23 n23 => ?_)
    refine wpList_nil ?_
    refine th_n (hK22 _ _ ?_)
    refine wp_seq_k (fun K24 hK24 => ?_)
    by_cases c25 : (i : Int) < ((K.length : Nat) : Int)
    · refine wp_cond_true ((n23.at_).trans (congrArg Value.bool (decide_eq_true c25))) ?_
      refine wp_skip ?_
      refine th_n (hK24 _ _ ?_)
      refine wp_seq_k (fun K26 hK26 => ?_)
      refine wp_block ?_
      refine wp_seq_k (fun K27 hK27 => ?_)
      refine wp_region_lit ?_
      have h28l : i < List.length K := by omega
      obtain ⟨bh28, fh28, h28a, h28b, h28c⟩ := hv (ne_nil_of_lt h28l)
      obtain ⟨xh28, h28x⟩ : ∃ x, (K)[i]? = some x := ⟨_, List.getElem?_eq_getElem h28l⟩
      refine sv n23.ok rfl (wn _ rfl) rfl (o_iaV (i := i) (s := 3) h28a (n23.ne rfl s10I17) (n23.ne rfl s12I17) Try.underlying22 (by kernel_rfl) h28l) (fun an29 n29 => ?_)
      refine sv n29.ok rfl (wn _ rfl) rfl (o_ldA (k := fh28 + i * 3) n29.at_ (cs := [.slice xh28.fa xh28.fn xh28.fc, .slice xh28.va xh28.vn xh28.vc, .slice xh28.ma xh28.mn xh28.mc]) (fun j v hv => (Below.cell GI17 h28b).trans (h28c _ _ h28x j v hv)) Try.underlying38 rfl (by kernel_rfl)) (fun an30 n30 => ?_)
      refine sal (cs := #[.slice none 0 0, .slice none 0 0, .slice none 0 0]) n30.ok rfl (wn _ rfl) rfl (o_al (z := .agg #[.slice none 0 0, .slice none 0 0, .slice none 0 0]) (by kernel_rfl)) (fun an31 w33 b32 W34 n31 => ?_)
      have l35 : w.heap.size ≤ b32 := by rw [W34.eq]; exact GI17.size
      have G36 := GI17.trans W34.gr
      refine ssR rfl (wn _ rfl) (o_stR n31.at_ (n31.ne rfl n30.at_) W34.bk (by kernel_rfl) rfl (by simp [Value.oneCell'])) W34.bk (fun w37 u38 u38b => ?_)
      have G39 : Gr w w37 := Below.upd G36 l35 u38
      refine wpList_nil ?_
      refine th_n (hK27 _ _ ?_)
      refine wp_seq_k (fun K40 hK40 => ?_)
      refine wp_seq_k (fun K41 hK41 => ?_)
      refine wp_region_lit ?_
      refine sv n31.ok rfl (wn _ rfl) rfl (o_fa (z := 1) n31.at_ Try.underlying38 rfl (by kernel_rfl) rfl rfl) (fun an42 n42 => ?_)
      refine sv n42.ok rfl (wn _ rfl) rfl (o_ld n42.at_ (Try.isAgg36 _) (u38b.cell _ rfl)) (fun an43 n43 => ?_)
      refine sc n43.ok rfl (wn _ rfl) rfl (o_f1 Try.func26 rfl rfl rfl n43.at_) (fcheck_any _ _ w37 ((hm _ (List.mem_of_getElem? h28x)).gr G39).fs) ?_
      rintro _ w45 ⟨rfl, g46⟩
      refine ⟨_, rfl, fun an44 n44 => ?_⟩
      have G47 := G39.trans g46
      have B48 := u38b.gr g46
      refine sv n44.ok rfl (wn _ rfl) rfl (o_as n44.at_) (fun an49 n49 => ?_)
      refine wpList_nil ?_
      refine th_n (hK41 _ _ ?_)
      refine wp_seq_k (fun K50 hK50 => ?_)
      refine wp_region_lit ?_
      refine sv n49.ok rfl (wn _ rfl) rfl (o_mv n49.at_) (fun an51 n51 => ?_)
      refine sv n51.ok rfl (wn _ rfl) rfl (o_neI n51.at_ ev_const) (fun an52 n52 => ?_)
      refine wpList_nil ?_
      refine th_n (hK50 _ _ ?_)
      by_cases c53 : ¬ (chkF xh28.l) = 0
      · refine wp_cond_true ((n52.at_).trans (congrArg Value.bool (decide_eq_true c53))) ?_
        refine wp_seq_k (fun K54 hK54 => ?_)
        refine wp_region_lit ?_
        refine sv n52.ok rfl (wn _ rfl) rfl (o_mv (n52.ne rfl (n51.ne rfl n49.at_))) (fun an55 n55 => ?_)
        refine sv n55.ok rfl (wn _ rfl) rfl (o_as n55.at_) (fun an56 n56 => ?_)
        refine wpList_nil ?_
        refine th_n (hK54 _ _ ?_)
        refine wp_ret ?_
        refine th_r ?_
        refine ib_r ?_
        refine th_r ?_
        refine th_r ?_
        refine ib_r ?_
        refine th_r ?_
        exact ret1 n56.ok rfl (n56.at_) ⟨congrArg (fun n => Ending.returned (Value.int .i64 n)) (by unfold chkP; rw [if_neg (by omega), hgI17, chkPGo_at h28x]; unfold chkI; rw [if_neg c53, if_neg c53]), G47⟩
      · refine wp_cond_false ((n52.at_).trans (congrArg Value.bool (decide_eq_false c53))) ?_
        refine wp_skip ?_
        refine th_n (hK40 _ _ ?_)
        refine wp_seq_k (fun K57 hK57 => ?_)
        refine wp_region_lit ?_
        have e58 := n52.ne rfl (n51.ne rfl (n49.ne rfl (n44.ne rfl (n43.ne rfl (n42.ne rfl n31.at_)))))
        refine sv n52.ok rfl (wn _ rfl) rfl (o_fa (z := 2) e58 Try.underlying38 rfl (by kernel_rfl) rfl rfl) (fun an59 n59 => ?_)
        refine sv n59.ok rfl (wn _ rfl) rfl (o_ldA (k := 1) (cs := [.slice xh28.va xh28.vn xh28.vc, .slice xh28.ma xh28.mn xh28.mc]) n59.at_ (bk_part B48 rfl) Try.underlying35 rfl (by kernel_rfl)) (fun an60 n60 => ?_)
        refine sc n60.ok rfl (wn _ rfl) rfl (o_f1 Try.func27 rfl rfl rfl n60.at_) (kcheck_any _ _ _ w45 ((hm _ (List.mem_of_getElem? h28x)).gr G47).kn) ?_
        rintro _ w62 ⟨rfl, g63⟩
        refine ⟨_, rfl, fun an61 n61 => ?_⟩
        have G64 := G47.trans g63
        have B65 := B48.gr g63
        refine sv n61.ok rfl (wn _ rfl) rfl (o_as n61.at_) (fun an66 n66 => ?_)
        refine wpList_nil ?_
        refine th_n (hK57 _ _ ?_)
        refine wp_seq_k (fun K67 hK67 => ?_)
        refine wp_region_lit ?_
        refine sv n66.ok rfl (wn _ rfl) rfl (o_mv n66.at_) (fun an68 n68 => ?_)
        refine sv n68.ok rfl (wn _ rfl) rfl (o_neI n68.at_ ev_const) (fun an69 n69 => ?_)
        refine wpList_nil ?_
        refine th_n (hK67 _ _ ?_)
        by_cases c70 : ¬ (chkK xh28.V xh28.M) = 0
        · refine wp_cond_true ((n69.at_).trans (congrArg Value.bool (decide_eq_true c70))) ?_
          refine wp_seq_k (fun K71 hK71 => ?_)
          refine wp_region_lit ?_
          refine sv n69.ok rfl (wn _ rfl) rfl (o_mv (n69.ne rfl (n68.ne rfl n66.at_))) (fun an72 n72 => ?_)
          refine sv n72.ok rfl (wn _ rfl) rfl (o_as n72.at_) (fun an73 n73 => ?_)
          refine wpList_nil ?_
          refine th_n (hK71 _ _ ?_)
          refine wp_ret ?_
          refine ib_r ?_
          refine th_r ?_
          refine th_r ?_
          refine ib_r ?_
          refine th_r ?_
          exact ret1 n73.ok rfl (n73.at_) ⟨congrArg (fun n => Ending.returned (Value.int .i64 n)) (by unfold chkP; rw [if_neg (by omega), hgI17, chkPGo_at h28x]; unfold chkI; rw [if_pos (Decidable.of_not_not c53), if_neg c70]), G64⟩
        · refine wp_cond_false ((n69.at_).trans (congrArg Value.bool (decide_eq_false c70))) ?_
          refine wp_skip ?_
          refine ib_n ?_
          refine th_n (hK26 _ _ ?_)
          refine wp_region_lit ?_
          have e74 := n69.ne rfl (n68.ne rfl (n66.ne rfl (n61.ne rfl (n60.ne rfl (n59.ne rfl (n52.ne rfl (n51.ne rfl (n49.ne rfl (n44.ne rfl (n43.ne rfl (n42.ne rfl (n31.ne rfl (n30.ne rfl (n29.ne rfl (n23.ne rfl s12I17)))))))))))))))
          refine sv n69.ok rfl (wn _ rfl) rfl (o_add (r := ((i + 1 : Nat) : Int)) e74 ev_const (by omega) (by omega)) (fun an75 n75 => ?_)
          refine sv n75.ok rfl (wn _ rfl) rfl (o_mv n75.at_) (fun an76 n76 => ?_)
          refine wpList_nil ?_
          have e77 := n76.ne rfl (n75.ne rfl (n69.ne rfl (n68.ne rfl (n66.ne rfl (n61.ne rfl (n60.ne rfl (n59.ne rfl (n52.ne rfl (n51.ne rfl (n49.ne rfl (n44.ne rfl (n43.ne rfl (n42.ne rfl (n31.ne rfl (n30.ne rfl (n29.ne rfl (n23.ne rfl s2I17)))))))))))))))))
          have e78 := n76.ne rfl (n75.ne rfl (n69.ne rfl (n68.ne rfl (n66.ne rfl (n61.ne rfl (n60.ne rfl (n59.ne rfl (n52.ne rfl (n51.ne rfl (n49.ne rfl (n44.ne rfl (n43.ne rfl (n42.ne rfl (n31.ne rfl (n30.ne rfl (n29.ne rfl (n23.ne rfl s10I17)))))))))))))))))
          have e79 := n76.ne rfl (n75.ne rfl (n69.ne rfl (n68.ne rfl (n66.ne rfl (n61.ne rfl (n60.ne rfl (n59.ne rfl (n52.ne rfl (n51.ne rfl (n49.ne rfl (n44.ne rfl (n43.ne rfl (n42.ne rfl (n31.ne rfl (n30.ne rfl (n29.ne rfl (n23.ne rfl s11I17)))))))))))))))))
          exact th_n (hKI17 _ _ _ (by omega) ⟨i + 1, rfl, n76.ok, G64, e77, e78, e79, n76.at_, by omega, by rw [hgI17, chkPGo_at h28x, if_pos]; unfold chkI; rw [if_pos (Decidable.of_not_not c53)]; exact Decidable.of_not_not c70⟩)
    · refine wp_cond_false ((n23.at_).trans (congrArg Value.bool (decide_eq_false c25))) ?_
      refine wp_exit ?_
      refine th_x ?_
      refine th_x ?_
      refine ib_x ?_
      refine th_n (hK11 _ _ ?_)
      refine wp_seq_k (fun K80 hK80 => ?_)
      refine wp_region_lit ?_
      refine sv n23.ok rfl (wn _ rfl) rfl (o_as ev_const) (fun an81 n81 => ?_)
      refine wpList_nil ?_
      refine th_n (hK80 _ _ ?_)
      refine wp_ret ?_
      exact ret1 n81.ok rfl (n81.at_) ⟨congrArg (fun n => Ending.returned (Value.int .i64 n)) (by unfold chkP; rw [if_neg (by omega), hgI17, List.drop_eq_nil_of_le (by omega)]; rfl), GI17⟩
theorem pcheck_ok (L : List PtX) (va : Option Addr) (vc : Nat) (w : World) (hl : L.length ≤ 30) (hv : RdA encP 3 w va L) (hm : MeansP w L) : Calls Try.prog 7 #[.slice va L.length vc] w fun e w' => e = .returned (.int .i64 0) ∧ Gr w w' := by
  obtain ⟨K, h1, h2, h3⟩ := hm.is
  have hlen : K.length = L.length := by simpa using congrArg List.length h1
  have h := pcheck_any K va vc w (by omega) (rd_map hv h1) h2
  have e : chkP K = 0 := by unfold chkP; rw [if_neg (by omega)]; exact chkPGo_zero.2 h3
  rw [e, hlen] at h
  exact h
def chkP2 (K L : List PtI) : Int := if chkP K = 0 then chkP L else chkP K
set_option maxHeartbeats 8000000 in
set_option maxRecDepth 100000 in
theorem pcheckBoth_any (K L : List PtI) (va vb : Option Addr) (vc vd : Nat) (w : World) (hl1 : K.length ≤ 9223372036854775807) (hl2 : L.length ≤ 9223372036854775807) (h1 : RdA encR 3 w va K) (h2 : RdA encR 3 w vb L) (hm1 : MeansI w K) (hm2 : MeansI w L) :
    Calls Try.prog 19 #[.slice va K.length vc, .slice vb L.length vd] w fun e w' => e = .returned (.int .i64 (chkP2 K L)) ∧ Gr w w' := by
  refine enter (N := 13) Try.func19 rfl rfl rfl (fun a0 ok0 h0 => ?_)
  have e0_0 : a0.eval (.tmp 0) = .slice va K.length vc := h0 0 _ rfl
  have e0_1 : a0.eval (.tmp 1) = .slice vb L.length vd := h0 1 _ rfl
  clear h0
  have G0 := Gr.refl w
  refine wp_seq_k (fun K1 hK1 => ?_)
  refine wp_region_lit ?_
  refine sv ok0 rfl (wn _ rfl) rfl (o_as ev_const) (fun an2 n2 => ?_)
  refine wpList_nil ?_
  refine th_n (hK1 _ _ ?_)
  refine wp_seq_k (fun K3 hK3 => ?_)
  refine wp_seq_k (fun K4 hK4 => ?_)
  refine wp_region_lit ?_
  refine sv n2.ok rfl (wn _ rfl) rfl (o_mv (n2.ne rfl e0_0)) (fun an5 n5 => ?_)
  refine sc n5.ok rfl (wn _ rfl) rfl (o_f1 Try.func7 rfl rfl rfl n5.at_) (pcheck_any K va vc w hl1 (h1.gr G0) (hm1.gr G0)) ?_
  rintro _ w7 ⟨rfl, g8⟩
  refine ⟨_, rfl, fun an6 n6 => ?_⟩
  have G9 := G0.trans g8
  refine sv n6.ok rfl (wn _ rfl) rfl (o_as n6.at_) (fun an10 n10 => ?_)
  refine wpList_nil ?_
  refine th_n (hK4 _ _ ?_)
  refine wp_seq_k (fun K11 hK11 => ?_)
  refine wp_region_lit ?_
  refine sv n10.ok rfl (wn _ rfl) rfl (o_mv n10.at_) (fun an12 n12 => ?_)
  refine sv n12.ok rfl (wn _ rfl) rfl (o_neI n12.at_ ev_const) (fun an13 n13 => ?_)
  refine wpList_nil ?_
  refine th_n (hK11 _ _ ?_)
  by_cases c14 : ¬ (chkP K) = 0
  · refine wp_cond_true ((n13.at_).trans (congrArg Value.bool (decide_eq_true c14))) ?_
    refine wp_seq_k (fun K15 hK15 => ?_)
    refine wp_region_lit ?_
    refine sv n13.ok rfl (wn _ rfl) rfl (o_mv (n13.ne rfl (n12.ne rfl n10.at_))) (fun an16 n16 => ?_)
    refine sv n16.ok rfl (wn _ rfl) rfl (o_as n16.at_) (fun an17 n17 => ?_)
    refine wpList_nil ?_
    refine th_n (hK15 _ _ ?_)
    refine wp_ret ?_
    refine th_r ?_
    exact ret1 n17.ok rfl (n17.at_) ⟨congrArg (fun n => Ending.returned (Value.int .i64 n)) (by unfold chkP2; rw [if_neg c14]), G9⟩
  · refine wp_cond_false ((n13.at_).trans (congrArg Value.bool (decide_eq_false c14))) ?_
    refine wp_skip ?_
    refine th_n (hK3 _ _ ?_)
    refine wp_seq_k (fun K18 hK18 => ?_)
    refine wp_region_lit ?_
    have e19 := n13.ne rfl (n12.ne rfl (n10.ne rfl (n6.ne rfl (n5.ne rfl (n2.ne rfl e0_1)))))
    refine sv n13.ok rfl (wn _ rfl) rfl (o_mv e19) (fun an20 n20 => ?_)
    refine sc n20.ok rfl (wn _ rfl) rfl (o_f1 Try.func7 rfl rfl rfl n20.at_) (pcheck_any L vb vd w7 hl2 (h2.gr G9) (hm2.gr G9)) ?_
    rintro _ w22 ⟨rfl, g23⟩
    refine ⟨_, rfl, fun an21 n21 => ?_⟩
    have G24 := G9.trans g23
    refine sv n21.ok rfl (wn _ rfl) rfl (o_as n21.at_) (fun an25 n25 => ?_)
    refine wpList_nil ?_
    refine th_n (hK18 _ _ ?_)
    refine wp_ret ?_
    exact ret1 n25.ok rfl (n25.at_) ⟨congrArg (fun n => Ending.returned (Value.int .i64 n)) (by unfold chkP2; rw [if_pos (Decidable.of_not_not c14)]), G24⟩
theorem pcheckBoth_ok (K L : List PtX) (va vb : Option Addr) (vc vd : Nat) (w : World) (hl : K.length ≤ 30) (hl' : L.length ≤ 30) (hv : RdA encP 3 w va K) (hv' : RdA encP 3 w vb L) (hm : MeansP w K) (hm' : MeansP w L) : Calls Try.prog 19 #[.slice va K.length vc, .slice vb L.length vd] w fun e w' => e = .returned (.int .i64 0) ∧ Gr w w' := by
  obtain ⟨K', h1, h2, h3⟩ := hm.is
  obtain ⟨L', h4, h5, h6⟩ := hm'.is
  have hlen : K'.length = K.length := by simpa using congrArg List.length h1
  have hlen' : L'.length = L.length := by simpa using congrArg List.length h4
  have h := pcheckBoth_any K' L' va vb vc vd w (by omega) (by omega) (rd_map hv h1) (rd_map hv' h4) h2 h5
  have e : chkP K' = 0 := by unfold chkP; rw [if_neg (by omega)]; exact chkPGo_zero.2 h3
  have e' : chkP L' = 0 := by unfold chkP; rw [if_neg (by omega)]; exact chkPGo_zero.2 h6
  have e2 : chkP2 K' L' = 0 := by unfold chkP2; rw [if_pos e, e']
  rw [e2, hlen, hlen'] at h
  exact h
def hasE (t n a c : Int) : Int := if (pointB t n && dotB (a, c)) = true then 0 else 1
set_option maxHeartbeats 8000000 in
set_option maxRecDepth 100000 in
theorem phas_ok (K : List PtX) (va : Option Addr) (vc : Nat) (t n a c : Int) (w : World) (hl : K.length ≤ 30) (hv : RdA encP 3 w va K) (hm : MeansP w K) :
    Calls Try.prog 4 #[.slice va K.length vc, .agg #[.int .i64 (t), .int .i64 (n)], .agg #[.int .i64 (a), .int .i64 (c)]] w fun e w' => e = .returned (.tuple #[.bool (pointB t n && dotB (a, c) && K.any fun x => bitT x.T t n && hasD x.D a c), .int .i64 (hasE t n a c)]) ∧ Gr w w' := by
  refine enter (N := 25) Try.func4 rfl rfl rfl (fun a0 ok0 h0 => ?_)
  have e0_0 : a0.eval (.tmp 0) = .slice va K.length vc := h0 0 _ rfl
  have e0_1 : a0.eval (.tmp 1) = .agg #[.int .i64 (t), .int .i64 (n)] := h0 1 _ rfl
  have e0_2 : a0.eval (.tmp 2) = .agg #[.int .i64 (a), .int .i64 (c)] := h0 2 _ rfl
  clear h0
  have G0 := Gr.refl w
  refine wp_seq_k (fun K1 hK1 => ?_)
  refine wp_region_lit ?_
  refine sal (cs := #[.int .i64 (t), .int .i64 (n)]) ok0 rfl (wn _ rfl) rfl (o_box e0_1) (fun an2 w4 b3 W5 n2 => ?_)
  have l6 : w.heap.size ≤ b3 := by rw [W5.eq]; exact G0.size
  have G7 := G0.trans W5.gr
  refine sal (cs := #[.int .i64 (a), .int .i64 (c)]) n2.ok rfl (wn _ rfl) rfl (o_box (n2.ne rfl e0_2)) (fun an8 w10 b9 W11 n8 => ?_)
  have l12 : b3 < b9 := by rw [W11.eq]; exact W5.bk.lt
  have l13 : w.heap.size ≤ b9 := by rw [W11.eq]; exact G7.size
  have G14 := G7.trans W11.gr
  have B15 := W5.bk.gr W11.gr
  refine sv n8.ok rfl (wn _ rfl) rfl (o_as ev_const) (fun an16 n16 => ?_)
  refine sv n16.ok rfl (wn _ rfl) rfl (o_as ev_const) (fun an17 n17 => ?_)
  refine wpList_nil ?_
  refine th_n (hK1 _ _ ?_)
  refine wp_seq_k (fun K18 hK18 => ?_)
  refine wp_seq_k (fun K19 hK19 => ?_)
  refine wp_region_lit ?_
  have e20 := n17.ne rfl (n16.ne rfl (n8.ne rfl (n2.ne rfl e0_0)))
  refine sv n17.ok rfl (wn _ rfl) rfl (o_mv e20) (fun an21 n21 => ?_)
  refine sc n21.ok rfl (wn _ rfl) rfl (o_f1 Try.func7 rfl rfl rfl n21.at_) (pcheck_ok K va vc w10 hl (hv.gr G14) (hm.gr G14)) ?_
  rintro _ w23 ⟨rfl, g24⟩
  refine ⟨_, rfl, fun an22 n22 => ?_⟩
  have G25 := G14.trans g24
  have B26 := B15.gr g24
  have B27 := W11.bk.gr g24
  refine sv n22.ok rfl (wn _ rfl) rfl (o_as n22.at_) (fun an28 n28 => ?_)
  refine wpList_nil ?_
  refine th_n (hK19 _ _ ?_)
  refine wp_seq_k (fun K29 hK29 => ?_)
  refine wp_region_lit ?_
  refine sv n28.ok rfl (wn _ rfl) rfl (o_mv n28.at_) (fun an30 n30 => ?_)
  refine sv n30.ok rfl (wn _ rfl) rfl (o_neq (b := false) n30.at_ ev_const (by decide)) (fun an31 n31 => ?_)
  refine wpList_nil ?_
  refine th_n (hK29 _ _ ?_)
  refine wp_cond_false (n31.at_) ?_
  refine wp_skip ?_
  refine th_n (hK18 _ _ ?_)
  refine wp_seq_k (fun K32 hK32 => ?_)
  refine wp_seq_k (fun K33 hK33 => ?_)
  refine wp_region_lit ?_
  have e34 := n31.ne rfl (n30.ne rfl (n28.ne rfl (n22.ne rfl (n21.ne rfl (n17.ne rfl (n16.ne rfl (n8.ne rfl n2.at_)))))))
  refine sv n31.ok rfl (wn _ rfl) rfl (o_ldR e34 B26 Try.underlying24 rfl (by kernel_rfl)) (fun an35 n35 => ?_)
  refine sc n35.ok rfl (wn _ rfl) rfl (o_f1 Try.func13 rfl rfl rfl n35.at_) (point_any t n w23) ?_
  rintro _ w37 ⟨rfl, g38⟩
  refine ⟨_, rfl, fun an36 n36 => ?_⟩
  have G39 := G25.trans g38
  have B40 := B26.gr g38
  have B41 := B27.gr g38
  refine sv n36.ok rfl (wn _ rfl) rfl (o_notI n36.at_) (fun an42 n42 => ?_)
  refine sv n42.ok rfl (wn _ rfl) rfl (o_mv n42.at_) (fun an43 n43 => ?_)
  cases c44 : (!(pointB t n))
  · have e45 := (n43.at_).trans (congrArg Value.bool (c44))
    have e46 := ((n43.ne rfl n42.at_)).trans (congrArg Value.bool (c44))
    have e47 := n43.ne rfl (n42.ne rfl (n36.ne rfl (n35.ne rfl (n31.ne rfl (n30.ne rfl (n28.ne rfl (n22.ne rfl (n21.ne rfl (n17.ne rfl (n16.ne rfl n8.at_))))))))))
    refine sv n43.ok rfl (wgT rfl (yl 3 false rfl e45) rfl) rfl (o_ldR e47 B41 Try.underlying26 rfl (by kernel_rfl)) (fun an48 n48 => ?_)
    refine sc n48.ok rfl (wgT rfl (yl 3 false rfl (n48.ne rfl e45)) rfl) rfl (o_f1 Try.func14 rfl rfl rfl n48.at_) (dot_any (a, c) w37) ?_
    rintro _ w50 ⟨rfl, g51⟩
    refine ⟨_, rfl, fun an49 n49 => ?_⟩
    have G52 := G39.trans g51
    have B53 := B40.gr g51
    have B54 := B41.gr g51
    refine sv n49.ok rfl (wgT rfl (yl 3 false rfl (n49.ne rfl (n48.ne rfl e45))) rfl) rfl (o_notI n49.at_) (fun an55 n55 => ?_)
    have e56 := n55.ne rfl (n49.ne rfl (n48.ne rfl e45))
    refine sv n55.ok rfl (wn _ rfl) rfl (o_pkF e56 n55.at_) (fun an57 n57 => ?_)
    refine wpList_nil ?_
    refine th_n (hK33 _ _ ?_)
    cases c58 : (!(dotB (a, c)))
    · refine wp_cond_false ((n57.at_).trans (congrArg Value.bool (c58))) ?_
      refine wp_skip ?_
      refine th_n (hK32 _ _ ?_)
      refine wp_seq_k (fun K59 hK59 => ?_)
      refine wp_region_lit ?_
      have e60 := n57.ne rfl (n55.ne rfl (n49.ne rfl (n48.ne rfl (n43.ne rfl (n42.ne rfl (n36.ne rfl (n35.ne rfl (n31.ne rfl (n30.ne rfl (n28.ne rfl (n22.ne rfl (n21.ne rfl e20))))))))))))
      refine sv n57.ok rfl (wn _ rfl) rfl (o_mv e60) (fun an61 n61 => ?_)
      have e62 := n61.ne rfl (n57.ne rfl (n55.ne rfl (n49.ne rfl (n48.ne rfl (n43.ne rfl (n42.ne rfl (n36.ne rfl (n35.ne rfl e34))))))))
      have e63 := n61.ne rfl (n57.ne rfl (n55.ne rfl (n49.ne rfl (n48.ne rfl e47))))
      refine sv n61.ok rfl (wn _ rfl) rfl (o_mf (fs := []) (cs := [.pointer (some ⟨b3, 0, none⟩), .pointer (some ⟨b9, 0, none⟩)]) (by simp) (by simp [e62, e63])) (fun an64 n64 => ?_)
      refine sc n64.ok rfl (wn _ rfl) rfl (o_f2 Try.func15 rfl rfl rfl (n64.ne rfl n61.at_) n64.at_) (containsP K va vc _ [.pointer (some ⟨b3, 0, none⟩), .pointer (some ⟨b9, 0, none⟩)] (fun x => bitT x.T t n && hasD x.D a c) ⟨_, Try.func16, rfl, rfl⟩ (by omega) w50 (hv.gr G52) (fun x hx w1 g1 => has1_any x b3 b9 t n a c w1 ((hm x hx).gr (G52.trans g1)) (B53.gr g1) (B54.gr g1))) ?_
      rintro _ w66 ⟨rfl, g67⟩
      refine ⟨_, rfl, fun an65 n65 => ?_⟩
      have G68 := G52.trans g67
      have B69 := B53.gr g67
      have B70 := B54.gr g67
      refine sv n65.ok rfl (wn _ rfl) rfl (o_as n65.at_) (fun an71 n71 => ?_)
      refine sv n71.ok rfl (wn _ rfl) rfl (o_as ev_const) (fun an72 n72 => ?_)
      refine wpList_nil ?_
      refine th_n (hK59 _ _ ?_)
      refine wp_ret ?_
      exact ret2 n72.ok rfl ((n72.ne rfl n71.at_)) (n72.at_) ⟨by unfold hasE; rw [show pointB t n = true by simpa using c44, show dotB (a, c) = true by simpa using c58]; rfl, G68⟩
    · refine wp_cond_true ((n57.at_).trans (congrArg Value.bool (c58))) ?_
      refine wp_seq_k (fun K73 hK73 => ?_)
      refine wp_region_lit ?_
      refine sv n57.ok rfl (wn _ rfl) rfl (o_as ev_const) (fun an74 n74 => ?_)
      refine sv n74.ok rfl (wn _ rfl) rfl (o_as ev_const) (fun an75 n75 => ?_)
      refine wpList_nil ?_
      refine th_n (hK73 _ _ ?_)
      refine wp_ret ?_
      refine th_r ?_
      exact ret2 n75.ok rfl ((n75.ne rfl n74.at_)) (n75.at_) ⟨by unfold hasE; rw [show pointB t n = true by simpa using c44, show dotB (a, c) = false by simpa using c58]; rfl, G52⟩
  · have e76 := (n43.at_).trans (congrArg Value.bool (c44))
    have e77 := ((n43.ne rfl n42.at_)).trans (congrArg Value.bool (c44))
    refine sn n43.ok rfl (wgF rfl (yl 3 true rfl e76) rfl) rfl (fun an78 n78 => ?_)
    refine sn n78.ok rfl (wgF rfl (yl 3 true rfl (n78.ne rfl e76)) rfl) rfl (fun an79 n79 => ?_)
    refine sn n79.ok rfl (wgF rfl (yl 3 true rfl (n79.ne rfl (n78.ne rfl e76))) rfl) rfl (fun an80 n80 => ?_)
    have e81 := n80.ne rfl (n79.ne rfl (n78.ne rfl e76))
    refine sv n80.ok rfl (wn _ rfl) rfl (o_pkT e81 ev_const) (fun an82 n82 => ?_)
    refine wpList_nil ?_
    refine th_n (hK33 _ _ ?_)
    refine wp_cond_true (n82.at_) ?_
    refine wp_seq_k (fun K83 hK83 => ?_)
    refine wp_region_lit ?_
    refine sv n82.ok rfl (wn _ rfl) rfl (o_as ev_const) (fun an84 n84 => ?_)
    refine sv n84.ok rfl (wn _ rfl) rfl (o_as ev_const) (fun an85 n85 => ?_)
    refine wpList_nil ?_
    refine th_n (hK83 _ _ ?_)
    refine wp_ret ?_
    refine th_r ?_
    exact ret2 n85.ok rfl ((n85.ne rfl n84.at_)) (n85.at_) ⟨by unfold hasE; rw [show pointB t n = false by simpa using c44]; rfl, G39⟩
set_option maxHeartbeats 8000000 in
set_option maxRecDepth 100000 in
theorem phas_bad (K : List PtI) (va : Option Addr) (vc : Nat) (t n a c : Int) (hne : ¬ chkP K = 0) (w : World) (hl : K.length ≤ 9223372036854775807) (hv : RdA encR 3 w va K) (hm : MeansI w K) :
    Calls Try.prog 4 #[.slice va K.length vc, .agg #[.int .i64 (t), .int .i64 (n)], .agg #[.int .i64 (a), .int .i64 (c)]] w fun e w' => e = .returned (.tuple #[.bool false, .int .i64 (chkP K)]) ∧ Gr w w' := by
  refine enter (N := 25) Try.func4 rfl rfl rfl (fun a0 ok0 h0 => ?_)
  have e0_0 : a0.eval (.tmp 0) = .slice va K.length vc := h0 0 _ rfl
  have e0_1 : a0.eval (.tmp 1) = .agg #[.int .i64 (t), .int .i64 (n)] := h0 1 _ rfl
  have e0_2 : a0.eval (.tmp 2) = .agg #[.int .i64 (a), .int .i64 (c)] := h0 2 _ rfl
  clear h0
  have G0 := Gr.refl w
  refine wp_seq_k (fun K1 hK1 => ?_)
  refine wp_region_lit ?_
  refine sal (cs := #[.int .i64 (t), .int .i64 (n)]) ok0 rfl (wn _ rfl) rfl (o_box e0_1) (fun an2 w4 b3 W5 n2 => ?_)
  have l6 : w.heap.size ≤ b3 := by rw [W5.eq]; exact G0.size
  have G7 := G0.trans W5.gr
  refine sal (cs := #[.int .i64 (a), .int .i64 (c)]) n2.ok rfl (wn _ rfl) rfl (o_box (n2.ne rfl e0_2)) (fun an8 w10 b9 W11 n8 => ?_)
  have l12 : b3 < b9 := by rw [W11.eq]; exact W5.bk.lt
  have l13 : w.heap.size ≤ b9 := by rw [W11.eq]; exact G7.size
  have G14 := G7.trans W11.gr
  have B15 := W5.bk.gr W11.gr
  refine sv n8.ok rfl (wn _ rfl) rfl (o_as ev_const) (fun an16 n16 => ?_)
  refine sv n16.ok rfl (wn _ rfl) rfl (o_as ev_const) (fun an17 n17 => ?_)
  refine wpList_nil ?_
  refine th_n (hK1 _ _ ?_)
  refine wp_seq_k (fun K18 hK18 => ?_)
  refine wp_seq_k (fun K19 hK19 => ?_)
  refine wp_region_lit ?_
  have e20 := n17.ne rfl (n16.ne rfl (n8.ne rfl (n2.ne rfl e0_0)))
  refine sv n17.ok rfl (wn _ rfl) rfl (o_mv e20) (fun an21 n21 => ?_)
  refine sc n21.ok rfl (wn _ rfl) rfl (o_f1 Try.func7 rfl rfl rfl n21.at_) (pcheck_any K va vc w10 hl (hv.gr G14) (hm.gr G14)) ?_
  rintro _ w23 ⟨rfl, g24⟩
  refine ⟨_, rfl, fun an22 n22 => ?_⟩
  have G25 := G14.trans g24
  have B26 := B15.gr g24
  have B27 := W11.bk.gr g24
  refine sv n22.ok rfl (wn _ rfl) rfl (o_as n22.at_) (fun an28 n28 => ?_)
  refine wpList_nil ?_
  refine th_n (hK19 _ _ ?_)
  refine wp_seq_k (fun K29 hK29 => ?_)
  refine wp_region_lit ?_
  refine sv n28.ok rfl (wn _ rfl) rfl (o_mv n28.at_) (fun an30 n30 => ?_)
  refine sv n30.ok rfl (wn _ rfl) rfl (o_neq (b := true) n30.at_ ev_const (by simp [show ¬ (chkP K) = 0 from hne])) (fun an31 n31 => ?_)
  refine wpList_nil ?_
  refine th_n (hK29 _ _ ?_)
  refine wp_cond_true (n31.at_) ?_
  refine wp_seq_k (fun K32 hK32 => ?_)
  refine wp_region_lit ?_
  refine sv n31.ok rfl (wn _ rfl) rfl (o_mv (n31.ne rfl (n30.ne rfl n28.at_))) (fun an33 n33 => ?_)
  refine sv n33.ok rfl (wn _ rfl) rfl (o_as ev_const) (fun an34 n34 => ?_)
  refine sv n34.ok rfl (wn _ rfl) rfl (o_as (n34.ne rfl n33.at_)) (fun an35 n35 => ?_)
  refine wpList_nil ?_
  refine th_n (hK32 _ _ ?_)
  refine wp_ret ?_
  refine th_r ?_
  exact ret2 n35.ok rfl ((n35.ne rfl n34.at_)) (n35.at_) ⟨rfl, G25⟩
end Go.Proofs.Ythcehgmpajejeaa

/- Is a combination in a cube? -/
namespace Rm
open Go Go.RowKit

/-- is a combination in a cube? -/
def in16 (y n t : Nat) : Bool := (Nat.land y t == y) && (Nat.land n t == 0)
end Rm

/- The contracts of the document's own within, Cube and In. -/
namespace Rm
open Go Go.RowKit
def inToD (y n t : Nat) : Nat → Bool
  | 0 => true
  | k + 1 => inToD y n t k && !(y.testBit k && !t.testBit k || n.testBit k && t.testBit k)
theorem inTo_all : ∀ y < 16, ∀ n < 16, ∀ t < 16, inToD y n t 4 = in16 y n t := by decide +kernel
theorem inTo_false {y n t : Nat} : ∀ {k j : Nat}, k ≤ j → inToD y n t k = false → inToD y n t j = false
  | k, 0, h, e => by
    have : k = 0 := by omega
    subst this
    exact e
  | k, j + 1, h, e => by
    rcases Nat.lt_or_ge k (j + 1) with c | c
    · simp only [inToD, inTo_false (show k ≤ j by omega) e, Bool.false_and]
    · have : k = j + 1 := by omega
      subst this
      exact e
theorem shr_bit : ∀ a < 16, ∀ i < 4, ((((a : Nat) : Int) / 2 ^ i).tmod 2 == 1) = a.testBit i := by decide +kernel
end Rm
namespace Go.Proofs.Ythcehgmpajejeaa
open Go.RowKit Rm
set_option linter.unusedVariables false

set_option maxHeartbeats 400000 in
set_option maxRecDepth 100000 in
theorem rwithin_d (x : Int) (w : World) :
    Calls Try.prog 28 #[.int .i64 x, .int .i64 0, .int .i64 15] w fun e w' => e = .returned (.bool (tagsB x)) ∧ w = w' := by
  by_cases h0 : 0 ≤ x
  · by_cases h1 : x ≤ 15
    · have ht : tagsB x = true := by simp [tagsB, h0, h1]
      rw [ht]
      go_enter Try.func28, Try.ntmps28
      go_wp2
      go_ret
      exact ⟨rfl, rfl⟩
    · have ht : tagsB x = false := by simp [tagsB, h1]
      rw [ht]
      go_enter Try.func28, Try.ntmps28
      go_wp2
      go_ret
      exact ⟨rfl, rfl⟩
  · have ht : tagsB x = false := by simp [tagsB, h0]
    rw [ht]
    go_enter Try.func28, Try.ntmps28
    go_wp2
    go_ret
    exact ⟨rfl, rfl⟩

set_option maxHeartbeats 400000 in
set_option maxRecDepth 100000 in
theorem rcube_any (y n : Int) (w : World) :
    Calls Try.prog 43 #[.agg #[.int .i64 y, .int .i64 n]] w fun e w' => e = .returned (.int .i64 (chk y n)) ∧ Gr w w' := by
  cases hy : tagsB y
  · have hc : chk y n = 1 := by simp [chk, hy]
    rw [hc]
    go_enter Try.func43, Try.ntmps43
    go_wp2_with (go_at_call 28; refine (rwithin_d _ _).mono ?_; rintro e w' ⟨rfl, rfl⟩)
    go_ret
    exact ⟨rfl, (Gr.refl _).alloc _⟩
  cases hn : tagsB n
  · have hc : chk y n = 1 := by simp [chk, hn]
    rw [hc]
    go_enter Try.func43, Try.ntmps43
    go_wp2_with (go_at_call 28; refine (rwithin_d _ _).mono ?_; rintro e w' ⟨rfl, rfl⟩)
    go_ret
    exact ⟨rfl, (Gr.refl _).alloc _⟩
  obtain ⟨a, ha, rfl⟩ := of_tags hy
  obtain ⟨b, hb, rfl⟩ := of_tags hn
  have h0 : 0 ≤ bits .and .i64 (a : Int) (b : Int) := by rw [and16 a ha b hb]; omega
  by_cases hz : bits .and .i64 (a : Int) (b : Int) = 0
  · have hc : chk a b = 0 := by simp [chk, hy, hn, hz]
    rw [hc]
    have hb' : ¬ (0 : Int) < bits .and .i64 (a : Int) (b : Int) := by omega
    have HZ := Lib.hid hz
    clear hz
    go_enter Try.func43, Try.ntmps43
    go_wp2_with (go_at_call 28; refine (rwithin_d _ _).mono ?_; rintro e w' ⟨rfl, rfl⟩)
    go_ret
    exact ⟨rfl, (Gr.refl _).alloc _⟩
  · have hc : chk a b = 3 := by simp [chk, hy, hn, hz]
    rw [hc]
    have hb' : (0 : Int) < bits .and .i64 (a : Int) (b : Int) := by omega
    go_enter Try.func43, Try.ntmps43
    go_wp2_with (go_at_call 28; refine (rwithin_d _ _).mono ?_; rintro e w' ⟨rfl, rfl⟩)
    go_ret
    exact ⟨rfl, (Gr.refl _).alloc _⟩

set_option maxHeartbeats 1000000 in
set_option maxRecDepth 100000 in
theorem rin_any (y n t : Nat) (w : World) (h : Vld y n) (ht : t < 16) :
    Calls Try.prog 51 #[.agg #[.int .i64 y, .int .i64 n], .int .i64 t] w fun e w' => e = .returned (.bool (in16 y n t)) ∧ Gr w w' := by
  have HI := Lib.hid (inTo_all y h.1 n h.2.1 t ht)
  have h15 : (t : Int) ≤ 15 := by omega
  have y15 : (y : Int) ≤ 15 := by have := h.1; omega
  have n15 : (n : Int) ≤ 15 := by have := h.2.1; omega
  go_enter Try.func51, Try.ntmps51
  go_wp2
  go_loop [7] (fun i => ∃ k : Nat, k ≤ 4 ∧ i = .int .i64 k ∧ Hid (inToD y n t k = true)) (fun i => 4 - (intOf i).toNat)
  case atStart => exact ⟨0, by omega, rfl, rfl⟩
  case round =>
    obtain ⟨k, hk, rfl, hh⟩ := hrel
    by_cases hlt : k < 4
    · have bt := shr_bit t ht k hlt
      have by_ := shr_bit y h.1 k hlt
      have bn := shr_bit n h.2.1 k hlt
      have hk' : (k : Int) < 4 := by omega
      have hst : inToD y n t (k + 1) = !(y.testBit k && !t.testBit k || n.testBit k && t.testBit k) := by simp [inToD, hh.out]
      have HST := Lib.hid hst
      have fin : ∀ b, inToD y n t (k + 1) = false → b = false → b = in16 y n t := by
        intro b hf hb
        rw [← HI.out, inTo_false (show k + 1 ≤ 4 by omega) hf, hb]
      have HFI := Lib.hid fin
      clear hst fin hh
      cases ct : t.testBit k <;> cases cy : y.testBit k <;> cases cn : n.testBit k
      all_goals
        rw [ct] at bt
        rw [cy] at by_
        rw [cn] at bn
        have hs := HST.out
        rw [ct, cy, cn] at hs
        have HS := Lib.hid hs
        clear hs ct cy cn HST
        go_wp2
        first
          | (go_round
             case rel => exact ⟨k + 1, by omega, by go_num, HS.out⟩
             case measure => simp [intOf]; omega)
          | (go_ret
             exact ⟨by rw [← HFI.out false HS.out rfl]; rfl, (Gr.refl _).alloc _⟩)
    · obtain rfl : k = 4 := by omega
      have e := hh.out
      rw [HI.out] at e
      have HE := Lib.hid e
      clear e hh
      go_wp2
      go_ret
      exact ⟨by rw [HE.out]; rfl, (Gr.refl _).alloc _⟩
end Go.Proofs.Ythcehgmpajejeaa

/- Where the loop of SpanSets stands. -/
namespace Go.Proofs.Ythcehgmpajejeaa
open Go.RowKit Rm
set_option linter.unusedVariables false

theorem MS.of {w : World} {v : Value} {L : List (Nat × Nat)} (h : Rd2 w v (pairs L)) (hv : VF 0 L) : MS w v (maskL L) := ⟨by rw [canon_maskL hv]; exact h, maskL_lt hv.le⟩
/-- where the loop stands -/
def SetsAt (A B : Nat) (w wr : World) (b0 b1 : Nat) (k : Nat) : Prop :=
  Gr w wr ∧ wr.heap[b0]? = some (.cells (bArr A.testBit) 92 (0, 0)) ∧ wr.heap[b1]? = some (.cells (bArr B.testBit) 92 (0, 0)) ∧
  wr.heap[b1 + 1]? = some (.cells (bArr (cut (A ||| B) k)) 92 (0, 0)) ∧ wr.heap[b1 + 1 + 1]? = some (.cells (bArr (cut (A &&& B) k)) 92 (0, 0)) ∧ wr.heap[b1 + 1 + 1 + 1]? = some (.cells (bArr (cut (lessM A B) k)) 92 (0, 0))
theorem heap_set_bArr {wr : World} {g k : Nat} {f : Nat → Bool} {b : Bool} (h : wr.heap[g]? = some (.cells (bArr f) 92 (0, 0))) (hk : k < 32) : (wr.setCell ⟨g, k, none⟩ (.bool b)).heap[g]? = some (.cells (bArr fun i => if i = k then b else f i) 92 (0, 0)) := by
  rw [heap_setCell_same _ _ _ _ _ _ h, bArr_set _ _ _ hk]
theorem SetsAt.step {A B : Nat} {w wr : World} {n k : Nat} {b1 b2 b3 : Bool} (h : SetsAt A B w wr n (n + 1) k) (hn : w.heap.size ≤ n) (hk : k < 32) (e1 : (A ||| B).testBit k = b1) (e2 : (A &&& B).testBit k = b2) (e3 : (lessM A B).testBit k = b3) :
    SetsAt A B w ((((wr.setCell ⟨n + 1 + 1, k, none⟩ (.bool b1)).setCell ⟨n + 1 + 1 + 1, k, none⟩ (.bool b2)).setCell ⟨n + 1 + 1 + 1 + 1, k, none⟩ (.bool b3)).drew) n (n + 1) (k + 1) := by
  subst e1 e2 e3
  obtain ⟨g, q1, q2, q3, q4, q5⟩ := h
  refine ⟨(((g.setCell (by simp; omega) _).setCell (by simp; omega) _).setCell (by simp; omega) _).drew, ?_, ?_, ?_, ?_, ?_⟩
  · show (((wr.setCell _ _).setCell _ _).setCell _ _).heap[n]? = _
    rw [heap_setCell_other _ _ _ _ (by show n ≠ n + 1 + 1 + 1 + 1; omega), heap_setCell_other _ _ _ _ (by show n ≠ n + 1 + 1 + 1; omega), heap_setCell_other _ _ _ _ (by show n ≠ n + 1 + 1; omega)]; exact q1
  · show (((wr.setCell _ _).setCell _ _).setCell _ _).heap[n + 1]? = _
    rw [heap_setCell_other _ _ _ _ (by simp), heap_setCell_other _ _ _ _ (by simp), heap_setCell_other _ _ _ _ (by simp)]; exact q2
  · show (((wr.setCell _ _).setCell _ _).setCell _ _).heap[n + 1 + 1]? = _
    rw [heap_setCell_other _ _ _ _ (by simp), heap_setCell_other _ _ _ _ (by simp), heap_set_bArr q3 hk, bArr_ext (fun i _ => cut_step (A ||| B) k i)]
  · show (((wr.setCell _ _).setCell _ _).setCell _ _).heap[n + 1 + 1 + 1]? = _
    rw [heap_setCell_other _ _ _ _ (by simp), heap_set_bArr (f := cut (A &&& B) k) ((heap_setCell_other _ _ _ _ (by simp)).trans q4) hk, bArr_ext (fun i _ => cut_step (A &&& B) k i)]
  · show (((wr.setCell _ _).setCell _ _).setCell _ _).heap[n + 1 + 1 + 1 + 1]? = _
    rw [heap_set_bArr (f := cut (lessM A B) k) ((heap_setCell_other _ _ _ _ (by simp)).trans ((heap_setCell_other _ _ _ _ (by show n + 1 + 1 + 1 + 1 ≠ n + 1 + 1; omega)).trans q5)) hk, bArr_ext (fun i _ => cut_step (lessM A B) k i)]
end Go.Proofs.Ythcehgmpajejeaa

/- The contracts of the document's own filters: Filter, Point, At, Many, and the set of all points as an array. -/
namespace Rm
open Go Go.RowKit
/-- a set of numbers below n, one by one, as an array of bools -/
def gArr (n : Nat) (s : Nat → Bool) : Array Value := ((List.range n).map fun i => Value.bool (s i)).toArray
theorem gArr_size (n : Nat) (s : Nat → Bool) : (gArr n s).size = n := by simp [gArr]
theorem gArr_at (n : Nat) (s : Nat → Bool) (i : Nat) (h : i < n) : (gArr n s)[i]? = some (.bool (s i)) := by simp [gArr, h]
theorem gArr_ext {n : Nat} {s t : Nat → Bool} (h : ∀ i, i < n → s i = t i) : gArr n s = gArr n t := by
  unfold gArr
  congr 1
  apply List.map_congr_left
  intro i hi
  rw [h i (List.mem_range.1 hi)]
theorem gArr_set (n : Nat) (s : Nat → Bool) (k : Nat) (b : Bool) : (gArr n s).setIfInBounds k (.bool b) = gArr n (fun i => if i = k then b else s i) := by
  apply Array.ext
  · simp [gArr]
  · intro i h1 h2
    simp [gArr] at h1 h2 ⊢
    by_cases e : i = k
    · subst e; simp
    · have : ¬ k = i := fun h => e h.symm
      simp [this, e]
theorem gArr_one (n : Nat) (s : Nat → Bool) : (gArr n s).all (·.oneCell') = true := by
  simp only [gArr, List.all_toArray, List.all_map, List.all_eq_true]
  intro i _
  rfl
/-- the points, one by one, as an array of bools -/
def pArr (s : Nat → Bool) : Array Value := gArr 512 s
theorem pArr_size (s : Nat → Bool) : (pArr s).size = 512 := gArr_size 512 s
theorem pArr_at (s : Nat → Bool) (i : Nat) (h : i < 512) : (pArr s)[i]? = some (.bool (s i)) := gArr_at 512 s i h
theorem pArr_ext {s t : Nat → Bool} (h : ∀ i, i < 512 → s i = t i) : pArr s = pArr t := gArr_ext h
theorem pArr_set (s : Nat → Bool) (k : Nat) (b : Bool) : (pArr s).setIfInBounds k (.bool b) = pArr (fun i => if i = k then b else s i) := gArr_set 512 s k b
theorem pArr_one (s : Nat → Bool) : (pArr s).all (·.oneCell') = true := gArr_one 512 s
end Rm
namespace Go.Proofs.Ythcehgmpajejeaa
open Go.RowKit Rm
set_option linter.unusedVariables false

theorem points_info : (Try.prog.info? 62).map (·.size) = some 512 := by kernel_rfl
theorem pinfo (s : Nat → Bool) : (Try.prog.info? 62).map (·.size) = some (pArr s).size := by rw [pArr_size]; exact points_info
set_option maxHeartbeats 1000000 in
set_option maxRecDepth 100000 in
theorem at_any (s : Nat → Bool) (a b : Nat) (ha : a < 16) (hb : b < 32) (w : World) :
    Calls Try.prog 29 #[.agg (pArr s), .agg #[.int .i64 a, .int .i64 b]] w fun e w' => e = .returned (.bool (s (32 * a + b))) ∧ Gr w w' := by
  have ha' : (a : Int) < 16 := by omega
  have hb' : (b : Int) < 32 := by omega
  obtain ⟨c, hcc⟩ : ∃ c, c = 32 * a + b := ⟨_, rfl⟩
  rw [← hcc]
  have hc : ((w.alloc (.cells (pArr s) 62)).alloc (.cells #[.int .i64 (a : Int), .int .i64 (b : Int)] 24)).cell? ⟨w.heap.size, c, none⟩ = some (.bool (s c)) := by
    rw [cell_of_row _ _ _ _ _ _ (heap_alloc2_old _ _ _), pArr_at _ _ (by omega)]
  have hi : (32 : Int) * (a : Int) + (b : Int) = (c : Int) := by omega
  have h512 : (c : Int) < 512 := by omega
  clear hcc
  go_enter Try.func29, Try.ntmps29
  go_wp2_with fail
  go_ret
  exact ⟨rfl, ((Gr.refl _).alloc _).alloc _⟩

theorem rwithin31 (x : Int) (w : World) :
    Calls Try.prog 28 #[.int .i64 x, .int .i64 0, .int .i64 31] w fun e w' => e = .returned (.bool (decide (0 ≤ x) && decide (x < 32))) ∧ w = w' := by
  by_cases h0 : 0 ≤ x
  · by_cases h1 : x ≤ 31
    · have ht : (decide (0 ≤ x) && decide (x < 32)) = true := by simp [h0]; omega
      rw [ht]
      go_enter Try.func28, Try.ntmps28
      go_wp2
      go_ret
      exact ⟨rfl, rfl⟩
    · have ht : (decide (0 ≤ x) && decide (x < 32)) = false := by simp; omega
      rw [ht]
      go_enter Try.func28, Try.ntmps28
      go_wp2
      go_ret
      exact ⟨rfl, rfl⟩
  · have ht : (decide (0 ≤ x) && decide (x < 32)) = false := by simp [h0]
    rw [ht]
    go_enter Try.func28, Try.ntmps28
    go_wp2
    go_ret
    exact ⟨rfl, rfl⟩
set_option maxHeartbeats 1000000 in
set_option maxRecDepth 100000 in
theorem rpoint_any (t n : Int) (w : World) :
    Calls Try.prog 8 #[.agg #[.int .i64 t, .int .i64 n]] w fun e w' => e = .returned (.bool (pointB t n)) ∧ Gr w w' := by
  have ep : pointB t n = (tagsB t && (decide (0 ≤ n) && decide (n < 32))) := by
    unfold pointB tagsB
    have : decide (t < 16) = decide (t ≤ 15) := by simp; omega
    rw [this]
  rw [ep]
  cases h1 : tagsB t
  · go_enter Try.func8, Try.ntmps8
    go_wp2_with fail
    refine (rwithin_d _ _).mono ?_
    rw [h1]
    rintro e w' ⟨rfl, rfl⟩
    go_wp2_with fail
    go_ret
    exact ⟨rfl, (Gr.refl _).alloc _⟩
  · generalize hd : (decide (0 ≤ n) && decide (n < 32)) = d
    go_enter Try.func8, Try.ntmps8
    go_wp2_with fail
    refine (rwithin_d _ _).mono ?_
    rw [h1]
    rintro e w' ⟨rfl, rfl⟩
    go_wp2_with fail
    refine (rwithin31 _ _).mono ?_
    rw [hd]
    rintro e w' ⟨rfl, rfl⟩
    cases d
    · go_wp2_with fail
      go_ret
      exact ⟨rfl, (Gr.refl _).alloc _⟩
    · go_wp2_with fail
      go_ret
      exact ⟨rfl, (Gr.refl _).alloc _⟩

set_option maxHeartbeats 1000000 in
set_option maxRecDepth 100000 in
theorem rfilter_any (v : Value) (l : List BoxI) (w : World) (hr : RdF w v l) :
    Calls Try.prog 24 #[v] w fun e w' => e = .returned (.int .i64 (chkF l)) ∧ Gr w w' := by
  obtain ⟨a, cp, rfl, hcp, hx⟩ := hr
  by_cases h40 : 40 < l.length
  · have e : chkF l = 2 := by simp [chkF, h40]
    rw [e]
    have hz : (40 : Int) < (l.length : Int) := by omega
    clear hx
    go_enter Try.func24, Try.ntmps24
    go_wp2
    go_ret
    exact ⟨rfl, Gr.refl _⟩
  · have e : chkF l = chkFGo l := by simp [chkF, h40]
    rw [e]
    clear e
    have hz : ¬ (40 : Int) < (l.length : Int) := by omega
    have HX := Lib.hid hx
    clear hx
    go_enter Try.func24, Try.ntmps24
    go_wp2
    go_loopw [12] (fun i wr => ∃ k : Nat, k ≤ l.length ∧ i = .int .i64 k ∧ Hid (chkFGo l = chkFGo (l.drop k)) ∧ Gr w wr) (fun i _ => l.length - (intOf i).toNat)
    case atStart => exact ⟨0, by omega, rfl, rfl, Gr.refl _⟩
    case round =>
      obtain ⟨k, hk, rfl, hh, hg⟩ := hrel
      generalize wr = wo at *
      by_cases hlt : k < l.length
      · obtain ⟨⟨⟨y, n⟩, s⟩, hp⟩ : ∃ p, l[k]? = some p := ⟨_, List.getElem?_eq_getElem hlt⟩
        obtain ⟨b, off, rfl, hb, hcell⟩ := HX.out (by intro e; rw [e] at hlt; simp at hlt)
        obtain ⟨sv, c1, c2, c3, hs⟩ := hcell k _ hp
        rw [← hg.cells.1 b _ hb] at c1 c2 c3
        simp only at c1 c2 c3 hs
        obtain ⟨sa, sc, rfl⟩ := rd2_form hs
        have hs1 := Lib.hid (hs.gr hg)
        have hbr : b < wo.heap.size := Nat.lt_of_lt_of_le hb hg.le
        have HH : Hid (chkFGo l = if chkB ((y, n), s) == 0 then chkFGo (l.drop (k + 1)) else chkB ((y, n), s)) := by
          rw [hh.out, fdrop_at hp]; rfl
        clear hh hcell hs hp
        have hk16 : (k : Int) ≤ 40 := by omega
        cases hc : (chk y n == 0)
        · have hc' := bne_of' hc
          have E1 : Hid (chkFGo l = chk y n) := by
            have := HH.out
            simp only [chkB, hc, Bool.false_eq_true, if_false] at this
            exact this
          clear HH
          go_wp2_with fail
          refine (rcube_any _ _ _).mono ?_
          rintro e w1 ⟨rfl, g1⟩
          go_wp2_with fail
          go_ret
          exact ⟨by rw [E1.out]; rfl, (hg.alloc _).trans g1⟩
        · have hc' := bne_of hc
          cases hd : (chkS s == 0)
          · have hd' := sbne_of' hd
            have E1 : Hid (chkFGo l = chkS s) := by
              have := HH.out
              simp only [chkB, hc, if_true, hd, Bool.false_eq_true, if_false] at this
              exact this
            clear HH
            go_wp2_with fail
            refine (rcube_any _ _ _).mono ?_
            rintro e w1 ⟨rfl, g1⟩
            obtain ⟨k1, k2⟩ := g1.cells
            go_wp2_with fail
            refine (rspans_any _ _ _ ((hs1.out.alloc _).gr g1)).mono ?_
            rintro e w2 ⟨rfl, g2⟩
            go_wp2_with fail
            go_ret
            exact ⟨by rw [E1.out]; rfl, ((hg.alloc _).trans g1).trans g2⟩
          · have hd' := sbne_of hd
            have E1 : Hid (chkFGo l = chkFGo (l.drop (k + 1))) := by
              have := HH.out
              simp only [chkB, hc, if_true, hd] at this
              exact this
            clear HH
            go_wp2_with fail
            refine (rcube_any _ _ _).mono ?_
            rintro e w1 ⟨rfl, g1⟩
            obtain ⟨k1, k2⟩ := g1.cells
            go_wp2_with fail
            refine (rspans_any _ _ _ ((hs1.out.alloc _).gr g1)).mono ?_
            rintro e w2 ⟨rfl, g2⟩
            go_wp2_with fail
            go_roundw
            case rel => exact ⟨k + 1, by omega, by go_num, E1, ((hg.alloc _).trans g1).trans g2⟩
            case measure => simp [intOf]; omega
      · obtain rfl : k = l.length := by omega
        have E1 : Hid (chkFGo l = 0) := by rw [hh.out, List.drop_length]; rfl
        clear hh
        go_wp2
        go_ret
        exact ⟨by rw [E1.out]; rfl, hg⟩
end Go.Proofs.Ythcehgmpajejeaa

/- The contract of the document's own Of: the points of a filter. -/
namespace Rm
open Go Go.RowKit
/-- a table's points -/
def ptF (T : Nat → Nat) (i : Nat) : Bool := (T (i / 32)).testBit (i % 32)
theorem in16_hasR : ∀ y < 16, ∀ n < 16, ∀ t < 16, in16 y n t = hasR (y : Nat) (n : Nat) (t : Nat) := by decide +kernel
/-- a set of points, with a box's points added below j -/
def midP (f : Nat → Bool) (b : Bx) (j i : Nat) : Bool := f i || (decide (i < j) && (b.2.testBit (i % 32) && inC b (i / 32)))
theorem midP_zero (f : Nat → Bool) (b : Bx) (i : Nat) : midP f b 0 i = f i := by simp [midP]
theorem midP_no {f : Nat → Bool} {b : Bx} {j : Nat} (h : (b.2.testBit (j % 32) && inC b (j / 32)) = false) (i : Nat) : midP f b j i = midP f b (j + 1) i := by
  unfold midP
  by_cases e : i = j
  · subst e; rw [h]; simp
  · have : (i < j + 1) ↔ i < j := by omega
    simp [this]
theorem midP_yes {f : Nat → Bool} {b : Bx} {j : Nat} (h : (b.2.testBit (j % 32) && inC b (j / 32)) = true) (i : Nat) : (if i = j then true else midP f b j i) = midP f b (j + 1) i := by
  unfold midP
  by_cases e : i = j
  · subst e; rw [h]; simp
  · have : (i < j + 1) ↔ i < j := by omega
    simp [this, e]
theorem midP_all (F : List Bx) (k : Nat) (b : Bx) (h : F[k]? = some b) (i : Nat) (hi : i < 512) : midP (ptF (tabF (F.take k))) b 512 i = ptF (tabF (F.take (k + 1))) i := by
  unfold midP ptF
  rw [tabF_take h]
  unfold addB
  cases hc : inC b (i / 32)
  · simp
  · simp [hi, Nat.testBit_or]
theorem rem32 (i : Nat) : (i : Int).tmod 32 = ((i % 32 : Nat) : Int) := rfl
theorem quo32 (i : Nat) : (i : Int).tdiv 32 = ((i / 32 : Nat) : Int) := rfl
end Rm
namespace Go.Proofs.Ythcehgmpajejeaa
open Go.RowKit Rm
set_option linter.unusedVariables false

theorem points_zero : (Try.prog.info? 62).bind (·.zero) = some (.agg (pArr fun _ => false)) := by kernel_rfl
theorem nums_zero : (Try.prog.info? 92).bind (·.zero) = some (.agg (bArr fun _ => false)) := by kernel_rfl
theorem run_alloc_zero {t : TypeId} {cs : Array Value} (hz : (Try.prog.info? t).bind (·.zero) = some (.agg cs)) (ev : Operand → Value) (o : Oper) (ho : o.op = .alloc t) (w : World) :
    (execOp ev o).run Try.prog w = .ok (.value (.pointer (some ⟨w.heap.size, 0, none⟩))) (w.alloc (.cells cs t)) := by
  cases hq : Try.prog.info? t with
  | none => rw [hq] at hz; simp at hz
  | some i =>
    rw [hq] at hz
    simp only [Option.bind_some] at hz
    unfold execOp
    simp [ho, Instr.alloc, Sem.run_bind, zeroValue, typeInfo, hq, hz, newVar, newRow, Value.cells]

theorem mset2 {b : Bx} {v : Value} {w : World} (h : Rd2 w v (pairs (canon b.2))) (hb : OkB b) : Calls Try.prog 50 #[v] w fun e w' => e = .returned (.agg (bArr b.2.testBit)) ∧ Gr w w' := by
  have := set_any v _ w h (canon_VF b.2)
  rw [maskL_canon hb.2] at this
  exact this

/-- where Of's inner loop stands -/
def OfAt (w wi : World) (f : Nat → Bool) : Prop :=
  Gr w wi ∧ wi.heap[w.heap.size]? = some (.cells (pArr fun _ => false) 62 (0, 0)) ∧ wi.heap[w.heap.size + 1]? = some (.cells (pArr f) 62 (0, 0))
theorem OfAt.gr {w wi w' : World} {f : Nat → Bool} (h : OfAt w wi f) (g : Gr wi w') : OfAt w w' f :=
  ⟨h.1.trans g, (Below.block g _ (Blk_lt h.2.1)).trans h.2.1, (Below.block g _ (Blk_lt h.2.2)).trans h.2.2⟩
theorem OfAt.ext {w wi : World} {f f' : Nat → Bool} (h : OfAt w wi f) (e : ∀ i, i < 512 → f i = f' i) : OfAt w wi f' := by rw [OfAt, ← pArr_ext e]; exact h
theorem OfAt.set {w wi : World} {f : Nat → Bool} (h : OfAt w wi f) (k : Nat) (b : Bool) : OfAt w (wi.setCell ⟨w.heap.size + 1, k, none⟩ (.bool b)) (fun i => if i = k then b else f i) := by
  obtain ⟨g, h0, h1⟩ := h
  refine ⟨g.setCell (by simp) _, ?_, ?_⟩
  · rw [heap_setCell_other _ _ _ _ (by simp)]; exact h0
  · rw [heap_setCell_same _ _ _ _ _ _ h1, pArr_set]
theorem OfAt.setRow {w wi : World} {f : Nat → Bool} (h : OfAt w wi f) (g : Nat) (cs : Array Value) (hg : w.heap.size + 1 < g) : OfAt w (wi.setRow g cs) f := by
  obtain ⟨gr, h0, h1⟩ := h
  refine ⟨gr.setRow (by omega) _, ?_, ?_⟩
  · rw [setRow_other _ _ _ _ (by omega)]; exact h0
  · rw [setRow_other _ _ _ _ (by omega)]; exact h1
/-- the box and the set of its spans, beside -/
def BesideAt (wi : World) (BB NN : Nat) (y n : Nat) (sv : Value) (m : Nat) : Prop :=
  wi.heap[BB]? = some (.cells #[.int .i64 (y : Int), .int .i64 (n : Int), sv] 83 (0, 0)) ∧ wi.heap[NN]? = some (.cells (bArr m.testBit) 92 (0, 0))
theorem BesideAt.gr {wi w' : World} {BB NN y n m : Nat} {sv : Value} (h : BesideAt wi BB NN y n sv m) (g : Gr wi w') : BesideAt w' BB NN y n sv m :=
  ⟨(Below.block g _ (Blk_lt h.1)).trans h.1, (Below.block g _ (Blk_lt h.2)).trans h.2⟩
theorem BesideAt.far {wi : World} {BB NN y n m : Nat} {sv : Value} (h : BesideAt wi BB NN y n sv m) (g k : Nat) (v : Value) (h1 : BB ≠ g) (h2 : NN ≠ g) : BesideAt (wi.setCell ⟨g, k, none⟩ v) BB NN y n sv m :=
  ⟨(heap_setCell_other _ _ _ _ h1).trans h.1, (heap_setCell_other _ _ _ _ h2).trans h.2⟩

set_option maxHeartbeats 2000000 in
set_option maxRecDepth 100000 in
theorem of_pts (v : Value) (F : List Bx) (w : World) (hr : RdF w v (F.map boxI)) (hF : OkF F) (hl : F.length ≤ 40) :
    Calls Try.prog 31 #[v] w fun e w' => e = .returned (.agg (pArr (ptF (tabF F)))) ∧ Gr w w' := by
  obtain ⟨a, cp, rfl, hcp, hx⟩ := hr
  rw [List.length_map] at hcp
  rw [List.length_map]
  have HX := Lib.hid hx
  have HF := Lib.hid hF
  have hlen' : (F.length : Int) ≤ 40 := by omega
  have HS := Lib.hid pinfo
  have HSN : ∀ m : Nat, Hid ((Try.prog.info? 92).map (·.size) = some (bArr m.testBit).size) := fun m => by unfold Hid; rw [bArr_size]; exact nums_info
  have HZ := Lib.hid (fun m : Nat => show (bArr fun _ => false).size = (bArr m.testBit).size by rw [bArr_size, bArr_size])
  have HPZ := Lib.hid (fun f : Nat → Bool => show (pArr fun _ => false).size = (pArr f).size by rw [pArr_size, pArr_size])
  have H1 := Lib.hid bArr_one
  have HP1 := Lib.hid pArr_one
  have PZ := Lib.hid (fun (ev : Operand → Value) (o : Oper) (ho : o.op = .alloc 62) (wx : World) => run_alloc_zero points_zero ev o ho wx)
  have NZ := Lib.hid (fun (ev : Operand → Value) (o : Oper) (ho : o.op = .alloc 92) (wx : World) => run_alloc_zero nums_zero ev o ho wx)
  clear hx hF
  go_enter Try.func31, Try.ntmps31
  go_wp2_with (refine Go.Great.wpList_allocTo rfl _ rfl _ _ (PZ.out _ _ rfl _) ?_)
  have A0 : OfAt w ((w.alloc (.cells (pArr fun _ => false) 62)).alloc (.cells (pArr fun _ => false) 62)) (ptF (tabF (F.take 0))) := by
    refine ⟨((Gr.refl _).alloc _).alloc _, heap_alloc2_old _ _ _, ?_⟩
    rw [heap_alloc2_new, show pArr (ptF (tabF (F.take 0))) = pArr (fun _ => false) from pArr_ext (fun i _ => by simp [ptF, tabF_nil])]
  go_loopw [10] (fun i wr => ∃ k : Nat, k ≤ F.length ∧ i = .int .i64 k ∧ OfAt w wr (ptF (tabF (F.take k)))) (fun i _ => F.length - (intOf i).toNat)
  case atStart => exact ⟨0, by omega, rfl, A0⟩
  case round =>
    clear A0
    obtain ⟨k, hk, rfl, hat⟩ := hrel
    generalize wr = wo at *
    have HA := Lib.hid hat
    by_cases hlt : k < F.length
    · obtain ⟨⟨⟨y, n⟩, m⟩, hp⟩ : ∃ p, F[k]? = some p := ⟨_, List.getElem?_eq_getElem hlt⟩
      obtain ⟨b, off, rfl, hb, hcell⟩ := HX.out (by intro e; simp at e; rw [e] at hlt; simp at hlt)
      obtain ⟨sv, c1, c2, c3, hs⟩ := hcell k (boxI ((y, n), m)) (by rw [List.getElem?_map, hp]; rfl)
      have hB : OkB ((y, n), m) := HF.out _ (List.mem_of_getElem? hp)
      rw [← hat.1.cells.1 b _ hb] at c1 c2 c3
      simp only [boxI] at c1 c2 c3 hs
      obtain ⟨sa, sc, rfl⟩ := rd2_form hs
      have hs1 := Lib.hid (hs.gr hat.1)
      have hbr : b < wo.heap.size := Nat.lt_of_lt_of_le hb hat.1.le
      have hk40 : (k : Int) ≤ 40 := by omega
      have HB := Lib.hid hB
      have HM := Lib.hid (fun i hi => midP_all F k ((y, n), m) hp i hi)
      have hlo := Blk_lt hat.2.2
      clear hcell hs hp hat
      generalize hsl : (pairs (canon m)).length = sl at *
      go_wp2_with fail
      refine (mset2 (b := ((y, n), m)) (hs1.out.alloc _) HB.out).mono ?_
      rintro e w1 ⟨rfl, g1⟩
      have A1 := Lib.hid ((HA.out.gr ((((Gr.refl wo).alloc (.cells #[.int .i64 (y : Int), .int .i64 (n : Int), .slice sa sl sc] 83)).trans g1).alloc (.cells (bArr fun _ => false) 92))).setRow w1.heap.size (bArr m.testBit) (by have := g1.le; simp at this; omega))
      have hbx : w1.heap[wo.heap.size]? = some (.cells #[.int .i64 (y : Int), .int .i64 (n : Int), .slice sa sl sc] 83 (0, 0)) := (Below.block g1 _ (by simp)).trans (heap_alloc_new _ _)
      have hbl := Blk_lt hbx
      have B1 : Hid (BesideAt ((w1.alloc (.cells (bArr fun _ => false) 92)).setRow w1.heap.size (bArr m.testBit)) wo.heap.size w1.heap.size y n (.slice sa sl sc) m) := by
        refine ⟨?_, setRow_heap _ _ _ _ _ _ (heap_alloc_new _ _)⟩
        rw [setRow_other _ _ _ _ (by omega), Below.heap_alloc _ _ _ hbl]
        exact hbx
      have HN := Lib.hid (heap_alloc_new w1 (.cells (bArr fun _ => false) 92))
      have hw1 : w.heap.size + 1 < w1.heap.size := by omega
      have HW1 := Lib.hid hw1
      have HWB := Lib.hid hlo
      clear hs1 g1 hbx c1 c2 c3 HA hw1 hlo hbl
      go_wp2_with (first
        | (refine Go.Great.wpList_allocTo rfl _ rfl _ _ (NZ.out _ _ rfl _) ?_)
        | (refine wpList_store_row rfl 92 _ _ rfl w1.heap.size _ rfl rfl 92 _ HN.out (HSN m).out (HZ.out m) (H1.out _) ?_))
      generalize hBB : wo.heap.size = BB at *
      generalize hNN : w1.heap.size = NN at *
      clear HN
      generalize (w1.alloc (.cells (bArr fun _ => false) 92)).setRow NN (bArr m.testBit) = W3 at *
      have HBB := Lib.hid hBB
      clear hBB hNN hbr
      generalize hfk : ptF (tabF (F.take k)) = fk at *
      go_loopw [17] (fun jj wi => ∃ j : Nat, j ≤ 512 ∧ jj = .int .i64 j ∧ OfAt w wi (midP fk ((y, n), m) j) ∧ BesideAt wi BB NN y n (.slice sa sl sc) m) (fun jj _ => 512 - (intOf jj).toNat)
      case atStart => exact ⟨0, by omega, rfl, A1.out.ext (fun i _ => (midP_zero _ _ _).symm), B1.out⟩
      case round =>
        clear A1 B1
        obtain ⟨j, hj, rfl, hat, hbs⟩ := hrel
        have HA := Lib.hid hat
        have HBS := Lib.hid hbs
        by_cases hjt : j < 512
        · have hj' : (j : Int) < 512 := by omega
          have r32 := rem32 j
          have q32 := quo32 j
          have hr32 : ((j % 32 : Nat) : Int) < 32 := by omega
          have d1 : wr.cell? ⟨NN, j % 32, none⟩ = some (.bool (m.testBit (j % 32))) := by rw [cell_of_row _ _ _ _ _ _ hbs.2, bArr_at _ _ (by omega)]
          have d2 : wr.cell? ⟨BB, 0, none⟩ = some (.int .i64 (y : Int)) := by rw [cell_of_row _ _ _ _ _ _ hbs.1]; rfl
          have d3 : wr.cell? ⟨BB, 1, none⟩ = some (.int .i64 (n : Int)) := by rw [cell_of_row _ _ _ _ _ _ hbs.1]; rfl
          have HNO := Lib.hid (midP_no (f := fk) (b := ((y, n), m)) (j := j))
          have HYES := Lib.hid (midP_yes (f := fk) (b := ((y, n), m)) (j := j))
          have hq16 : j / 32 < 16 := by omega
          have HIN : Hid (in16 y n (j / 32) = inC ((y, n), m) (j / 32)) := in16_hasR y HB.out.1.1 n HB.out.1.2.1 _ hq16
          clear hat hbs
          generalize j % 32 = jr at *
          generalize j / 32 = jq at *
          cases hbit : m.testBit jr
          · rw [hbit] at d1
            have hno : (m.testBit jr && inC ((y, n), m) jq) = false := by rw [hbit]; rfl
            have HN2 := Lib.hid (HA.out.ext (fun i _ => HNO.out hno i))
            clear hno HNO HYES
            go_wp2_with fail
            go_roundw
            case rel => exact ⟨j + 1, by omega, by go_num, HN2.out, HBS.out⟩
            case measure => simp [intOf]; omega
          · rw [hbit] at d1
            go_wp2_with fail
            refine (rin_any y n jq _ HB.out.1 hq16).mono ?_
            rintro e w5 ⟨rfl, g5⟩
            rw [HIN.out]
            have A5 := Lib.hid (HA.out.gr g5)
            have B5 := Lib.hid (HBS.out.gr g5)
            clear d1 d2 d3
            cases hin : inC ((y, n), m) jq
            · have hno : (m.testBit jr && inC ((y, n), m) jq) = false := by rw [hin]; simp
              have HN2 := Lib.hid (A5.out.ext (fun i _ => HNO.out hno i))
              clear hno HNO HYES g5
              go_wp2_with fail
              go_roundw
              case rel => exact ⟨j + 1, by omega, by go_num, HN2.out, B5.out⟩
              case measure => simp [intOf]; omega
            · have hyes : (m.testBit jr && inC ((y, n), m) jq) = true := by rw [hin, hbit]; rfl
              have HN2 := Lib.hid ((A5.out.set j true).ext (fun i _ => HYES.out hyes i))
              have BF := Lib.hid (B5.out.far (w.heap.size + 1) j (.bool true) (by have := HBB.out; have := HWB.out; omega) (by have := HW1.out; omega))
              have d4 : w5.cell? ⟨w.heap.size + 1, j, none⟩ = some (.bool (midP fk ((y, n), m) j j)) := by rw [cell_of_row _ _ _ _ _ _ A5.out.2.2, pArr_at _ _ hjt]
              have d5 := frozen_of_row _ _ j _ _ A5.out.2.2
              clear hyes HNO HYES g5
              go_wp2_with fail
              go_roundw
              case rel => exact ⟨j + 1, by omega, by go_num, HN2.out, BF.out⟩
              case measure => simp [intOf]; omega
        · obtain rfl : j = 512 := by omega
          clear hat hbs
          go_wp2_with fail
          go_roundw
          case rel => exact ⟨k + 1, by omega, by go_num, HA.out.ext HM.out⟩
          case measure => simp [intOf]; omega
    · obtain rfl : k = F.length := by omega
      rw [List.take_length] at hat
      have HR := Lib.hid hat.2.1
      have HB := Lib.hid hat.2.2
      have HG := Lib.hid hat.1
      clear hat HA
      go_wp2_with (first
        | (refine wpList_load_row rfl 62 _ rfl (w.heap.size + 1) rfl 62 _ (0, 0) _ HB.out Try.underlying62 rfl (HS.out _) ?_)
        | (refine wpList_store_row rfl 62 _ _ rfl w.heap.size _ rfl rfl 62 _ HR.out (HS.out _) (HPZ.out _) (HP1.out _) ?_))
      refine bodyPost_ret (v := .agg (pArr (ptF (tabF F)))) (results_cell_row Try.results31 _ _ w.heap.size 62 _ (0, 0) _ rfl (setRow_heap _ _ _ _ _ _ HR.out) Try.underlying62 rfl (HS.out _)) rfl ⟨rfl, ?_⟩
      exact HG.out.setRow (Nat.le_refl _) _
end Go.Proofs.Ythcehgmpajejeaa

/- The contract of the document's own Each, one for each closure. -/
namespace Rm
open Go Go.RowKit
end Rm
namespace Go.Proofs.Ythcehgmpajejeaa
open Go.RowKit Rm
set_option linter.unusedVariables false

/-- where Each's loop stands -/
def EachAt (w wr : World) (f u : Nat → Bool) : Prop :=
  Gr w wr ∧ wr.heap[w.heap.size]? = some (.cells (pArr f) 62 (0, 0)) ∧ wr.heap[w.heap.size + 1]? = some (.cells (pArr u) 62 (0, 0)) ∧ wr.heap[w.heap.size + 1 + 1]? = some (.cells (pArr fun _ => false) 62 (0, 0))
theorem EachAt.set {w wr : World} {f u : Nat → Bool} (h : EachAt w wr f u) (k : Nat) (b : Bool) : EachAt w ((wr.setCell ⟨w.heap.size, k, none⟩ (.bool b)).drew) (fun i => if i = k then b else f i) u := by
  obtain ⟨g, h0, h1, h2⟩ := h
  refine ⟨(g.setCell (by simp) _).drew, ?_, ?_, ?_⟩
  · show (wr.setCell _ _).heap[_]? = _
    rw [heap_setCell_same _ _ _ _ _ _ h0, pArr_set]
  · show (wr.setCell _ _).heap[_]? = _
    rw [heap_setCell_other _ _ _ _ (by simp)]; exact h1
  · show (wr.setCell _ _).heap[_]? = _
    rw [heap_setCell_other _ _ _ _ (by show w.heap.size + 1 + 1 ≠ w.heap.size; omega)]; exact h2
theorem EachAt.ext {w wr : World} {f f' u : Nat → Bool} (h : EachAt w wr f u) (e : ∀ i, i < 512 → f i = f' i) : EachAt w wr f' u := by rw [EachAt, ← pArr_ext e]; exact h
end Go.Proofs.Ythcehgmpajejeaa

/- The document's own filters, over filters that may be. -/
namespace Rm
open Go Go.RowKit
end Rm
namespace Go.Proofs.Ythcehgmpajejeaa
open Go.RowKit Rm
set_option linter.unusedVariables false
theorem of_fs {w : World} {v : Value} {T : Nat → Nat} {n : Nat} (hn : n ≤ 40) (h : FSn n w v T) : Calls Try.prog 31 #[v] w fun e w' => e = .returned (.agg (pArr (ptF T))) ∧ Gr w w' := by
  obtain ⟨F, h1, hF, hl, hT⟩ := h
  have := of_pts v F w h1 hF (by omega)
  rw [show pArr (ptF (tabF F)) = pArr (ptF T) from pArr_ext (fun i hi => by unfold ptF; rw [hT _ (by omega)])] at this
  exact this
end Go.Proofs.Ythcehgmpajejeaa

/- reedref.Parts. -/
set_option linter.unusedVariables false
set_option linter.unusedSimpArgs false
namespace Go.Proofs.Ythcehgmpajejeaa
open Go.RowKit Rm Gx
set_option maxHeartbeats 8000000 in
set_option maxRecDepth 100000 in
theorem rparts_any (K : List PtI) (va : Option Addr) (vc : Nat) (w : World) (hl : K.length ≤ 9223372036854775807) (hv : RdA encR 3 w va K) (hm : MeansI w K) :
    Calls Try.prog 6 #[.slice va K.length vc] w fun e w' => e = .returned (.int .i64 (chkP K)) ∧ Gr w w' := by
  refine enter (N := 29) Try.func6 rfl rfl rfl (fun a0 ok0 h0 => ?_)
  have e0_0 : a0.eval (.tmp 0) = .slice va K.length vc := h0 0 _ rfl
  clear h0
  have G0 := Gr.refl w
  refine wp_seq_k (fun K1 hK1 => ?_)
  refine wp_region_lit ?_
  refine sv ok0 rfl (wn _ rfl) rfl (o_as ev_const) (fun an2 n2 => ?_)
  refine wpList_nil ?_
  refine th_n (hK1 _ _ ?_)
  refine wp_seq_k (fun K3 hK3 => ?_)
  refine wp_seq_k (fun K4 hK4 => ?_)
  refine wp_region_lit ?_
  refine sv n2.ok rfl (wn _ rfl) rfl (o_mv (n2.ne rfl e0_0)) (fun an5 n5 => ?_)
  refine sv n5.ok rfl (wn _ rfl) rfl (o_len n5.at_ Try.underlying22) (fun an6 n6 => ?_)
  refine sv n6.ok rfl (wn _ rfl) rfl (o_gtI n6.at_ ev_const) (fun an7 n7 => ?_)
  refine wpList_nil ?_
  refine th_n (hK4 _ _ ?_)
  by_cases c8 : (30 : Int) < ((K.length : Nat) : Int)
  · refine wp_cond_true ((n7.at_).trans (congrArg Value.bool (decide_eq_true c8))) ?_
    refine wp_seq_k (fun K9 hK9 => ?_)
    refine wp_region_lit ?_
    refine sv n7.ok rfl (wn _ rfl) rfl (o_as ev_const) (fun an10 n10 => ?_)
    refine wpList_nil ?_
    refine th_n (hK9 _ _ ?_)
    refine wp_ret ?_
    refine th_r ?_
    exact ret1 n10.ok rfl (n10.at_) ⟨congrArg (fun n => Ending.returned (Value.int .i64 n)) (by unfold chkP; rw [if_pos (by omega)]), G0⟩
  · refine wp_cond_false ((n7.at_).trans (congrArg Value.bool (decide_eq_false c8))) ?_
    refine wp_skip ?_
    refine th_n (hK3 _ _ ?_)
    refine wp_seq_k (fun K11 hK11 => ?_)
    refine wp_seq_k (fun K12 hK12 => ?_)
    refine wp_region_lit ?_
    have e13 := n7.ne rfl (n6.ne rfl (n5.ne rfl (n2.ne rfl e0_0)))
    refine sv n7.ok rfl (wn _ rfl) rfl (o_mv e13) (fun an14 n14 => ?_)
    refine sv n14.ok rfl (wn _ rfl) rfl (o_len n14.at_ Try.underlying22) (fun an15 n15 => ?_)
    refine sv n15.ok rfl (wn _ rfl) rfl (o_mv ev_const) (fun an16 n16 => ?_)
    refine wpList_nil ?_
    refine th_n (hK12 _ _ ?_)
    refine wp_block ?_
    have e18 := n16.ne rfl (n15.ne rfl (n14.ne rfl (n7.ne rfl (n6.ne rfl (n5.ne rfl n2.at_)))))
    refine lp (fun (nL : Nat) (aL : Act) (wL : World) => ∃ i : Nat, nL = K.length - i ∧ Ok 29 aL ∧ Gr w wL ∧ (aL.eval (.tmp 2) = .int .i64 0) ∧ (aL.eval (.tmp 10) = .slice va K.length vc) ∧ (aL.eval (.tmp 11) = .int .i64 ((K.length : Nat) : Int)) ∧ (aL.eval (.tmp 12) = .int .i64 (i : Int)) ∧ (i ≤ K.length) ∧ (chkPGo K = chkPGo (K.drop i))) _ ⟨0, rfl, n16.ok, G0, e18, (n16.ne rfl (n15.ne rfl n14.at_)), (n16.ne rfl n15.at_), n16.at_, by omega, rfl⟩ ?_
    rintro m19 aI17 w21 ⟨i, hmI17, okI17, GI17, s2I17, s10I17, s11I17, s12I17, hiI17, hgI17⟩ KI17 hKI17
    refine wp_seq_k (fun K22 hK22 => ?_)
    refine wp_region_lit ?_
    refine sv okI17 rfl (wn _ rfl) rfl (o_ltI s12I17 s11I17) (fun an23 n23 => ?_)
    refine wpList_nil ?_
    refine th_n (hK22 _ _ ?_)
    refine wp_seq_k (fun K24 hK24 => ?_)
    by_cases c25 : (i : Int) < ((K.length : Nat) : Int)
    · refine wp_cond_true ((n23.at_).trans (congrArg Value.bool (decide_eq_true c25))) ?_
      refine wp_skip ?_
      refine th_n (hK24 _ _ ?_)
      refine wp_seq_k (fun K26 hK26 => ?_)
      refine wp_block ?_
      refine wp_seq_k (fun K27 hK27 => ?_)
      refine wp_region_lit ?_
      have h28l : i < List.length K := by omega
      obtain ⟨bh28, fh28, h28a, h28b, h28c⟩ := hv (ne_nil_of_lt h28l)
      obtain ⟨xh28, h28x⟩ : ∃ x, (K)[i]? = some x := ⟨_, List.getElem?_eq_getElem h28l⟩
      refine sv n23.ok rfl (wn _ rfl) rfl (o_iaV (i := i) (s := 3) h28a (n23.ne rfl s10I17) (n23.ne rfl s12I17) Try.underlying22 (by kernel_rfl) h28l) (fun an29 n29 => ?_)
      refine sv n29.ok rfl (wn _ rfl) rfl (o_ldA (k := fh28 + i * 3) n29.at_ (cs := [.slice xh28.fa xh28.fn xh28.fc, .slice xh28.va xh28.vn xh28.vc, .slice xh28.ma xh28.mn xh28.mc]) (fun j v hv => (Below.cell GI17 h28b).trans (h28c _ _ h28x j v hv)) Try.underlying38 rfl (by kernel_rfl)) (fun an30 n30 => ?_)
      refine sal (cs := #[.slice none 0 0, .slice none 0 0, .slice none 0 0]) n30.ok rfl (wn _ rfl) rfl (o_al (z := .agg #[.slice none 0 0, .slice none 0 0, .slice none 0 0]) (by kernel_rfl)) (fun an31 w33 b32 W34 n31 => ?_)
      have l35 : w.heap.size ≤ b32 := by rw [W34.eq]; exact GI17.size
      have G36 := GI17.trans W34.gr
      refine ssR rfl (wn _ rfl) (o_stR n31.at_ (n31.ne rfl n30.at_) W34.bk (by kernel_rfl) rfl (by simp [Value.oneCell'])) W34.bk (fun w37 u38 u38b => ?_)
      have G39 : Gr w w37 := Below.upd G36 l35 u38
      refine wpList_nil ?_
      refine th_n (hK27 _ _ ?_)
      refine wp_seq_k (fun K40 hK40 => ?_)
      refine wp_seq_k (fun K41 hK41 => ?_)
      refine wp_region_lit ?_
      refine sv n31.ok rfl (wn _ rfl) rfl (o_fa (z := 1) n31.at_ Try.underlying38 rfl (by kernel_rfl) rfl rfl) (fun an42 n42 => ?_)
      refine sv n42.ok rfl (wn _ rfl) rfl (o_ld n42.at_ (Try.isAgg36 _) (u38b.cell _ rfl)) (fun an43 n43 => ?_)
      refine sc n43.ok rfl (wn _ rfl) rfl (o_f1 Try.func24 rfl rfl rfl n43.at_) (rfilter_any _ _ w37 ((hm _ (List.mem_of_getElem? h28x)).gr G39).fs) ?_
      rintro _ w45 ⟨rfl, g46⟩
      refine ⟨_, rfl, fun an44 n44 => ?_⟩
      have G47 := G39.trans g46
      have B48 := u38b.gr g46
      refine sv n44.ok rfl (wn _ rfl) rfl (o_as n44.at_) (fun an49 n49 => ?_)
      refine wpList_nil ?_
      refine th_n (hK41 _ _ ?_)
      refine wp_seq_k (fun K50 hK50 => ?_)
      refine wp_region_lit ?_
      refine sv n49.ok rfl (wn _ rfl) rfl (o_mv n49.at_) (fun an51 n51 => ?_)
      refine sv n51.ok rfl (wn _ rfl) rfl (o_neI n51.at_ ev_const) (fun an52 n52 => ?_)
      refine wpList_nil ?_
      refine th_n (hK50 _ _ ?_)
      by_cases c53 : ¬ (chkF xh28.l) = 0
      · refine wp_cond_true ((n52.at_).trans (congrArg Value.bool (decide_eq_true c53))) ?_
        refine wp_seq_k (fun K54 hK54 => ?_)
        refine wp_region_lit ?_
        refine sv n52.ok rfl (wn _ rfl) rfl (o_mv (n52.ne rfl (n51.ne rfl n49.at_))) (fun an55 n55 => ?_)
        refine sv n55.ok rfl (wn _ rfl) rfl (o_as n55.at_) (fun an56 n56 => ?_)
        refine wpList_nil ?_
        refine th_n (hK54 _ _ ?_)
        refine wp_ret ?_
        refine th_r ?_
        refine ib_r ?_
        refine th_r ?_
        refine th_r ?_
        refine ib_r ?_
        refine th_r ?_
        exact ret1 n56.ok rfl (n56.at_) ⟨congrArg (fun n => Ending.returned (Value.int .i64 n)) (by unfold chkP; rw [if_neg (by omega), hgI17, chkPGo_at h28x]; unfold chkI; rw [if_neg c53, if_neg c53]), G47⟩
      · refine wp_cond_false ((n52.at_).trans (congrArg Value.bool (decide_eq_false c53))) ?_
        refine wp_skip ?_
        refine th_n (hK40 _ _ ?_)
        refine wp_seq_k (fun K57 hK57 => ?_)
        refine wp_region_lit ?_
        have e58 := n52.ne rfl (n51.ne rfl (n49.ne rfl (n44.ne rfl (n43.ne rfl (n42.ne rfl n31.at_)))))
        refine sv n52.ok rfl (wn _ rfl) rfl (o_fa (z := 2) e58 Try.underlying38 rfl (by kernel_rfl) rfl rfl) (fun an59 n59 => ?_)
        refine sv n59.ok rfl (wn _ rfl) rfl (o_ldA (k := 1) (cs := [.slice xh28.va xh28.vn xh28.vc, .slice xh28.ma xh28.mn xh28.mc]) n59.at_ (bk_part B48 rfl) Try.underlying35 rfl (by kernel_rfl)) (fun an60 n60 => ?_)
        refine sc n60.ok rfl (wn _ rfl) rfl (o_f1 Try.func25 rfl rfl rfl n60.at_) (rknow_any _ _ _ w45 ((hm _ (List.mem_of_getElem? h28x)).gr G47).kn) ?_
        rintro _ w62 ⟨rfl, g63⟩
        refine ⟨_, rfl, fun an61 n61 => ?_⟩
        have G64 := G47.trans g63
        have B65 := B48.gr g63
        refine sv n61.ok rfl (wn _ rfl) rfl (o_as n61.at_) (fun an66 n66 => ?_)
        refine wpList_nil ?_
        refine th_n (hK57 _ _ ?_)
        refine wp_seq_k (fun K67 hK67 => ?_)
        refine wp_region_lit ?_
        refine sv n66.ok rfl (wn _ rfl) rfl (o_mv n66.at_) (fun an68 n68 => ?_)
        refine sv n68.ok rfl (wn _ rfl) rfl (o_neI n68.at_ ev_const) (fun an69 n69 => ?_)
        refine wpList_nil ?_
        refine th_n (hK67 _ _ ?_)
        by_cases c70 : ¬ (chkK xh28.V xh28.M) = 0
        · refine wp_cond_true ((n69.at_).trans (congrArg Value.bool (decide_eq_true c70))) ?_
          refine wp_seq_k (fun K71 hK71 => ?_)
          refine wp_region_lit ?_
          refine sv n69.ok rfl (wn _ rfl) rfl (o_mv (n69.ne rfl (n68.ne rfl n66.at_))) (fun an72 n72 => ?_)
          refine sv n72.ok rfl (wn _ rfl) rfl (o_as n72.at_) (fun an73 n73 => ?_)
          refine wpList_nil ?_
          refine th_n (hK71 _ _ ?_)
          refine wp_ret ?_
          refine ib_r ?_
          refine th_r ?_
          refine th_r ?_
          refine ib_r ?_
          refine th_r ?_
          exact ret1 n73.ok rfl (n73.at_) ⟨congrArg (fun n => Ending.returned (Value.int .i64 n)) (by unfold chkP; rw [if_neg (by omega), hgI17, chkPGo_at h28x]; unfold chkI; rw [if_pos (Decidable.of_not_not c53), if_neg c70]), G64⟩
        · refine wp_cond_false ((n69.at_).trans (congrArg Value.bool (decide_eq_false c70))) ?_
          refine wp_skip ?_
          refine ib_n ?_
          refine th_n (hK26 _ _ ?_)
          refine wp_region_lit ?_
          have e74 := n69.ne rfl (n68.ne rfl (n66.ne rfl (n61.ne rfl (n60.ne rfl (n59.ne rfl (n52.ne rfl (n51.ne rfl (n49.ne rfl (n44.ne rfl (n43.ne rfl (n42.ne rfl (n31.ne rfl (n30.ne rfl (n29.ne rfl (n23.ne rfl s12I17)))))))))))))))
          refine sv n69.ok rfl (wn _ rfl) rfl (o_add (r := ((i + 1 : Nat) : Int)) e74 ev_const (by omega) (by omega)) (fun an75 n75 => ?_)
          refine sv n75.ok rfl (wn _ rfl) rfl (o_mv n75.at_) (fun an76 n76 => ?_)
          refine wpList_nil ?_
          have e77 := n76.ne rfl (n75.ne rfl (n69.ne rfl (n68.ne rfl (n66.ne rfl (n61.ne rfl (n60.ne rfl (n59.ne rfl (n52.ne rfl (n51.ne rfl (n49.ne rfl (n44.ne rfl (n43.ne rfl (n42.ne rfl (n31.ne rfl (n30.ne rfl (n29.ne rfl (n23.ne rfl s2I17)))))))))))))))))
          have e78 := n76.ne rfl (n75.ne rfl (n69.ne rfl (n68.ne rfl (n66.ne rfl (n61.ne rfl (n60.ne rfl (n59.ne rfl (n52.ne rfl (n51.ne rfl (n49.ne rfl (n44.ne rfl (n43.ne rfl (n42.ne rfl (n31.ne rfl (n30.ne rfl (n29.ne rfl (n23.ne rfl s10I17)))))))))))))))))
          have e79 := n76.ne rfl (n75.ne rfl (n69.ne rfl (n68.ne rfl (n66.ne rfl (n61.ne rfl (n60.ne rfl (n59.ne rfl (n52.ne rfl (n51.ne rfl (n49.ne rfl (n44.ne rfl (n43.ne rfl (n42.ne rfl (n31.ne rfl (n30.ne rfl (n29.ne rfl (n23.ne rfl s11I17)))))))))))))))))
          exact th_n (hKI17 _ _ _ (by omega) ⟨i + 1, rfl, n76.ok, G64, e77, e78, e79, n76.at_, by omega, by rw [hgI17, chkPGo_at h28x, if_pos]; unfold chkI; rw [if_pos (Decidable.of_not_not c53)]; exact Decidable.of_not_not c70⟩)
    · refine wp_cond_false ((n23.at_).trans (congrArg Value.bool (decide_eq_false c25))) ?_
      refine wp_exit ?_
      refine th_x ?_
      refine th_x ?_
      refine ib_x ?_
      refine th_n (hK11 _ _ ?_)
      refine wp_seq_k (fun K80 hK80 => ?_)
      refine wp_region_lit ?_
      refine sv n23.ok rfl (wn _ rfl) rfl (o_as ev_const) (fun an81 n81 => ?_)
      refine wpList_nil ?_
      refine th_n (hK80 _ _ ?_)
      refine wp_ret ?_
      exact ret1 n81.ok rfl (n81.at_) ⟨congrArg (fun n => Ending.returned (Value.int .i64 n)) (by unfold chkP; rw [if_neg (by omega), hgI17, List.drop_eq_nil_of_le (by omega)]; rfl), GI17⟩
theorem rparts_ok (L : List PtX) (va : Option Addr) (vc : Nat) (w : World) (hl : L.length ≤ 30) (hv : RdA encP 3 w va L) (hm : MeansP w L) : Calls Try.prog 6 #[.slice va L.length vc] w fun e w' => e = .returned (.int .i64 0) ∧ Gr w w' := by
  obtain ⟨K, h1, h2, h3⟩ := hm.is
  have hlen : K.length = L.length := by simpa using congrArg List.length h1
  have h := rparts_any K va vc w (by omega) (rd_map hv h1) h2
  have e : chkP K = 0 := by unfold chkP; rw [if_neg (by omega)]; exact chkPGo_zero.2 h3
  rw [e, hlen] at h
  exact h
end Go.Proofs.Ythcehgmpajejeaa

/- the document's parts: as they lie in memory; reedref.Knows. -/
set_option linter.unusedVariables false
set_option linter.unusedSimpArgs false
namespace Rm
open Go Go.RowKit Gx
/-- a part of the document: its points, its dots -/
structure PtM where
  s : Nat → Bool
  X : Nat → Nat
def m0 : PtM := ⟨fun _ => false, fun _ => 0⟩
def encDoc (x : PtM) : List Value := (pArr x.s).toList ++ (wArr x.X).toList
theorem encDoc_len (x : PtM) : (encDoc x).length = 592 := by
  unfold encDoc
  rw [List.length_append, Array.length_toList, Array.length_toList, pArr_size, wArr_size]
theorem encDoc_sz (x : PtM) : (encDoc x).toArray.size = 592 := by rw [List.size_toArray, encDoc_len]
theorem encDoc_one (x : PtM) : (encDoc x).toArray.all (·.oneCell') = true := by
  have h1 := pArr_one x.s
  have h2 := wArr_one x.X
  rw [← Array.all_toList] at h1 h2
  rw [List.all_toArray]
  unfold encDoc
  rw [List.all_append, h1, h2]
  rfl
theorem encDoc_ok : EncOk encDoc 592 := ⟨encDoc_len, fun x u hu => by
  have h := encDoc_one x
  rw [List.all_toArray, List.all_eq_true] at h
  exact h u hu⟩
theorem encDoc_lo (x : PtM) (i : Nat) (v : Value) (h : (pArr x.s).toList[i]? = some v) : (encDoc x).toArray[i]? = some v := by
  rw [List.getElem?_toArray]
  unfold encDoc
  rw [List.getElem?_append_left (List.getElem?_eq_some_iff.1 h).1]
  exact h
theorem encDoc_hi (x : PtM) (i : Nat) (v : Value) (h : (wArr x.X).toList[i]? = some v) : (encDoc x).toArray[512 + i]? = some v := by
  have hl : (pArr x.s).toList.length = 512 := by rw [Array.length_toList, pArr_size]
  rw [List.getElem?_toArray]
  unfold encDoc
  rw [List.getElem?_append_right (by omega), hl, show 512 + i - 512 = i by omega]
  exact h
/-- does one of them hold a point and a dot -/
def knM (K : List PtM) (p s c : Nat) : Bool := K.any fun x => x.s p && dsX x.X s c
theorem knM_at {K : List PtM} {i : Nat} {x : PtM} (p s c : Nat) (h : K[i]? = some x) : knM (K.drop i) p s c = ((x.s p && dsX x.X s c) || knM (K.drop (i + 1)) p s c) := by
  obtain ⟨hi, e⟩ := List.getElem?_eq_some_iff.1 h
  rw [List.drop_eq_getElem_cons hi, e]
  rfl
end Rm
namespace Go.Proofs.Ythcehgmpajejeaa
open Go.RowKit Rm Gx
theorem partM_zero : (Try.prog.info? 68).bind (·.zero) = some (.agg (encDoc m0).toArray) := by kernel_rfl
theorem partM_size : (Try.prog.info? 68).map (·.size) = some 592 := by kernel_rfl
theorem encDoc_info (x : PtM) : (Try.prog.info? 68).map (·.size) = some (encDoc x).toArray.size := by rw [encDoc_sz]; exact partM_size
section
variable {ev : Operand → Value} {w : World} {d : Option Nat} {ty : TypeId} {p : String} {af : Array Edge} {g : Option (Nat × Bool)}
theorem o_ldM0 {x : Operand} {b : Nat} {y : PtM} {t' : TypeId} (hx : ev x = .pointer (some ⟨b, 0, none⟩)) (hb : Bk w b (encDoc y).toArray t') : (execOp ev (Oper.mk d (.load 62 x) ty p af g)).run Try.prog w = .ok (.value (.agg (pArr y.s))) w := by
  have h := o_ldA (P := Try.prog) (ev := ev) (w := w) (d := d) (ty := ty) (p := p) (af := af) (g := g) (k := 0) (cs := (pArr y.s).toList) hx (fun j v hv => by rw [Nat.zero_add]; exact hb.cell _ (encDoc_lo y j v hv)) Try.underlying62 rfl (by rw [Array.length_toList]; exact pinfo y.s)
  rw [Array.toArray_toList] at h
  exact h
theorem o_ldM1 {x : Operand} {b : Nat} {y : PtM} {t' : TypeId} (hx : ev x = .pointer (some ⟨b, 512, none⟩)) (hb : Bk w b (encDoc y).toArray t') : (execOp ev (Oper.mk d (.load 66 x) ty p af g)).run Try.prog w = .ok (.value (.agg (wArr y.X))) w := by
  have h := o_ldA (P := Try.prog) (ev := ev) (w := w) (d := d) (ty := ty) (p := p) (af := af) (g := g) (k := 512) (cs := (wArr y.X).toList) hx (fun j v hv => hb.cell _ (encDoc_hi y j v hv)) Try.underlying66 rfl (by rw [Array.length_toList]; exact dots_sz y.X)
  rw [Array.toArray_toList] at h
  exact h
end
set_option maxHeartbeats 8000000 in
set_option maxRecDepth 100000 in
theorem rknows_any (K : List PtM) (va : Option Addr) (vc a b d c : Nat) (w : World) (hl : K.length ≤ 1000) (hv : RdA encDoc 592 w va K) (hX : ∀ x ∈ K, OkX x.X) (ha : a < 16) (hb : b < 32) (hd : d < 5) (hc : c < 1024) :
    Calls Try.prog 10 #[.slice va K.length vc, .agg #[.int .i64 (a : Int), .int .i64 (b : Int)], .agg #[.int .i64 (d : Int), .int .i64 (c : Int)]] w fun e w' => e = .returned (.bool (knM K (32 * a + b) d c)) ∧ Gr w w' := by
  refine enter (N := 26) Try.func10 rfl rfl rfl (fun a0 ok0 h0 => ?_)
  have e0_0 : a0.eval (.tmp 0) = .slice va K.length vc := h0 0 _ rfl
  have e0_1 : a0.eval (.tmp 1) = .agg #[.int .i64 (a : Int), .int .i64 (b : Int)] := h0 1 _ rfl
  have e0_2 : a0.eval (.tmp 2) = .agg #[.int .i64 (d : Int), .int .i64 (c : Int)] := h0 2 _ rfl
  clear h0
  have G0 := Gr.refl w
  refine wp_seq_k (fun K1 hK1 => ?_)
  refine wp_region_lit ?_
  refine sal (cs := #[.int .i64 (a : Int), .int .i64 (b : Int)]) ok0 rfl (wn _ rfl) rfl (o_box e0_1) (fun an2 w4 b3 W5 n2 => ?_)
  have l6 : w.heap.size ≤ b3 := by rw [W5.eq]; exact G0.size
  have G7 := G0.trans W5.gr
  refine sal (cs := #[.int .i64 (d : Int), .int .i64 (c : Int)]) n2.ok rfl (wn _ rfl) rfl (o_box (n2.ne rfl e0_2)) (fun an8 w10 b9 W11 n8 => ?_)
  have l12 : b3 < b9 := by rw [W11.eq]; exact W5.bk.lt
  have l13 : w.heap.size ≤ b9 := by rw [W11.eq]; exact G7.size
  have G14 := G7.trans W11.gr
  have B15 := W5.bk.gr W11.gr
  refine sv n8.ok rfl (wn _ rfl) rfl (o_as ev_const) (fun an16 n16 => ?_)
  refine wpList_nil ?_
  refine th_n (hK1 _ _ ?_)
  refine wp_seq_k (fun K17 hK17 => ?_)
  refine wp_seq_k (fun K18 hK18 => ?_)
  refine wp_region_lit ?_
  have e19 := n16.ne rfl (n8.ne rfl (n2.ne rfl e0_0))
  refine sv n16.ok rfl (wn _ rfl) rfl (o_mv e19) (fun an20 n20 => ?_)
  refine sv n20.ok rfl (wn _ rfl) rfl (o_len n20.at_ Try.underlying42) (fun an21 n21 => ?_)
  refine sv n21.ok rfl (wn _ rfl) rfl (o_mv ev_const) (fun an22 n22 => ?_)
  refine wpList_nil ?_
  refine th_n (hK18 _ _ ?_)
  refine wp_block ?_
  have e24 := n22.ne rfl (n21.ne rfl (n20.ne rfl (n16.ne rfl (n8.ne rfl n2.at_))))
  have e25 := n22.ne rfl (n21.ne rfl (n20.ne rfl (n16.ne rfl n8.at_)))
  have e26 := n22.ne rfl (n21.ne rfl (n20.ne rfl n16.at_))
  refine lp (fun (nL : Nat) (aL : Act) (wL : World) => ∃ i : Nat, nL = K.length - i ∧ Ok 26 aL ∧ Gr w wL ∧ (aL.eval (.tmp 4) = .pointer (some ⟨b3, 0, none⟩)) ∧ (aL.eval (.tmp 5) = .pointer (some ⟨b9, 0, none⟩)) ∧ (aL.eval (.tmp 6) = .bool false) ∧ (aL.eval (.tmp 9) = .slice va K.length vc) ∧ (aL.eval (.tmp 10) = .int .i64 ((K.length : Nat) : Int)) ∧ (aL.eval (.tmp 11) = .int .i64 (i : Int)) ∧ (Bk wL b3 #[.int .i64 (a : Int), .int .i64 (b : Int)] 24) ∧ (Bk wL b9 #[.int .i64 (d : Int), .int .i64 (c : Int)] 26) ∧ (i ≤ K.length) ∧ (knM K (32 * a + b) d c = knM (K.drop i) (32 * a + b) d c)) _ ⟨0, rfl, n22.ok, G14, e24, e25, e26, (n22.ne rfl (n21.ne rfl n20.at_)), (n22.ne rfl n21.at_), n22.at_, B15, W11.bk, by omega, rfl⟩ ?_
  rintro m27 aI23 w29 ⟨i, hmI23, okI23, GI23, s4I23, s5I23, s6I23, s9I23, s10I23, s11I23, kb3I23, kb9I23, hiI23, hgI23⟩ KI23 hKI23
  refine wp_seq_k (fun K30 hK30 => ?_)
  refine wp_region_lit ?_
  refine sv okI23 rfl (wn _ rfl) rfl (o_ltI s11I23 s10I23) (fun an31 n31 => ?_)
  refine wpList_nil ?_
  refine th_n (hK30 _ _ ?_)
  refine wp_seq_k (fun K32 hK32 => ?_)
  by_cases c33 : (i : Int) < ((K.length : Nat) : Int)
  · refine wp_cond_true ((n31.at_).trans (congrArg Value.bool (decide_eq_true c33))) ?_
    refine wp_skip ?_
    refine th_n (hK32 _ _ ?_)
    refine wp_seq_k (fun K34 hK34 => ?_)
    refine wp_block ?_
    refine wp_seq_k (fun K35 hK35 => ?_)
    refine wp_region_lit ?_
    have h36l : i < List.length K := by omega
    obtain ⟨bh36, fh36, h36a, h36b, h36c⟩ := hv (ne_nil_of_lt h36l)
    obtain ⟨xh36, h36x⟩ : ∃ x, (K)[i]? = some x := ⟨_, List.getElem?_eq_getElem h36l⟩
    refine sv n31.ok rfl (wn _ rfl) rfl (o_iaV (i := i) (s := 592) h36a (n31.ne rfl s9I23) (n31.ne rfl s11I23) Try.underlying42 (by kernel_rfl) h36l) (fun an37 n37 => ?_)
    refine sv n37.ok rfl (wn _ rfl) rfl (o_ldA (k := fh36 + i * 592) n37.at_ (cs := encDoc xh36) (fun j v hv => (Below.cell GI23 h36b).trans (h36c _ _ h36x j v hv)) Try.underlying68 rfl (by kernel_rfl)) (fun an38 n38 => ?_)
    refine sal (cs := (encDoc m0).toArray) n38.ok rfl (wn _ rfl) rfl (o_al (z := .agg ((encDoc m0).toArray)) partM_zero) (fun an39 w41 b40 W42 n39 => ?_)
    have l43 : b3 < b40 := by rw [W42.eq]; exact kb3I23.lt
    have l44 : b9 < b40 := by rw [W42.eq]; exact kb9I23.lt
    have l45 : w.heap.size ≤ b40 := by rw [W42.eq]; exact GI23.size
    have G46 := GI23.trans W42.gr
    have B47 := kb3I23.gr W42.gr
    have B48 := kb9I23.gr W42.gr
    refine ssR rfl (wn _ rfl) (o_stR n39.at_ (n39.ne rfl n38.at_) W42.bk (encDoc_info xh36) (by rw [encDoc_sz, encDoc_sz]) (encDoc_one xh36)) W42.bk (fun w49 u50 u50b => ?_)
    have G51 : Gr w w49 := Below.upd G46 l45 u50
    have B52 := B47.upd u50 (Nat.ne_of_lt l43)
    have B53 := B48.upd u50 (Nat.ne_of_lt l44)
    refine wpList_nil ?_
    refine th_n (hK35 _ _ ?_)
    refine wp_seq_k (fun K54 hK54 => ?_)
    refine wp_region_lit ?_
    refine sv n39.ok rfl (wn _ rfl) rfl (o_fa (z := 512) n39.at_ Try.underlying68 rfl (by kernel_rfl) rfl rfl) (fun an55 n55 => ?_)
    refine sv n55.ok rfl (wn _ rfl) rfl (o_ldM0 (y := xh36) n55.at_ u50b) (fun an56 n56 => ?_)
    have e57 := n56.ne rfl (n55.ne rfl (n39.ne rfl (n38.ne rfl (n37.ne rfl (n31.ne rfl s4I23)))))
    refine sv n56.ok rfl (wn _ rfl) rfl (o_ldR e57 B52 Try.underlying24 rfl (by kernel_rfl)) (fun an58 n58 => ?_)
    refine sc n58.ok rfl (wn _ rfl) rfl (o_f2 Try.func29 rfl rfl rfl (n58.ne rfl n56.at_) n58.at_) (at_any xh36.s a b ha hb w49) ?_
    rintro _ w60 ⟨rfl, g61⟩
    refine ⟨_, rfl, fun an59 n59 => ?_⟩
    have G62 := G51.trans g61
    have B63 := B52.gr g61
    have B64 := B53.gr g61
    have B65 := u50b.gr g61
    refine sv n59.ok rfl (wn _ rfl) rfl (o_mv n59.at_) (fun an66 n66 => ?_)
    cases c67 : (xh36.s (32 * a + b))
    · have e68 := (n66.at_).trans (congrArg Value.bool (c67))
      have e69 := ((n66.ne rfl n59.at_)).trans (congrArg Value.bool (c67))
      refine sn n66.ok rfl (wgF rfl (yl 4 false rfl e68) rfl) rfl (fun an70 n70 => ?_)
      refine sn n70.ok rfl (wgF rfl (yl 4 false rfl (n70.ne rfl e68)) rfl) rfl (fun an71 n71 => ?_)
      refine sn n71.ok rfl (wgF rfl (yl 4 false rfl (n71.ne rfl (n70.ne rfl e68))) rfl) rfl (fun an72 n72 => ?_)
      have e73 := n72.ne rfl (n71.ne rfl (n70.ne rfl e68))
      refine sn n72.ok rfl (wgF rfl (yl 4 false rfl e73) rfl) rfl (fun an74 n74 => ?_)
      refine sv n74.ok rfl (wn _ rfl) rfl (o_pkF (n74.ne rfl e73) ev_const) (fun an75 n75 => ?_)
      refine wpList_nil ?_
      refine th_n (hK54 _ _ ?_)
      refine wp_cond_false (n75.at_) ?_
      refine wp_skip ?_
      refine ib_n ?_
      refine th_n (hK34 _ _ ?_)
      refine wp_region_lit ?_
      have e76 := n75.ne rfl (n74.ne rfl (n72.ne rfl (n71.ne rfl (n70.ne rfl (n66.ne rfl (n59.ne rfl (n58.ne rfl (n56.ne rfl (n55.ne rfl (n39.ne rfl (n38.ne rfl (n37.ne rfl (n31.ne rfl s11I23)))))))))))))
      refine sv n75.ok rfl (wn _ rfl) rfl (o_add (r := ((i + 1 : Nat) : Int)) e76 ev_const (by omega) (by omega)) (fun an77 n77 => ?_)
      refine sv n77.ok rfl (wn _ rfl) rfl (o_mv n77.at_) (fun an78 n78 => ?_)
      refine wpList_nil ?_
      have e79 := n78.ne rfl (n77.ne rfl (n75.ne rfl (n74.ne rfl (n72.ne rfl (n71.ne rfl (n70.ne rfl (n66.ne rfl (n59.ne rfl (n58.ne rfl e57)))))))))
      have e80 := n78.ne rfl (n77.ne rfl (n75.ne rfl (n74.ne rfl (n72.ne rfl (n71.ne rfl (n70.ne rfl (n66.ne rfl (n59.ne rfl (n58.ne rfl (n56.ne rfl (n55.ne rfl (n39.ne rfl (n38.ne rfl (n37.ne rfl (n31.ne rfl s5I23)))))))))))))))
      have e81 := n78.ne rfl (n77.ne rfl (n75.ne rfl (n74.ne rfl (n72.ne rfl (n71.ne rfl (n70.ne rfl (n66.ne rfl (n59.ne rfl (n58.ne rfl (n56.ne rfl (n55.ne rfl (n39.ne rfl (n38.ne rfl (n37.ne rfl (n31.ne rfl s6I23)))))))))))))))
      have e82 := n78.ne rfl (n77.ne rfl (n75.ne rfl (n74.ne rfl (n72.ne rfl (n71.ne rfl (n70.ne rfl (n66.ne rfl (n59.ne rfl (n58.ne rfl (n56.ne rfl (n55.ne rfl (n39.ne rfl (n38.ne rfl (n37.ne rfl (n31.ne rfl s9I23)))))))))))))))
      have e83 := n78.ne rfl (n77.ne rfl (n75.ne rfl (n74.ne rfl (n72.ne rfl (n71.ne rfl (n70.ne rfl (n66.ne rfl (n59.ne rfl (n58.ne rfl (n56.ne rfl (n55.ne rfl (n39.ne rfl (n38.ne rfl (n37.ne rfl (n31.ne rfl s10I23)))))))))))))))
      exact th_n (hKI23 _ _ _ (by omega) ⟨i + 1, rfl, n78.ok, G62, e79, e80, e81, e82, e83, n78.at_, B63, B64, by omega, by rw [hgI23, knM_at _ _ _ h36x, show xh36.s (32 * a + b) = false by simpa using c67]; simp⟩)
    · have e84 := (n66.at_).trans (congrArg Value.bool (c67))
      have e85 := ((n66.ne rfl n59.at_)).trans (congrArg Value.bool (c67))
      have e86 := n66.ne rfl (n59.ne rfl (n58.ne rfl (n56.ne rfl (n55.ne rfl n39.at_))))
      refine sv n66.ok rfl (wgT rfl (yl 4 true rfl e84) rfl) rfl (o_fa (z := 80) e86 Try.underlying68 rfl (by kernel_rfl) rfl rfl) (fun an87 n87 => ?_)
      refine sv n87.ok rfl (wgT rfl (yl 4 true rfl (n87.ne rfl e84)) rfl) rfl (o_ldM1 (y := xh36) n87.at_ B65) (fun an88 n88 => ?_)
      have e89 := n88.ne rfl (n87.ne rfl (n66.ne rfl (n59.ne rfl (n58.ne rfl (n56.ne rfl (n55.ne rfl (n39.ne rfl (n38.ne rfl (n37.ne rfl (n31.ne rfl s5I23))))))))))
      refine sv n88.ok rfl (wgT rfl (yl 4 true rfl (n88.ne rfl (n87.ne rfl e84))) rfl) rfl (o_ldR e89 B64 Try.underlying26 rfl (by kernel_rfl)) (fun an90 n90 => ?_)
      have e91 := n90.ne rfl (n88.ne rfl (n87.ne rfl e84))
      refine sc n90.ok rfl (wgT rfl (yl 4 true rfl e91) rfl) rfl (o_f2 Try.func30 rfl rfl rfl (n90.ne rfl n88.at_) n90.at_) (rhas_any xh36.X d c w60 (hX _ (List.mem_of_getElem? h36x)) hd hc) ?_
      rintro _ w93 ⟨rfl, g94⟩
      refine ⟨_, rfl, fun an92 n92 => ?_⟩
      have G95 := G62.trans g94
      have B96 := B63.gr g94
      have B97 := B64.gr g94
      have B98 := B65.gr g94
      refine sv n92.ok rfl (wn _ rfl) rfl (o_pkT (n92.ne rfl e91) n92.at_) (fun an99 n99 => ?_)
      refine wpList_nil ?_
      refine th_n (hK54 _ _ ?_)
      cases c100 : (dsX xh36.X d c)
      · refine wp_cond_false ((n99.at_).trans (congrArg Value.bool (c100))) ?_
        refine wp_skip ?_
        refine ib_n ?_
        refine th_n (hK34 _ _ ?_)
        refine wp_region_lit ?_
        have e101 := n99.ne rfl (n92.ne rfl (n90.ne rfl (n88.ne rfl (n87.ne rfl (n66.ne rfl (n59.ne rfl (n58.ne rfl (n56.ne rfl (n55.ne rfl (n39.ne rfl (n38.ne rfl (n37.ne rfl (n31.ne rfl s11I23)))))))))))))
        refine sv n99.ok rfl (wn _ rfl) rfl (o_add (r := ((i + 1 : Nat) : Int)) e101 ev_const (by omega) (by omega)) (fun an102 n102 => ?_)
        refine sv n102.ok rfl (wn _ rfl) rfl (o_mv n102.at_) (fun an103 n103 => ?_)
        refine wpList_nil ?_
        have e104 := n103.ne rfl (n102.ne rfl (n99.ne rfl (n92.ne rfl (n90.ne rfl (n88.ne rfl (n87.ne rfl (n66.ne rfl (n59.ne rfl (n58.ne rfl e57)))))))))
        have e105 := n103.ne rfl (n102.ne rfl (n99.ne rfl (n92.ne rfl (n90.ne rfl e89))))
        have e106 := n103.ne rfl (n102.ne rfl (n99.ne rfl (n92.ne rfl (n90.ne rfl (n88.ne rfl (n87.ne rfl (n66.ne rfl (n59.ne rfl (n58.ne rfl (n56.ne rfl (n55.ne rfl (n39.ne rfl (n38.ne rfl (n37.ne rfl (n31.ne rfl s6I23)))))))))))))))
        have e107 := n103.ne rfl (n102.ne rfl (n99.ne rfl (n92.ne rfl (n90.ne rfl (n88.ne rfl (n87.ne rfl (n66.ne rfl (n59.ne rfl (n58.ne rfl (n56.ne rfl (n55.ne rfl (n39.ne rfl (n38.ne rfl (n37.ne rfl (n31.ne rfl s9I23)))))))))))))))
        have e108 := n103.ne rfl (n102.ne rfl (n99.ne rfl (n92.ne rfl (n90.ne rfl (n88.ne rfl (n87.ne rfl (n66.ne rfl (n59.ne rfl (n58.ne rfl (n56.ne rfl (n55.ne rfl (n39.ne rfl (n38.ne rfl (n37.ne rfl (n31.ne rfl s10I23)))))))))))))))
        exact th_n (hKI23 _ _ _ (by omega) ⟨i + 1, rfl, n103.ok, G95, e104, e105, e106, e107, e108, n103.at_, B96, B97, by omega, by rw [hgI23, knM_at _ _ _ h36x, show xh36.s (32 * a + b) = true by simpa using c67, show dsX xh36.X d c = false by simpa using c100]; simp⟩)
      · refine wp_cond_true ((n99.at_).trans (congrArg Value.bool (c100))) ?_
        refine wp_seq_k (fun K109 hK109 => ?_)
        refine wp_region_lit ?_
        refine sv n99.ok rfl (wn _ rfl) rfl (o_as ev_const) (fun an110 n110 => ?_)
        refine wpList_nil ?_
        refine th_n (hK109 _ _ ?_)
        refine wp_ret ?_
        refine ib_r ?_
        refine th_r ?_
        refine th_r ?_
        refine ib_r ?_
        refine th_r ?_
        exact ret1 n110.ok rfl (n110.at_) ⟨congrArg (fun n => Ending.returned (Value.bool n)) (by rw [hgI23, knM_at _ _ _ h36x, show xh36.s (32 * a + b) = true by simpa using c67, show dsX xh36.X d c = true by simpa using c100]; rfl), G95⟩
  · refine wp_cond_false ((n31.at_).trans (congrArg Value.bool (decide_eq_false c33))) ?_
    refine wp_exit ?_
    refine th_x ?_
    refine th_x ?_
    refine ib_x ?_
    refine th_n (hK17 _ _ ?_)
    refine wp_seq_k (fun K111 hK111 => ?_)
    refine wp_region_lit ?_
    refine sv n31.ok rfl (wn _ rfl) rfl (o_as ev_const) (fun an112 n112 => ?_)
    refine wpList_nil ?_
    refine th_n (hK111 _ _ ?_)
    refine wp_ret ?_
    exact ret1 n112.ok rfl (n112.at_) ⟨congrArg (fun n => Ending.returned (Value.bool n)) (by rw [hgI23, List.drop_eq_nil_of_le (by omega)]; rfl), GI23⟩
end Go.Proofs.Ythcehgmpajejeaa

/- the document's parts: how one is put together; the one set of words that All answers. By hand. -/
set_option linter.unusedVariables false
set_option linter.unusedSimpArgs false
namespace Rm
open Go Go.RowKit Gx
/-- a number of given bits -/
def bitsN (f : Nat → Bool) : Nat → Nat
  | 0 => 0
  | k + 1 => bitsN f k ||| (if f k then 2 ^ k else 0)
theorem bitsN_at (f : Nat → Bool) : ∀ n k, (bitsN f n).testBit k = (decide (k < n) && f k) := by
  intro n
  induction n with
  | zero => intro k; simp [bitsN]
  | succ n ih =>
    intro k
    unfold bitsN
    rw [Nat.testBit_or, ih]
    by_cases hk : k = n
    · subst hk
      cases h : f k <;> simp [h]
    · have h1 : decide (k < n + 1) = decide (k < n) := by rw [decide_eq_decide]; omega
      rw [h1]
      cases h : f n
      · simp
      · have h2 : (2 ^ n).testBit k = false := by rw [Nat.testBit_two_pow]; simp; omega
        simp [h2]
theorem bitsN_lt (f : Nat → Bool) (n : Nat) : bitsN f n < 2 ^ n := Nat.lt_pow_two_of_testBit _ fun i hi => by
  rw [bitsN_at]
  simp
  omega
/-- the words of a set of dots -/
def xOf (D : DS) : Nat → Nat := fun i => bitsN (fun k => D (i / 16) (64 * (i % 16) + k)) 64
theorem xOf_ok (D : DS) : OkX (xOf D) := fun i => bitsN_lt _ 64
theorem xOf_ds (D : DS) (s c : Nat) (hc : c < 1024) : dsX (xOf D) s c = D s c := by
  unfold dsX xOf
  rw [bitsN_at, show (s * 16 + c / 64) / 16 = s by omega, show 64 * ((s * 16 + c / 64) % 16) + c % 64 = c by omega, decide_eq_true (show c % 64 < 64 by omega)]
  rfl
theorem xOf_eq {X : Nat → Nat} {D : DS} (hX : OkX X) (h : ∀ s q, s < 5 → q < 1024 → dsX X s q = D s q) : wArr X = wArr (xOf D) := wArr_ext fun i hi => Nat.eq_of_testBit_eq fun k => by
  unfold xOf
  rw [bitsN_at]
  by_cases hk : k < 64
  · have h1 := h (i / 16) (64 * (i % 16) + k) (by omega) (by omega)
    unfold dsX at h1
    rw [show i / 16 * 16 + (64 * (i % 16) + k) / 64 = i by omega, show (64 * (i % 16) + k) % 64 = k by omega] at h1
    rw [h1, decide_eq_true hk]
    rfl
  · rw [decide_eq_false hk]
    exact Nat.testBit_lt_two_pow (Nat.lt_of_lt_of_le (hX i) (Nat.pow_le_pow_right (by omega) (by omega)))
/-- what the document holds of a part -/
def PtX.d (x : PtX) : PtM := ⟨ptF x.T, xOf (memB (formV x.D) (formM x.D))⟩
theorem PtX.d_ok (x : PtX) : OkX x.d.X := xOf_ok _
end Rm
namespace Go.Proofs.Ythcehgmpajejeaa
open Go.RowKit Rm Gx
theorem rall_can (k : Value) (D : DS) (w : World) (hk : KnD w k D) (hl : (formM D).length ≤ 60) : Calls Try.prog 32 #[k] w fun e w' => e = .returned (.agg (wArr (xOf (memB (formV D) (formM D))))) ∧ Gr w w' := by
  refine (rall_any k (formV D) (formM D) w hk (form_ok D) hl).mono ?_
  rintro e w' ⟨X, rfl, hX, hD, g⟩
  rw [xOf_eq hX hD]
  exact ⟨rfl, g⟩
theorem put_list : ∀ (l : List Value) (k : Nat) (cs : Array Value), k + l.length ≤ cs.size → (l.zipIdx k).foldl (fun (cs : Array Value) (x : Value × Nat) => cs.setIfInBounds (0 + x.2) x.1) cs = (cs.toList.take k ++ (l ++ cs.toList.drop (k + l.length))).toArray := by
  intro l
  induction l with
  | nil =>
    intro k cs h
    simp
  | cons a l ih =>
    intro k cs h
    rw [List.length_cons] at h
    rw [List.zipIdx_cons, List.foldl_cons, ih (k + 1) _ (by simp; omega)]
    congr 1
    have hk : k < cs.toList.length := by simp; omega
    simp only [Nat.zero_add, Array.toList_setIfInBounds]
    rw [List.take_add_one, List.take_set, List.drop_set, if_pos (by omega), List.set_eq_of_length_le (by rw [List.length_take]; omega), List.getElem?_set, if_pos rfl, if_pos hk, List.length_cons, show k + (l.length + 1) = k + 1 + l.length by omega]
    simp
/-- one element fills a row of its own size -/
theorem fill_one {n : Nat} {v : Value} {base cs : Array Value} (hv : v.cells = cs) (hn : cs.size = n) (hb : base.size = n) : Instr.fill (fun i => some (i * n, n)) base [(0, v)] = some cs := by
  unfold Instr.fill
  simp only [hv, Nat.zero_mul]
  rw [if_neg (by simp [hn, hb])]
  unfold Instr.fill
  congr 1
  rw [← Array.foldl_toList, Array.toList_zipIdx]
  have h := put_list cs.toList 0 base (by simp [hn, hb])
  rw [h]
  rw [List.drop_eq_nil_of_le (by simp [hn, hb])]
  simp
theorem builtM (s : Nat → Bool) (X : Nat → Nat) : Try.prog.built 68 [(0, .agg (pArr s)), (1, .agg (wArr X))] = some (encDoc ⟨s, X⟩).toArray := by kernel_rfl
end Go.Proofs.Ythcehgmpajejeaa

/- reedref.Mean. -/
set_option linter.unusedVariables false
set_option linter.unusedSimpArgs false
namespace Go.Proofs.Ythcehgmpajejeaa
open Go.RowKit Rm Gx
theorem o_bsM {ev : Operand → Value} {w : World} {d : Option Nat} {ty : TypeId} {p : String} {af : Array Edge} {g : Option (Nat × Bool)} {x : Operand} {y : PtM} (hx : ev x = .agg (encDoc y).toArray) : (execOp ev (Oper.mk d (.buildSlice 42 1 #[(0, x)]) ty p af g)).run Try.prog w = .ok (.value (.slice (some ⟨w.heap.size, 0, none⟩) 1 1)) (w.alloc (.cells (encDoc y).toArray 68)) := by
  have h1 := partM_zero
  have h2 := partM_size
  cases hq : Try.prog.info? 68 with
  | none => rw [hq] at h2; cases h2
  | some ie =>
    rw [hq] at h1 h2
    have h1' : ie.zero = some (.agg (encDoc m0).toArray) := h1
    have h2' : ie.size = 592 := by simpa using h2
    exact o_bs (vs := [(0, .agg (encDoc y).toArray)]) (by simp [hx]) Try.underlying42 hq h1' (by rw [h2']; rfl) (by rw [h2']; rfl) (by rw [h2']; exact fill_one rfl (encDoc_sz y) (by simp))
theorem take_d {L : List PtX} {i : Nat} {x : PtX} (h : L[i]? = some x) : (L.take i).map PtX.d ++ [x.d] = (L.take (i + 1)).map PtX.d := by
  rw [List.take_add_one, h, List.map_append]
  rfl
set_option maxHeartbeats 8000000 in
set_option maxRecDepth 100000 in
theorem rmean_any (L : List PtX) (va : Option Addr) (vc : Nat) (hl : L.length ≤ 1000) (w : World) (hv : RdA encP 3 w va L) (hm : MeansP w L) :
    Calls Try.prog 11 #[.slice va L.length vc] w fun e w' => ∃ v : Value, e = .returned v ∧ w'.ownsRow w.heap.size 68 592 v L.length (flatE encDoc (L.map PtX.d)) ∧ Gr w w' := by
  refine enter (N := 24) Try.func11 rfl rfl rfl (fun a0 ok0 h0 => ?_)
  have e0_0 : a0.eval (.tmp 0) = .slice va L.length vc := h0 0 _ rfl
  clear h0
  have G0 := Gr.refl w
  obtain ⟨base, z1⟩ : ∃ n, n = w.heap.size := ⟨_, rfl⟩
  have l2 : w.heap.size ≤ base := by rw [z1]; exact G0.size
  have z3 : base ≤ w.heap.size := Nat.le_of_eq z1
  have O4 := World.ownsRow_nil w base 68 592
  refine wp_seq_k (fun K5 hK5 => ?_)
  refine wp_region_lit ?_
  refine sv ok0 rfl (wn _ rfl) rfl (o_as ev_const) (fun an6 n6 => ?_)
  refine wpList_nil ?_
  refine th_n (hK5 _ _ ?_)
  refine wp_seq_k (fun K7 hK7 => ?_)
  refine wp_region_lit ?_
  refine sv n6.ok rfl (wn _ rfl) rfl (o_as ev_const) (fun an8 n8 => ?_)
  refine wpList_nil ?_
  refine th_n (hK7 _ _ ?_)
  refine wp_seq_k (fun K9 hK9 => ?_)
  refine wp_seq_k (fun K10 hK10 => ?_)
  refine wp_region_lit ?_
  refine sv n8.ok rfl (wn _ rfl) rfl (o_mv (n8.ne rfl (n6.ne rfl e0_0))) (fun an11 n11 => ?_)
  refine sv n11.ok rfl (wn _ rfl) rfl (o_len n11.at_ Try.underlying22) (fun an12 n12 => ?_)
  refine sv n12.ok rfl (wn _ rfl) rfl (o_mv ev_const) (fun an13 n13 => ?_)
  refine wpList_nil ?_
  refine th_n (hK10 _ _ ?_)
  refine wp_block ?_
  have e15 := n13.ne rfl (n12.ne rfl (n11.ne rfl (n8.ne rfl n6.at_)))
  have e16 := n13.ne rfl (n12.ne rfl (n11.ne rfl n8.at_))
  refine lp (fun (nL : Nat) (aL : Act) (wL : World) => ∃ i : Nat, ∃ ra : Option Addr, ∃ rc : Nat, nL = L.length - i ∧ Ok 24 aL ∧ Gr w wL ∧ (aL.eval (.tmp 2) = .slice none 0 0) ∧ (aL.eval (.tmp 3) = .slice ra i rc) ∧ (aL.eval (.tmp 6) = .slice va L.length vc) ∧ (aL.eval (.tmp 7) = .int .i64 ((L.length : Nat) : Int)) ∧ (aL.eval (.tmp 8) = .int .i64 (i : Int)) ∧ (World.ownsRow wL base 68 592 (.slice ra i rc) (i) ((flatE encDoc ((L.take i).map PtX.d)))) ∧ (base ≤ wL.heap.size) ∧ (i ≤ L.length)) _ ⟨0, none, 0, rfl, n13.ok, G0, e15, e16, (n13.ne rfl (n12.ne rfl n11.at_)), (n13.ne rfl n12.at_), n13.at_, O4, z3, by omega⟩ ?_
  rintro m17 aI14 w19 ⟨i, ra, rc, hmI14, okI14, GI14, s2I14, s3I14, s6I14, s7I14, s8I14, orI14, zbaseI14, hiI14⟩ KI14 hKI14
  refine wp_seq_k (fun K20 hK20 => ?_)
  refine wp_region_lit ?_
  refine sv okI14 rfl (wn _ rfl) rfl (o_ltI s8I14 s7I14) (fun an21 n21 => ?_)
  refine wpList_nil ?_
  refine th_n (hK20 _ _ ?_)
  refine wp_seq_k (fun K22 hK22 => ?_)
  by_cases c23 : (i : Int) < ((L.length : Nat) : Int)
  · refine wp_cond_true ((n21.at_).trans (congrArg Value.bool (decide_eq_true c23))) ?_
    refine wp_skip ?_
    refine th_n (hK22 _ _ ?_)
    refine wp_seq_k (fun K24 hK24 => ?_)
    refine wp_block ?_
    refine wp_seq_k (fun K25 hK25 => ?_)
    refine wp_region_lit ?_
    have h26l : i < List.length L := by omega
    obtain ⟨bh26, fh26, h26a, h26b, h26c⟩ := hv (ne_nil_of_lt h26l)
    obtain ⟨xh26, h26x⟩ : ∃ x, (L)[i]? = some x := ⟨_, List.getElem?_eq_getElem h26l⟩
    refine sv n21.ok rfl (wn _ rfl) rfl (o_iaV (i := i) (s := 3) h26a (n21.ne rfl s6I14) (n21.ne rfl s8I14) Try.underlying22 (by kernel_rfl) h26l) (fun an27 n27 => ?_)
    refine sv n27.ok rfl (wn _ rfl) rfl (o_ldA (k := fh26 + i * 3) n27.at_ (cs := [.slice xh26.fa xh26.fn xh26.fc, .slice xh26.va xh26.vn xh26.vc, .slice xh26.ma xh26.mn xh26.mc]) (fun j v hv => (Below.cell GI14 h26b).trans (h26c _ _ h26x j v hv)) Try.underlying38 rfl (by kernel_rfl)) (fun an28 n28 => ?_)
    refine sal (cs := #[.slice none 0 0, .slice none 0 0, .slice none 0 0]) n28.ok rfl (wn _ rfl) rfl (o_al (z := .agg #[.slice none 0 0, .slice none 0 0, .slice none 0 0]) (by kernel_rfl)) (fun an29 w31 b30 W32 n29 => ?_)
    have l33 : w.heap.size ≤ b30 := by rw [W32.eq]; exact GI14.size
    have l34 : ∀ k, Value.ownBlock (.slice ra i rc) = some k → k < b30 := fun k e => by rw [W32.eq]; exact ow_in orI14 k e
    have G35 := GI14.trans W32.gr
    have z36 := Nat.le_trans zbaseI14 W32.gr.size
    have O37 := ow_gr orI14 W32.gr
    refine ssR rfl (wn _ rfl) (o_stR n29.at_ (n29.ne rfl n28.at_) W32.bk (by kernel_rfl) rfl (by simp [Value.oneCell'])) W32.bk (fun w38 u39 u39b => ?_)
    have G40 : Gr w w38 := Below.upd G35 l33 u39
    have z41 : base ≤ w38.heap.size := by rw [u39.size]; exact z36
    have O42 := ow_upd_ne O37 u39 l34
    refine wpList_nil ?_
    refine th_n (hK25 _ _ ?_)
    refine reg_start (N := 24) (m := 9) (by kernel_rfl) (fun R430 => ?_)
    have e44 := n29.ne rfl (n28.ne rfl (n27.ne rfl (n21.ne rfl s3I14)))
    have R431 := R430.snoc (n' := 1) rfl (fun vJ _ => vJ = .slice ra i rc) rfl (fun _ _ _ _ h => h) (fun aS wS pS => by
        exact Does.val (wn _ rfl) (o_mv ((pS.old 3 rfl).trans e44)) (Gr.refl _) rfl rfl)
    have R432 := R431.snoc (n' := 2) rfl (fun vJ _ => vJ = .pointer (some ⟨b30, 0, none⟩)) rfl (fun _ _ _ _ h => h) (fun aS wS pS => by
        exact Does.val (wn _ rfl) (o_fa (z := 1) ((pS.old 5 rfl).trans n29.at_) Try.underlying38 rfl (by kernel_rfl) rfl rfl) (Gr.refl _) rfl rfl)
    have R433 := R432.snoc (n' := 3) rfl (fun vJ _ => vJ = .slice xh26.fa xh26.fn xh26.fc) rfl (fun _ _ _ _ h => h) (fun aS wS pS => by
        have eR43_1 : aS.eval (.tmp 13) = .pointer (some ⟨b30, 0, none⟩) := pS.pre 1 rfl
        exact Does.val (wn _ rfl) (o_ld (eR43_1) (Try.isAgg36 _) ((Bk.gr u39b (gr_drew pS.gr)).cell _ rfl)) (Gr.refl _) rfl rfl)
    have R434 := R433.snoc (n' := 4) rfl (fun vJ _ => vJ = .agg (pArr (ptF xh26.T))) rfl (fun _ _ _ _ h => h) (fun aS wS pS => by
        have eR43_2 : aS.eval (.tmp 14) = .slice xh26.fa xh26.fn xh26.fc := pS.pre 2 rfl
        exact Does.call (wn _ rfl) (o_f1 Try.func31 rfl rfl rfl (eR43_2)) (of_fs (T := xh26.T) (by decide) ((hm _ (List.mem_of_getElem? h26x)).gr (G40.trans (gr_drew pS.gr))).fs) (by rintro _ w2 ⟨rfl, g⟩; exact ⟨_, rfl, g, rfl⟩) rfl)
    have R435 := R434.snoc (n' := 5) rfl (fun vJ _ => vJ = .pointer (some ⟨b30, 1, none⟩)) rfl (fun _ _ _ _ h => h) (fun aS wS pS => by
        exact Does.val (wn _ rfl) (o_fa (z := 2) ((pS.old 5 rfl).trans n29.at_) Try.underlying38 rfl (by kernel_rfl) rfl rfl) (Gr.refl _) rfl rfl)
    have R436 := R435.snoc (n' := 6) rfl (fun vJ _ => vJ = .agg #[.slice xh26.va xh26.vn xh26.vc, .slice xh26.ma xh26.mn xh26.mc]) rfl (fun _ _ _ _ h => h) (fun aS wS pS => by
        have eR43_4 : aS.eval (.tmp 16) = .pointer (some ⟨b30, 1, none⟩) := pS.pre 4 rfl
        exact Does.val (wn _ rfl) (o_ldA (k := 1) (cs := [.slice xh26.va xh26.vn xh26.vc, .slice xh26.ma xh26.mn xh26.mc]) (eR43_4) (bk_part (Bk.gr u39b (gr_drew pS.gr)) rfl) Try.underlying35 rfl (by kernel_rfl)) (Gr.refl _) rfl rfl)
    have R437 := R436.snoc (n' := 7) rfl (fun vJ _ => vJ = .agg (wArr (xOf (memB (formV xh26.D) (formM xh26.D))))) rfl (fun _ _ _ _ h => h) (fun aS wS pS => by
        have eR43_5 : aS.eval (.tmp 17) = .agg #[.slice xh26.va xh26.vn xh26.vc, .slice xh26.ma xh26.mn xh26.mc] := pS.pre 5 rfl
        exact Does.call (wn _ rfl) (o_f1 Try.func32 rfl rfl rfl (eR43_5)) (rall_can _ xh26.D wS ((hm _ (List.mem_of_getElem? h26x)).gr (G40.trans (gr_drew pS.gr))).kn (hm _ (List.mem_of_getElem? h26x)).few) (by rintro _ w2 ⟨rfl, g⟩; exact ⟨_, rfl, g, rfl⟩) rfl)
    have R438 := R437.snoc (n' := 8) rfl (fun vJ _ => vJ = .agg ((encDoc xh26.d).toArray)) rfl (fun _ _ _ _ h => h) (fun aS wS pS => by
        have eR43_3 : aS.eval (.tmp 15) = .agg (pArr (ptF xh26.T)) := pS.pre 3 rfl
        have eR43_6 : aS.eval (.tmp 18) = .agg (wArr (xOf (memB (formV xh26.D) (formM xh26.D)))) := pS.pre 6 rfl
        exact Does.val (wn _ rfl) (o_bd (cells := (encDoc xh26.d).toArray) (vs := [(0, .agg (pArr (ptF xh26.T))), (1, .agg (wArr (xOf (memB (formV xh26.D) (formM xh26.D)))))]) (by simp [(eR43_3), (eR43_6)]) (builtM _ _)) (Gr.refl _) rfl rfl)
    have R439 := R438.snoc (n' := 9) rfl (fun vJ wJ => ∃ b45 : Nat, vJ = .slice (some ⟨b45, 0, none⟩) 1 1 ∧ w38.heap.size ≤ b45 ∧ Bk wJ b45 ((encDoc xh26.d).toArray) 68) rfl (fun _ _ _ g ⟨b, h1, h2, h3⟩ => ⟨b, h1, h2, h3.gr g⟩) (fun aS wS pS => by
        have eR43_7 : aS.eval (.tmp 19) = .agg ((encDoc xh26.d).toArray) := pS.pre 7 rfl
        exact Does.val (wn _ rfl) (o_bsM (eR43_7)) ((Gr.refl _).alloc _) ⟨_, rfl, pS.gr.size, (New.mk' _ _ _).bk⟩ rfl)
    refine R439.run (k := 2) (L := #[true, true, true, true, true, true, true, true, true, false, false]) (by kernel_rfl) (by kernel_rfl) (by kernel_rfl) n29.ok (by kernel_rfl) (by kernel_rfl) (fun ap47 w48 p47 => ?_)
    have g49 := gr_drew p47.gr
    have G50 := G40.trans g49
    have B51 := u39b.gr g49
    have z52 := Nat.le_trans z41 g49.size
    have O53 := ow_gr O42 g49
    obtain ⟨b45, ep47_8, geb45, bkb45⟩ := p47.js 8 rfl
    have ep47_8 : ap47.eval (.tmp 20) = .slice (some ⟨b45, 0, none⟩) 1 1 := ep47_8
    have l54 : b30 < b45 := Nat.lt_of_lt_of_le u39b.lt geb45
    have l55 : w.heap.size ≤ b45 := Nat.le_trans G40.size geb45
    have l56 : ∀ k, Value.ownBlock (.slice ra i rc) = some k → k < b45 := fun k e => Nat.lt_of_lt_of_le (ow_in O42 k e) geb45
    have ep47_0 : ap47.eval (.tmp 12) = .slice ra i rc := p47.js 0 rfl
    obtain ⟨i57, i57a, i57b, i57c, i57d⟩ := info_of (show (Try.prog.info? 68).map (fun i => (i.zero, i.size, i.bytes)) = some (some (.agg (encDoc m0).toArray), 592, 1152) by kernel_rfl)
    refine t_app (i := 9) (base := base) (n := i) (xs := (flatE encDoc ((L.take i).map PtX.d))) (m := 1) (news := encDoc xh26.d) (by kernel_rfl) rfl p47.ok (wn _ rfl) rfl Try.underlying42 i57a i57b i57c i57d rfl (by omega) ep47_0 O53 ep47_8 rfl ((fun j u hu => by rw [add_n, Nat.zero_add]; exact bkb45.cell _ (by rw [List.getElem?_toArray]; exact hu))) (encDoc_ok.one xh26.d) (by simp only [maxLen]; omega) (by omega) z52 (fun an58 w59 v60 O63 gg64 n58 => ?_)
    obtain ⟨a61, c62, rfl, c62l⟩ := ow_form O63
    have G65 := Gr.grown G50 gg64 (fun k e => Nat.le_trans l2 (ow_lt O53 k e))
    have B66 := B51.grown_ne gg64 l34
    have B67 := bkb45.grown_ne gg64 l56
    have z68 := Nat.le_trans z52 gg64.size
    have O69 : w59.ownsRow base 68 592 (.slice a61 ((i + 1)) c62) ((i + 1)) ((flatE encDoc ((L.take (i + 1)).map PtX.d))) := by have h := O63; rw [← flatE_one (enc := encDoc) xh26.d, ← flatE_app, take_d h26x] at h; exact h
    refine t_val (i := 10) (by kernel_rfl) rfl n58.ok rfl (wn _ rfl) rfl (o_as n58.at_) (fun an70 n70 => ?_)
    refine wpAny_done (by kernel_rfl) ?_ _
    refine ib_n ?_
    refine th_n (hK24 _ _ ?_)
    refine wp_region_lit ?_
    have e71 := n70.ne rfl (n58.ne rfl ((p47.old 8 rfl).trans (n29.ne rfl (n28.ne rfl (n27.ne rfl (n21.ne rfl s8I14))))))
    refine sv n70.ok rfl (wn _ rfl) rfl (o_add (r := ((i + 1 : Nat) : Int)) e71 ev_const (by omega) (by omega)) (fun an72 n72 => ?_)
    refine sv n72.ok rfl (wn _ rfl) rfl (o_mv n72.at_) (fun an73 n73 => ?_)
    refine wpList_nil ?_
    have e74 := n73.ne rfl (n72.ne rfl (n70.ne rfl (n58.ne rfl ((p47.old 2 rfl).trans (n29.ne rfl (n28.ne rfl (n27.ne rfl (n21.ne rfl s2I14))))))))
    have e75 := n73.ne rfl (n72.ne rfl (n70.ne rfl (n58.ne rfl ((p47.old 6 rfl).trans (n29.ne rfl (n28.ne rfl (n27.ne rfl (n21.ne rfl s6I14))))))))
    have e76 := n73.ne rfl (n72.ne rfl (n70.ne rfl (n58.ne rfl ((p47.old 7 rfl).trans (n29.ne rfl (n28.ne rfl (n27.ne rfl (n21.ne rfl s7I14))))))))
    exact th_n (hKI14 _ _ _ (by omega) ⟨i + 1, a61, c62, rfl, n73.ok, G65, e74, (n73.ne rfl (n72.ne rfl n70.at_)), e75, e76, n73.at_, O69, z68, by omega⟩)
  · refine wp_cond_false ((n21.at_).trans (congrArg Value.bool (decide_eq_false c23))) ?_
    refine wp_exit ?_
    refine th_x ?_
    refine th_x ?_
    refine ib_x ?_
    refine th_n (hK9 _ _ ?_)
    refine wp_seq_k (fun K77 hK77 => ?_)
    refine wp_region_lit ?_
    refine sv n21.ok rfl (wn _ rfl) rfl (o_mv (n21.ne rfl s3I14)) (fun an78 n78 => ?_)
    refine sv n78.ok rfl (wn _ rfl) rfl (o_as n78.at_) (fun an79 n79 => ?_)
    refine wpList_nil ?_
    refine th_n (hK77 _ _ ?_)
    refine wp_ret ?_
    exact ret1 n79.ok rfl (n79.at_) ⟨_, rfl, by have h := orI14; rw [List.take_of_length_le (by omega)] at h; rw [← z1]; have e : i = L.length := (by omega); subst e; exact h, GI14⟩
end Go.Proofs.Ythcehgmpajejeaa

/- reedref.PartsWithin. -/
set_option linter.unusedVariables false
set_option linter.unusedSimpArgs false
namespace Rm
open Go Go.RowKit Gx
/-- what the parts that hold a point hold -/
def jn (K : List PtM) (p : Nat) : Nat → Nat := K.foldl (fun Y x => if x.s p = true then (fun q => Y q ||| x.X q) else Y) (fun _ => 0)
theorem jn_at {K : List PtM} {i : Nat} {x : PtM} (p : Nat) (h : K[i]? = some x) : jn (K.take (i + 1)) p = if x.s p = true then (fun q => jn (K.take i) p q ||| x.X q) else jn (K.take i) p := by
  unfold jn
  rw [List.take_add_one, h, List.foldl_append]
  rfl
theorem jn_foldl_ok (p : Nat) : ∀ (K : List PtM) (Y : Nat → Nat), OkX Y → (∀ x ∈ K, OkX x.X) → OkX (K.foldl (fun Y x => if x.s p = true then (fun q => Y q ||| x.X q) else Y) Y) := by
  intro K
  induction K with
  | nil => intro Y h _; exact h
  | cons a K ih =>
    intro Y h hK
    rw [List.foldl_cons]
    refine ih _ ?_ (fun x hx => hK x (List.mem_cons_of_mem _ hx))
    by_cases h1 : a.s p = true
    · rw [if_pos h1]; exact fun q => Nat.or_lt_two_pow (h q) (hK a (List.mem_cons_self ..) q)
    · rw [if_neg h1]; exact h
theorem jn_ok {K : List PtM} (h : ∀ x ∈ K, OkX x.X) (p : Nat) : OkX (jn K p) := jn_foldl_ok p K _ (fun _ => by decide) h
theorem jn_okT {K : List PtM} (h : ∀ x ∈ K, OkX x.X) (p i : Nat) : OkX (jn (K.take i) p) := jn_ok (fun x hx => h x (List.mem_of_mem_take hx)) p
def pwAt (K L : List PtM) (p : Nat) : Bool := eqX (fun q => jn K p q &&& jn L p q) (jn K p)
def pwB (K L : List PtM) : Bool := (List.range 512).all (pwAt K L)
theorem pwB_true {K L : List PtM} (h : ∀ p, p < 512 → pwAt K L p = true) : pwB K L = true := by
  unfold pwB
  rw [List.all_eq_true]
  exact fun p hp => h p (List.mem_range.1 hp)
theorem pwB_false {K L : List PtM} {p : Nat} (hp : p < 512) (h : pwAt K L p = false) : pwB K L = false := by
  cases q : pwB K L
  · rfl
  · unfold pwB at q
    rw [List.all_eq_true] at q
    rw [q p (List.mem_range.2 hp)] at h
    cases h
end Rm
namespace Go.Proofs.Ythcehgmpajejeaa
open Go.RowKit Rm Gx
section
variable {ev : Operand → Value} {d : Option Tmp} {ty : TypeId} {p : String} {af : Array Edge} {g : Option (Nat × Bool)} {w : World}
theorem o_neqDots {t' : TypeId} {x y : Operand} {X Y : Nat → Nat} {b : Bool} (hx : ev x = .agg (wArr X)) (hy : ev y = .agg (wArr Y)) (hb : (!eqX X Y) = b) : (execOp ev (Oper.mk d (.binOp .neq 66 x y t') ty p af g)).run Try.prog w = .ok (.value (.bool b)) w := by
  subst hb
  have h1 : (eqGuard .neq 66 x y (.agg (wArr X)) (.agg (wArr Y))).run Try.prog w = .ok () w := run_eqGuard_agg w .neq _ x y _ _ (by kernel_rfl)
  have h2 := eq_dots X Y w
  unfold execOp
  simp only [hx, hy, Sem.run_bind, h1, Result.andThen_ok, binOp, h2]
  rfl
theorem o_ldMb {x : Operand} {b k : Nat} {y : PtM} {t' : TypeId} (hk : k < 512) (hx : ev x = .pointer (some ⟨b, k, none⟩)) (hb : Bk w b (encDoc y).toArray t') : (execOp ev (Oper.mk d (.load 4 x) ty p af g)).run Try.prog w = .ok (.value (.bool (y.s k))) w :=
  o_ld hx (Try.isAgg4 _) (hb.cell _ (encDoc_lo y k _ (by rw [Array.getElem?_toList]; exact pArr_at y.s k hk)))
end
set_option maxHeartbeats 8000000 in
set_option maxRecDepth 100000 in
theorem rpw_any (K L : List PtM) (va vb : Option Addr) (vc vd : Nat) (w : World) (hl1 : K.length ≤ 1000) (hl2 : L.length ≤ 1000) (hv1 : RdA encDoc 592 w va K) (hv2 : RdA encDoc 592 w vb L) (hX1 : ∀ x ∈ K, OkX x.X) (hX2 : ∀ x ∈ L, OkX x.X) :
    Calls Try.prog 12 #[.slice va K.length vc, .slice vb L.length vd] w fun e w' => e = .returned (.bool (pwB K L)) ∧ Gr w w' := by
  refine enter (N := 51) Try.func12 rfl rfl rfl (fun a0 ok0 h0 => ?_)
  have e0_0 : a0.eval (.tmp 0) = .slice va K.length vc := h0 0 _ rfl
  have e0_1 : a0.eval (.tmp 1) = .slice vb L.length vd := h0 1 _ rfl
  clear h0
  have G0 := Gr.refl w
  refine wp_seq_k (fun K1 hK1 => ?_)
  refine wp_region_lit ?_
  refine sv ok0 rfl (wn _ rfl) rfl (o_as ev_const) (fun an2 n2 => ?_)
  refine wpList_nil ?_
  refine th_n (hK1 _ _ ?_)
  refine wp_seq_k (fun K3 hK3 => ?_)
  refine wp_seq_k (fun K4 hK4 => ?_)
  refine wp_region_lit ?_
  refine sv n2.ok rfl (wn _ rfl) rfl (o_mv ev_const) (fun an5 n5 => ?_)
  refine wpList_nil ?_
  refine th_n (hK4 _ _ ?_)
  refine wp_block ?_
  refine lp (fun (nL : Nat) (aL : Act) (wL : World) => ∃ i : Nat, nL = 512 - i ∧ Ok 51 aL ∧ Gr w wL ∧ (aL.eval (.tmp 0) = .slice va K.length vc) ∧ (aL.eval (.tmp 1) = .slice vb L.length vd) ∧ (aL.eval (.tmp 4) = .bool false) ∧ (aL.eval (.tmp 12) = .int .i64 (i : Int)) ∧ (i ≤ 512) ∧ (∀ p, p < i → pwAt K L p = true)) _ ⟨0, rfl, n5.ok, G0, (n5.ne rfl (n2.ne rfl e0_0)), (n5.ne rfl (n2.ne rfl e0_1)), (n5.ne rfl n2.at_), n5.at_, by omega, fun p hp => by omega⟩ ?_
  rintro m7 aI6 w9 ⟨i, hmI6, okI6, GI6, s0I6, s1I6, s4I6, s12I6, hiI6, hgI6⟩ KI6 hKI6
  refine wp_seq_k (fun K10 hK10 => ?_)
  refine wp_region_lit ?_
  refine sv okI6 rfl (wn _ rfl) rfl (o_ltI s12I6 ev_const) (fun an11 n11 => ?_)
  refine wpList_nil ?_
  refine th_n (hK10 _ _ ?_)
  refine wp_seq_k (fun K12 hK12 => ?_)
  by_cases c13 : (i : Int) < 512
  · refine wp_cond_true ((n11.at_).trans (congrArg Value.bool (decide_eq_true c13))) ?_
    refine wp_skip ?_
    refine th_n (hK12 _ _ ?_)
    refine wp_seq_k (fun K14 hK14 => ?_)
    refine wp_block ?_
    refine wp_seq_k (fun K15 hK15 => ?_)
    refine wp_region_lit ?_
    refine sv n11.ok rfl (wn _ rfl) rfl (o_mv (n11.ne rfl s12I6)) (fun an16 n16 => ?_)
    refine sv n16.ok rfl (wn _ rfl) rfl (o_as n16.at_) (fun an17 n17 => ?_)
    refine wpList_nil ?_
    refine th_n (hK15 _ _ ?_)
    refine wp_seq_k (fun K18 hK18 => ?_)
    refine wp_region_lit ?_
    refine sal (cs := wArr (fun _ => 0)) n17.ok rfl (wn _ rfl) rfl (o_al (z := .agg (wArr (fun _ => 0))) dots_zero) (fun an19 w21 b20 W22 n19 => ?_)
    have l23 : w.heap.size ≤ b20 := by rw [W22.eq]; exact GI6.size
    have G24 := GI6.trans W22.gr
    refine sal (cs := wArr (fun _ => 0)) n19.ok rfl (wn _ rfl) rfl (o_al (z := .agg (wArr (fun _ => 0))) dots_zero) (fun an25 w27 b26 W28 n25 => ?_)
    have l29 : b20 < b26 := by rw [W28.eq]; exact W22.bk.lt
    have l30 : w.heap.size ≤ b26 := by rw [W28.eq]; exact G24.size
    have G31 := G24.trans W28.gr
    have B32 := W22.bk.gr W28.gr
    refine wpList_nil ?_
    refine th_n (hK18 _ _ ?_)
    refine wp_seq_k (fun K33 hK33 => ?_)
    refine wp_seq_k (fun K34 hK34 => ?_)
    refine wp_region_lit ?_
    have e35 := n25.ne rfl (n19.ne rfl (n17.ne rfl (n16.ne rfl (n11.ne rfl s0I6))))
    refine sv n25.ok rfl (wn _ rfl) rfl (o_mv e35) (fun an36 n36 => ?_)
    refine sv n36.ok rfl (wn _ rfl) rfl (o_len n36.at_ Try.underlying42) (fun an37 n37 => ?_)
    refine sv n37.ok rfl (wn _ rfl) rfl (o_mv ev_const) (fun an38 n38 => ?_)
    refine wpList_nil ?_
    refine th_n (hK34 _ _ ?_)
    refine wp_block ?_
    have e40 := n38.ne rfl (n37.ne rfl (n36.ne rfl e35))
    have e41 := n38.ne rfl (n37.ne rfl (n36.ne rfl (n25.ne rfl (n19.ne rfl (n17.ne rfl (n16.ne rfl (n11.ne rfl s1I6)))))))
    have e42 := n38.ne rfl (n37.ne rfl (n36.ne rfl (n25.ne rfl (n19.ne rfl (n17.ne rfl (n16.ne rfl (n11.ne rfl s4I6)))))))
    have e43 := n38.ne rfl (n37.ne rfl (n36.ne rfl (n25.ne rfl (n19.ne rfl n17.at_))))
    have e44 := n38.ne rfl (n37.ne rfl (n36.ne rfl (n25.ne rfl n19.at_)))
    have e45 := n38.ne rfl (n37.ne rfl (n36.ne rfl n25.at_))
    have e46 := n38.ne rfl (n37.ne rfl (n36.ne rfl (n25.ne rfl (n19.ne rfl (n17.ne rfl (n16.ne rfl (n11.ne rfl s12I6)))))))
    refine lp (fun (nL : Nat) (aL : Act) (wL : World) => ∃ j : Nat, nL = K.length - j ∧ Ok 51 aL ∧ Gr w wL ∧ (aL.eval (.tmp 0) = .slice va K.length vc) ∧ (aL.eval (.tmp 1) = .slice vb L.length vd) ∧ (aL.eval (.tmp 4) = .bool false) ∧ (aL.eval (.tmp 5) = .int .i64 (i : Int)) ∧ (aL.eval (.tmp 6) = .pointer (some ⟨b20, 0, none⟩)) ∧ (aL.eval (.tmp 7) = .pointer (some ⟨b26, 0, none⟩)) ∧ (aL.eval (.tmp 12) = .int .i64 (i : Int)) ∧ (aL.eval (.tmp 15) = .slice va K.length vc) ∧ (aL.eval (.tmp 16) = .int .i64 ((K.length : Nat) : Int)) ∧ (aL.eval (.tmp 17) = .int .i64 (j : Int)) ∧ (Bk wL b20 (wArr (jn (K.take j) i)) 66) ∧ (Bk wL b26 (wArr (fun _ => 0)) 66) ∧ (j ≤ K.length)) _ ⟨0, rfl, n38.ok, G31, e40, e41, e42, e43, e44, e45, e46, (n38.ne rfl (n37.ne rfl n36.at_)), (n38.ne rfl n37.at_), n38.at_, B32, W28.bk, by omega⟩ ?_
    rintro m47 aI39 w49 ⟨j, hmI39, okI39, GI39, s0I39, s1I39, s4I39, s5I39, s6I39, s7I39, s12I39, s15I39, s16I39, s17I39, kb20I39, kb26I39, hjI39⟩ KI39 hKI39
    refine wp_seq_k (fun K50 hK50 => ?_)
    refine wp_region_lit ?_
    refine sv okI39 rfl (wn _ rfl) rfl (o_ltI s17I39 s16I39) (fun an51 n51 => ?_)
    refine wpList_nil ?_
    refine th_n (hK50 _ _ ?_)
    refine wp_seq_k (fun K52 hK52 => ?_)
    by_cases c53 : (j : Int) < ((K.length : Nat) : Int)
    · refine wp_cond_true ((n51.at_).trans (congrArg Value.bool (decide_eq_true c53))) ?_
      refine wp_skip ?_
      refine th_n (hK52 _ _ ?_)
      refine wp_seq_k (fun K54 hK54 => ?_)
      refine wp_block ?_
      refine wp_seq_k (fun K55 hK55 => ?_)
      refine wp_region_lit ?_
      have h56l : j < List.length K := by omega
      obtain ⟨bh56, fh56, h56a, h56b, h56c⟩ := hv1 (ne_nil_of_lt h56l)
      obtain ⟨xh56, h56x⟩ : ∃ x, (K)[j]? = some x := ⟨_, List.getElem?_eq_getElem h56l⟩
      refine sv n51.ok rfl (wn _ rfl) rfl (o_iaV (i := j) (s := 592) h56a (n51.ne rfl s15I39) (n51.ne rfl s17I39) Try.underlying42 (by kernel_rfl) h56l) (fun an57 n57 => ?_)
      refine sv n57.ok rfl (wn _ rfl) rfl (o_ldA (k := fh56 + j * 592) n57.at_ (cs := encDoc xh56) (fun j v hv => (Below.cell GI39 h56b).trans (h56c _ _ h56x j v hv)) Try.underlying68 rfl (by kernel_rfl)) (fun an58 n58 => ?_)
      refine sal (cs := (encDoc m0).toArray) n58.ok rfl (wn _ rfl) rfl (o_al (z := .agg ((encDoc m0).toArray)) partM_zero) (fun an59 w61 b60 W62 n59 => ?_)
      have l63 : b20 < b60 := by rw [W62.eq]; exact kb20I39.lt
      have l64 : b26 < b60 := by rw [W62.eq]; exact kb26I39.lt
      have l65 : w.heap.size ≤ b60 := by rw [W62.eq]; exact GI39.size
      have G66 := GI39.trans W62.gr
      have B67 := kb20I39.gr W62.gr
      have B68 := kb26I39.gr W62.gr
      refine ssR rfl (wn _ rfl) (o_stR n59.at_ (n59.ne rfl n58.at_) W62.bk (encDoc_info xh56) (by rw [encDoc_sz, encDoc_sz]) (encDoc_one xh56)) W62.bk (fun w69 u70 u70b => ?_)
      have G71 : Gr w w69 := Below.upd G66 l65 u70
      have B72 := B67.upd u70 (Nat.ne_of_lt l63)
      have B73 := B68.upd u70 (Nat.ne_of_lt l64)
      refine wpList_nil ?_
      refine th_n (hK55 _ _ ?_)
      refine wp_seq_k (fun K74 hK74 => ?_)
      refine wp_region_lit ?_
      have e75 := n59.ne rfl (n58.ne rfl (n57.ne rfl (n51.ne rfl s5I39)))
      refine sv n59.ok rfl (wn _ rfl) rfl (o_mv e75) (fun an76 n76 => ?_)
      refine sv n76.ok rfl (wn _ rfl) rfl (o_fa (z := 512) (n76.ne rfl n59.at_) Try.underlying68 rfl (by kernel_rfl) rfl rfl) (fun an77 n77 => ?_)
      refine sv n77.ok rfl (wn _ rfl) rfl (o_iaA (i := i) (s := 1) n77.at_ (n77.ne rfl n76.at_) Try.underlying62 (by kernel_rfl) (by omega)) (fun an78 n78 => ?_)
      refine sv n78.ok rfl (wn _ rfl) rfl (o_ldMb (k := i) (y := xh56) (by omega) ((n78.at_).trans (by simp)) u70b) (fun an79 n79 => ?_)
      refine wpList_nil ?_
      refine th_n (hK74 _ _ ?_)
      cases c80 : (xh56.s i)
      · refine wp_cond_false ((n79.at_).trans (congrArg Value.bool (c80))) ?_
        refine wp_skip ?_
        refine ib_n ?_
        refine th_n (hK54 _ _ ?_)
        refine wp_region_lit ?_
        have e81 := n79.ne rfl (n78.ne rfl (n77.ne rfl (n76.ne rfl (n59.ne rfl (n58.ne rfl (n57.ne rfl (n51.ne rfl s17I39)))))))
        refine sv n79.ok rfl (wn _ rfl) rfl (o_add (r := ((j + 1 : Nat) : Int)) e81 ev_const (by omega) (by omega)) (fun an82 n82 => ?_)
        refine sv n82.ok rfl (wn _ rfl) rfl (o_mv n82.at_) (fun an83 n83 => ?_)
        refine wpList_nil ?_
        have e84 := n83.ne rfl (n82.ne rfl (n79.ne rfl (n78.ne rfl (n77.ne rfl (n76.ne rfl (n59.ne rfl (n58.ne rfl (n57.ne rfl (n51.ne rfl s0I39)))))))))
        have e85 := n83.ne rfl (n82.ne rfl (n79.ne rfl (n78.ne rfl (n77.ne rfl (n76.ne rfl (n59.ne rfl (n58.ne rfl (n57.ne rfl (n51.ne rfl s1I39)))))))))
        have e86 := n83.ne rfl (n82.ne rfl (n79.ne rfl (n78.ne rfl (n77.ne rfl (n76.ne rfl (n59.ne rfl (n58.ne rfl (n57.ne rfl (n51.ne rfl s4I39)))))))))
        have e87 := n83.ne rfl (n82.ne rfl (n79.ne rfl (n78.ne rfl (n77.ne rfl (n76.ne rfl e75)))))
        have e88 := n83.ne rfl (n82.ne rfl (n79.ne rfl (n78.ne rfl (n77.ne rfl (n76.ne rfl (n59.ne rfl (n58.ne rfl (n57.ne rfl (n51.ne rfl s6I39)))))))))
        have e89 := n83.ne rfl (n82.ne rfl (n79.ne rfl (n78.ne rfl (n77.ne rfl (n76.ne rfl (n59.ne rfl (n58.ne rfl (n57.ne rfl (n51.ne rfl s7I39)))))))))
        have e90 := n83.ne rfl (n82.ne rfl (n79.ne rfl (n78.ne rfl (n77.ne rfl (n76.ne rfl (n59.ne rfl (n58.ne rfl (n57.ne rfl (n51.ne rfl s12I39)))))))))
        have e91 := n83.ne rfl (n82.ne rfl (n79.ne rfl (n78.ne rfl (n77.ne rfl (n76.ne rfl (n59.ne rfl (n58.ne rfl (n57.ne rfl (n51.ne rfl s15I39)))))))))
        have e92 := n83.ne rfl (n82.ne rfl (n79.ne rfl (n78.ne rfl (n77.ne rfl (n76.ne rfl (n59.ne rfl (n58.ne rfl (n57.ne rfl (n51.ne rfl s16I39)))))))))
        exact th_n (hKI39 _ _ _ (by omega) ⟨j + 1, rfl, n83.ok, G71, e84, e85, e86, e87, e88, e89, e90, e91, e92, n83.at_, (by rw [jn_at i h56x, if_neg (by rw [c80]; simp)]; exact B72), B73, by omega⟩)
      · refine wp_cond_true ((n79.at_).trans (congrArg Value.bool (c80))) ?_
        refine wp_region_lit ?_
        have e93 := n79.ne rfl (n78.ne rfl (n77.ne rfl (n76.ne rfl (n59.ne rfl (n58.ne rfl (n57.ne rfl (n51.ne rfl s6I39)))))))
        refine sv n79.ok rfl (wn _ rfl) rfl (o_ldR e93 B72 Try.underlying66 rfl (dots_sz (jn (K.take j) i))) (fun an94 n94 => ?_)
        have e95 := n94.ne rfl (n79.ne rfl (n78.ne rfl (n77.ne rfl (n76.ne rfl n59.at_))))
        refine sv n94.ok rfl (wn _ rfl) rfl (o_fa (z := 80) e95 Try.underlying68 rfl (by kernel_rfl) rfl rfl) (fun an96 n96 => ?_)
        refine sv n96.ok rfl (wn _ rfl) rfl (o_ldM1 (y := xh56) n96.at_ u70b) (fun an97 n97 => ?_)
        refine sc n97.ok rfl (wn _ rfl) rfl (o_f2 Try.func33 rfl rfl rfl (n97.ne rfl (n96.ne rfl n94.at_)) n97.at_) (djoin_any ((jn (K.take j) i)) xh56.X (jn_okT hX1 i _) (hX1 _ (List.mem_of_getElem? h56x)) w69) ?_
        rintro _ w99 ⟨rfl, g100⟩
        refine ⟨_, rfl, fun an98 n98 => ?_⟩
        have G101 := G71.trans g100
        have B102 := B72.gr g100
        have B103 := B73.gr g100
        have B104 := u70b.gr g100
        have e105 := n98.ne rfl (n97.ne rfl (n96.ne rfl (n94.ne rfl e93)))
        refine ssR rfl (wn _ rfl) (o_stR e105 n98.at_ B102 (dots_sz (fun q => ((jn (K.take j) i)) q ||| xh56.X q)) (by rw [wArr_size, wArr_size]) (wArr_one (fun q => ((jn (K.take j) i)) q ||| xh56.X q))) B102 (fun w106 u107 u107b => ?_)
        have G108 : Gr w w106 := Below.upd G101 l23 u107
        have B109 := B103.upd u107 (Nat.ne_of_gt l29)
        have B110 := B104.upd u107 (Nat.ne_of_gt l63)
        refine wpList_nil ?_
        refine ib_n ?_
        refine th_n (hK54 _ _ ?_)
        refine wp_region_lit ?_
        have e111 := n98.ne rfl (n97.ne rfl (n96.ne rfl (n94.ne rfl (n79.ne rfl (n78.ne rfl (n77.ne rfl (n76.ne rfl (n59.ne rfl (n58.ne rfl (n57.ne rfl (n51.ne rfl s17I39)))))))))))
        refine sv n98.ok rfl (wn _ rfl) rfl (o_add (r := ((j + 1 : Nat) : Int)) e111 ev_const (by omega) (by omega)) (fun an112 n112 => ?_)
        refine sv n112.ok rfl (wn _ rfl) rfl (o_mv n112.at_) (fun an113 n113 => ?_)
        refine wpList_nil ?_
        have e114 := n113.ne rfl (n112.ne rfl (n98.ne rfl (n97.ne rfl (n96.ne rfl (n94.ne rfl (n79.ne rfl (n78.ne rfl (n77.ne rfl (n76.ne rfl (n59.ne rfl (n58.ne rfl (n57.ne rfl (n51.ne rfl s0I39)))))))))))))
        have e115 := n113.ne rfl (n112.ne rfl (n98.ne rfl (n97.ne rfl (n96.ne rfl (n94.ne rfl (n79.ne rfl (n78.ne rfl (n77.ne rfl (n76.ne rfl (n59.ne rfl (n58.ne rfl (n57.ne rfl (n51.ne rfl s1I39)))))))))))))
        have e116 := n113.ne rfl (n112.ne rfl (n98.ne rfl (n97.ne rfl (n96.ne rfl (n94.ne rfl (n79.ne rfl (n78.ne rfl (n77.ne rfl (n76.ne rfl (n59.ne rfl (n58.ne rfl (n57.ne rfl (n51.ne rfl s4I39)))))))))))))
        have e117 := n113.ne rfl (n112.ne rfl (n98.ne rfl (n97.ne rfl (n96.ne rfl (n94.ne rfl (n79.ne rfl (n78.ne rfl (n77.ne rfl (n76.ne rfl e75)))))))))
        have e118 := n113.ne rfl (n112.ne rfl (n98.ne rfl (n97.ne rfl (n96.ne rfl (n94.ne rfl (n79.ne rfl (n78.ne rfl (n77.ne rfl (n76.ne rfl (n59.ne rfl (n58.ne rfl (n57.ne rfl (n51.ne rfl s7I39)))))))))))))
        have e119 := n113.ne rfl (n112.ne rfl (n98.ne rfl (n97.ne rfl (n96.ne rfl (n94.ne rfl (n79.ne rfl (n78.ne rfl (n77.ne rfl (n76.ne rfl (n59.ne rfl (n58.ne rfl (n57.ne rfl (n51.ne rfl s12I39)))))))))))))
        have e120 := n113.ne rfl (n112.ne rfl (n98.ne rfl (n97.ne rfl (n96.ne rfl (n94.ne rfl (n79.ne rfl (n78.ne rfl (n77.ne rfl (n76.ne rfl (n59.ne rfl (n58.ne rfl (n57.ne rfl (n51.ne rfl s15I39)))))))))))))
        have e121 := n113.ne rfl (n112.ne rfl (n98.ne rfl (n97.ne rfl (n96.ne rfl (n94.ne rfl (n79.ne rfl (n78.ne rfl (n77.ne rfl (n76.ne rfl (n59.ne rfl (n58.ne rfl (n57.ne rfl (n51.ne rfl s16I39)))))))))))))
        exact th_n (hKI39 _ _ _ (by omega) ⟨j + 1, rfl, n113.ok, G108, e114, e115, e116, e117, (n113.ne rfl (n112.ne rfl e105)), e118, e119, e120, e121, n113.at_, (by rw [jn_at i h56x, if_pos c80]; exact u107b), B109, by omega⟩)
    · refine wp_cond_false ((n51.at_).trans (congrArg Value.bool (decide_eq_false c53))) ?_
      refine wp_exit ?_
      refine th_x ?_
      refine th_x ?_
      refine ib_x ?_
      refine th_n (hK33 _ _ ?_)
      refine wp_seq_k (fun K122 hK122 => ?_)
      refine wp_seq_k (fun K123 hK123 => ?_)
      refine wp_region_lit ?_
      refine sv n51.ok rfl (wn _ rfl) rfl (o_mv (n51.ne rfl s1I39)) (fun an124 n124 => ?_)
      refine sv n124.ok rfl (wn _ rfl) rfl (o_len n124.at_ Try.underlying42) (fun an125 n125 => ?_)
      refine sv n125.ok rfl (wn _ rfl) rfl (o_mv ev_const) (fun an126 n126 => ?_)
      refine wpList_nil ?_
      refine th_n (hK123 _ _ ?_)
      refine wp_block ?_
      have e128 := n126.ne rfl (n125.ne rfl (n124.ne rfl (n51.ne rfl s0I39)))
      have e129 := n126.ne rfl (n125.ne rfl (n124.ne rfl (n51.ne rfl s1I39)))
      have e130 := n126.ne rfl (n125.ne rfl (n124.ne rfl (n51.ne rfl s4I39)))
      have e131 := n126.ne rfl (n125.ne rfl (n124.ne rfl (n51.ne rfl s5I39)))
      have e132 := n126.ne rfl (n125.ne rfl (n124.ne rfl (n51.ne rfl s6I39)))
      have e133 := n126.ne rfl (n125.ne rfl (n124.ne rfl (n51.ne rfl s7I39)))
      have e134 := n126.ne rfl (n125.ne rfl (n124.ne rfl (n51.ne rfl s12I39)))
      refine lp (fun (nL : Nat) (aL : Act) (wL : World) => ∃ k : Nat, nL = L.length - k ∧ Ok 51 aL ∧ Gr w wL ∧ (aL.eval (.tmp 0) = .slice va K.length vc) ∧ (aL.eval (.tmp 1) = .slice vb L.length vd) ∧ (aL.eval (.tmp 4) = .bool false) ∧ (aL.eval (.tmp 5) = .int .i64 (i : Int)) ∧ (aL.eval (.tmp 6) = .pointer (some ⟨b20, 0, none⟩)) ∧ (aL.eval (.tmp 7) = .pointer (some ⟨b26, 0, none⟩)) ∧ (aL.eval (.tmp 12) = .int .i64 (i : Int)) ∧ (aL.eval (.tmp 30) = .slice vb L.length vd) ∧ (aL.eval (.tmp 31) = .int .i64 ((L.length : Nat) : Int)) ∧ (aL.eval (.tmp 32) = .int .i64 (k : Int)) ∧ (Bk wL b20 (wArr (jn (K.take j) i)) 66) ∧ (Bk wL b26 (wArr (jn (L.take k) i)) 66) ∧ (k ≤ L.length)) _ ⟨0, rfl, n126.ok, GI39, e128, e129, e130, e131, e132, e133, e134, (n126.ne rfl (n125.ne rfl n124.at_)), (n126.ne rfl n125.at_), n126.at_, kb20I39, kb26I39, by omega⟩ ?_
      rintro m135 aI127 w137 ⟨k, hmI127, okI127, GI127, s0I127, s1I127, s4I127, s5I127, s6I127, s7I127, s12I127, s30I127, s31I127, s32I127, kb20I127, kb26I127, hkI127⟩ KI127 hKI127
      refine wp_seq_k (fun K138 hK138 => ?_)
      refine wp_region_lit ?_
      refine sv okI127 rfl (wn _ rfl) rfl (o_ltI s32I127 s31I127) (fun an139 n139 => ?_)
      refine wpList_nil ?_
      refine th_n (hK138 _ _ ?_)
      refine wp_seq_k (fun K140 hK140 => ?_)
      by_cases c141 : (k : Int) < ((L.length : Nat) : Int)
      · refine wp_cond_true ((n139.at_).trans (congrArg Value.bool (decide_eq_true c141))) ?_
        refine wp_skip ?_
        refine th_n (hK140 _ _ ?_)
        refine wp_seq_k (fun K142 hK142 => ?_)
        refine wp_block ?_
        refine wp_seq_k (fun K143 hK143 => ?_)
        refine wp_region_lit ?_
        have h144l : k < List.length L := by omega
        obtain ⟨bh144, fh144, h144a, h144b, h144c⟩ := hv2 (ne_nil_of_lt h144l)
        obtain ⟨xh144, h144x⟩ : ∃ x, (L)[k]? = some x := ⟨_, List.getElem?_eq_getElem h144l⟩
        refine sv n139.ok rfl (wn _ rfl) rfl (o_iaV (i := k) (s := 592) h144a (n139.ne rfl s30I127) (n139.ne rfl s32I127) Try.underlying42 (by kernel_rfl) h144l) (fun an145 n145 => ?_)
        refine sv n145.ok rfl (wn _ rfl) rfl (o_ldA (k := fh144 + k * 592) n145.at_ (cs := encDoc xh144) (fun j v hv => (Below.cell GI127 h144b).trans (h144c _ _ h144x j v hv)) Try.underlying68 rfl (by kernel_rfl)) (fun an146 n146 => ?_)
        refine sal (cs := (encDoc m0).toArray) n146.ok rfl (wn _ rfl) rfl (o_al (z := .agg ((encDoc m0).toArray)) partM_zero) (fun an147 w149 b148 W150 n147 => ?_)
        have l151 : b20 < b148 := by rw [W150.eq]; exact kb20I127.lt
        have l152 : b26 < b148 := by rw [W150.eq]; exact kb26I127.lt
        have l153 : w.heap.size ≤ b148 := by rw [W150.eq]; exact GI127.size
        have G154 := GI127.trans W150.gr
        have B155 := kb20I127.gr W150.gr
        have B156 := kb26I127.gr W150.gr
        refine ssR rfl (wn _ rfl) (o_stR n147.at_ (n147.ne rfl n146.at_) W150.bk (encDoc_info xh144) (by rw [encDoc_sz, encDoc_sz]) (encDoc_one xh144)) W150.bk (fun w157 u158 u158b => ?_)
        have G159 : Gr w w157 := Below.upd G154 l153 u158
        have B160 := B155.upd u158 (Nat.ne_of_lt l151)
        have B161 := B156.upd u158 (Nat.ne_of_lt l152)
        refine wpList_nil ?_
        refine th_n (hK143 _ _ ?_)
        refine wp_seq_k (fun K162 hK162 => ?_)
        refine wp_region_lit ?_
        have e163 := n147.ne rfl (n146.ne rfl (n145.ne rfl (n139.ne rfl s5I127)))
        refine sv n147.ok rfl (wn _ rfl) rfl (o_mv e163) (fun an164 n164 => ?_)
        refine sv n164.ok rfl (wn _ rfl) rfl (o_fa (z := 512) (n164.ne rfl n147.at_) Try.underlying68 rfl (by kernel_rfl) rfl rfl) (fun an165 n165 => ?_)
        refine sv n165.ok rfl (wn _ rfl) rfl (o_iaA (i := i) (s := 1) n165.at_ (n165.ne rfl n164.at_) Try.underlying62 (by kernel_rfl) (by omega)) (fun an166 n166 => ?_)
        refine sv n166.ok rfl (wn _ rfl) rfl (o_ldMb (k := i) (y := xh144) (by omega) ((n166.at_).trans (by simp)) u158b) (fun an167 n167 => ?_)
        refine wpList_nil ?_
        refine th_n (hK162 _ _ ?_)
        cases c168 : (xh144.s i)
        · refine wp_cond_false ((n167.at_).trans (congrArg Value.bool (c168))) ?_
          refine wp_skip ?_
          refine ib_n ?_
          refine th_n (hK142 _ _ ?_)
          refine wp_region_lit ?_
          have e169 := n167.ne rfl (n166.ne rfl (n165.ne rfl (n164.ne rfl (n147.ne rfl (n146.ne rfl (n145.ne rfl (n139.ne rfl s32I127)))))))
          refine sv n167.ok rfl (wn _ rfl) rfl (o_add (r := ((k + 1 : Nat) : Int)) e169 ev_const (by omega) (by omega)) (fun an170 n170 => ?_)
          refine sv n170.ok rfl (wn _ rfl) rfl (o_mv n170.at_) (fun an171 n171 => ?_)
          refine wpList_nil ?_
          have e172 := n171.ne rfl (n170.ne rfl (n167.ne rfl (n166.ne rfl (n165.ne rfl (n164.ne rfl (n147.ne rfl (n146.ne rfl (n145.ne rfl (n139.ne rfl s0I127)))))))))
          have e173 := n171.ne rfl (n170.ne rfl (n167.ne rfl (n166.ne rfl (n165.ne rfl (n164.ne rfl (n147.ne rfl (n146.ne rfl (n145.ne rfl (n139.ne rfl s1I127)))))))))
          have e174 := n171.ne rfl (n170.ne rfl (n167.ne rfl (n166.ne rfl (n165.ne rfl (n164.ne rfl (n147.ne rfl (n146.ne rfl (n145.ne rfl (n139.ne rfl s4I127)))))))))
          have e175 := n171.ne rfl (n170.ne rfl (n167.ne rfl (n166.ne rfl (n165.ne rfl (n164.ne rfl e163)))))
          have e176 := n171.ne rfl (n170.ne rfl (n167.ne rfl (n166.ne rfl (n165.ne rfl (n164.ne rfl (n147.ne rfl (n146.ne rfl (n145.ne rfl (n139.ne rfl s6I127)))))))))
          have e177 := n171.ne rfl (n170.ne rfl (n167.ne rfl (n166.ne rfl (n165.ne rfl (n164.ne rfl (n147.ne rfl (n146.ne rfl (n145.ne rfl (n139.ne rfl s7I127)))))))))
          have e178 := n171.ne rfl (n170.ne rfl (n167.ne rfl (n166.ne rfl (n165.ne rfl (n164.ne rfl (n147.ne rfl (n146.ne rfl (n145.ne rfl (n139.ne rfl s12I127)))))))))
          have e179 := n171.ne rfl (n170.ne rfl (n167.ne rfl (n166.ne rfl (n165.ne rfl (n164.ne rfl (n147.ne rfl (n146.ne rfl (n145.ne rfl (n139.ne rfl s30I127)))))))))
          have e180 := n171.ne rfl (n170.ne rfl (n167.ne rfl (n166.ne rfl (n165.ne rfl (n164.ne rfl (n147.ne rfl (n146.ne rfl (n145.ne rfl (n139.ne rfl s31I127)))))))))
          exact th_n (hKI127 _ _ _ (by omega) ⟨k + 1, rfl, n171.ok, G159, e172, e173, e174, e175, e176, e177, e178, e179, e180, n171.at_, B160, (by rw [jn_at i h144x, if_neg (by rw [c168]; simp)]; exact B161), by omega⟩)
        · refine wp_cond_true ((n167.at_).trans (congrArg Value.bool (c168))) ?_
          refine wp_region_lit ?_
          have e181 := n167.ne rfl (n166.ne rfl (n165.ne rfl (n164.ne rfl (n147.ne rfl (n146.ne rfl (n145.ne rfl (n139.ne rfl s7I127)))))))
          refine sv n167.ok rfl (wn _ rfl) rfl (o_ldR e181 B161 Try.underlying66 rfl (dots_sz (jn (L.take k) i))) (fun an182 n182 => ?_)
          have e183 := n182.ne rfl (n167.ne rfl (n166.ne rfl (n165.ne rfl (n164.ne rfl n147.at_))))
          refine sv n182.ok rfl (wn _ rfl) rfl (o_fa (z := 80) e183 Try.underlying68 rfl (by kernel_rfl) rfl rfl) (fun an184 n184 => ?_)
          refine sv n184.ok rfl (wn _ rfl) rfl (o_ldM1 (y := xh144) n184.at_ u158b) (fun an185 n185 => ?_)
          refine sc n185.ok rfl (wn _ rfl) rfl (o_f2 Try.func33 rfl rfl rfl (n185.ne rfl (n184.ne rfl n182.at_)) n185.at_) (djoin_any ((jn (L.take k) i)) xh144.X (jn_okT hX2 i _) (hX2 _ (List.mem_of_getElem? h144x)) w157) ?_
          rintro _ w187 ⟨rfl, g188⟩
          refine ⟨_, rfl, fun an186 n186 => ?_⟩
          have G189 := G159.trans g188
          have B190 := B160.gr g188
          have B191 := B161.gr g188
          have B192 := u158b.gr g188
          have e193 := n186.ne rfl (n185.ne rfl (n184.ne rfl (n182.ne rfl e181)))
          refine ssR rfl (wn _ rfl) (o_stR e193 n186.at_ B191 (dots_sz (fun q => ((jn (L.take k) i)) q ||| xh144.X q)) (by rw [wArr_size, wArr_size]) (wArr_one (fun q => ((jn (L.take k) i)) q ||| xh144.X q))) B191 (fun w194 u195 u195b => ?_)
          have G196 : Gr w w194 := Below.upd G189 l30 u195
          have B197 := B190.upd u195 (Nat.ne_of_lt l29)
          have B198 := B192.upd u195 (Nat.ne_of_gt l152)
          refine wpList_nil ?_
          refine ib_n ?_
          refine th_n (hK142 _ _ ?_)
          refine wp_region_lit ?_
          have e199 := n186.ne rfl (n185.ne rfl (n184.ne rfl (n182.ne rfl (n167.ne rfl (n166.ne rfl (n165.ne rfl (n164.ne rfl (n147.ne rfl (n146.ne rfl (n145.ne rfl (n139.ne rfl s32I127)))))))))))
          refine sv n186.ok rfl (wn _ rfl) rfl (o_add (r := ((k + 1 : Nat) : Int)) e199 ev_const (by omega) (by omega)) (fun an200 n200 => ?_)
          refine sv n200.ok rfl (wn _ rfl) rfl (o_mv n200.at_) (fun an201 n201 => ?_)
          refine wpList_nil ?_
          have e202 := n201.ne rfl (n200.ne rfl (n186.ne rfl (n185.ne rfl (n184.ne rfl (n182.ne rfl (n167.ne rfl (n166.ne rfl (n165.ne rfl (n164.ne rfl (n147.ne rfl (n146.ne rfl (n145.ne rfl (n139.ne rfl s0I127)))))))))))))
          have e203 := n201.ne rfl (n200.ne rfl (n186.ne rfl (n185.ne rfl (n184.ne rfl (n182.ne rfl (n167.ne rfl (n166.ne rfl (n165.ne rfl (n164.ne rfl (n147.ne rfl (n146.ne rfl (n145.ne rfl (n139.ne rfl s1I127)))))))))))))
          have e204 := n201.ne rfl (n200.ne rfl (n186.ne rfl (n185.ne rfl (n184.ne rfl (n182.ne rfl (n167.ne rfl (n166.ne rfl (n165.ne rfl (n164.ne rfl (n147.ne rfl (n146.ne rfl (n145.ne rfl (n139.ne rfl s4I127)))))))))))))
          have e205 := n201.ne rfl (n200.ne rfl (n186.ne rfl (n185.ne rfl (n184.ne rfl (n182.ne rfl (n167.ne rfl (n166.ne rfl (n165.ne rfl (n164.ne rfl e163)))))))))
          have e206 := n201.ne rfl (n200.ne rfl (n186.ne rfl (n185.ne rfl (n184.ne rfl (n182.ne rfl (n167.ne rfl (n166.ne rfl (n165.ne rfl (n164.ne rfl (n147.ne rfl (n146.ne rfl (n145.ne rfl (n139.ne rfl s6I127)))))))))))))
          have e207 := n201.ne rfl (n200.ne rfl (n186.ne rfl (n185.ne rfl (n184.ne rfl (n182.ne rfl (n167.ne rfl (n166.ne rfl (n165.ne rfl (n164.ne rfl (n147.ne rfl (n146.ne rfl (n145.ne rfl (n139.ne rfl s12I127)))))))))))))
          have e208 := n201.ne rfl (n200.ne rfl (n186.ne rfl (n185.ne rfl (n184.ne rfl (n182.ne rfl (n167.ne rfl (n166.ne rfl (n165.ne rfl (n164.ne rfl (n147.ne rfl (n146.ne rfl (n145.ne rfl (n139.ne rfl s30I127)))))))))))))
          have e209 := n201.ne rfl (n200.ne rfl (n186.ne rfl (n185.ne rfl (n184.ne rfl (n182.ne rfl (n167.ne rfl (n166.ne rfl (n165.ne rfl (n164.ne rfl (n147.ne rfl (n146.ne rfl (n145.ne rfl (n139.ne rfl s31I127)))))))))))))
          exact th_n (hKI127 _ _ _ (by omega) ⟨k + 1, rfl, n201.ok, G196, e202, e203, e204, e205, e206, (n201.ne rfl (n200.ne rfl e193)), e207, e208, e209, n201.at_, B197, (by rw [jn_at i h144x, if_pos c168]; exact u195b), by omega⟩)
      · refine wp_cond_false ((n139.at_).trans (congrArg Value.bool (decide_eq_false c141))) ?_
        refine wp_exit ?_
        refine th_x ?_
        refine th_x ?_
        refine ib_x ?_
        refine th_n (hK122 _ _ ?_)
        refine wp_seq_k (fun K210 hK210 => ?_)
        refine reg_start (N := 51) (m := 5) (by kernel_rfl) (fun R2110 => ?_)
        have R2111 := R2110.snoc (n' := 1) rfl (fun vJ _ => vJ = .agg (wArr (jn (K.take j) i))) rfl (fun _ _ _ _ h => h) (fun aS wS pS => by
            exact Does.val (wn _ rfl) (o_ldR ((pS.old 6 rfl).trans (n139.ne rfl s6I127)) (Bk.gr kb20I127 (gr_drew pS.gr)) Try.underlying66 rfl (dots_sz (jn (K.take j) i))) (Gr.refl _) rfl rfl)
        have R2112 := R2111.snoc (n' := 2) rfl (fun vJ _ => vJ = .agg (wArr (jn (L.take k) i))) rfl (fun _ _ _ _ h => h) (fun aS wS pS => by
            exact Does.val (wn _ rfl) (o_ldR ((pS.old 7 rfl).trans (n139.ne rfl s7I127)) (Bk.gr kb26I127 (gr_drew pS.gr)) Try.underlying66 rfl (dots_sz (jn (L.take k) i))) (Gr.refl _) rfl rfl)
        have R2113 := R2112.snoc (n' := 3) rfl (fun vJ _ => vJ = .agg (wArr (fun q => ((jn (K.take j) i)) q &&& ((jn (L.take k) i)) q))) rfl (fun _ _ _ _ h => h) (fun aS wS pS => by
            have eR211_0 : aS.eval (.tmp 45) = .agg (wArr (jn (K.take j) i)) := pS.pre 0 rfl
            have eR211_1 : aS.eval (.tmp 46) = .agg (wArr (jn (L.take k) i)) := pS.pre 1 rfl
            exact Does.call (wn _ rfl) (o_f2 Try.func34 rfl rfl rfl (eR211_0) (eR211_1)) (dmeet_any ((jn (K.take j) i)) ((jn (L.take k) i)) (jn_okT hX1 i _) (jn_okT hX2 i _) wS) (by rintro _ w2 ⟨rfl, g⟩; exact ⟨_, rfl, g, rfl⟩) rfl)
        have R2114 := R2113.snoc (n' := 4) rfl (fun vJ _ => vJ = .agg (wArr (jn (K.take j) i))) rfl (fun _ _ _ _ h => h) (fun aS wS pS => by
            exact Does.val (wn _ rfl) (o_ldR ((pS.old 6 rfl).trans (n139.ne rfl s6I127)) (Bk.gr kb20I127 (gr_drew pS.gr)) Try.underlying66 rfl (dots_sz (jn (K.take j) i))) (Gr.refl _) rfl rfl)
        have R2115 := R2114.snoc (n' := 5) rfl (fun vJ _ => vJ = .bool (!pwAt K L i)) rfl (fun _ _ _ _ h => h) (fun aS wS pS => by
            have eR211_2 : aS.eval (.tmp 47) = .agg (wArr (fun q => ((jn (K.take j) i)) q &&& ((jn (L.take k) i)) q)) := pS.pre 2 rfl
            have eR211_3 : aS.eval (.tmp 48) = .agg (wArr (jn (K.take j) i)) := pS.pre 3 rfl
            exact Does.val (wn _ rfl) (o_neqDots (eR211_2) (eR211_3) (by rw [List.take_of_length_le (show K.length ≤ j by omega), List.take_of_length_le (show L.length ≤ k by omega)]; rfl)) (Gr.refl _) rfl rfl)
        refine R2115.run (k := 0) (L := #[true, true, true, true, true]) (by kernel_rfl) (by kernel_rfl) (by kernel_rfl) n139.ok (by kernel_rfl) (by kernel_rfl) (fun ap213 w214 p213 => ?_)
        have g215 := gr_drew p213.gr
        have G216 := GI127.trans g215
        have B217 := kb20I127.gr g215
        have B218 := kb26I127.gr g215
        refine wpAny_done (by kernel_rfl) ?_ _
        refine th_n (hK210 _ _ ?_)
        have ep213_4 : ap213.eval (.tmp 49) = .bool (!pwAt K L i) := p213.js 4 rfl
        cases c219 : (!pwAt K L i)
        · refine wp_cond_false ((ep213_4).trans (congrArg Value.bool (c219))) ?_
          refine wp_skip ?_
          refine ib_n ?_
          refine th_n (hK14 _ _ ?_)
          refine wp_region_lit ?_
          refine sv p213.ok rfl (wn _ rfl) rfl (o_add (r := ((i + 1 : Nat) : Int)) ((p213.old 12 rfl).trans (n139.ne rfl s12I127)) ev_const (by omega) (by omega)) (fun an220 n220 => ?_)
          refine sv n220.ok rfl (wn _ rfl) rfl (o_mv n220.at_) (fun an221 n221 => ?_)
          refine wpList_nil ?_
          have e222 := n221.ne rfl (n220.ne rfl ((p213.old 0 rfl).trans (n139.ne rfl s0I127)))
          have e223 := n221.ne rfl (n220.ne rfl ((p213.old 1 rfl).trans (n139.ne rfl s1I127)))
          have e224 := n221.ne rfl (n220.ne rfl ((p213.old 4 rfl).trans (n139.ne rfl s4I127)))
          exact th_n (hKI6 _ _ _ (by omega) ⟨i + 1, rfl, n221.ok, G216, e222, e223, e224, n221.at_, by omega, fun p hp => by
              rcases Nat.lt_succ_iff_lt_or_eq.1 hp with h | rfl
              · exact hgI6 p h
              · simpa using c219⟩)
        · refine wp_cond_true ((ep213_4).trans (congrArg Value.bool (c219))) ?_
          refine wp_seq_k (fun K225 hK225 => ?_)
          refine wp_region_lit ?_
          refine sv p213.ok rfl (wn _ rfl) rfl (o_as ev_const) (fun an226 n226 => ?_)
          refine wpList_nil ?_
          refine th_n (hK225 _ _ ?_)
          refine wp_ret ?_
          refine ib_r ?_
          refine th_r ?_
          refine th_r ?_
          refine ib_r ?_
          refine th_r ?_
          exact ret1 n226.ok rfl (n226.at_) ⟨by rw [pwB_false (p := i) (by omega) (by simpa using c219)], G216⟩
  · refine wp_cond_false ((n11.at_).trans (congrArg Value.bool (decide_eq_false c13))) ?_
    refine wp_exit ?_
    refine th_x ?_
    refine th_x ?_
    refine ib_x ?_
    refine th_n (hK3 _ _ ?_)
    refine wp_seq_k (fun K227 hK227 => ?_)
    refine wp_region_lit ?_
    refine sv n11.ok rfl (wn _ rfl) rfl (o_as ev_const) (fun an228 n228 => ?_)
    refine wpList_nil ?_
    refine th_n (hK227 _ _ ?_)
    refine wp_ret ?_
    exact ret1 n228.ok rfl (n228.at_) ⟨by rw [pwB_true fun p hp => hgI6 p (by omega)], GI6⟩
end Go.Proofs.Ythcehgmpajejeaa

/- slices.SortFunc at part.marks: the same marks, in order. -/
namespace Rm
open Go Go.RowKit Gx
def encM (x : Nat × Nat) : List Value := [.int .u32 x.1, .int .u32 x.2]
theorem encM_ok : EncOk encM 2 := ⟨fun x => rfl, fun x u hu => by
  simp [encM] at hu
  rcases hu with rfl | rfl <;> rfl⟩
end Rm
namespace Go.Proofs
open Go.Shelf
def Try.sortMarks_ren : Go.Shelf.Ren := ⟨fun | 6 => 57 | 15 => 68 | 14 => 67 | 28 => 80 | 29 => 81 | 20 => 72 | 21 => 73 | 22 => 74 | 23 => 75 | 24 => 76 | 25 => 77 | 26 => 78 | 27 => 79 | 46 => 83 | 47 => 84 | 48 => 85 | 49 => 86 | 50 => 87 | 57 => 88 | n => n, fun | 22 => 51 | 24 => 55 | 25 => 106 | 3 => 3 | 39 => 116 | 0 => 0 | 53 => 53 | 55 => 63 | 4 => 4 | 46 => 122 | 45 => 121 | 50 => 126 | 5 => 5 | 9 => 9 | 66 => 130 | 70 => 134 | 76 => 136 | 77 => 137 | n => n, fun | n => n⟩
theorem Try.sortMarks : Go.Proofs.SlLaysF0.n6 Try.prog Try.sortMarks_ren := {
  mixed := by kernel_rfl
  f6 := ⟨Try.f57.name, by decide, Try.func57.trans (congrArg some (by kernel_rfl))⟩
  f14 := ⟨Try.f67.name, by decide, Try.func67.trans (congrArg some (by kernel_rfl))⟩
  f15 := Try.func68.trans (congrArg some (by kernel_rfl))
  f20 := ⟨Try.f72.name, by decide, Try.func72.trans (congrArg some (by kernel_rfl))⟩
  f21 := ⟨Try.f73.name, by decide, Try.func73.trans (congrArg some (by kernel_rfl))⟩
  f22 := ⟨Try.f74.name, by decide, Try.func74.trans (congrArg some (by kernel_rfl))⟩
  f23 := ⟨Try.f75.name, by decide, Try.func75.trans (congrArg some (by kernel_rfl))⟩
  f24 := ⟨Try.f76.name, by decide, Try.func76.trans (congrArg some (by kernel_rfl))⟩
  f25 := ⟨Try.f77.name, by decide, Try.func77.trans (congrArg some (by kernel_rfl))⟩
  f26 := ⟨Try.f78.name, by decide, Try.func78.trans (congrArg some (by kernel_rfl))⟩
  f27 := ⟨Try.f79.name, by decide, Try.func79.trans (congrArg some (by kernel_rfl))⟩
  f28 := Try.func80.trans (congrArg some (by kernel_rfl))
  f29 := Try.func81.trans (congrArg some (by kernel_rfl))
  f46 := ⟨Try.f83.name, by decide, Try.func83.trans (congrArg some (by kernel_rfl))⟩
  f47 := Try.func84.trans (congrArg some (by kernel_rfl))
  f48 := Try.func85.trans (congrArg some (by kernel_rfl))
  f49 := ⟨Try.f86.name, by decide, Try.func86.trans (congrArg some (by kernel_rfl))⟩
  f50 := ⟨Try.f87.name, by decide, Try.func87.trans (congrArg some (by kernel_rfl))⟩
  f57 := ⟨Try.f88.name, by decide, Try.func88.trans (congrArg some (by kernel_rfl))⟩
  t0 := Try.underlying0
  a0 := Try.isAgg0
  z0 := Try.sizeOf0
  v0 := Try.zeroValue0
  t3 := Try.underlying3
  a3 := Try.isAgg3
  z3 := Try.sizeOf3
  v3 := Try.zeroValue3
  t4 := Try.underlying4
  a4 := Try.isAgg4
  z4 := Try.sizeOf4
  v4 := Try.zeroValue4
  t5 := Try.underlying5
  a5 := Try.isAgg5
  z5 := Try.sizeOf5
  v5 := Try.zeroValue5
  t9 := Try.underlying9
  a9 := Try.isAgg9
  z9 := Try.sizeOf9
  v9 := Try.zeroValue9
  t22 := Try.underlying51
  a22 := Try.isAgg51
  z22 := Try.sizeOf51
  v22 := Try.zeroValue51
  t25 := Try.underlying106
  a25 := Try.isAgg106
  z25 := Try.sizeOf106
  v25 := Try.zeroValue106
  t39 := Try.underlying116
  a39 := Try.isAgg116
  z39 := Try.sizeOf116
  v39 := Try.zeroValue116
  t45 := Try.underlying121
  a45 := Try.isAgg121
  z45 := Try.sizeOf121
  v45 := Try.zeroValue121
  t46 := Try.underlying122
  a46 := Try.isAgg122
  z46 := Try.sizeOf122
  v46 := Try.zeroValue122
  t50 := Try.underlying126
  a50 := Try.isAgg126
  z50 := Try.sizeOf126
  v50 := Try.zeroValue126
  t53 := Try.underlying53
  a53 := Try.isAgg53
  z53 := Try.sizeOf53
  v53 := Try.zeroValue53
  t55 := Try.underlying63
  a55 := Try.isAgg63
  z55 := Try.sizeOf63
  v55 := Try.zeroValue63
  t66 := Try.underlying130
  a66 := Try.isAgg130
  z66 := Try.sizeOf130
  v66 := Try.zeroValue130
  t70 := Try.underlying134
  a70 := Try.isAgg134
  z70 := Try.sizeOf134
  v70 := Try.zeroValue134
  t76 := Try.underlying136
  a76 := Try.isAgg136
  z76 := Try.sizeOf136
  v76 := Try.zeroValue136
  t77 := Try.underlying137
  a77 := Try.isAgg137
  z77 := Try.sizeOf137
  v77 := Try.zeroValue137 }
end Go.Proofs
namespace Rm
open Go Go.RowKit Go.Sort Gx
theorem flatK_eqM (l : List (Nat × Nat)) : Go.Sort.flatK encM 2 l.toArray = (flatE encM l).toArray := by
  apply Array.ext_getElem?
  intro t
  have hl : (flatE encM l).length = l.length * 2 := flatE_len encM_ok l
  rcases Nat.lt_or_ge t (l.length * 2) with c | c
  · have h1 : t < (Go.Sort.flatK encM 2 l.toArray).size := by simpa using c
    have h2 := get_flatK encM 2 l.toArray t (by simpa using c)
    rw [getElem!_pos (Go.Sort.flatK encM 2 l.toArray) t h1] at h2
    rw [Array.getElem?_eq_getElem h1, h2]
    have hd : t / 2 < l.length := by omega
    obtain ⟨p, hp⟩ : ∃ p, l[t / 2]? = some p := ⟨_, List.getElem?_eq_getElem hd⟩
    have h4 : l.toArray[t / 2]! = p := by
      rw [getElem!_pos l.toArray (t / 2) (by simpa using hd)]
      have := List.getElem?_eq_some_iff.1 hp
      simpa using this.2
    rw [h4]
    have hm : t % 2 = 0 ∨ t % 2 = 1 := by omega
    rcases hm with e | e
    · have h3 := flatE_at encM_ok hp (j := 0) rfl
      have e' : t / 2 * 2 + 0 = t := by omega
      rw [e'] at h3
      rw [e]
      simpa [encM] using h3.symm
    · have h3 := flatE_at encM_ok hp (j := 1) rfl
      have e' : t / 2 * 2 + 1 = t := by omega
      rw [e'] at h3
      rw [e]
      simpa [encM] using h3.symm
  · rw [Array.getElem?_eq_none (by simpa using c), Array.getElem?_eq_none (by simp; omega)]
end Rm
namespace Go.Proofs.Ythcehgmpajejeaa
open Go.RowKit Rm Go.Sort Gx
set_option linter.unusedVariables false
set_option linter.unusedSimpArgs false
theorem TwoU.new (w : World) (x1 x2 : Nat) (t : TypeId) : w.heap.size < (w.alloc (.cells #[.int .u32 (x1 : Int), .int .u32 (x2 : Int)] t)).heap.size ∧ (w.alloc (.cells #[.int .u32 (x1 : Int), .int .u32 (x2 : Int)] t)).cell? ⟨w.heap.size, 0, none⟩ = some (.int .u32 (x1 : Int)) ∧ (w.alloc (.cells #[.int .u32 (x1 : Int), .int .u32 (x2 : Int)] t)).cell? ⟨w.heap.size, 1, none⟩ = some (.int .u32 (x2 : Int)) := by
  refine ⟨by rw [World.size_alloc]; omega, ?_, ?_⟩ <;> simp [go_sem]
set_option maxHeartbeats 400000 in
set_option maxRecDepth 100000 in
theorem nanU_any (x : Int) (w : World) : Calls Try.prog 69 #[.int .u32 x] w fun e w' => e = .returned (.bool false) ∧ w' = w := by
  go_enter Try.func69, Try.ntmps69
  go_wp2
  go_ret
  exact ⟨by simp, rfl⟩
set_option maxHeartbeats 1000000 in
set_option maxRecDepth 100000 in
theorem cmpU_any (x y : Int) (w : World) : Calls Try.prog 60 #[.int .u32 x, .int .u32 y] w fun e w' => e = .returned (.int .i64 (Lib.compareInt x y)) ∧ w' = w := by
  go_enter Try.func60, Try.ntmps60
  go_wp2_with (go_at_call 69; refine (nanU_any _ _).mono ?_; rintro e w' ⟨rfl, hw⟩; rw [hw])
  all_goals (go_ret; refine ⟨?_, rfl⟩; unfold Lib.compareInt; (repeat' split) <;> first | rfl | (exfalso; omega))

set_option maxHeartbeats 1000000 in
set_option maxRecDepth 100000 in
theorem compareM_any (x y : Nat × Nat) (w : World) :
    Calls Try.prog 58 #[.agg #[.int .u32 x.1, .int .u32 x.2], .agg #[.int .u32 y.1, .int .u32 y.2]] w fun e w' => e = .returned (.int .i64 (cmpD x y)) ∧ GrD w w' := by
  have H1 := Lib.hid (cmpU_any (x.1 : Int) (y.1 : Int))
  have H2 := Lib.hid (cmpU_any (x.2 : Int) (y.2 : Int))
  have H3 := Lib.hid (or_any (Lib.compareInt (x.1 : Int) y.1) (Lib.compareInt (x.2 : Int) y.2))
  have HD : Hid (cmpD x y = if Lib.compareInt (x.1 : Int) y.1 != 0 then Lib.compareInt (x.1 : Int) y.1 else Lib.compareInt (x.2 : Int) y.2) := rfl
  generalize Lib.compareInt (x.1 : Int) y.1 = c1 at *
  generalize Lib.compareInt (x.2 : Int) y.2 = c2 at *
  generalize cmpD x y = r at *
  obtain ⟨x1, x2⟩ := x
  obtain ⟨y1, y2⟩ := y
  go_enter Try.func58, Try.ntmps58
  go_wp2_with fail
  have T0 : w.heap.size < ((w.alloc (.cells #[.int .u32 (x1 : Int), .int .u32 (x2 : Int)] 55)).alloc (.cells #[.int .u32 (y1 : Int), .int .u32 (y2 : Int)] 55)).heap.size ∧ ((w.alloc (.cells #[.int .u32 (x1 : Int), .int .u32 (x2 : Int)] 55)).alloc (.cells #[.int .u32 (y1 : Int), .int .u32 (y2 : Int)] 55)).cell? ⟨w.heap.size, 0, none⟩ = some (.int .u32 (x1 : Int)) ∧ ((w.alloc (.cells #[.int .u32 (x1 : Int), .int .u32 (x2 : Int)] 55)).alloc (.cells #[.int .u32 (y1 : Int), .int .u32 (y2 : Int)] 55)).cell? ⟨w.heap.size, 1, none⟩ = some (.int .u32 (x2 : Int)) := by
    obtain ⟨a1, a2, a3⟩ := TwoU.new w x1 x2 55
    exact ⟨by rw [World.size_alloc]; omega, Lib.cell?_alloc_some _ a2, Lib.cell?_alloc_some _ a3⟩
  have T1 := TwoU.new (w.alloc (.cells #[.int .u32 (x1 : Int), .int .u32 (x2 : Int)] 55)) y1 y2 55
  have G0 := Lib.hid (((GrD.refl w).alloc (.cells #[.int .u32 (x1 : Int), .int .u32 (x2 : Int)] 55)).alloc (.cells #[.int .u32 (y1 : Int), .int .u32 (y2 : Int)] 55))
  rw [World.size_alloc] at T1
  generalize (w.alloc (.cells #[.int .u32 (x1 : Int), .int .u32 (x2 : Int)] 55)).alloc (.cells #[.int .u32 (y1 : Int), .int .u32 (y2 : Int)] 55) = w2 at *
  obtain ⟨t1, t2, t3⟩ := T0
  obtain ⟨u1, u2, u3⟩ := T1
  clear t1 u1
  go_still_tail 10, (by kernel_rfl)
  still_call (H1.out _)
  repeat still_step
  still_call (H2.out _)
  repeat still_step
  refine wpStill_nil ?_
  change wpList _ _ _ _ _ w2.drew
  have G1 := Lib.hid (G0.out.drew)
  clear t2 t3 u2 u3 G0 H1 H2
  generalize w2.drew = w3 at *
  have HC : Hid (∀ c, Calls Try.prog 59 #[.slice (some ⟨w3.heap.size, 0, none⟩) 2 c] (w3.alloc (.cells #[.int .i64 c1, .int .i64 c2] 3)) fun e w' => e = .returned (.int .i64 r) ∧ w' = w3.alloc (.cells #[.int .i64 c1, .int .i64 c2] 3)) :=
    fun c => by rw [HD.out]; exact H3.out _ c _ (by simp [go_sem]) (by simp [go_sem])
  go_wp2_with (go_at_call 59; refine (HC.out _).mono ?_; rintro e w' ⟨rfl, rfl⟩)
  go_ret
  exact ⟨rfl, G1.out.alloc _⟩
theorem enter_compareM (args : Array Value) (w : World) : (callFunc 58 args).run Try.prog w = .ok (.enter 58 args) w := enters_of Try.func58 (by kernel_rfl) rfl _ _
theorem compareM_lays (blk off size : Nat) (w : World) : CmpLays Try.prog 58 #[] encM 2 cmpD blk off size w :=
  fun m os dk _ x y => (compareM_any x y _).mono fun e w' ⟨h1, h2⟩ => ⟨h1, h2.grow⟩

set_option maxHeartbeats 1000000 in
set_option maxRecDepth 100000 in
/-- a list of dots that owns its row is sorted where it lies -/
theorem sort_ownM (l : List (Nat × Nat)) (v : Value) (w : World) (base : Nat) (hl : l.length ≤ 5000) (ho : w.ownsRow base 55 2 v l.length (flatE encM l)) :
    Calls Try.prog 57 #[v, .func (.func 58) #[] #[]] w fun e w' => e = .returned (.tuple #[]) ∧
      ∃ l' : List (Nat × Nat), l'.Perm l ∧ l'.Pairwise (fun a b => ¬ ltD b a) ∧ w'.ownsRow base 55 2 v l'.length (flatE encM l') ∧ w.grownBy w' v.ownBlock := by
  obtain ⟨hxl, ⟨rfl, hn⟩ | ⟨g, cap, cur, rfl, hbg, hg, hnc, hcm, hcs, htake⟩⟩ := ho
  · obtain rfl : l = [] := List.eq_nil_of_length_eq_zero hn
    refine (AnyF.slices_SortFunc_none Try.sortMarks none 0 _ w).mono ?_
    rintro e w' ⟨rfl, rfl⟩
    exact ⟨rfl, [], List.Perm.refl _, List.Pairwise.nil, World.ownsRow_nil _ _ _ _, ⟨rfl, rfl, rfl, Nat.le_refl _, fun _ _ _ => rfl⟩⟩
  · have hlt : g < w.heap.size := (Array.getElem?_eq_some_iff.1 hg).1
    have hfl : (flatE encM l).length = l.length * 2 := by exact flatE_len encM_ok _
    have hH : HoldsK encM 2 w g 0 l.toArray := by
      unfold HoldsK
      rw [flatK_eqM]
      intro j hj
      have hj' : j < (flatE encM l).length := by simpa using hj
      refine ⟨?_, by simp [World.frozen?, hg]⟩
      have h1 : (cur.toList.take (l.length * 2))[j]? = (flatE encM l)[j]? := by rw [htake]
      rw [List.getElem?_take_of_lt (by omega)] at h1
      simp only [World.cell?, hg, Nat.zero_add]
      simp only [Option.isSome_none, Bool.false_eq_true, if_false]
      rw [← Array.getElem?_toList, h1]
      simp [hj']
    have hcon := AnyQ.slices_SortFunc Try.sortMarks 2 Try.isAgg55 Try.sizeOf55 encM (fun _ => rfl) (fun x v hv => by simp [encM] at hv; rcases hv with rfl | rfl <;> rfl) cmpD swoD 58 #[] g 0 cap l.toArray w enter_compareM (compareM_lays g 0 _ w) hH hlt (by simp; omega)
    refine hcon.mono ?_
    rintro e w' ⟨rfl, d', n, os, hp, hs, rfl⟩
    obtain ⟨hsz, -, hperm⟩ := hp
    have hsz' : d'.toList.length = l.length := by simpa using hsz
    have hpl : d'.toList.Perm l := by
      have e1 : (d'.extract 0 l.toArray.size) = d' := by rw [← hsz]; simp
      have e2 : (l.toArray.extract 0 l.toArray.size) = l.toArray := by simp
      rw [e1, e2] at hperm
      simpa using hperm
    refine ⟨rfl, d'.toList, hpl, ?_, ?_, ?_⟩
    · rw [List.pairwise_iff_getElem]
      intro i j hi hj hij hlt
      have h1 := hs i j (Nat.zero_le _) hij (by rw [← hsz]; simpa using hj)
      rw [Bool.eq_false_iff, ne_eq, cmpD_lt] at h1
      apply h1
      rw [getElem!_pos d' j (by simpa using hj), getElem!_pos d' i (by simpa using hi)]
      simpa using hlt
    · have hfk : Go.Sort.flatK encM 2 d' = (flatE encM d'.toList).toArray := by
        have := flatK_eqM d'.toList
        simpa using this
      have hfl' : (flatE encM d'.toList).length = l.length * 2 := by rw [flatE_len encM_ok, hsz']
      refine ⟨by exact flatE_len encM_ok _, .inr ⟨g, cap, putCells id 0 (Go.Sort.flatK encM 2 d') cur, by rw [hsz'], hbg, ?_, by omega, hcm, by simp [putCells, hcs], ?_⟩⟩
      · exact heap_put _ hg
      · rw [hfk, hsz', ← hfl']
        refine take_put cur _ ?_
        rw [hfl', hcs]
        exact Nat.mul_le_mul_right 2 hnc
    · exact grown_put _
end Go.Proofs.Ythcehgmpajejeaa

/- slices.Compact at part.marks. -/
set_option linter.unusedVariables false
set_option linter.unusedSimpArgs false
namespace Rm
open Go Go.RowKit Gx
/-- a row that holds dots -/
def RowDM (e : TypeId) (w : World) (g cap : Nat) (c : List (Nat × Nat)) : Prop := c.length ≤ cap ∧ ∃ cur, w.heap[g]? = some (.cells cur e (0, 0)) ∧ cur.size = cap * 2 ∧ cur.toList.take (c.length * 2) = flatE encM c
theorem RowDM.cell {e : TypeId} {w : World} {g cap : Nat} {c : List (Nat × Nat)} (h : RowDM e w g cap c) {i : Nat} {d : Nat × Nat} (hd : c[i]? = some d) :
    w.cell? ⟨g, i * 2, none⟩ = some (.int .u32 (d.1 : Int)) ∧ w.cell? ⟨g, i * 2 + 1, none⟩ = some (.int .u32 (d.2 : Int)) ∧ w.frozen? ⟨g, i * 2, none⟩ = false ∧ w.frozen? ⟨g, i * 2 + 1, none⟩ = false := by
  obtain ⟨hl, cur, hg, hsz, ht⟩ := h
  have hi : i < c.length := (List.getElem?_eq_some_iff.1 hd).1
  have hf : (flatE encM c)[i * 2]? = some (.int .u32 (d.1 : Int)) ∧ (flatE encM c)[i * 2 + 1]? = some (.int .u32 (d.2 : Int)) := ⟨flatE_at encM_ok hd (j := 0) rfl, flatE_at encM_ok hd (j := 1) rfl⟩
  have hfl := flatE_len encM_ok c
  rw [← ht] at hf
  rw [List.getElem?_take_of_lt (by omega), List.getElem?_take_of_lt (by omega)] at hf
  refine ⟨?_, ?_, by simp [World.frozen?, hg], by simp [World.frozen?, hg]⟩
  · have := hf.1; simpa [World.cell?, hg] using this
  · have := hf.2; simpa [World.cell?, hg] using this
theorem flat_setDM (c : List (Nat × Nat)) (i : Nat) (d : Nat × Nat) (hi : i < c.length) : ((flatE encM c).set (i * 2) (.int .u32 (d.1 : Int))).set (i * 2 + 1) (.int .u32 (d.2 : Int)) = flatE encM (c.set i d) :=
  splL_flat encM_ok hi d
theorem RowDM.put {e : TypeId} {w : World} {g cap : Nat} {c : List (Nat × Nat)} (h : RowDM e w g cap c) {i : Nat} (d : Nat × Nat) (hi : i < c.length) :
    RowDM e ((w.setCell ⟨g, i * 2, none⟩ (.int .u32 (d.1 : Int))).setCell ⟨g, i * 2 + 1, none⟩ (.int .u32 (d.2 : Int))) g cap (c.set i d) := by
  obtain ⟨hl, cur, hg, hsz, ht⟩ := h
  refine ⟨by simpa using hl, _, hsc (hsc hg), by simpa using hsz, ?_⟩
  rw [← flat_setDM c i d hi, ← ht]
  simp only [Array.toList_setIfInBounds, List.length_set]
  exact take_set2 _ _ _ _ _ _
/-- the inner loop's state -/
def CmpAtM (l : List (Nat × Nat)) (w wr : World) (g cap k0 k j : Nat) (c : List (Nat × Nat)) : Prop :=
  k0 + j + 1 ≤ l.length ∧ k ≤ k0 + j ∧ c.length = l.length ∧ k = (ddT l (k0 + j + 1)).length ∧ c.take k = ddT l (k0 + j + 1) ∧ (∀ i, k0 + j ≤ i → c[i]? = l[i]?) ∧ RowDM 55 wr g cap c ∧ w.grownBy wr (some g)
theorem CmpAtM.same {l : List (Nat × Nat)} {w wr wr' : World} {g cap k0 k j : Nat} {c : List (Nat × Nat)} (h : CmpAtM l w wr g cap k0 k j c) (hlt : k0 + j + 1 < l.length) (he : l[k0 + j + 1]? = l[k0 + j]?) (hr : RowDM 55 wr' g cap c) (hg : wr.grownBy wr' (some g)) : CmpAtM l w wr' g cap k0 k (j + 1) c := by
  obtain ⟨h1, h2, h3, h4, h5, h6, h7, h8⟩ := h
  obtain ⟨d, hd⟩ : ∃ d, l[k0 + j + 1]? = some d := ⟨_, List.getElem?_eq_getElem hlt⟩
  have e : ddT l (k0 + (j + 1) + 1) = ddT l (k0 + j + 1) := ddT_same (i := k0 + j + 1) hd ⟨by omega, by rw [show k0 + j + 1 - 1 = k0 + j from rfl, ← he, hd]⟩
  exact ⟨by omega, by omega, h3, by rw [e]; exact h4, by rw [e]; exact h5, fun i hi => h6 i (by omega), hr, gb_trans h8 hg⟩
theorem CmpAtM.more {l : List (Nat × Nat)} {w wr wr' : World} {g cap k0 k j : Nat} {c : List (Nat × Nat)} {d : Nat × Nat} (h : CmpAtM l w wr g cap k0 k j c) (hd : l[k0 + j + 1]? = some d) (he : l[k0 + j]? ≠ some d) (hr : RowDM 55 wr' g cap (c.set k d)) (hg : wr.grownBy wr' (some g)) : CmpAtM l w wr' g cap k0 (k + 1) (j + 1) (c.set k d) := by
  obtain ⟨h1, h2, h3, h4, h5, h6, h7, h8⟩ := h
  have hlt : k0 + j + 1 < l.length := (List.getElem?_eq_some_iff.1 hd).1
  have e : ddT l (k0 + (j + 1) + 1) = ddT l (k0 + j + 1) ++ [d] := ddT_more (i := k0 + j + 1) hd (fun q => he q.2)
  refine ⟨by omega, by omega, by simpa using h3, by rw [e, h4]; simp, ?_, fun i hi => ?_, hr, gb_trans h8 hg⟩
  · rw [e, ← h5, List.take_set, List.take_add_one, List.getElem?_eq_getElem (by omega : k < c.length), List.set_append_right _ _ (by simp; omega)]
    have : k - (List.take k c).length = 0 := by simp; omega
    rw [this]
    rfl
  · rw [List.getElem?_set_ne (by omega)]; exact h6 i (by omega)
end Rm
namespace Go.Proofs.Ythcehgmpajejeaa
open Gx Go.RowKit Rm
set_option linter.unusedVariables false
set_option linter.unusedSimpArgs false
def zsDM (n : Nat) : List Value := (Builtin.zeroCells #[.int .u32 0, .int .u32 0] n).toList
theorem zsD_oneM (n : Nat) : ∀ v ∈ zsDM n, v.oneCell' = true := by
  intro v hv
  simp only [zsDM, Builtin.zeroCells, Array.toList_map, List.mem_map] at hv
  obtain ⟨i, -, rfl⟩ := hv
  show ((#[.int .u32 0, .int .u32 0] : Array Value)[i % 2]!).oneCell' = true
  have h : i % 2 = 0 ∨ i % 2 = 1 := by omega
  rcases h with h | h <;> rw [h] <;> rfl
theorem run_clear_dotsM (w : World) (ty : TypeId) (b o n c : Nat) (hn : 0 < n) (hc : ∀ j, j < n * 2 → (w.cell? ⟨b, o + j, none⟩).isSome = true) (hf : ∀ j, j < n * 2 → w.frozen? ⟨b, o + j, none⟩ = false) :
    (Builtin.clear_ #[51] ty #[.slice (some ⟨b, o, none⟩) n c]).run Try.prog w = .ok (.tuple #[]) (w.setCells b o (zsDM n)) :=
  run_clear_row Try.prog w ty _ _ (.agg #[.int .u32 0, .int .u32 0]) b o n c hn Try.underlying51 (by kernel_rfl) (zsD_oneM n) hc hf
theorem flat_takePM (c : List (Nat × Nat)) (k : Nat) (hk : k ≤ c.length) : (flatE encM c).take (k * 2) = flatE encM (c.take k) := flatE_take encM_ok c k hk
theorem RowDM.drewN {e : TypeId} {w : World} {g cap : Nat} {c : List (Nat × Nat)} (h : RowDM e w g cap c) (q : Nat) : RowDM e (w.drewN q) g cap c := h
theorem RowDM.shrink {e : TypeId} {w : World} {g cap k : Nat} {c : List (Nat × Nat)} {vs : List Value} (h : RowDM e w g cap c) (hk : k ≤ c.length) : RowDM e (w.setCells g (k * 2) vs) g cap (c.take k) := by
  obtain ⟨hl, cur, hg, hsz, ht⟩ := h
  obtain ⟨cur', h1, h2, h3⟩ := setCells_block g vs (k * 2) w cur e hg
  refine ⟨by simp; omega, cur', h1, by rw [h2, hsz], ?_⟩
  have hlen : (c.take k).length = k := by simp; omega
  rw [hlen, h3 _ (Nat.le_refl _)]
  have : cur.toList.take (k * 2) = (cur.toList.take (c.length * 2)).take (k * 2) := by rw [List.take_take, Nat.min_eq_left (by omega)]
  rw [this, ht]
  exact flat_takePM _ _ hk
set_option maxHeartbeats 4000000 in
set_option maxRecDepth 100000 in
theorem compact_rowM (l : List (Nat × Nat)) (g cap : Nat) (w : World) (hr : RowDM 55 w g cap l) (hn : l.length ≤ 5000) :
    Calls Try.prog 61 #[.slice (some ⟨g, 0, none⟩) l.length cap] w fun e w' => e = .returned (.slice (some ⟨g, 0, none⟩) (ddT l l.length).length cap) ∧ RowDM 55 w' g cap (ddT l l.length) ∧ w.grownBy w' (some g) := by
  have HR := Lib.hid hr
  have hnI : (l.length : Int) ≤ 5000 := by omega
  have hcap : l.length ≤ cap := hr.1
  by_cases h2 : l.length < 2
  · have HE : Hid (ddT l l.length = l) := by
      show _ = _
      rw [ddT_all (Nat.le_refl _) (fun j h1 h3 => by omega)]; simp
    have h2I : (l.length : Int) < 2 := by omega
    clear hr
    go_enter Try.func61, Try.ntmps61
    go_wp2
    go_ret
    rw [HE.out]
    exact ⟨rfl, HR.out, gb_refl _ _⟩
  · have h2I : ¬ (l.length : Int) < 2 := by omega
    clear hr
    go_enter Try.func61, Try.ntmps61
    go_wp2
    go_loopg [3] l.length (fun gh s3 wr => ∃ k : Nat, 1 ≤ k ∧ k ≤ l.length ∧ l.length - k ≤ gh ∧ s3 = .int .i64 (k : Int) ∧ (∃ q, wr = w.drewN q) ∧ ∀ j, j < k → 0 < j → l[j]? ≠ l[j - 1]?)
    case atStart => exact ⟨1, by omega, by omega, by omega, rfl, ⟨0, rfl⟩, fun j h1 h3 => by omega⟩
    case round =>
      obtain ⟨k, hk1, hk, hg, rfl, ⟨q, hwr⟩, hall⟩ := hrel
      have HA := Lib.hid hall
      have HW := Lib.hid hwr
      have HRr : Hid (RowDM 55 wr g cap l) := by rw [hwr]; exact RowDM.drewN HR.out q
      clear hall hwr
      by_cases hlt : k < l.length
      · obtain ⟨p, hkp⟩ : ∃ p, k = p + 1 := ⟨k - 1, by omega⟩
        obtain ⟨x, hx⟩ : ∃ x, l[p]? = some x := ⟨_, List.getElem?_eq_getElem (by omega)⟩
        obtain ⟨y, hy⟩ : ∃ y, l[k]? = some y := ⟨_, List.getElem?_eq_getElem (by omega)⟩
        obtain ⟨a0, a1, a2, a3⟩ := RowDM.cell HRr.out hx
        obtain ⟨b0, b1, b2, b3⟩ := RowDM.cell HRr.out hy
        have hltI : (k : Int) < (l.length : Int) := by omega
        have hsub : (k : Int) - 1 = (p : Int) := by omega
        have hpI : (p : Int) < (l.length : Int) := by omega
        have hwp : IntKind.i64.wrap (p : Int) = (p : Int) := IntWalk.i64_in _ (by omega)
        have HX := Lib.hid hx
        have HY := Lib.hid hy
        have HK := Lib.hid hkp
        obtain ⟨x1, x2⟩ := x
        obtain ⟨y1, y2⟩ := y
        simp only at a0 a1 b0 b1
        clear hx hy a2 a3 b2 b3 hkp
        by_cases hdup : (y1, y2) = (x1, x2)
        · obtain ⟨rfl, rfl⟩ := Prod.mk.inj hdup
          clear hdup
          have HS : Hid (∀ m, CmpAtM l w (wr.drewN m) g cap k k 0 l) := by
            intro m
            have hks := HK.out
            have e1 : ddT l (k + 1) = ddT l k := ddT_same (i := k) HY.out ⟨by omega, by rw [show k - 1 = p by omega]; exact HX.out⟩
            have e2 : ddT l k = l.take k := ddT_all (by omega) HA.out
            refine ⟨by omega, by omega, rfl, ?_, ?_, fun i _ => rfl, RowDM.drewN HRr.out m, ?_⟩
            · show k = (ddT l (k + 1)).length
              rw [e1, e2]; simp; omega
            · show l.take k = ddT l (k + 1)
              rw [e1, e2]
            · rw [HW.out]; exact gb_trans (gb_drewN w g q) (gb_drewN _ g m)
          go_wp2_with fail
          go_quiet (fail)
          have HI := Lib.hid (HS.out nq)
          generalize (wr.drewN nq) = w1 at *
          clear HS a0 a1 b0 b1
          have hkc : k ≤ cap := by omega
          go_wp2
          generalize hn2 : l.length - k = n2 at *
          have HN2 := Lib.hid hn2
          clear hn2
          go_loopg [3, 5] l.length (fun gh s3 s5 wr => ∃ (i j j' : Nat) (c : List (Nat × Nat)), s3 = .int .i64 (i : Int) ∧ s5 = .int .i64 (j : Int) ∧ j = j' + 1 ∧ l.length - (k + j) ≤ gh ∧ CmpAtM l w wr g cap k i j' c)
          case atStart => exact ⟨k, 1, 0, l, rfl, rfl, rfl, by omega, HI.out⟩
          case round =>
            obtain ⟨i, j, j', c, rfl, rfl, hjj, hg2, hat⟩ := hrel
            have HT := Lib.hid hat
            have HJ := Lib.hid hjj
            have hij : i ≤ k + j' := hat.2.1
            have hcl : c.length = l.length := hat.2.2.1
            have hle : k + j ≤ l.length := by have := hat.1; omega
            clear hat hjj
            by_cases hjl : k + j < l.length
            · obtain ⟨x, hx⟩ : ∃ x, l[k + j]? = some x := ⟨_, List.getElem?_eq_getElem (by omega)⟩
              obtain ⟨y, hy⟩ : ∃ y, l[k + j']? = some y := ⟨_, List.getElem?_eq_getElem (by have := HJ.out; omega)⟩
              obtain ⟨z, hz⟩ : ∃ z, c[i]? = some z := ⟨_, List.getElem?_eq_getElem (by have := HJ.out; omega)⟩
              have hRow := HT.out.2.2.2.2.2.2.1
              have hhi := HT.out.2.2.2.2.2.1
              have hx' := (hhi (k + j) (by have := HJ.out; omega)).trans hx
              have hy' := (hhi (k + j') (by omega)).trans hy
              obtain ⟨a0, a1, a2, a3⟩ := RowDM.cell hRow hx'
              obtain ⟨b0, b1, b2, b3⟩ := RowDM.cell hRow hy'
              obtain ⟨d0, d1, d2, d3⟩ := RowDM.cell hRow hz
              have o1 : (k + j) * 2 = k * 2 + j * 2 := by omega
              have o2 : (k + j') * 2 = k * 2 + j' * 2 := by omega
              rw [o1] at a0 a1
              rw [o2] at b0 b1
              have HX2 := Lib.hid hx
              have HY2 := Lib.hid hy
              have hjI : (j : Int) < (n2 : Int) := by have := HN2.out; omega
              have hsub : (j : Int) - 1 = (j' : Int) := by have := HJ.out; omega
              have hj'I : (j' : Int) < (n2 : Int) := by omega
              have hiI : (i : Int) < (l.length : Int) := by have := HJ.out; omega
              have hjb : (j : Int) ≤ 5000 := by omega
              have hwj : IntKind.i64.wrap (j' : Int) = (j' : Int) := IntWalk.i64_in _ (by omega)
              have HRow := Lib.hid hRow
              have HIC : Hid (i < c.length) := by show _ < _; have := HJ.out; omega
              obtain ⟨x1, x2⟩ := x
              obtain ⟨y1, y2⟩ := y
              obtain ⟨z1, z2⟩ := z
              simp only at a0 a1 b0 b1 d0 d1
              clear hx hy hz hx' hy' hRow hhi a2 a3 b2 b3 o1 o2
              by_cases hsame : (x1, x2) = (y1, y2)
              · obtain ⟨rfl, rfl⟩ := Prod.mk.inj hsame
                clear hsame
                have HN : Hid (∀ m, CmpAtM l w (wr.drewN m) g cap k i (j' + 1) c) := fun m => CmpAtM.same HT.out (by have := HJ.out; omega) (by rw [show k + j' + 1 = k + j by have := HJ.out; omega, HX2.out, HY2.out]) (RowDM.drewN HRow.out m) (gb_drewN _ g m)
                go_wp2_with fail
                go_quiet (fail)
                go_wp2
                go_roundg (l.length - (k + (j + 1)))
                case measure => omega
                case rel => exact ⟨i, j + 1, j' + 1, c, rfl, by go_num, by rw [HJ.out], Nat.le_refl _, HN.out _⟩
              · have HN : Hid (∀ m, CmpAtM l w (((wr.drewN m).setCell ⟨g, i * 2, none⟩ (.int .u32 (x1 : Int))).setCell ⟨g, i * 2 + 1, none⟩ (.int .u32 (x2 : Int))) g cap k (i + 1) (j' + 1) (c.set i (x1, x2))) := fun m =>
                  CmpAtM.more (d := (x1, x2)) HT.out (by rw [show k + j' + 1 = k + j by have := HJ.out; omega, HX2.out]) (by rw [HY2.out]; intro e; exact hsame (Option.some.inj e).symm) (RowDM.put (RowDM.drewN HRow.out m) (x1, x2) HIC.out) (gb_trans (gb_drewN _ g m) (gb_trans (gset _ g _ _) (gset _ g _ _)))
                have hne : ¬ (x1 = y1 ∧ x2 = y2) := fun e => hsame (by rw [e.1, e.2])
                clear hsame
                have hcase : (¬ x1 = y1) ∨ (x1 = y1 ∧ ¬ x2 = y2) := by omega
                rcases hcase with h1 | ⟨rfl, h1⟩
                · clear hne
                  go_wp2_with fail
                  go_quiet (fail)
                  go_wp2
                  go_roundg (l.length - (k + (j + 1)))
                  case measure => omega
                  case rel => exact ⟨i + 1, j + 1, j' + 1, _, by go_num, by go_num, by rw [HJ.out], Nat.le_refl _, HN.out _⟩
                · clear hne
                  have h1I : ¬ (x2 : Int) = (y2 : Int) := by omega
                  go_wp2_with fail
                  go_quiet (fail)
                  go_wp2
                  go_roundg (l.length - (k + (j + 1)))
                  case measure => omega
                  case rel => exact ⟨i + 1, j + 1, j' + 1, _, by go_num, by go_num, by rw [HJ.out], Nat.le_refl _, HN.out _⟩
            · have hend : k + j = l.length := by omega
              have hjI : ¬ (j : Int) < (n2 : Int) := by have := HN2.out; omega
              have hil : i < l.length := by have := HJ.out; omega
              have hRow := HT.out.2.2.2.2.2.2.1
              have hblk := hRow.2
              have hclr : ∀ ty, (Builtin.clear_ #[51] ty #[.slice (some ⟨g, i * 2, none⟩) (l.length - i) (cap - i)]).run Try.prog wr = .ok (.tuple #[]) (wr.setCells g (i * 2) (zsDM (l.length - i))) := fun ty => by
                obtain ⟨cur, hgc, hsz, htk⟩ := hblk
                exact run_clear_dotsM wr ty g (i * 2) _ _ (by omega) (fun m hm => by simp only [World.cell?, hgc]; simp; omega) (fun m hm => by simp [World.frozen?, hgc])
              have HF : Hid ((ddT l l.length).length = i ∧ RowDM 55 (wr.setCells g (i * 2) (zsDM (l.length - i))) g cap (ddT l l.length) ∧ w.grownBy (wr.setCells g (i * 2) (zsDM (l.length - i))) (some g)) := by
                obtain ⟨q1, q2, q3, q4, q5, q6, q7, q8⟩ := HT.out
                have e : k + j' + 1 = l.length := by have := HJ.out; omega
                rw [e] at q4 q5
                refine ⟨q4.symm, ?_, gb_trans q8 (setCells_grown g _ _ _)⟩
                rw [← q5]
                exact RowDM.shrink q7 (by omega)
              have hiI : (i : Int) < (l.length : Int) := by omega
              clear hRow hblk
              go_wp2
              go_ret
              obtain ⟨f1, f2, f3⟩ := HF.out
              exact ⟨by rw [f1]; rfl, f2, f3⟩
        · have HN : Hid (∀ j, j < k + 1 → 0 < j → l[j]? ≠ l[j - 1]?) := fun j h1 h3 => by
            by_cases e : j = k
            · subst e
              rw [show j - 1 = p by have := HK.out; omega, HX.out, HY.out]
              intro e; exact hdup (Option.some.inj e)
            · exact HA.out j (by omega) h3
          have hcase : (¬ y1 = x1) ∨ (y1 = x1 ∧ ¬ y2 = x2) := by
            by_cases e : y1 = x1
            · exact .inr ⟨e, fun e' => hdup (by rw [e, e'])⟩
            · exact .inl e
          clear hdup
          rcases hcase with h1 | ⟨rfl, h1⟩
          · go_wp2_with fail
            go_quiet (fail)
            go_wp2
            go_roundg (l.length - (k + 1))
            case measure => omega
            case rel => exact ⟨k + 1, by omega, by omega, Nat.le_refl _, by go_num, ⟨q + nq, by rw [HW.out]; exact (drewN_add ..)⟩, HN.out⟩
          · have h1I : ¬ (y2 : Int) = (x2 : Int) := by omega
            go_wp2_with fail
            go_quiet (fail)
            go_wp2
            go_roundg (l.length - (k + 1))
            case measure => omega
            case rel => exact ⟨k + 1, by omega, by omega, Nat.le_refl _, by go_num, ⟨q + nq, by rw [HW.out]; exact (drewN_add ..)⟩, HN.out⟩
      · obtain rfl : k = l.length := by omega
        have HE : Hid (ddT l l.length = l) := by
          show _ = _
          rw [ddT_all (Nat.le_refl _) HA.out]; simp
        go_wp2
        go_ret
        rw [HE.out]
        exact ⟨rfl, HRr.out, by rw [HW.out]; exact gb_drewN w g q⟩
/-- over a row that is owned -/
theorem compact_ownM (l : List (Nat × Nat)) (v : Value) (w : World) (base : Nat) (hl : l.length ≤ 5000) (ho : w.ownsRow base 55 2 v l.length (flatE encM l)) :
    Calls Try.prog 61 #[v] w fun e w' => ∃ u, e = .returned u ∧ u.ownBlock = v.ownBlock ∧ w'.ownsRow base 55 2 u (ddT l l.length).length (flatE encM (ddT l l.length)) ∧ w.grownBy w' v.ownBlock := by
  obtain ⟨hxl, ⟨rfl, hn⟩ | ⟨g, cap, cur, rfl, hbg, hg, hnc, hcm, hcs, htake⟩⟩ := ho
  · obtain rfl : l = [] := List.eq_nil_of_length_eq_zero hn
    go_enter Try.func61, Try.ntmps61
    go_wp2
    go_ret
    exact ⟨_, rfl, rfl, World.ownsRow_nil _ _ _ _, ⟨rfl, rfl, rfl, Nat.le_refl _, fun _ _ _ => rfl⟩⟩
  · refine (compact_rowM l g cap w ⟨hnc, cur, hg, hcs, htake⟩ hl).mono ?_
    rintro e w' ⟨rfl, ⟨h1, cur', h2, h3, h4⟩, h5⟩
    exact ⟨_, rfl, rfl, ⟨flatE_len encM_ok _, .inr ⟨g, cap, cur', rfl, hbg, h2, h1, hcm, h3, h4⟩⟩, h5⟩
end Go.Proofs.Ythcehgmpajejeaa

