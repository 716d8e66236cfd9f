/- Joined: FilA, FilE, FilDA, FilK, FilDB, FilL, PtC, PtD, PtE, PtF, PtG, ConcatP, PtH, PtL, PtM, GxS, ShA, GxR. -/
import Derived.Test.YtglbnggkkjhokaaGreatSd2
import Derived.StillTailTactics
import Derived.Deep.RegionHeld3
import Derived.Deep.AppendLies
import Derived.Deep.DrawnRows
import Derived.Laws.Bits128
import Derived.ChangeKeysEq
import Derived.Lib.AppendZerosOnto
import Derived.Lib.AppendZeros
import Derived.Laws.AppendOwnNone
import Derived.Laws.StructEq
import Derived.Laws.Strings
import Derived.Laws.RangeString
import Derived.Lib.OthersKept
set_option linter.unusedVariables false
set_option linter.unusedSimpArgs false
set_option maxHeartbeats 8000000
set_option maxRecDepth 100000
/- Joined: FilP, FilA, FilB, FilC, FilD. -/
/- The plain mathematics of filters: boxes as they are read, valid boxes, the table of a filter. -/
namespace Rm
open Go Go.RowKit
abbrev BoxI := (Int × Int) × List (Int × Int)
def chkB (b : BoxI) : Int := if chk b.1.1 b.1.2 == 0 then chkS b.2 else chk b.1.1 b.1.2
def chkFGo : List BoxI → Int
 | [] => 0
 | b :: r => if chkB b == 0 then chkFGo r else chkB b
def chkF (l : List BoxI) : Int := if 40 < l.length then 2 else chkFGo l
abbrev Bx := (Nat × Nat) × Nat
def OkB (b : Bx) : Prop := Vld b.1.1 b.1.2 ∧ b.2 < 2 ^ 32
def OkF (F : List Bx) : Prop := ∀ b ∈ F, OkB b
def boxI (b : Bx) : BoxI := (((b.1.1 : Nat), (b.1.2 : Nat)), pairs (canon b.2))
theorem chkB_of {b : Bx} (h : OkB b) : chkB (boxI b) = 0 := by
 unfold chkB boxI
 simp only
 rw [h.1.chk, chkS_of (canon_VF b.2)]
 rfl
theorem chkFGo_of {F : List Bx} (h : OkF F) : chkFGo (F.map boxI) = 0 := by
 induction F with
 | nil => rfl
 | cons b F ih =>
  show (if chkB (boxI b) == 0 then chkFGo (F.map boxI) else chkB (boxI b)) = 0
  rw [chkB_of (h b (List.mem_cons_self ..)), ih (fun c hc => h c (List.mem_cons_of_mem _ hc))]
  rfl
theorem chkF_of {F : List Bx} (h : OkF F) (hl : F.length ≤ 40) : chkF (F.map boxI) = 0 := by
 unfold chkF
 rw [if_neg (by simp; omega)]
 exact chkFGo_of h
def inC (b : Bx) (t : Nat) : Bool := hasR (b.1.1 : Nat) (b.1.2 : Nat) (t : Nat)
def addB (t m : Nat) (b : Bx) : Nat := if inC b t then m ||| b.2 else m
def tabF (F : List Bx) (t : Nat) : Nat := F.foldl (addB t) 0
theorem tabF_snoc (F : List Bx) (b : Bx) (t : Nat) : tabF (F ++ [b]) t = addB t (tabF F t) b := by simp [tabF]
theorem tabF_take {F : List Bx} {k : Nat} {b : Bx} (h : F[k]? = some b) (t : Nat) : tabF (F.take (k + 1)) t = addB t (tabF (F.take k) t) b := by
 obtain ⟨hk, e⟩ := List.getElem?_eq_some_iff.1 h
 rw [List.take_succ_eq_append_getElem hk, e, tabF_snoc]
theorem foldB_bit (F : List Bx) (t m n : Nat) : (F.foldl (addB t) m).testBit n = true ↔ m.testBit n = true ∨ ∃ b ∈ F, inC b t = true ∧ b.2.testBit n = true := by
 induction F generalizing m with
 | nil => simp
 | cons b F ih =>
  rw [List.foldl_cons, ih]
  unfold addB
  split
  ·rename_i h
   rw [Nat.testBit_or, Bool.or_eq_true]
   constructor
   ·rintro ((h1 | h1) | ⟨c, hc, h2⟩)
    ·exact .inl h1
    ·exact .inr ⟨b, List.mem_cons_self .., h, h1⟩
    ·exact .inr ⟨c, List.mem_cons_of_mem _ hc, h2⟩
   ·rintro (h1 | ⟨c, hc, h2⟩)
    ·exact .inl (.inl h1)
    ·rcases List.mem_cons.1 hc with rfl | hc
     ·exact .inl (.inr h2.2)
     ·exact .inr ⟨c, hc, h2⟩
  ·rename_i h
   constructor
   ·rintro (h1 | ⟨c, hc, h2⟩)
    ·exact .inl h1
    ·exact .inr ⟨c, List.mem_cons_of_mem _ hc, h2⟩
   ·rintro (h1 | ⟨c, hc, h2⟩)
    ·exact .inl h1
    ·rcases List.mem_cons.1 hc with rfl | hc
     ·exact absurd h2.1 h
     ·exact .inr ⟨c, hc, h2⟩
theorem tabF_bit (F : List Bx) (t n : Nat) : (tabF F t).testBit n = true ↔ ∃ b ∈ F, inC b t = true ∧ b.2.testBit n = true := by
 unfold tabF
 rw [foldB_bit]
 simp
theorem foldB_lt (F : List Bx) (t m : Nat) (hm : m < 2 ^ 32) (h : OkF F) : F.foldl (addB t) m < 2 ^ 32 := by
 induction F generalizing m with
 | nil => exact hm
 | cons b F ih =>
  refine ih _ ?_ (fun c hc => h c (List.mem_cons_of_mem _ hc))
  unfold addB
  split
  ·exact Nat.or_lt_two_pow hm (h b (List.mem_cons_self ..)).2
  ·exact hm
theorem tabF_lt {F : List Bx} (h : OkF F) (t : Nat) : tabF F t < 2 ^ 32 := foldB_lt F t 0 (by decide) h
theorem OkF.take {F : List Bx} (h : OkF F) (k : Nat) : OkF (F.take k) := fun b hb => h b (List.mem_of_mem_take hb)
end Rm
/- A slice of boxes reads as a list; the contract of filter.Check. -/
namespace Go.Proofs.YtglbnggkkjhokaaGreat
open Go.RowKit Rm
def RdF (w : World) (v : Value) (l : List BoxI) : Prop :=
  ∃ a c, v = .slice a l.length c ∧ l.length ≤ c ∧ (l ≠ [] → ∃ b off, a = some ⟨b, off, none⟩ ∧ b < w.heap.size ∧
    ∀ i p, l[i]? = some p → ∃ sv, w.cell? ⟨b, off + i * 3, none⟩ = some (.int .i64 p.1.1) ∧ w.cell? ⟨b, off + i * 3 + 1, none⟩ = some (.int .i64 p.1.2) ∧ w.cell? ⟨b, off + i * 3 + 2, none⟩ = some sv ∧ Rd2 w sv p.2)
theorem RdF.gr {w w' : World} {v : Value} {l : List BoxI} (h : RdF w v l) (g : Gr w w') : RdF w' v l := by
 obtain ⟨a, c, e, hc, h⟩ := h
 refine ⟨a, c, e, hc, fun hl => ?_⟩
 obtain ⟨b, off, ea, hb, hx⟩ := h hl
 refine ⟨b, off, ea, Nat.lt_of_lt_of_le hb g.le, fun i p hp => ?_⟩
 obtain ⟨sv, h1, h2, h3, h4⟩ := hx i p hp
 exact ⟨sv, (g.cells.1 b _ hb).trans h1, (g.cells.1 b _ hb).trans h2, (g.cells.1 b _ hb).trans h3, h4.gr g⟩
theorem RdF.alloc {w : World} {v : Value} {l : List BoxI} (h : RdF w v l) (o : Obj) : RdF (w.alloc o) v l := h.gr ((Gr.refl w).alloc o)
theorem RdF.nil (w : World) : RdF w (.slice none 0 0) [] := ⟨none, 0, rfl, Nat.le_refl _, fun h => absurd rfl h⟩
theorem rd2_form {w : World} {v : Value} {l : List (Int × Int)} (h : Rd2 w v l) : ∃ a c, v = .slice a l.length c := by
 obtain ⟨a, c, e, _⟩ := h
 exact ⟨a, c, e⟩
theorem fdrop_at {l : List BoxI} {k : Nat} {p : BoxI} (h : l[k]? = some p) : l.drop k = p :: l.drop (k + 1) := by
 obtain ⟨hk, e⟩ := List.getElem?_eq_some_iff.1 h
 rw [List.drop_eq_getElem_cons hk, e]
theorem fcheck_any (v : Value) (l : List BoxI) (w : World) (hr : RdF w v l) :
  Calls Tryz.prog 50 #[v] w fun e w' => e = .returned (.int .i64 (chkF l)) ∧ Gr w w' := by
 obtain ⟨a, cp, rfl, hcp, hx⟩ := hr
 by_cases h40 : 40 < l.length
 ·have e : chkF l = 2 := by simp [chkF, h40]
  rw [e]
  have hz : (40 : Int) < (l.length : Int) := by omega
  clear hx
  go_enter Tryz.func50, Tryz.ntmps50
  go_wp2
  go_ret
  exact ⟨rfl, Gr.refl _⟩
 ·have e : chkF l = chkFGo l := by simp [chkF, h40]
  rw [e]
  clear e
  have hz : ¬ (40 : Int) < (l.length : Int) := by omega
  have HX := Lib.hid hx
  clear hx
  go_enter Tryz.func50, Tryz.ntmps50
  go_wp2
  go_loopw [12] (fun i wr => ∃ k : Nat, k ≤ l.length ∧ i = .int .i64 k ∧ Hid (chkFGo l = chkFGo (l.drop k)) ∧ Gr w wr) (fun i _ => l.length - (intOf i).toNat)
  case atStart => exact ⟨0, by omega, rfl, rfl, Gr.refl _⟩
  case round =>
   obtain ⟨k, hk, rfl, hh, hg⟩ := hrel
   generalize wr = wo at *
   by_cases hlt : k < l.length
   ·obtain ⟨⟨⟨y, n⟩, s⟩, hp⟩ : ∃ p, l[k]? = some p := ⟨_, List.getElem?_eq_getElem hlt⟩
    obtain ⟨b, off, rfl, hb, hcell⟩ := HX.out (by intro e; rw [e] at hlt; simp at hlt)
    obtain ⟨sv, c1, c2, c3, hs⟩ := hcell k _ hp
    rw [← hg.cells.1 b _ hb] at c1 c2 c3
    simp only at c1 c2 c3 hs
    obtain ⟨sa, sc, rfl⟩ := rd2_form hs
    have hs1 := Lib.hid (hs.gr hg)
    have hbr : b < wo.heap.size := Nat.lt_of_lt_of_le hb hg.le
    have HH : Hid (chkFGo l = if chkB ((y, n), s) == 0 then chkFGo (l.drop (k + 1)) else chkB ((y, n), s)) := by
     rw [hh.out, fdrop_at hp]; rfl
    clear hh hcell hs hp
    have hk16 : (k : Int) ≤ 40 := by omega
    cases hc : (chk y n == 0)
    ·have hc' := bne_of' hc
     have E1 : Hid (chkFGo l = chk y n) := by
      have := HH.out
      simp only [chkB, hc, Bool.false_eq_true, if_false] at this
      exact this
     clear HH
     go_wp2_with fail
     refine (check_any _ _ _).mono ?_
     rintro e w1 ⟨rfl, g1⟩
     go_wp2_with fail
     go_ret
     exact ⟨by rw [E1.out]; rfl, (hg.alloc _).trans g1⟩
    ·have hc' := bne_of hc
     cases hd : (chkS s == 0)
     ·have hd' := sbne_of' hd
      have E1 : Hid (chkFGo l = chkS s) := by
       have := HH.out
       simp only [chkB, hc, if_true, hd, Bool.false_eq_true, if_false] at this
       exact this
      clear HH
      go_wp2_with fail
      refine (check_any _ _ _).mono ?_
      rintro e w1 ⟨rfl, g1⟩
      obtain ⟨k1, k2⟩ := g1.cells
      go_wp2_with fail
      refine (scheck_any _ _ _ ((hs1.out.alloc _).gr g1)).mono ?_
      rintro e w2 ⟨rfl, g2⟩
      go_wp2_with fail
      go_ret
      exact ⟨by rw [E1.out]; rfl, ((hg.alloc _).trans g1).trans g2⟩
     ·have hd' := sbne_of hd
      have E1 : Hid (chkFGo l = chkFGo (l.drop (k + 1))) := by
       have := HH.out
       simp only [chkB, hc, if_true, hd] at this
       exact this
      clear HH
      go_wp2_with fail
      refine (check_any _ _ _).mono ?_
      rintro e w1 ⟨rfl, g1⟩
      obtain ⟨k1, k2⟩ := g1.cells
      go_wp2_with fail
      refine (scheck_any _ _ _ ((hs1.out.alloc _).gr g1)).mono ?_
      rintro e w2 ⟨rfl, g2⟩
      go_wp2_with fail
      go_roundw
      case rel => exact ⟨k + 1, by omega, by go_num, E1, ((hg.alloc _).trans g1).trans g2⟩
      case measure => simp [intOf]; omega
   ·obtain rfl : k = l.length := by omega
    have E1 : Hid (chkFGo l = 0) := by rw [hh.out, List.drop_length]; rfl
    clear hh
    go_wp2
    go_ret
    exact ⟨by rw [E1.out]; rfl, hg⟩
end Go.Proofs.YtglbnggkkjhokaaGreat
/- The contracts of package filter's has, setOf and tableOf. -/
namespace Rm
open Go Go.RowKit
theorem u64_pow (n : Nat) (h : n ≤ 32) : IntKind.u64.wrap (2 ^ n) = ((2 ^ n : Nat) : Int) := by
 rw [IntKind.wrap_u64]
 have h1 : (2 : Nat) ^ n ≤ 2 ^ 32 := Nat.pow_le_pow_right (by omega) h
 have h2 : ((2 ^ n : Nat) : Int) = (2 : Int) ^ n := by simp
 rw [← h2]
 generalize 2 ^ n = x at *
 omega
theorem bit_eq64 (m n : Nat) (hm : m < 2 ^ 32) (hn : n < 32) : (bits .and .u64 (m : Int) (IntKind.u64.wrap (2 ^ n)) != 0) = m.testBit n := by
 have h1 : (2 : Nat) ^ n < 2 ^ 32 := Nat.pow_lt_pow_right (by omega) hn
 rw [u64_pow n (by omega), u64_and_nat m (2 ^ n) (by omega) (by omega), ← and_pow_bne]
 rw [Bool.eq_iff_iff]
 simp only [bne_iff_ne, ne_eq]
 omega
theorem fill_bit (f t i : Nat) (h : f ≤ t) : (2 ^ t - 2 ^ f).testBit i = decide (f ≤ i ∧ i < t) := by
  obtain ⟨d, rfl⟩ : ∃ d, t = f + d := ⟨t - f, by omega⟩
  have e : 2 ^ (f + d) - 2 ^ f = 2 ^ f * (2 ^ d - 1) := by rw [Nat.pow_add, Nat.mul_sub, Nat.mul_one]
  rw [e, Nat.testBit_two_pow_mul, Nat.testBit_two_pow_sub_one, Bool.eq_iff_iff]
  simp
  omega
theorem or_fill (m f t : Nat) (h : f ≤ t) : m ||| (2 ^ t - 2 ^ f) = orTo m f (t - f) := by
 apply Nat.eq_of_testBit_eq
 intro i
 rw [Nat.testBit_or, fill_bit f t i h, orTo_bit]
 congr 2
 have : f + (t - f) = t := by omega
 rw [this]
theorem fill_eq (m f t : Nat) (hm : m < 2 ^ 32) (h : f ≤ t) (ht : t ≤ 32) : bits .or .u64 (m : Int) (IntKind.u64.wrap (IntKind.u64.wrap (2 ^ t) - IntKind.u64.wrap (2 ^ f))) = ((orTo m f (t - f) : Nat) : Int) := by
 have h1 : (2 : Nat) ^ t ≤ 2 ^ 32 := Nat.pow_le_pow_right (by omega) ht
 have h2 : (2 : Nat) ^ f ≤ 2 ^ t := Nat.pow_le_pow_right (by omega) h
 rw [u64_pow t ht, u64_pow f (by omega), ← or_fill m f t h]
 have e : IntKind.u64.wrap (((2 ^ t : Nat) : Int) - ((2 ^ f : Nat) : Int)) = ((2 ^ t - 2 ^ f : Nat) : Int) := by
  rw [IntKind.wrap_u64]
  generalize 2 ^ t = x at *
  generalize 2 ^ f = y at *
  omega
 have h3 : 2 ^ t - 2 ^ f < 18446744073709551616 := Nat.lt_of_le_of_lt (Nat.sub_le _ _) (by omega)
 rw [e, u64_or_nat m _ (by omega) h3]
def tArr (T : Nat → Nat) : Array Value := ((List.range 16).map fun i => Value.int .u64 (T i : Nat)).toArray
theorem tArr_size (T : Nat → Nat) : (tArr T).size = 16 := by simp [tArr]
theorem tArr_at (T : Nat → Nat) (i : Nat) (h : i < 16) : (tArr T)[i]? = some (.int .u64 (T i : Nat)) := by simp [tArr, h]
theorem tArr_one (T : Nat → Nat) : (tArr T).all (·.oneCell') = true := by
 simp [tArr, Value.oneCell']
theorem tArr_ext {s t : Nat → Nat} (h : ∀ i, i < 16 → s i = t i) : tArr s = tArr t := by
 unfold tArr
 congr 1
 apply List.map_congr_left
 intro i hi
 rw [h i (List.mem_range.1 hi)]
theorem tArr_set (s : Nat → Nat) (k : Nat) (b : Nat) (hk : k < 16) : (tArr s).setIfInBounds k (.int .u64 (b : Nat)) = tArr (fun i => if i = k then b else s i) := by
 apply Array.ext
 ·simp [tArr]
 ·intro i h1 h2
  simp [tArr] at h1 h2 ⊢
  by_cases e : i = k
  ·subst e; simp
  ·have : ¬ k = i := fun h => e h.symm
   simp [this, e]
end Rm
namespace Go.Proofs.YtglbnggkkjhokaaGreat
open Go.RowKit Rm
theorem fhas_any (m n : Nat) (w : World) (hm : m < 2 ^ 32) (hn : n < 32) :
  Calls Tryz.prog 112 #[.int .u64 m, .int .i64 n] w fun e w' => e = .returned (.bool (m.testBit n)) ∧ w = w' := by
 have h1 : ((n : Nat) : Int) < 32 := by omega
 have HB := Lib.hid (bit_eq64 m n hm hn)
 clear hm
 go_enter Tryz.func112, Tryz.ntmps112
 go_wp2
 go_ret
 exact ⟨by rw [← HB.out]; rfl, rfl⟩
theorem setOf_any (v : Value) (L : List (Nat × Nat)) (w : World) (hr : Rd2 w v (pairs L)) (hv : VF 0 L) :
  Calls Tryz.prog 160 #[v] w fun e w' => e = .returned (.int .u64 (maskL L : Nat)) ∧ Gr w w' := by
 obtain ⟨a, cp, rfl, hcp, hx⟩ := hr
 rw [pairs_len] at hcp
 rw [pairs_len]
 have HX := Lib.hid hx
 have HV := Lib.hid hv
 have hlen := hv.len16
 have hlen' : (L.length : Int) ≤ 16 := by omega
 clear hx hv
 go_enter Tryz.func160, Tryz.ntmps160
 go_wp2
 go_loopw [3, 8] (fun m i wr => ∃ k : Nat, k ≤ L.length ∧ i = .int .i64 k ∧ m = .int .u64 (maskL (L.take k) : Nat) ∧ Gr w wr) (fun _ i _ => L.length - (intOf i).toNat)
 case atStart => exact ⟨0, by omega, rfl, rfl, Gr.refl _⟩
 case round =>
  obtain ⟨k, hk, rfl, rfl, hg⟩ := hrel
  generalize wr = wo at *
  by_cases hlt : k < L.length
  ·obtain ⟨⟨f, t⟩, hp⟩ : ∃ p, L[k]? = some p := ⟨_, List.getElem?_eq_getElem hlt⟩
   obtain ⟨b, off, rfl, hb, hcell⟩ := HX.out (by intro e; rw [← pairs_len, e] at hlt; simp at hlt)
   have c1 : w.cell? ⟨b, off + k * 2, none⟩ = some (.int .i64 f) := (hcell k _ (pairs_at hp)).1
   have c2 : w.cell? ⟨b, off + k * 2 + 1, none⟩ = some (.int .i64 t) := (hcell k _ (pairs_at hp)).2
   rw [← hg.cells.1 b _ hb] at c1 c2
   have hbr : b < wo.heap.size := Nat.lt_of_lt_of_le hb hg.le
   have hft : f < t ∧ t ≤ 32 := HV.out.le (f, t) (List.mem_of_getElem? hp)
   have HM := Lib.hid (maskL_take hp)
   have hml : maskL (L.take k) < 2 ^ 32 := maskL_lt (fun p hp => HV.out.le p (List.mem_of_mem_take hp))
   clear hcell
   generalize maskL (L.take k) = m at *
   have HF := Lib.hid (fill_eq m f t hml (by omega) hft.2)
   have hk16 : (k : Int) ≤ 16 := by omega
   have hf32 : (f : Int) < 32 := by omega
   have ht32 : (t : Int) ≤ 32 := by omega
   clear hml
   go_wp2
   go_quiet (fail)
   go_wp2
   go_roundw
   case rel => exact ⟨k + 1, by omega, by go_num, by rw [HM.out, ← HF.out], (hg.alloc _).drewN _⟩
   case measure => simp [intOf]; omega
  ·obtain rfl : k = L.length := by omega
   go_wp2
   go_ret
   exact ⟨by rw [List.take_length]; rfl, hg⟩
theorem table_info : (Tryz.prog.info? 181).map (·.size) = some 16 := by kernel_rfl
def midT (F : List Bx) (b : Bx) (k j t : Nat) : Nat := if t < j then addB t (tabF (F.take k) t) b else tabF (F.take k) t
def TabAt (w wr : World) (T : Nat → Nat) : Prop := Gr w wr ∧ wr.heap[w.heap.size + 1]? = some (.cells (tArr T) 181 (0, 0)) ∧ wr.heap[w.heap.size]? = some (.cells (tArr fun _ => 0) 181 (0, 0))
theorem TabAt.more {w wr w' : World} {T : Nat → Nat} (h : TabAt w wr T) (g : Gr wr w') : TabAt w w' T :=
 ⟨h.1.trans g, (Below.block g _ (Blk_lt h.2.1)).trans h.2.1, (Below.block g _ (Blk_lt h.2.2)).trans h.2.2⟩
theorem TabAt.set {w wr : World} {T : Nat → Nat} (h : TabAt w wr T) (k m : Nat) (hk : k < 16) : TabAt w (wr.setCell ⟨w.heap.size + 1, k, none⟩ (.int .u64 (m : Nat))) (fun i => if i = k then m else T i) := by
 refine ⟨h.1.setCell (by simp) _, ?_, ?_⟩
 ·rw [heap_setCell_same _ _ _ _ _ _ h.2.1, tArr_set _ _ _ hk]
 ·rw [heap_setCell_other _ _ _ _ (by simp)]; exact h.2.2
theorem TabAt.ext {w wr : World} {T T' : Nat → Nat} (h : TabAt w wr T) (e : ∀ i, i < 16 → T i = T' i) : TabAt w wr T' := by rw [TabAt, ← tArr_ext e]; exact h
def Three (w : World) (b : Nat) (y n : Int) (s : Value) : Prop := b < w.heap.size ∧ w.cell? ⟨b, 0, none⟩ = some (.int .i64 y) ∧ w.cell? ⟨b, 1, none⟩ = some (.int .i64 n) ∧ w.cell? ⟨b, 2, none⟩ = some s
theorem Three.gr {w w' : World} {b : Nat} {y n : Int} {s : Value} (h : Three w b y n s) (g : Gr w w') : Three w' b y n s :=
 ⟨Nat.lt_of_lt_of_le h.1 g.le, (g.cells.1 b 0 h.1).trans h.2.1, (g.cells.1 b 1 h.1).trans h.2.2.1, (g.cells.1 b 2 h.1).trans h.2.2.2⟩
theorem Three.new (w : World) (y n : Int) (s : Value) (t : TypeId) : Three (w.alloc (.cells #[.int .i64 y, .int .i64 n, s] t)) w.heap.size y n s := by
 refine ⟨by simp, ?_, ?_, ?_⟩ <;> simp [go_sem]
theorem Three.far {w : World} {b : Nat} {y n : Int} {s : Value} (h : Three w b y n s) {p : Addr} (hp : b ≠ p.block) (u : Value) : Three (w.setCell p u) b y n s := by
 obtain ⟨h1, h2, h3, h4⟩ := h
 refine ⟨by simpa using h1, ?_, ?_, ?_⟩
 ·rw [World.cell?_setCell_other _ _ _ _ (fun e => hp (by rw [e]))]; exact h2
 ·rw [World.cell?_setCell_other _ _ _ _ (fun e => hp (by rw [e]))]; exact h3
 ·rw [World.cell?_setCell_other _ _ _ _ (fun e => hp (by rw [e]))]; exact h4
theorem tableOf_any (v : Value) (F : List Bx) (w : World) (hr : RdF w v (F.map boxI)) (hF : OkF F) (hl : F.length ≤ 40) :
  Calls Tryz.prog 113 #[v] w fun e w' => e = .returned (.agg (tArr (tabF F))) ∧ Gr w w' := by
 obtain ⟨a, cp, rfl, hcp, hx⟩ := hr
 rw [List.length_map] at hcp
 rw [List.length_map]
 have HX := Lib.hid hx
 have HF := Lib.hid hF
 have hlen' : (F.length : Int) ≤ 40 := by omega
 clear hx hF
 go_enter Tryz.func113, Tryz.ntmps113
 go_wp2
 go_loopw [12] (fun i wr => ∃ k : Nat, k ≤ F.length ∧ i = .int .i64 k ∧ TabAt w wr (tabF (F.take k))) (fun i _ => F.length - (intOf i).toNat)
 case atStart =>
  refine ⟨0, by omega, rfl, ((Gr.refl _).alloc _).alloc _, ?_, ?_⟩
  ·rw [heap_alloc2_new]; rfl
  ·rw [heap_alloc2_old]; rfl
 case round =>
  obtain ⟨k, hk, rfl, hat⟩ := hrel
  generalize wr = wo at *
  have hg := hat.1
  by_cases hlt : k < F.length
  ·obtain ⟨⟨⟨y, n⟩, m⟩, hp⟩ : ∃ p, F[k]? = some p := ⟨_, List.getElem?_eq_getElem hlt⟩
   obtain ⟨b, off, rfl, hb, hcell⟩ := HX.out (by intro e; rw [← List.length_map (f := boxI), e] at hlt; simp at hlt)
   obtain ⟨sv, c1, c2, c3, hs⟩ := hcell k (boxI ((y, n), m)) (by simp [hp])
   rw [← hg.cells.1 b _ hb] at c1 c2 c3
   simp only [boxI] at c1 c2 c3 hs
   obtain ⟨sa, sc, rfl⟩ := rd2_form hs
   have hok : OkB ((y, n), m) := HF.out _ (List.mem_of_getElem? hp)
   have hs1 := Lib.hid (hs.gr hg)
   have hbr : b < wo.heap.size := Nat.lt_of_lt_of_le hb hg.le
   have HT := Lib.hid (fun t => tabF_take hp t)
   have HO := Lib.hid hok
   have HL := Lib.hid (fun t => tabF_lt (HF.out.take k) t)
   have hk16 : (k : Int) ≤ 40 := by omega
   have HA := Lib.hid hat
   have hmk := maskL_canon hok.2
   clear hcell hs hp hat hok
   go_wp2_with fail
   refine (setOf_any _ _ _ (hs1.out.alloc _) (canon_VF m)).mono ?_
   rw [hmk]
   rintro e w1 ⟨rfl, g1⟩
   have T1 := Lib.hid ((Three.new wo y n (.slice sa (pairs (canon m)).length sc) 134).gr g1)
   have A1 := Lib.hid ((HA.out.more ((Gr.refl _).alloc (.cells #[.int .i64 y, .int .i64 n, .slice sa (pairs (canon m)).length sc] 134))).more g1)
   have hbb : wo.heap.size ≠ w.heap.size + 1 := by have := Blk_lt HA.out.2.1; omega
   clear HA hs1 hg c1 c2 c3 g1 hmk
   generalize wo.heap.size = BB at *
   go_wp2_with fail
   go_loopw [19] (fun jj wi => ∃ j : Nat, j ≤ 16 ∧ jj = .int .i64 j ∧ TabAt w wi (midT F ((y, n), m) k j) ∧ Three wi BB y n (.slice sa (pairs (canon m)).length sc)) (fun jj _ => 16 - (intOf jj).toNat)
   case atStart => exact ⟨0, by omega, rfl, A1.out.ext (fun i _ => by simp [midT]), T1.out⟩
   case round =>
    obtain ⟨j, hj, rfl, hti, h3⟩ := hrel
    by_cases hjt : j < 16
    ·have hin : hasR (y : Int) (n : Int) (j : Int) = inC ((y, n), m) j := rfl
     have HTI := Lib.hid hti
     have H3 := Lib.hid h3
     obtain ⟨t1, t2, t3, t4⟩ := h3
     have hj16 : (j : Int) < 16 := by omega
     clear hti
     cases hc : inC ((y, n), m) j
     ·rw [hc] at hin
      have E : Hid (∀ i, i < 16 → midT F ((y, n), m) k j i = midT F ((y, n), m) k (j + 1) i) := by
       intro i hi
       unfold midT
       by_cases e1 : i < j
       ·rw [if_pos e1, if_pos (by omega)]
       ·rw [if_neg e1]
        by_cases e2 : i < j + 1
        ·obtain rfl : i = j := by omega
         rw [if_pos e2]
         simp [addB, hc]
        ·rw [if_neg e2]
      clear hc
      go_wp2_with fail
      refine (has_any _ _ _ _).mono ?_
      rw [hin]
      rintro e w2 ⟨rfl, g2⟩
      have A2 := Lib.hid (HTI.out.more g2)
      have T2 := Lib.hid (H3.out.gr g2)
      clear g2
      go_wp2_with fail
      go_roundw
      case rel => exact ⟨j + 1, by omega, by go_num, A2.out.ext E.out, T2.out⟩
      case measure => simp [intOf]; omega
     ·rw [hc] at hin
      have E : Hid (∀ i, i < 16 → (if i = j then (tabF (F.take k) j ||| m) else midT F ((y, n), m) k j i) = midT F ((y, n), m) k (j + 1) i) := by
       intro i hi
       unfold midT
       by_cases e1 : i < j
       ·rw [if_neg (by omega), if_pos e1, if_pos (by omega)]
       ·by_cases e2 : i < j + 1
        ·obtain rfl : i = j := by omega
         rw [if_pos rfl, if_pos e2]
         simp [addB, hc]
        ·rw [if_neg (by omega), if_neg e1, if_neg e2]
      have HU := Lib.hid (u64_or_nat (tabF (F.take k) j) m (by have := HL.out j; omega) (by have := HO.out.2; omega))
      clear hc
      go_wp2_with fail
      refine (has_any _ _ _ _).mono ?_
      rw [hin]
      rintro e w2 ⟨rfl, g2⟩
      have A2 := Lib.hid (HTI.out.more g2)
      have T2 := Lib.hid (H3.out.gr g2)
      have hc : w2.cell? ⟨w.heap.size + 1, j, none⟩ = some (.int .u64 (tabF (F.take k) j : Nat)) := by
       rw [cell_of_row _ _ _ _ _ _ A2.out.2.1, tArr_at _ j hjt]
       simp [midT]
      have hfz := frozen_of_row _ _ j _ _ A2.out.2.1
      clear g2
      go_wp2_with fail
      go_roundw
      case rel => exact ⟨j + 1, by omega, by go_num, by have := (A2.out.set j _ hjt).ext E.out; rw [← HU.out] at this; exact this, T2.out.far hbb _⟩
      case measure => simp [intOf]; omega
    ·obtain rfl : j = 16 := by omega
     have HTI := Lib.hid hti
     clear hti
     go_wp2
     go_roundw
     case rel => exact ⟨k + 1, by omega, by go_num, HTI.out.ext (fun i hi => by rw [HT.out i]; simp [midT, hi])⟩
     case measure => simp [intOf]; omega
  ·obtain rfl : k = F.length := by omega
   rw [List.take_length] at hat
   have HS : Hid ((Tryz.prog.info? 181).map (·.size) = some (tArr (tabF F)).size) := by rw [tArr_size]; exact table_info
   have HO : Hid ((tArr fun _ => 0).size = (tArr (tabF F)).size) := by rw [tArr_size, tArr_size]; rfl
   have H1 := Lib.hid (tArr_one (tabF F))
   have HB := Lib.hid hat.2.1
   have HR := Lib.hid hat.2.2
   clear hat
   go_wp2_with (first | (refine wpList_load_row rfl 181 _ rfl (w.heap.size + 1) rfl 181 _ (0, 0) _ HB.out Tryz.underlying181 rfl HS.out ?_) | (refine wpList_store_row rfl 181 _ _ rfl w.heap.size _ rfl rfl 181 _ HR.out HS.out HO.out H1.out ?_))
   refine bodyPost_ret (v := .agg (tArr (tabF F))) (results_cell_row Tryz.results113 _ _ w.heap.size 181 _ (0, 0) _ rfl (setRow_heap _ _ _ _ _ _ HR.out) Tryz.underlying181 rfl HS.out) rfl ⟨rfl, ?_⟩
   exact hg.setRow (Nat.le_refl _) _
end Go.Proofs.YtglbnggkkjhokaaGreat
/- The contracts of package filter's combine. -/
namespace Rm
open Go Go.RowKit
theorem andNot64 (a b : Nat) (ha : a < 2 ^ 32) (hb : b < 2 ^ 32) : a &&& (18446744073709551615 - b) = lessM a b := by
 apply Nat.eq_of_testBit_eq
 intro i
 rw [lessM_bit a b i hb ha, Nat.testBit_and]
 have e : 18446744073709551615 - b = 2 ^ 64 - (b + 1) := by omega
 rw [e, Nat.testBit_two_pow_sub_succ (by omega)]
 by_cases h : i < 64
 ·simp [h]
 ·have h2 : a.testBit i = false := Nat.testBit_lt_two_pow (Nat.lt_of_lt_of_le ha (Nat.pow_le_pow_right (by omega) (by omega)))
  simp [h2]
theorem results_row_tmp {P : Program} {fn : Func} {p q : Tmp} {ty : TypeId} (h : fn.results = #[.cell p ty, .tmp q]) (tmps : Array Value) (w : World) (g : Nat) (t : TypeId) (cs : Array Value) (fr : Nat × Nat) (d : TypeDesc) (v : Value)
  (hp : tmps.getD p undef = .pointer (some ⟨g, 0, none⟩)) (hq : tmps.getD q undef = v) (hg : w.heap[g]? = some (.cells cs t fr))
  (hu : P.underlying ty = some d) (hd : (match d with | .struct _ | .array _ _ => true | _ => false) = true) (hi : (P.info? ty).map (·.size) = some cs.size) :
  (results fn tmps).run P w = .ok (.tuple #[.agg cs, v]) w := by
 have hp' : tmps[p]?.getD undef = .pointer (some ⟨g, 0, none⟩) := by simpa using hp
 have hq' : tmps[q]?.getD undef = v := by simpa using hq
 simp [results, h, hp', hq', asAddr, run_loadVar_row w g t ty cs fr d hg hu hd hi]
end Rm
namespace Go.Proofs.YtglbnggkkjhokaaGreat
open Go.RowKit Rm
def OpU (f : Nat) (g : Nat → Nat → Nat) : Prop := ∀ (a b : Nat), a < 2 ^ 32 → b < 2 ^ 32 → ∀ w : World, Calls Tryz.prog f #[.int .u64 a, .int .u64 b] w fun e w' => e = .returned (.int .u64 (g a b : Nat)) ∧ w' = w
theorem uop_join : OpU 124 (fun a b => a ||| b) := by
 intro a b ha hb w
 have e := u64_or_nat a b (by omega) (by omega)
 skip
 have E := Lib.hid e
 clear e
 go_enter Tryz.func124, Tryz.ntmps124
 go_wp2
 go_ret
 exact ⟨by rw [← E.out]; rfl, rfl⟩
theorem uop_meet : OpU 126 (fun a b => a &&& b) := by
 intro a b ha hb w
 have e := u64_and_nat a b (by omega) (by omega)
 skip
 have E := Lib.hid e
 clear e
 go_enter Tryz.func126, Tryz.ntmps126
 go_wp2
 go_ret
 exact ⟨by rw [← E.out]; rfl, rfl⟩
theorem uop_within : OpU 242 (fun a b => lessM a b) := by
 intro a b ha hb w
 have e := u64_andNot_nat a b (by omega) (by omega)
 rw [andNot64 a b ha hb] at e
 have E := Lib.hid e
 clear e
 go_enter Tryz.func242, Tryz.ntmps242
 go_wp2
 go_ret
 exact ⟨by rw [← E.out]; rfl, rfl⟩
end Go.Proofs.YtglbnggkkjhokaaGreat
/- The contract of package filter's combine over valid filters. -/
namespace Go.Proofs.YtglbnggkkjhokaaGreat
open Go.RowKit Rm
def midC (g : Nat → Nat → Nat) (T U : Nat → Nat) (j t : Nat) : Nat := if t < j then g (T t) (U t) else T t
def CombAt (w wr : World) (b : Nat) (T U : Nat → Nat) : Prop :=
  Gr w wr ∧ w.heap.size < b ∧ wr.heap[w.heap.size]? = some (.cells (tArr fun _ => 0) 181 (0, 0)) ∧ wr.heap[b]? = some (.cells (tArr T) 181 (0, 0)) ∧ wr.heap[b + 1]? = some (.cells (tArr U) 181 (0, 0))
theorem CombAt.set {w wr : World} {b : Nat} {T U : Nat → Nat} (h : CombAt w wr b T U) (k m : Nat) (hk : k < 16) : CombAt w ((wr.setCell ⟨b, k, none⟩ (.int .u64 (m : Nat))).drew) b (fun i => if i = k then m else T i) U := by
 obtain ⟨g, hlt, h0, h1, h2⟩ := h
 refine ⟨(g.setCell (by simp; omega) _).drew, hlt, ?_, ?_, ?_⟩
 ·show (wr.setCell _ _).heap[_]? = _
  rw [heap_setCell_other _ _ _ _ (by show w.heap.size ≠ b; omega)]; exact h0
 ·show (wr.setCell _ _).heap[_]? = _
  rw [heap_setCell_same _ _ _ _ _ _ h1, tArr_set _ _ _ hk]
 ·show (wr.setCell _ _).heap[_]? = _
  rw [heap_setCell_other _ _ _ _ (by simp)]; exact h2
theorem CombAt.ext {w wr : World} {b : Nat} {T T' U : Nat → Nat} (h : CombAt w wr b T U) (e : ∀ i, i < 16 → T i = T' i) : CombAt w wr b T' U := by rw [CombAt, ← tArr_ext e]; exact h
theorem combAt_start {w w4 : World} {A B : Array Value} {T U : Nat → Nat} (g : Gr w w4) (hlt : w.heap.size < w4.heap.size) (h0 : w4.heap[w.heap.size]? = some (.cells (tArr fun _ => 0) 181 (0, 0))) :
  CombAt w ((((w4.alloc (.cells A 181)).alloc (.cells B 181)).setRow w4.heap.size (tArr T)).setRow (w4.heap.size + 1) (tArr U)) w4.heap.size T U := by
 refine ⟨(((g.alloc _).alloc _).setRow g.le _).setRow (by have := g.le; omega) _, hlt, ?_, ?_, ?_⟩
 ·rw [setRow_other _ _ _ _ (by omega), setRow_other _ _ _ _ (by omega), Below.heap_alloc _ _ _ (by simp; omega), Below.heap_alloc _ _ _ hlt]; exact h0
 ·rw [setRow_other _ _ _ _ (by omega)]
  exact setRow_heap _ _ _ _ _ _ (heap_alloc2_old w4 _ _)
 ·refine setRow_heap _ _ B _ _ _ ?_
  rw [setRow_other _ _ _ _ (by omega)]
  exact heap_alloc2_new w4 _ _
end Go.Proofs.YtglbnggkkjhokaaGreat
/- Joined: FilE, FilF, FilG, FilH, FilI, FilJ. -/
/- The contract of package filter's spans; the plain mathematics of blocks and merge. -/
namespace Rm
open Go Go.RowKit
def bitsL (m : Nat) : Nat → List Int
  | 0 => []
  | k + 1 => if m.testBit k then bitsL m k ++ [(k : Int)] else bitsL m k
theorem bitsL_yes {m k : Nat} (h : m.testBit k = true) : bitsL m (k + 1) = bitsL m k ++ [(k : Int)] := by simp [bitsL, h]
theorem bitsL_no {m k : Nat} (h : m.testBit k = false) : bitsL m (k + 1) = bitsL m k := by simp [bitsL, h]
theorem bitsL_len (m : Nat) : ∀ k, (bitsL m k).length ≤ k
 | 0 => Nat.le_refl _
 | k + 1 => by
  have := bitsL_len m k
  unfold bitsL
  split
  ·simp; omega
  ·omega
theorem bitsL_mem (m : Nat) (x : Int) : ∀ k, x ∈ bitsL m k ↔ ∃ i : Nat, i < k ∧ x = i ∧ m.testBit i = true
 | 0 => by simp [bitsL]
 | k + 1 => by
  unfold bitsL
  split
  ·rename_i h
   rw [List.mem_append, bitsL_mem m x k]
   constructor
   ·rintro (⟨i, a, b, c⟩ | hx)
    ·exact ⟨i, by omega, b, c⟩
    ·exact ⟨k, by omega, by simpa using hx, h⟩
   ·rintro ⟨i, a, b, c⟩
    rcases Nat.lt_or_ge i k with d | d
    ·exact .inl ⟨i, d, b, c⟩
    ·obtain rfl : i = k := by omega
     exact .inr (by simp [b])
  ·rename_i h
   rw [bitsL_mem m x k]
   constructor
   ·rintro ⟨i, a, b, c⟩; exact ⟨i, by omega, b, c⟩
   ·rintro ⟨i, a, b, c⟩
    refine ⟨i, ?_, b, c⟩
    rcases Nat.lt_or_ge i k with d | d
    ·exact d
    ·obtain rfl : i = k := by omega
     exact absurd c h
theorem bitsL_num (m : Nat) : (bitsL m 32).all numB = true := by
 rw [List.all_eq_true]
 intro x hx
 obtain ⟨i, a, rfl, _⟩ := (bitsL_mem m x 32).1 hx
 simp [numB]
 omega
theorem foldI_bit (l : List Int) (m i : Nat) : (l.foldl (fun m x => m ||| 2 ^ x.toNat) m).testBit i = true ↔ m.testBit i = true ∨ ∃ x ∈ l, x.toNat = i := by
 induction l generalizing m with
 | nil => simp
 | cons x l ih =>
  rw [List.foldl_cons, ih, Nat.testBit_or, Nat.testBit_two_pow]
  simp [or_assoc]
theorem maskI_bit (l : List Int) (i : Nat) : (maskI l).testBit i = true ↔ ∃ x ∈ l, x.toNat = i := by
 unfold maskI
 rw [foldI_bit]
 simp
theorem maskI_bitsL {m : Nat} (h : m < 2 ^ 32) : maskI (bitsL m 32) = m := by
 apply Nat.eq_of_testBit_eq
 intro i
 rw [Bool.eq_iff_iff, maskI_bit]
 constructor
 ·rintro ⟨x, hx, rfl⟩
  obtain ⟨j, _, rfl, hj⟩ := (bitsL_mem m x 32).1 hx
  simpa using hj
 ·intro hi
  refine ⟨(i : Int), (bitsL_mem m i 32).2 ⟨i, ?_, rfl, hi⟩, by simp⟩
  rcases Nat.lt_or_ge i 32 with c | c
  ·exact c
  ·have := Nat.testBit_lt_two_pow (Nat.lt_of_lt_of_le h (Nat.pow_le_pow_right (by omega) c))
   rw [this] at hi; cases hi
def flat1 (l : List Int) : List Value := l.map fun x => .int .i64 x
theorem new1 (w : World) (v : Value) (t : TypeId) : ∀ j u, ([v] : List Value)[j]? = some u → (w.alloc (.cells #[v] t)).cell? ((⟨w.heap.size, 0, none⟩ : Addr).add j) = some u := by
 intro j u hu
 match j with
 | 0 => simp at hu; subst hu; simp [go_sem, Addr.add]
 | j + 1 => simp at hu
end Rm
namespace Go.Proofs.YtglbnggkkjhokaaGreat
open Go.RowKit Rm
theorem int_info : (Tryz.prog.info? 3).map (fun i => (i.zero, i.size, i.bytes)) = some (some (.int .i64 0), 1, 8) := by kernel_rfl
theorem Rd1.own {w : World} {base : Nat} {e : TypeId} {v : Value} {l : List Int} (h : w.ownsRow base e 1 v l.length (flat1 l)) : Rd1 w v l := by
 obtain ⟨hl, h⟩ := h
 rcases h with ⟨rfl, h0⟩ | ⟨g, cap, cur, rfl, _, hg, hn, _, hs, ht⟩
 ·have : l = [] := List.eq_nil_of_length_eq_zero h0
  subst this
  exact ⟨none, 0, rfl, Nat.le_refl _, fun h => absurd rfl h⟩
 ·refine ⟨_, _, rfl, hn, fun hne => ?_⟩
  refine ⟨g, 0, rfl, Blk_lt hg, fun i x hp => ?_⟩
  have hi : i < l.length := (List.getElem?_eq_some_iff.1 hp).1
  have hf : (flat1 l)[i]? = some (.int .i64 x) := by simp [flat1, hp]
  rw [← ht] at hf
  rw [List.getElem?_take_of_lt (by omega)] at hf
  simpa [World.cell?, hg] using hf
theorem fspans_any (m : Nat) (w : World) (hm : m < 2 ^ 32) :
  Calls Tryz.prog 170 #[.int .u64 m] w fun e w' => ∃ u, e = .returned u ∧ ListAt w w' (canon m) u := by
 obtain ⟨i0, hi0, hz0, hz1, hz2⟩ := info_parts int_info
 have HM := Lib.hid hm
 clear hm
 go_enter Tryz.func170, Tryz.ntmps170
 go_wp2
 go_loopw [3, 7] (fun v i wr => ∃ n : Nat, n ≤ 32 ∧ i = .int .i64 n ∧ Gr w wr ∧ wr.ownsRow w.heap.size 3 1 v (bitsL m n).length (flat1 (bitsL m n))) (fun _ i _ => 32 - (intOf i).toNat)
 case atStart => exact ⟨0, by omega, rfl, Gr.refl _, World.ownsRow_nil _ _ _ _⟩
 case round =>
  obtain ⟨n, hn, rfl, hg, hown⟩ := hrel
  have hlen := bitsL_len m n
  by_cases hlt : n < 32
  ·cases hbit : m.testBit n
   ·have HL := Lib.hid (bitsL_no hbit)
    have HO := Lib.hid hown
    clear hown
    go_wp2_with fail
    refine (fhas_any m n _ HM.out hlt).mono ?_
    rw [hbit]
    rintro e w1 ⟨rfl, rfl⟩
    go_wp2_with fail
    go_roundw
    case rel => exact ⟨n + 1, by omega, by go_num, hg, by rw [HL.out]; exact HO.out⟩
    case measure => simp [intOf]; omega
   ·obtain ⟨a, c, rfl, hc⟩ := own_form hown
    have HO := Lib.hid hown
    have HP : Hid (flat1 (bitsL m (n + 1)) = flat1 (bitsL m n) ++ [.int .i64 (n : Int)] ∧ (bitsL m (n + 1)).length = (bitsL m n).length + 1) := by
     rw [bitsL_yes hbit]
     exact ⟨by simp [flat1], by simp⟩
    clear hown hc
    generalize (bitsL m n).length = len at *
    go_wp2_with fail
    refine (fhas_any m n _ HM.out hlt).mono ?_
    rw [hbit]
    rintro e w1 ⟨rfl, rfl⟩
    go_wp2_with (at_builtin; refine wpList_append_own _ rfl (.tmp 13) (.tmp 15) 45 rfl w.heap.size 3 i0 _ 1 8 Tryz.underlying45 hi0 hz0 hz1 hz2 rfl (by omega) _ _ _ rfl (HO.out.alloc _) ⟨wr.heap.size, 0, none⟩ 1 1 [.int .i64 (n : Int)] rfl rfl (new1 _ _ _) (by simp [Value.oneCell']) (by simp only [maxLen]; omega) (by omega) (by have := hg.le; simp; omega) ?_; intro v1 w1 hown hg1 _)
    go_roundw
    case rel => exact ⟨n + 1, by omega, by go_num, (hg.alloc _).grown hg1 (fun k hk => (HO.out.lt k hk).1), by rw [HP.out.1, HP.out.2]; exact hown⟩
    case measure => simp [intOf]; omega
  ·obtain rfl : n = 32 := by omega
   have HO := Lib.hid (Rd1.own hown)
   clear hown
   go_wp2_with fail
   refine (of_any _ _ _ HO.out (by omega)).mono ?_
   rintro e w1 (⟨h0, _⟩ | ⟨h0, u, rfl, hu, _⟩)
   ·exact absurd (bitsL_num m) (by rw [h0]; simp)
   ·rw [maskI_bitsL HM.out] at hu
    clear h0
    go_wp2_with fail
    go_ret
    exact ⟨u, rfl, hu.more hg⟩
end Go.Proofs.YtglbnggkkjhokaaGreat
/- The plain mathematics of blocks and merge. -/
namespace Rm
open Go Go.RowKit
theorem xor16 : ∀ a < 16, ∀ b < 16, bits .xor .i64 ((a : Nat) : Int) ((b : Nat) : Int) = ((a ^^^ b : Nat) : Int) := by decide +kernel
theorem andNot16' : ∀ a < 16, ∀ b < 16, bits .andNot .i64 ((a : Nat) : Int) ((b : Nat) : Int) = ((a &&& (15 - b) : Nat) : Int) := by decide +kernel
theorem andNot16_lt (a b : Nat) (h : a < 16) : a &&& (15 - b) < 16 := Nat.lt_of_le_of_lt Nat.and_le_left h
def blk1 (T : Nat → Nat) (k : Nat) : Bx := ((k, 15 - k), T k)
theorem not15 : ∀ k < 16, bits .andNot .i64 15 ((k : Nat) : Int) = ((15 - k : Nat) : Int) := by decide +kernel
def blkT (T : Nat → Nat) : Nat → List Bx
 | 0 => []
 | k + 1 => if T k = 0 then blkT T k else blkT T k ++ [blk1 T k]
theorem blkT_no {T : Nat → Nat} {k : Nat} (h : T k = 0) : blkT T (k + 1) = blkT T k := by simp [blkT, h]
theorem blkT_yes {T : Nat → Nat} {k : Nat} (h : ¬ T k = 0) : blkT T (k + 1) = blkT T k ++ [blk1 T k] := by simp [blkT, h]
theorem blkT_len (T : Nat → Nat) : ∀ k, (blkT T k).length ≤ k
 | 0 => Nat.le_refl _
 | k + 1 => by
  have := blkT_len T k
  unfold blkT
  split
  ·omega
  ·simp; omega
theorem blkT_mem (T : Nat → Nat) (b : Bx) : ∀ k, b ∈ blkT T k → ∃ i, i < k ∧ b = blk1 T i
 | 0, h => by cases h
 | k + 1, h => by
  unfold blkT at h
  split at h
  ·obtain ⟨i, a, b⟩ := blkT_mem T b k h; exact ⟨i, by omega, b⟩
  ·rcases List.mem_append.1 h with h | h
   ·obtain ⟨i, a, b⟩ := blkT_mem T b k h; exact ⟨i, by omega, b⟩
   ·exact ⟨k, by omega, by simpa using h⟩
theorem vld15 : ∀ k < 16, Nat.land k (15 - k) = 0 := by decide
theorem blkT_ok {T : Nat → Nat} (hT : ∀ t, t < 16 → T t < 2 ^ 32) {k : Nat} (hk : k ≤ 16) : OkF (blkT T k) := by
 intro b hb
 obtain ⟨i, hi, rfl⟩ := blkT_mem T b k hb
 exact ⟨⟨by simp [blk1]; omega, by simp [blk1]; omega, vld15 i (by omega)⟩, hT i (by omega)⟩
def inTab : Bool := (List.range 16).all fun k => (List.range 16).all fun t => hasR ((k : Nat) : Int) ((15 - k : Nat) : Int) ((t : Nat) : Int) == decide (k = t)
theorem inTab_true : inTab = true := by decide +kernel
theorem in_blk1 (T : Nat → Nat) {k t : Nat} (hk : k < 16) (ht : t < 16) : inC (blk1 T k) t = decide (k = t) := by
 have H := inTab_true
 unfold inTab at H
 rw [List.all_eq_true] at H
 have := H k (List.mem_range.2 hk)
 rw [List.all_eq_true] at this
 have h2 := this t (List.mem_range.2 ht)
 rw [beq_iff_eq] at h2
 exact h2
theorem tab_blkT (T : Nat → Nat) {t : Nat} (ht : t < 16) : ∀ k, k ≤ 16 → tabF (blkT T k) t = if t < k then T t else 0
 | 0, _ => by simp [blkT, tabF]
 | k + 1, hk => by
  have ih := tab_blkT T ht k (by omega)
  unfold blkT
  split
  ·rename_i h
   rw [ih]
   by_cases e : t = k
   ·subst e; rw [if_neg (by omega), if_pos (by omega), h]
   ·have : (t < k) ↔ (t < k + 1) := by omega
    simp only [this]
  ·rw [tabF_snoc, ih, addB, in_blk1 T (by omega) ht]
   by_cases e : k = t
   ·subst e
    rw [if_pos (by simp), if_neg (by omega), if_pos (by omega)]
    simp [blk1]
   ·have : (t < k) ↔ (t < k + 1) := by omega
    rw [if_neg (by simpa using e)]
    simp only [this]
def twin (g : Nat) (b : Bx) : Bx := ((b.1.1 ^^^ g, b.1.2 ^^^ g), b.2)
def both (g : Nat) (b : Bx) : Bx := ((b.1.1 &&& (15 - g), b.1.2 &&& (15 - g)), b.2)
def twinTab (i : Nat) : Bool := (List.range 16).all fun y => (List.range 16).all fun n => (List.range 16).all fun t =>
 !(Nat.land y n == 0 && Nat.land (y ^^^ 2 ^ i) (n ^^^ 2 ^ i) == 0) ||
 ((hasR ((y &&& (15 - 2 ^ i) : Nat) : Int) ((n &&& (15 - 2 ^ i) : Nat) : Int) ((t : Nat) : Int) == (hasR ((y ^^^ 2 ^ i : Nat) : Int) ((n ^^^ 2 ^ i : Nat) : Int) ((t : Nat) : Int) || hasR ((y : Nat) : Int) ((n : Nat) : Int) ((t : Nat) : Int))) && (Nat.land (y &&& (15 - 2 ^ i)) (n &&& (15 - 2 ^ i)) == 0))
theorem twinTab0 : twinTab 0 = true := by decide +kernel
theorem twinTab1 : twinTab 1 = true := by decide +kernel
theorem twinTab2 : twinTab 2 = true := by decide +kernel
theorem twinTab3 : twinTab 3 = true := by decide +kernel
theorem twinTab_all (i : Nat) (h : i < 4) : twinTab i = true := by
 match i, h with
 | 0, _ => exact twinTab0
 | 1, _ => exact twinTab1
 | 2, _ => exact twinTab2
 | 3, _ => exact twinTab3
theorem twin_both {i : Nat} (hi : i < 4) {b : Bx} (h : OkB b) (h' : OkB (twin (2 ^ i) b)) : OkB (both (2 ^ i) b) ∧ ∀ t, t < 16 → inC (both (2 ^ i) b) t = (inC (twin (2 ^ i) b) t || inC b t) := by
 obtain ⟨⟨y, n⟩, m⟩ := b
 obtain ⟨⟨h1, h2, h3⟩, h4⟩ := h
 obtain ⟨⟨_, _, h5⟩, _⟩ := h'
 simp only [twin] at h1 h2 h3 h4 h5
 have key : ∀ t, t < 16 → _ := fun t ht => by
  have H := twinTab_all i hi
  unfold twinTab at H
  rw [List.all_eq_true] at H
  have H1 := H y (List.mem_range.2 h1)
  rw [List.all_eq_true] at H1
  have H2 := H1 n (List.mem_range.2 h2)
  rw [List.all_eq_true] at H2
  have H3 := H2 t (List.mem_range.2 ht)
  rw [h3, h5] at H3
  simp only [beq_self_eq_true, Bool.and_self, Bool.not_true, Bool.false_or, Bool.and_eq_true, beq_iff_eq] at H3
  exact H3
 refine ⟨⟨⟨andNot16_lt _ _ h1, andNot16_lt _ _ h2, (key 0 (by omega)).2⟩, h4⟩, fun t ht => (key t ht).1⟩
theorem tab_set {M : List Bx} {b : Bx} {i j : Nat} (hi : i < 4) (hM : OkF M) (hb : OkB b) (hj : M[j]? = some (twin (2 ^ i) b)) : OkF (M.set j (both (2 ^ i) b)) ∧ ∀ t, t < 16 → tabF (M.set j (both (2 ^ i) b)) t = addB t (tabF M t) b := by
  have hjl : j < M.length := (List.getElem?_eq_some_iff.1 hj).1
  obtain ⟨k1, k2⟩ := twin_both hi hb (hM _ (List.mem_of_getElem? hj))
  have hmem : ∀ c, c ∈ M.set j (both (2 ^ i) b) ↔ c = both (2 ^ i) b ∨ ∃ l, l ≠ j ∧ M[l]? = some c := by
    intro c
    rw [List.mem_iff_getElem?]
    constructor
    · rintro ⟨l, hl⟩
      by_cases e : l = j
      · subst e
        rw [List.getElem?_set_self hjl] at hl
        exact .inl (by simpa using hl.symm)
      · rw [List.getElem?_set_ne (fun h => e h.symm)] at hl
        exact .inr ⟨l, e, hl⟩
    · rintro (rfl | ⟨l, e, hl⟩)
      · exact ⟨j, List.getElem?_set_self hjl⟩
      · exact ⟨l, by rw [List.getElem?_set_ne (fun h => e h.symm)]; exact hl⟩
  refine ⟨fun c hc => ?_, fun t ht => ?_⟩
  · rcases (hmem c).1 hc with rfl | ⟨l, _, hl⟩
    · exact k1
    · exact hM c (List.mem_of_getElem? hl)
  · apply Nat.eq_of_testBit_eq
    intro n
    rw [Bool.eq_iff_iff, tabF_bit]
    have e1 : (addB t (tabF M t) b).testBit n = true ↔ (tabF M t).testBit n = true ∨ (inC b t = true ∧ b.2.testBit n = true) := by
      unfold addB
      split
      · rename_i h; simp [h]
      · rename_i h; simp [h]
    rw [e1, tabF_bit]
    constructor
    · rintro ⟨c, hc, h1, h2⟩
      rcases (hmem c).1 hc with rfl | ⟨l, _, hl⟩
      · rw [k2 t ht, Bool.or_eq_true] at h1
        rcases h1 with h1 | h1
        · exact .inl ⟨_, List.mem_of_getElem? hj, h1, h2⟩
        · exact .inr ⟨h1, h2⟩
      · exact .inl ⟨c, List.mem_of_getElem? hl, h1, h2⟩
    · rintro (⟨c, hc, h1, h2⟩ | ⟨h1, h2⟩)
      · obtain ⟨l, hl⟩ := List.mem_iff_getElem?.1 hc
        by_cases e : l = j
        · subst e
          rw [hj] at hl
          obtain rfl := Option.some.inj hl
          exact ⟨both (2 ^ i) b, (hmem _).2 (.inl rfl), by rw [k2 t ht, h1]; rfl, h2⟩
        · exact ⟨c, (hmem c).2 (.inr ⟨l, e, hl⟩), h1, h2⟩
      · exact ⟨both (2 ^ i) b, (hmem _).2 (.inl rfl), by rw [k2 t ht, h1]; simp, h2⟩
def flatK (l : List Bx) : List Value := l.flatMap fun b => [.int .i64 (b.1.1 : Nat), .int .i64 (b.1.2 : Nat), .int .u64 (b.2 : Nat)]
theorem flatK_cons (p : Bx) (l : List Bx) : flatK (p :: l) = .int .i64 (p.1.1 : Nat) :: .int .i64 (p.1.2 : Nat) :: .int .u64 (p.2 : Nat) :: flatK l := rfl
theorem flatK_app (l r : List Bx) : flatK (l ++ r) = flatK l ++ flatK r := by simp [flatK]
theorem flatK_at (l : List Bx) (i : Nat) (p : Bx) (h : l[i]? = some p) : (flatK l)[i * 3]? = some (.int .i64 (p.1.1 : Nat)) ∧ (flatK l)[i * 3 + 1]? = some (.int .i64 (p.1.2 : Nat)) ∧ (flatK l)[i * 3 + 2]? = some (.int .u64 (p.2 : Nat)) := by
 induction l generalizing i with
 | nil => simp at h
 | cons q l ih =>
  rw [flatK_cons]
  cases i with
  | zero => simp at h; subst h; simp
  | succ i =>
   have e : (i + 1) * 3 = i * 3 + 1 + 1 + 1 := by omega
   rw [e]
   simpa using ih i (by simpa using h)
theorem flatK_set (l : List Bx) (i : Nat) (p q : Bx) (h : l[i]? = some p) (e : p.2 = q.2) : ((flatK l).set (i * 3) (.int .i64 (q.1.1 : Nat))).set (i * 3 + 1) (.int .i64 (q.1.2 : Nat)) = flatK (l.set i q) := by
 induction l generalizing i with
 | nil => simp at h
 | cons r l ih =>
  cases i with
  | zero => simp at h; subst h; simp [flatK_cons, e]
  | succ i =>
   have e : (i + 1) * 3 = i * 3 + 1 + 1 + 1 := by omega
   have e2 : (r :: l).set (i + 1) q = r :: l.set i q := rfl
   rw [e, e2, flatK_cons, flatK_cons]
   simpa using ih i (by simpa using h)
end Rm
/- The contracts of package filter's blocks and of slices.Index over blocks. -/
namespace Go.Proofs.YtglbnggkkjhokaaGreat
open Go.RowKit Rm
theorem set_info : (Tryz.prog.info? 179).map (·.size) = some 1 := by kernel_rfl
theorem index_table (T : Nat → Nat) (k : Nat) (hk : k < 16) (w : World) : (Instr.index 181 (.agg (tArr T)) (.int .i64 (k : Int))).run Tryz.prog w = .ok (.int .u64 (T k : Nat)) w := by
 have hz : (sizeOf 179).run Tryz.prog w = .ok 1 w := by
  cases hq : Tryz.prog.info? 179 with
  | none => have := set_info; rw [hq] at this; simp at this
  | some i =>
   have hs : i.size = 1 := by have := set_info; rw [hq] at this; simpa using this
   simp [sizeOf, typeInfo, hq, hs]
 have hc := tArr_at T k hk
 simp [Instr.index, Sem.run_bind, run_underlying Tryz.underlying181, asIntOf, part, hz, hc]
 intro h
 omega
def Rd3 (w : World) (v : Value) (l : List Bx) : Prop :=
  ∃ a c, v = .slice a l.length c ∧ l.length ≤ c ∧ (l ≠ [] → ∃ b off, a = some ⟨b, off, none⟩ ∧ b < w.heap.size ∧
    ∀ i p, l[i]? = some p → w.cell? ⟨b, off + i * 3, none⟩ = some (.int .i64 (p.1.1 : Nat)) ∧ w.cell? ⟨b, off + i * 3 + 1, none⟩ = some (.int .i64 (p.1.2 : Nat)) ∧ w.cell? ⟨b, off + i * 3 + 2, none⟩ = some (.int .u64 (p.2 : Nat)))
theorem Rd3.gr {w w' : World} {v : Value} {l : List Bx} (h : Rd3 w v l) (g : Gr w w') : Rd3 w' v l := by
 obtain ⟨a, c, e, hc, h⟩ := h
 refine ⟨a, c, e, hc, fun hl => ?_⟩
 obtain ⟨b, off, ea, hb, hx⟩ := h hl
 refine ⟨b, off, ea, Nat.lt_of_lt_of_le hb g.le, fun i p hp => ?_⟩
 obtain ⟨h1, h2, h3⟩ := hx i p hp
 exact ⟨(g.cells.1 b _ hb).trans h1, (g.cells.1 b _ hb).trans h2, (g.cells.1 b _ hb).trans h3⟩
theorem Rd3.own {w : World} {base : Nat} {e : TypeId} {v : Value} {l : List Bx} (h : w.ownsRow base e 3 v l.length (flatK l)) : Rd3 w v l := by
 obtain ⟨hl, h⟩ := h
 rcases h with ⟨rfl, h0⟩ | ⟨g, cap, cur, rfl, _, hg, hn, _, hs, ht⟩
 ·have : l = [] := List.eq_nil_of_length_eq_zero h0
  subst this
  exact ⟨none, 0, rfl, Nat.le_refl _, fun h => absurd rfl h⟩
 ·refine ⟨_, _, rfl, hn, fun hne => ?_⟩
  refine ⟨g, 0, rfl, Blk_lt hg, fun i p hp => ?_⟩
  have hi : i < l.length := (List.getElem?_eq_some_iff.1 hp).1
  have hf := flatK_at l i p hp
  rw [← ht] at hf
  have key : ∀ j, j < l.length * 3 → w.cell? ⟨g, 0 + j, none⟩ = (cur.toList.take (l.length * 3))[j]? := by
   intro j hj
   rw [List.getElem?_take_of_lt hj]
   simp [World.cell?, hg]
  have k2 := key (i * 3 + 1) (by omega)
  have k3 := key (i * 3 + 2) (by omega)
  rw [← Nat.add_assoc] at k2 k3
  exact ⟨(key (i * 3) (by omega)).trans hf.1, k2.trans hf.2.1, k3.trans hf.2.2⟩
theorem new3 (w : World) (a b c : Value) (t : TypeId) : ∀ j u, ([a, b, c] : List Value)[j]? = some u → (w.alloc (.cells #[a, b, c] t)).cell? ((⟨w.heap.size, 0, none⟩ : Addr).add j) = some u := by
 intro j u hu
 match j with
 | 0 => simp at hu; subst hu; simp [go_sem, Addr.add]
 | 1 => simp at hu; subst hu; simp [go_sem, Addr.add]
 | 2 => simp at hu; subst hu; simp [go_sem, Addr.add]
 | j + 3 => simp at hu
theorem block_info : (Tryz.prog.info? 234).map (fun i => (i.zero, i.size, i.bytes)) = some (some (.agg #[.int .i64 0, .int .i64 0, .int .u64 0]), 3, 24) := by kernel_rfl
theorem one3 (a b : Int) (c : Int) : ∀ u ∈ ([.int .i64 a, .int .i64 b, .int .u64 c] : List Value), u.oneCell' = true := by
 intro u hu
 simp at hu
 rcases hu with rfl | rfl | rfl <;> rfl
def BlkAt (w wr : World) (l : List Bx) (v : Value) : Prop := Gr w wr ∧ wr.ownsRow w.heap.size 234 3 v l.length (flatK l)
theorem BlkAt.rd {w w1 : World} {l : List Bx} {v : Value} (h : BlkAt w w1 l v) : Rd3 w1 v l := Rd3.own h.2
theorem blocks_any (T : Nat → Nat) (w : World) :
  Calls Tryz.prog 168 #[.agg (tArr T)] w fun e w' => ∃ u, e = .returned u ∧ BlkAt w w' (blkT T 16) u := by
 obtain ⟨i0, hi0, hz0, hz1, hz2⟩ := info_parts block_info
 have HS : Hid ((Tryz.prog.info? 181).map (·.size) = some (tArr T).size) := by rw [tArr_size]; exact table_info
 go_enter Tryz.func168, Tryz.ntmps168
 go_wp2_with (refine wpList_load_row rfl 181 _ rfl w.heap.size rfl 181 (tArr T) (0, 0) _ (heap_alloc_new _ _) Tryz.underlying181 rfl HS.out ?_)
 go_loopw [3, 7] (fun v i wr => ∃ n : Nat, n ≤ 16 ∧ i = .int .i64 n ∧ BlkAt w wr (blkT T n) v) (fun _ i _ => 16 - (intOf i).toNat)
 case atStart => exact ⟨0, by omega, rfl, (Gr.refl _).alloc _, World.ownsRow_nil _ _ _ _⟩
 case round =>
  obtain ⟨n, hn, rfl, hg, hown⟩ := hrel
  have hlen := blkT_len T n
  by_cases hlt : n < 16
  ·have hix := fun wx => index_table T n hlt wx
   have hn16 : (n : Int) < 16 := by omega
   by_cases h0 : T n = 0
   ·have HL := Lib.hid (blkT_no h0)
    have HO := Lib.hid hown
    rw [h0] at hix
    clear hown h0
    go_wp2_with fail
    go_roundw
    case rel => exact ⟨n + 1, by omega, by go_num, hg, by rw [HL.out]; exact HO.out⟩
    case measure => simp [intOf]; omega
   ·obtain ⟨a, c, rfl, hc⟩ := own_form hown
    have HO := Lib.hid hown
    have HP : Hid (flatK (blkT T (n + 1)) = flatK (blkT T n) ++ [.int .i64 (n : Int), .int .i64 ((15 - n : Nat) : Int), .int .u64 (T n : Nat)] ∧ (blkT T (n + 1)).length = (blkT T n).length + 1) := by
     rw [blkT_yes h0]
     exact ⟨by rw [flatK_app]; rfl, by simp⟩
    have hne : (((T n : Nat) : Int) != 0) = true := by simp; omega
    have h15 := not15 n hlt
    clear hown hc h0
    generalize (blkT T n).length = len at *
    generalize (15 - n) = nn at *
    go_wp2_with (at_builtin; refine wpList_append_own _ rfl (.tmp 13) (.tmp 20) 230 rfl w.heap.size 234 i0 _ 3 24 Tryz.underlying230 hi0 hz0 hz1 hz2 rfl (by omega) _ _ _ rfl (HO.out.alloc _) ⟨wr.heap.size, 0, none⟩ 1 1 [.int .i64 (n : Int), .int .i64 (nn : Int), .int .u64 (T n : Nat)] rfl rfl (new3 _ _ _ _ _) (one3 _ _ _) (by simp only [maxLen]; omega) (by omega) (by have := hg.le; simp; omega) ?_; intro v1 w1 hown hg1 _)
    go_roundw
    case rel => exact ⟨n + 1, by omega, by go_num, (hg.alloc _).grown hg1 (fun k hk => (HO.out.lt k hk).1), by rw [HP.out.1, HP.out.2]; exact hown⟩
    case measure => simp [intOf]; omega
  ·obtain rfl : n = 16 := by omega
   have HO := Lib.hid hown
   clear hown
   go_wp2_with fail
   go_ret
   exact ⟨_, rfl, hg, HO.out⟩
end Go.Proofs.YtglbnggkkjhokaaGreat
/- The contract of slices.Index over blocks. -/
namespace Go.Proofs.YtglbnggkkjhokaaGreat
open Go.RowKit Rm
def IdxAt (l : List Bx) (b : Bx) (w : World) (e : Ending) (w' : World) : Prop :=
  ((∃ i : Nat, l[i]? = some b ∧ e = .returned (.int .i64 (i : Int))) ∨ (b ∉ l ∧ e = .returned (.int .i64 (-1)))) ∧ Gr w w'
theorem not_mem_of {l : List Bx} {b : Bx} (h : ∀ j, j < l.length → l[j]? ≠ some b) : b ∉ l := by
 intro hb
 obtain ⟨j, hj⟩ := List.mem_iff_getElem?.1 hb
 exact h j (List.getElem?_eq_some_iff.1 hj).1 hj
theorem index_any (v : Value) (l : List Bx) (y n m : Nat) (w : World) (hr : Rd3 w v l) (hl : l.length ≤ 16) :
  Calls Tryz.prog 205 #[v, .agg #[.int .i64 (y : Int), .int .i64 (n : Int), .int .u64 (m : Int)]] w (IdxAt l ((y, n), m) w) := by
 obtain ⟨a, cp, rfl, hcp, hx⟩ := hr
 have HX := Lib.hid hx
 have hlen' : (l.length : Int) ≤ 16 := by omega
 clear hx
 go_enter Tryz.func205, Tryz.ntmps205
 go_wp2
 go_loopw [8] (fun i wr => ∃ k : Nat, k ≤ l.length ∧ i = .int .i64 k ∧ Hid (∀ j, j < k → l[j]? ≠ some ((y, n), m)) ∧ Gr (w.alloc (.cells #[.int .i64 (y : Int), .int .i64 (n : Int), .int .u64 (m : Int)] 234)) wr) (fun i _ => l.length - (intOf i).toNat)
 case atStart => exact ⟨0, by omega, rfl, fun j hj => by omega, Gr.refl _⟩
 case round =>
  obtain ⟨k, hk, rfl, hno, hg⟩ := hrel
  have d1 : wr.cell? ⟨w.heap.size, 0, none⟩ = some (.int .i64 (y : Int)) := by rw [hg.cells.1 _ _ (by simp)]; simp [go_sem]
  have d2 : wr.cell? ⟨w.heap.size, 1, none⟩ = some (.int .i64 (n : Int)) := by rw [hg.cells.1 _ _ (by simp)]; simp [go_sem]
  have d3 : wr.cell? ⟨w.heap.size, 2, none⟩ = some (.int .u64 (m : Int)) := by rw [hg.cells.1 _ _ (by simp)]; simp [go_sem]
  have G1 := ((Gr.refl w).alloc _).trans hg
  have HG := Lib.hid hg
  clear hg
  by_cases hlt : k < l.length
  ·obtain ⟨⟨⟨y', n'⟩, m'⟩, hp⟩ : ∃ p, l[k]? = some p := ⟨_, List.getElem?_eq_getElem hlt⟩
   obtain ⟨b, off, rfl, hb, hcell⟩ := HX.out (by intro e; rw [e] at hlt; simp at hlt)
   obtain ⟨c1, c2, c3⟩ := hcell k _ hp
   rw [← G1.cells.1 b _ hb] at c1 c2 c3
   simp only at c1 c2 c3
   have hbr : b < wr.heap.size := Nat.lt_of_lt_of_le hb G1.le
   have hk16 : (k : Int) < 16 := by omega
   have HP := Lib.hid hp
   clear hcell hp
   by_cases heq : ((y', n'), m') = ((y, n), m)
   ·simp only [Prod.mk.injEq] at heq
    obtain ⟨⟨rfl, rfl⟩, rfl⟩ := heq
    go_wp2
    go_quiet (fail)
    go_wp2
    go_ret
    exact ⟨.inl ⟨k, HP.out, rfl⟩, G1.drewN _⟩
   ·have HN : Hid (∀ j, j < k + 1 → l[j]? ≠ some ((y, n), m)) := by
     intro j hj
     rcases Nat.lt_or_ge j k with c | c
     ·exact hno.out j c
     ·obtain rfl : j = k := by omega
      rw [HP.out]
      intro e
      exact heq (Option.some.inj e)
    cases h1 : ((y : Int) == (y' : Int))
    ·go_wp2
     go_quiet (fail)
     go_wp2
     go_roundw
     case rel => exact ⟨k + 1, by omega, by go_num, HN, HG.out.drewN _⟩
     case measure => simp [intOf]; omega
    ·cases h2 : ((n : Int) == (n' : Int))
     ·go_wp2
      go_quiet (fail)
      go_wp2
      go_roundw
      case rel => exact ⟨k + 1, by omega, by go_num, HN, HG.out.drewN _⟩
      case measure => simp [intOf]; omega
     ·have h3 : ((m : Int) == (m' : Int)) = false := by
       simp at h1 h2 ⊢
       intro e
       exact heq (by simp; omega)
      go_wp2
      go_quiet (fail)
      go_wp2
      go_roundw
      case rel => exact ⟨k + 1, by omega, by go_num, HN, HG.out.drewN _⟩
      case measure => simp [intOf]; omega
  ·obtain rfl : k = l.length := by omega
   go_wp2
   go_ret
   exact ⟨.inr ⟨not_mem_of hno.out, rfl⟩, G1⟩
end Go.Proofs.YtglbnggkkjhokaaGreat
/- The contract of package filter's merge. -/
namespace Rm
open Go Go.RowKit
theorem pow16 : ∀ i < 4, 2 ^ i < 16 := by decide
theorem OkF.snoc {M : List Bx} {b : Bx} (h : OkF M) (hb : OkB b) : OkF (M ++ [b]) := by
 intro c hc
 rcases List.mem_append.1 hc with hc | hc
 ·exact h c hc
 ·obtain rfl : c = b := by simpa using hc
  exact hb
end Rm
namespace Go.Proofs.YtglbnggkkjhokaaGreat
open Go.RowKit Rm
def MergAt (l : List Bx) (k : Nat) (M : List Bx) : Prop := OkF M ∧ M.length ≤ k ∧ ∀ t, t < 16 → tabF M t = tabF (l.take k) t
theorem own_gr {w w' : World} {base : Nat} {e : TypeId} {size : Nat} {v : Value} {n : Nat} {xs : List Value} (h : w.ownsRow base e size v n xs) (g : Gr w w') : w'.ownsRow base e size v n xs := by
 refine h.kept (row := none) ⟨g.os, g.tape, g.output, g.size, fun k hk _ => Below.block g k hk⟩ ?_
 cases v.ownBlock with
 | none => exact .inl rfl
 | some k => exact .inr (by simp)
theorem mergAt_start (l : List Bx) : MergAt l 0 [] := ⟨(fun b hb => by cases hb), by simp, fun t _ => by simp⟩
theorem MergAt.set {l M : List Bx} {k g j : Nat} {b : Bx} (h : MergAt l k M) (hk : l[k]? = some b) (hj : M[j]? = some (twin g b)) (hb : OkB b) (ht : OkF (M.set j (both g b)) ∧ ∀ t, t < 16 → tabF (M.set j (both g b)) t = addB t (tabF M t) b) : MergAt l (k + 1) (M.set j (both g b)) :=
 ⟨ht.1, by rw [List.length_set]; have := h.2.1; omega, fun t h16 => by rw [ht.2 t h16, h.2.2 t h16, tabF_take hk]⟩
theorem MergAt.snoc {l M : List Bx} {k : Nat} {b : Bx} (h : MergAt l k M) (hk : l[k]? = some b) (hb : OkB b) : MergAt l (k + 1) (M ++ [b]) :=
 ⟨h.1.snoc hb, by have := h.2.1; simp; omega, fun t h16 => by rw [tabF_snoc, h.2.2 t h16, tabF_take hk]⟩
theorem merge_any (v : Value) (l : List Bx) (i : Nat) (w : World) (hr : Rd3 w v l) (hl : l.length ≤ 16) (hok : OkF l) (hi : i < 4) :
  Calls Tryz.prog 169 #[v, .int .i64 ((2 ^ i : Nat) : Int)] w fun e w' => ∃ u M, e = .returned u ∧ BlkAt w w' M u ∧ MergAt l l.length M := by
 obtain ⟨i0, hi0, hz0, hz1, hz2⟩ := info_parts block_info
 obtain ⟨a, cp, rfl, hcp, hx⟩ := hr
 have HX := Lib.hid hx
 have HK := Lib.hid hok
 have hlen' : (l.length : Int) ≤ 16 := by omega
 have hg16 := pow16 i hi
 have HTS := Lib.hid (fun (M : List Bx) (b : Bx) (j : Nat) => tab_set (M := M) (b := b) (j := j) hi)
 have HTW := Lib.hid (fun (b : Bx) => show twin (2 ^ i) b = ((b.1.1 ^^^ 2 ^ i, b.1.2 ^^^ 2 ^ i), b.2) from rfl)
 have HTB := Lib.hid (fun (b : Bx) => show both (2 ^ i) b = ((b.1.1 &&& (15 - 2 ^ i), b.1.2 &&& (15 - 2 ^ i)), b.2) from rfl)
 clear hx hok
 generalize 2 ^ i = g at *
 clear hi
 have hgi : (g : Int) < 16 := by omega
 go_enter Tryz.func169, Tryz.ntmps169
 go_wp2
 go_loopw [5, 12] (fun u kk wr => ∃ (k : Nat) (M : List Bx), k ≤ l.length ∧ kk = .int .i64 k ∧ BlkAt w wr M u ∧ MergAt l k M) (fun _ kk _ => l.length - (intOf kk).toNat)
 case atStart => exact ⟨0, [], by omega, rfl, ⟨Gr.refl _, World.ownsRow_nil _ _ _ _⟩, mergAt_start l⟩
 case round =>
  obtain ⟨k, M, hk, rfl, ⟨hg, hown⟩, hMA⟩ := hrel
  generalize wr = wo at *
  have hMl := hMA.2.1
  have HMA := Lib.hid hMA
  have HO := Lib.hid hown
  clear hMA
  by_cases hlt : k < l.length
  ·obtain ⟨⟨⟨y, n⟩, m⟩, hp⟩ : ∃ p, l[k]? = some p := ⟨_, List.getElem?_eq_getElem hlt⟩
   obtain ⟨b, off, rfl, hb, hcell⟩ := HX.out (by intro e; rw [e] at hlt; simp at hlt)
   obtain ⟨c1, c2, c3⟩ := hcell k _ hp
   rw [← hg.cells.1 b _ hb] at c1 c2 c3
   simp only at c1 c2 c3
   have hbr : b < wo.heap.size := Nat.lt_of_lt_of_le hb hg.le
   have hk16 : (k : Int) < 16 := by omega
   have hB : OkB ((y, n), m) := HK.out _ (List.mem_of_getElem? hp)
   have HB := Lib.hid hB
   have HP := Lib.hid hp
   have x1 := xor16 y hB.1.1 g hg16
   have x2 := xor16 n hB.1.2.1 g hg16
   have a1 := andNot16' y hB.1.1 g hg16
   have a2 := andNot16' n hB.1.2.1 g hg16
   obtain ⟨ua, uc, rfl, huc⟩ := own_form hown
   clear hcell hp hB hown
   go_wp2_with fail
   have R1 := Lib.hid ((Rd3.own HO.out).gr (((Gr.refl wo).alloc (.cells #[.int .i64 (y : Int), .int .i64 (n : Int), .int .u64 (m : Int)] 234)).alloc (.cells #[.int .i64 ((y ^^^ g : Nat) : Int), .int .i64 ((n ^^^ g : Nat) : Int), .int .u64 (m : Int)] 234)))
   refine (index_any _ M (y ^^^ g) (n ^^^ g) m _ R1.out (by omega)).mono ?_
   rintro e w1 ⟨hcase, g1⟩
   have T1 := Lib.hid ((Three.new wo y n (.int .u64 (m : Int)) 234).gr (((Gr.refl _).alloc (.cells #[.int .i64 ((y ^^^ g : Nat) : Int), .int .i64 ((n ^^^ g : Nat) : Int), .int .u64 (m : Int)] 234)).trans g1))
   have G1 := Lib.hid (((hg.alloc (.cells #[.int .i64 (y : Int), .int .i64 (n : Int), .int .u64 (m : Int)] 234)).alloc (.cells #[.int .i64 ((y ^^^ g : Nat) : Int), .int .i64 ((n ^^^ g : Nat) : Int), .int .u64 (m : Int)] 234)).trans g1)
   have O1 := Lib.hid (own_gr HO.out (((Gr.refl wo).alloc (.cells #[.int .i64 (y : Int), .int .i64 (n : Int), .int .u64 (m : Int)] 234)).alloc (.cells #[.int .i64 ((y ^^^ g : Nat) : Int), .int .i64 ((n ^^^ g : Nat) : Int), .int .u64 (m : Int)] 234)))
   have O2 := Lib.hid (own_gr O1.out g1)
   clear O1 R1 HO g1 c1 c2 c3 x1 x2
   have hws := hg.le
   generalize wo.heap.size = BB at *
   obtain ⟨t1, t2, t3, t4⟩ := T1.out
   have hMl16 : (M.length : Int) < 16 := by omega
   rcases hcase with ⟨j, hj, rfl⟩ | ⟨hnot, rfl⟩
   ·have hjl : j < M.length := (List.getElem?_eq_some_iff.1 hj).1
    have hjl' : (j : Int) < (M.length : Int) := by omega
    obtain ⟨g0, cap0, e0, hb0, hl0, hc0⟩ := own_pos O2.out (by omega)
    obtain ⟨rfl, -, rfl⟩ : ua = some ⟨g0, 0, none⟩ ∧ M.length = M.length ∧ uc = cap0 := by simpa using e0
    have f0 := flatK_at M j _ hj
    have q1 : w1.cell? ⟨g0, j * 3, none⟩ = some (.int .i64 ((y ^^^ g : Nat) : Int)) := by rw [O2.out.cellAt _ (by omega)]; exact f0.1
    have q2 : w1.cell? ⟨g0, j * 3 + 1, none⟩ = some (.int .i64 ((n ^^^ g : Nat) : Int)) := by rw [O2.out.cellAt _ (by omega)]; exact f0.2.1
    have z1 := O2.out.frozenAt (j * 3)
    have z2 := O2.out.frozenAt (j * 3 + 1)
    have HJ : Hid (M[j]? = some (twin g ((y, n), m))) := by rw [HTW.out]; exact hj
    have HFS := Lib.hid (flatK_set M j _ ((y &&& (15 - g), n &&& (15 - g)), m) hj rfl)
    have HNEW := Lib.hid (HMA.out.set HP.out HJ.out HB.out (HTS.out M ((y, n), m) j HMA.out.1 HB.out HJ.out))
    have HLS : Hid ((M.set j (both g ((y, n), m))).length = M.length) := List.length_set
    have HBB := HTB.out ((y, n), m)
    simp only at HBB
    have HBB2 := Lib.hid HBB
    clear hj f0 e0 HBB
    go_wp2_with fail
    go_roundw
    case rel =>
     refine ⟨k + 1, M.set j (both g ((y, n), m)), by omega, by go_num, ⟨(G1.out.setCell hb0 _).setCell hb0 _, ?_⟩, HNEW.out⟩
     rw [HLS.out, HBB2.out, ← HFS.out]
     exact ((O2.out.stored _ _).1.stored _ _).1
    case measure => simp [intOf]; omega
   ·clear hnot
    have HNEW := Lib.hid (HMA.out.snoc HP.out HB.out)
    have HFA : Hid (flatK (M ++ [((y, n), m)]) = flatK M ++ [.int .i64 (y : Int), .int .i64 (n : Int), .int .u64 (m : Int)] ∧ (M ++ [((y, n), m)]).length = M.length + 1) := ⟨by rw [flatK_app]; rfl, by simp⟩
    go_wp2_with (at_builtin; refine wpList_append_own _ rfl (.tmp 50) (.tmp 52) 230 rfl w.heap.size 234 i0 _ 3 24 Tryz.underlying230 hi0 hz0 hz1 hz2 rfl (by omega) _ _ _ rfl (O2.out.alloc _) ⟨w1.heap.size, 0, none⟩ 1 1 [.int .i64 (y : Int), .int .i64 (n : Int), .int .u64 (m : Int)] rfl rfl (new3 _ _ _ _ _) (one3 _ _ _) (by simp only [maxLen]; omega) (by omega) (by have := G1.out.le; simp; omega) ?_; intro v1 w2 hown hg1 _)
    go_roundw
    case rel => exact ⟨k + 1, M ++ [((y, n), m)], by omega, by go_num, ⟨(G1.out.alloc _).grown hg1 (fun k hk => (O2.out.lt k hk).1), by rw [HFA.out.1, HFA.out.2]; exact hown⟩, HNEW.out⟩
    case measure => simp [intOf]; omega
  ·obtain rfl : k = l.length := by omega
   go_wp2_with fail
   go_ret
   exact ⟨_, M, rfl, ⟨hg, HO.out⟩, HMA.out⟩
end Go.Proofs.YtglbnggkkjhokaaGreat
/- The contract of package filter's boxes. -/
namespace Rm
open Go Go.RowKit
def flatO (l : List (Bx × Value)) : List Value := l.flatMap fun b => [.int .i64 (b.1.1.1 : Nat), .int .i64 (b.1.1.2 : Nat), b.2]
theorem flatO_cons (p : Bx × Value) (l : List (Bx × Value)) : flatO (p :: l) = .int .i64 (p.1.1.1 : Nat) :: .int .i64 (p.1.1.2 : Nat) :: p.2 :: flatO l := rfl
theorem flatO_app (l r : List (Bx × Value)) : flatO (l ++ r) = flatO l ++ flatO r := by simp [flatO]
theorem flatO_at (l : List (Bx × Value)) (i : Nat) (p : Bx × Value) (h : l[i]? = some p) : (flatO l)[i * 3]? = some (.int .i64 (p.1.1.1 : Nat)) ∧ (flatO l)[i * 3 + 1]? = some (.int .i64 (p.1.1.2 : Nat)) ∧ (flatO l)[i * 3 + 2]? = some p.2 := by
 induction l generalizing i with
 | nil => simp at h
 | cons q l ih =>
  rw [flatO_cons]
  cases i with
  | zero => simp at h; subst h; simp
  | succ i =>
   have e : (i + 1) * 3 = i * 3 + 1 + 1 + 1 := by omega
   rw [e]
   simpa using ih i (by simpa using h)
end Rm
namespace Go.Proofs.YtglbnggkkjhokaaGreat
open Go.RowKit Rm
attribute [local go_sem ↓] Go.wp_at_zero Go.wp_at_succ
theorem box_info : (Tryz.prog.info? 134).map (fun i => (i.zero, i.size, i.bytes)) = some (some (.agg #[.int .i64 0, .int .i64 0, .slice none 0 0]), 3, 40) := by kernel_rfl
def OutAt (w wr : World) (O : List (Bx × Value)) (u : Value) : Prop :=
  Gr w wr ∧ wr.ownsRow w.heap.size 134 3 u O.length (flatO O) ∧
  ∀ p ∈ O, wr.ownsRow w.heap.size 177 2 p.2 (pairs (canon p.1.2)).length (flat (pairs (canon p.1.2))) ∧ (p.2.ownBlock = none ∨ p.2.ownBlock ≠ u.ownBlock)
theorem OutAt.snoc {w wo w1 w2 w3 : World} {O : List (Bx × Value)} {u sv : Value} {b : Bx} {g cap : Nat} {o : Obj} (h : OutAt w wo O u) (g1 : Gr wo w1) (hl : ListAt w1 w2 (canon b.2) sv)
  (hown : w3.ownsRow w.heap.size 134 3 (.slice (some ⟨g, 0, none⟩) (O.length + 1) cap) (O.length + 1) (flatO O ++ [.int .i64 (b.1.1 : Nat), .int .i64 (b.1.2 : Nat), sv]))
  (hgrow : (w2.alloc o).grownBy w3 u.ownBlock) (hat : u.ownBlock = some g ∨ g = w2.heap.size + 1) : OutAt w w3 (O ++ [(b, sv)]) (.slice (some ⟨g, 0, none⟩) (O.length + 1) cap) := by
 obtain ⟨hg, ho, hs⟩ := h
 have hlt : ∀ k, u.ownBlock = some k → k < wo.heap.size := fun k hk => (ho.lt k hk).2
 have g2 := (g1.trans hl.1).alloc o
 refine ⟨Gr.grown (hg.trans g2) hgrow (fun k hk => (ho.lt k hk).1), ?_, ?_⟩
 ·have e0 : (O ++ [(b, sv)]).length = O.length + 1 := by simp
  rw [e0, flatO_app]
  exact hown
 ·intro p hp
  have far : ∀ {z : Value} {bb : Nat} {e : TypeId} {sz nn : Nat} {xs : List Value}, (w2.alloc o).ownsRow bb e sz z nn xs → (z.ownBlock = none ∨ z.ownBlock ≠ u.ownBlock) → (∀ k, z.ownBlock = some k → k < w2.heap.size + 1) →
    w3.ownsRow bb e sz z nn xs ∧ (z.ownBlock = none ∨ z.ownBlock ≠ some g) := by
   intro z bb e sz nn xs hz hne hk
   refine ⟨hz.kept hgrow hne, ?_⟩
   rcases hne with h0 | hne
   ·exact .inl h0
   ·refine .inr fun e0 => ?_
    rcases hat with h1 | h1
    ·exact hne (e0.trans h1.symm)
    ·have := hk _ e0; omega
  rcases List.mem_append.1 hp with hp | hp
  ·obtain ⟨k1, k2⟩ := hs p hp
   refine far (own_gr k1 g2) k2 (fun k hk => ?_)
   have := (k1.lt k hk).2
   have := g1.le
   have := hl.1.le
   omega
  ·obtain rfl : p = (b, sv) := by simpa using hp
   have hb : ∀ k, sv.ownBlock = some k → w1.heap.size ≤ k ∧ k < w2.heap.size := fun k hk => hl.2.lt k hk
   have hbase : (w2.alloc o).ownsRow w.heap.size 177 2 sv (pairs (canon b.2)).length (flat (pairs (canon b.2))) := (ListAt.more (hg.trans g1) hl).2.alloc o
   refine far hbase ?_ (fun k hk => by have := (hb k hk).2; omega)
   cases hsv : sv.ownBlock with
   | none => exact .inl rfl
   | some k =>
    refine .inr fun e0 => ?_
    have h1 := (hb k hsv).1
    have h2 := hlt k e0.symm
    have := g1.le
    omega
theorem rd_own {wr : World} {base : Nat} {O : List (Bx × Value)} {u : Value} (h : wr.ownsRow base 134 3 u O.length (flatO O)) (hs : ∀ p ∈ O, wr.ownsRow base 177 2 p.2 (pairs (canon p.1.2)).length (flat (pairs (canon p.1.2)))) : RdF wr u ((O.map (·.1)).map boxI) := by
 obtain ⟨hl, h⟩ := h
 rcases h with ⟨rfl, h0⟩ | ⟨g, cap, cur, rfl, _, hg, hn, _, hz, ht⟩
 ·have : O = [] := List.eq_nil_of_length_eq_zero h0
  subst this
  exact RdF.nil _
 ·refine ⟨some ⟨g, 0, none⟩, cap, by simp, by simpa using hn, fun hne => ⟨g, 0, rfl, Blk_lt hg, fun i p hp => ?_⟩⟩
  simp only [List.map_map, List.getElem?_map, Option.map_eq_some_iff] at hp
  obtain ⟨q, hq, rfl⟩ := hp
  have hi : i < O.length := (List.getElem?_eq_some_iff.1 hq).1
  have hf := flatO_at O i q hq
  rw [← ht] at hf
  have key : ∀ j, j < O.length * 3 → wr.cell? ⟨g, 0 + j, none⟩ = (cur.toList.take (O.length * 3))[j]? := by
   intro j hj
   rw [List.getElem?_take_of_lt hj]
   simp [World.cell?, hg]
  have k2 := key (i * 3 + 1) (by omega)
  have k3 := key (i * 3 + 2) (by omega)
  rw [← Nat.add_assoc] at k2 k3
  exact ⟨q.2, (key (i * 3) (by omega)).trans hf.1, k2.trans hf.2.1, k3.trans hf.2.2, Rd2.own (hs q (List.mem_of_getElem? hq))⟩
theorem outAt_nil (w : World) : OutAt w w [] (.slice none 0 0) := ⟨Gr.refl _, World.ownsRow_nil _ _ _ _, fun p hp => by cases hp⟩
theorem fspans_at (B : Nat) (y n : Int) (m : Nat) (w : World) (hm : m < 2 ^ 32) (h : Three w B y n (.int .u64 (m : Int))) :
  Calls Tryz.prog 170 #[.int .u64 m] w fun e w' => ∃ a c, e = .returned (.slice a (pairs (canon m)).length c) ∧ ListAt w w' (canon m) (.slice a (pairs (canon m)).length c) ∧ B < w'.heap.size ∧
   w'.cell? ⟨B, 0, none⟩ = some (.int .i64 y) ∧ w'.cell? ⟨B, 1, none⟩ = some (.int .i64 n) ∧ w'.cell? ⟨B, 2, none⟩ = some (.int .u64 (m : Int)) :=
 (fspans_any m w hm).mono fun e w' ⟨u, he, hu⟩ => by
  obtain ⟨a, c, rfl, _⟩ := own_form hu.2
  exact ⟨a, c, he, hu, h.gr hu.1⟩
theorem boxes_any (T : Nat → Nat) (w : World) (hT : ∀ t, t < 16 → T t < 2 ^ 32) :
    Calls Tryz.prog 125 #[.agg (tArr T)] w fun e w' => ∃ u O, e = .returned u ∧ Gr w w' ∧ (∃ wl, Gr w wl ∧ OutAt wl w' O u) ∧ OkF (O.map (·.1)) ∧ O.length ≤ (blkT T 16).length ∧ ∀ t, t < 16 → tabF (O.map (·.1)) t = T t := by
  obtain ⟨i0, hi0, hz0, hz1, hz2⟩ := info_parts box_info
  have HS : Hid ((Tryz.prog.info? 181).map (·.size) = some (tArr T).size) := by rw [tArr_size]; exact table_info
  have HT := Lib.hid hT
  clear hT
  go_enter Tryz.func125, Tryz.ntmps125
  go_wp2_with (refine wpList_load_row rfl 181 _ rfl w.heap.size rfl 181 (tArr T) (0, 0) _ (heap_alloc_new _ _) Tryz.underlying181 rfl HS.out ?_)
  refine (blocks_any T _).mono ?_
  rintro e w1 ⟨u, rfl, hu⟩
  have R1 := Lib.hid hu.rd
  have G1 := ((Gr.refl w).alloc _).trans hu.1
  clear hu
  go_wp2_with fail
  go_loopw [3, 10] (fun v ii wr => ∃ (i : Nat) (M : List Bx), i ≤ 4 ∧ ii = .int .i64 i ∧ Gr w wr ∧ Rd3 wr v M ∧ OkF M ∧ M.length ≤ (blkT T 16).length ∧ (∀ t, t < 16 → tabF M t = T t)) (fun _ ii _ => 4 - (intOf ii).toNat)
  case atStart => exact ⟨0, blkT T 16, by omega, rfl, G1, R1.out, blkT_ok HT.out (by omega), Nat.le_refl _, fun t ht => by rw [tab_blkT T ht 16 (by omega), if_pos ht]⟩
  case round =>
    clear G1 R1
    obtain ⟨i, M, hi, rfl, hg, hrd, hM, hMl, hMt⟩ := hrel
    have hb16 := blkT_len T 16
    have HM := Lib.hid hM
    have HMt := Lib.hid hMt
    have HR := Lib.hid hrd
    clear hM hMt
    by_cases hlt : i < 4
    · have hp : wrap64 (2 ^ i) = ((2 ^ i : Nat) : Int) := by
        have h1 := pow16 i hlt
        have h2 : ((2 ^ i : Nat) : Int) = (2 : Int) ^ i := by simp
        rw [← h2]
        generalize 2 ^ i = x at *
        unfold wrap64
        omega
      have hi4 : (i : Int) < 4 := by omega
      clear hrd
      go_wp2_with fail
      rw [hp]
      refine (merge_any _ M i _ HR.out (by omega) HM.out hlt).mono ?_
      rintro e w2 ⟨u2, M2, rfl, hb2, hm2⟩
      have R2 := Lib.hid hb2.rd
      have G2 := hg.trans hb2.1
      have H2 := Lib.hid hm2
      clear hb2 hm2 hp
      go_wp2_with fail
      go_roundw
      case rel => exact ⟨i + 1, M2, by omega, by go_num, G2, R2.out, H2.out.1, by have := H2.out.2.1; omega, fun t ht => by rw [H2.out.2.2 t ht, List.take_length]; exact HMt.out t ht⟩
      case measure => simp [intOf]; omega
    · obtain rfl : i = 4 := by omega
      obtain ⟨a, cp, rfl, hcp, hx⟩ := hrd
      have HX := Lib.hid hx
      have hlen' : (M.length : Int) ≤ 16 := by omega
      clear hx
      generalize wr = wl at *
      go_wp2_with fail
      go_loopw [5, 20] (fun v kk wr => ∃ (k : Nat) (O : List (Bx × Value)), k ≤ M.length ∧ kk = .int .i64 k ∧ O.map (·.1) = M.take k ∧ OutAt wl wr O v) (fun _ kk _ => M.length - (intOf kk).toNat)
      case atStart => exact ⟨0, [], by omega, rfl, rfl, outAt_nil _⟩
      case round =>
        obtain ⟨k, O, hk, rfl, hO, hat⟩ := hrel
        have hOl : k = O.length := by have := congrArg List.length hO; simp at this; omega
        subst hOl
        have HO := Lib.hid hO
        have HA := Lib.hid hat
        clear hO
        generalize wr = wo at *
        by_cases hlt : O.length < M.length
        · obtain ⟨⟨⟨y, n⟩, m⟩, hp⟩ : ∃ p, M[O.length]? = some p := ⟨_, List.getElem?_eq_getElem hlt⟩
          obtain ⟨b, off, rfl, hb, hcell⟩ := HX.out (by intro e; rw [e] at hlt; simp at hlt)
          obtain ⟨c1, c2, c3⟩ := hcell O.length _ hp
          have hgl := hat.1
          rw [← hgl.cells.1 b _ hb] at c1 c2 c3
          simp only at c1 c2 c3
          have hbr : b < wo.heap.size := Nat.lt_of_lt_of_le hb hgl.le
          have hm32 := Lib.hid (HM.out _ (List.mem_of_getElem? hp)).2
          have hk16 : (O.length : Int) < 16 := by omega
          have HP := Lib.hid hp
          obtain ⟨ua, uc, rfl, huc⟩ := own_form hat.2.1
          clear hcell hp hat
          go_wp2_with fail
          have T1 := Lib.hid (Three.new wo y n (.int .u64 (m : Int)) 234)
          have HA1 := Lib.hid (HA.out.2.1.alloc (.cells #[.int .i64 (y : Int), .int .i64 (n : Int), .int .u64 (m : Int)] 234)).drew
          have GA : Hid (Gr wo (wo.alloc (.cells #[.int .i64 (y : Int), .int .i64 (n : Int), .int .u64 (m : Int)] 234)).drew) := ((Gr.refl wo).alloc _).drew
          have HBN : Hid (∀ kk, (Value.slice ua O.length uc).ownBlock = some kk → kk < wo.heap.size) := fun kk hkk => (HA.out.2.1.lt kk hkk).2
          have hbase := HA.out.1.le
          clear c1 c2 c3
          generalize wo.alloc (.cells #[.int .i64 (y : Int), .int .i64 (n : Int), .int .u64 (m : Int)] 234) = W1 at *
          generalize hBB : wo.heap.size = BB at *
          have hag : (Value.slice ua O.length uc).ownBlock ≠ some BB := fun e => by have := HBN.out _ e; omega
          clear hBB
          have T1d : Hid (Three W1.drew BB y n (.int .u64 (m : Int))) := T1.out.gr ((Gr.refl _).drew)
          obtain ⟨t1, t2, t3, t4⟩ := T1.out
          go_region_held3 (fun x => x.cell? ⟨BB, 0, none⟩ = some (.int .i64 (y : Int)) ∧ x.cell? ⟨BB, 1, none⟩ = some (.int .i64 (n : Int)) ∧ x.cell? ⟨BB, 2, none⟩ = some (.int .u64 (m : Int)))
            (first
              | go_keep
              | (go_split_ands
                 refine ⟨?_, ?_, ?_⟩
                 · (rw [hgrow.cell_far _ (by simp; omega) (Ne.symm hag)]; simp [go_sem, *])
                 · (rw [hgrow.cell_far _ (by simp; omega) (Ne.symm hag)]; simp [go_sem, *])
                 · (rw [hgrow.cell_far _ (by simp; omega) (Ne.symm hag)]; simp [go_sem, *])))
            (first
              | (go_at_call 170; refine (fspans_at BB _ _ m _ hm32.out T1d.out).mono ?_; rintro e w2 ⟨sa, sc, rfl, hls, hBl, k1, k2, k3⟩)
              | (refine step_append_lies _ (by rfl) _ _ _ (by rfl) wl.heap.size 134 i0 _ 3 40 Tryz.underlying22 hi0 hz0 hz1 hz2 rfl (by omega) (.slice ua O.length uc) O.length (flatO O) (by rfl) ((own_gr HA1.out hls.1).alloc _)
                  ⟨w2.heap.size, 0, none⟩ 1 1 [.int .i64 (y : Int), .int .i64 (n : Int), .slice sa (pairs (canon m)).length sc] (by rfl) (by rfl) (new3 _ _ _ _ _) (by simp [Value.oneCell'])
                  (by omega) (by simp only [maxLen]; omega) (by omega) (by simp; omega) (w2.heap.size + 1) (by simp) ?_; intro gg cap w3 hown1 hgrow hat hlt3))
          have HNEW := Lib.hid (HA.out.snoc (b := ((y, n), m)) GA.out hls hown1 hgrow hat)
          have HOM : Hid ((O ++ [(((y, n), m), Value.slice sa (pairs (canon m)).length sc)]).map (·.1) = M.take (O.length + 1)) := by
            have h1 := HP.out
            obtain ⟨hk1, e1⟩ := List.getElem?_eq_some_iff.1 h1
            unfold Hid
            rw [List.map_append, HO.out, List.take_succ_eq_append_getElem hk1, e1]
            rfl
          clear hls hown1 hgrow hat k1 k2 k3
          go_wp2_with fail
          go_roundw
          case rel =>
            (repeat apply Exists.intro)
            refine ⟨?_, rfl⟩
            exact ⟨O.length + 1, _, by omega, by go_num, HOM.out, HNEW.out⟩
          case measure => simp [intOf]; omega
        · have hkM : O.length = M.length := by omega
          rw [hkM] at HO
          have HG := Lib.hid (hg.trans hat.1)
          have HG2 := Lib.hid hg
          rw [List.take_length] at HO
          clear hat hg
          go_wp2_with fail
          go_ret
          exact ⟨_, O, rfl, HG.out, ⟨wl, HG2.out, HA.out⟩, by rw [HO.out]; exact HM.out, by omega, fun t ht => by rw [HO.out]; exact HMt.out t ht⟩
end Go.Proofs.YtglbnggkkjhokaaGreat
/- Joined: FilDJoin, FilDMeet, FilDLess. -/
/- The contract of package filter's combine, as Join calls it. -/
namespace Go.Proofs.YtglbnggkkjhokaaGreat
open Go.RowKit Rm
theorem fcombine_join (v v' : Value) (F G : List Bx) (w : World) (hl : RdF w v (F.map boxI)) (hr : RdF w v' (G.map boxI)) (hF : OkF F) (hG : OkF G) (hlF : F.length ≤ 40) (hlG : G.length ≤ 40) :
  Calls Tryz.prog 123 #[v, v', .func (.func 124) #[] #[]] w fun e w' => e = .returned (.tuple #[.agg (tArr fun t => tabF F t ||| tabF G t), .int .i64 0]) ∧ Gr w w' := by
 have HS : ∀ T, Hid ((Tryz.prog.info? 181).map (·.size) = some (tArr T).size) := fun T => by unfold Hid; rw [tArr_size]; exact table_info
 have hc1 := chkF_of hF hlF
 have hc2 := chkF_of hG hlG
 have HL := Lib.hid hl
 have HR := Lib.hid hr
 have HF := Lib.hid hF
 have HG := Lib.hid hG
 have HOP := Lib.hid uop_join
 obtain ⟨g, hge⟩ : ∃ g : Nat → Nat → Nat, g = (fun a b => a ||| b) := ⟨_, rfl⟩
 have HOPg : Hid (OpU 124 g) := by rw [hge]; exact HOP.out
 have HGE := Lib.hid hge
 clear hge HOP
 have HSZ := Lib.hid (fun (T U : Nat → Nat) => show (tArr T).size = (tArr U).size by rw [tArr_size, tArr_size])
 have H1 := Lib.hid tArr_one
 have HTF := Lib.hid (fun t => tabF_lt hF t)
 have HTG := Lib.hid (fun t => tabF_lt hG t)
 clear hl hr hF hG
 go_enter Tryz.func123, Tryz.ntmps123
 go_wp2_with fail
 refine (fcheck_any _ _ _ (HL.out.alloc _)).mono ?_
 rw [hc1]
 rintro e w1 ⟨rfl, g1⟩
 have HB1 : Hid (w1.heap[w.heap.size]? = some (.cells (tArr fun _ => 0) 181 (0, 0))) := (Below.block g1 _ (by simp)).trans (heap_alloc_new _ _)
 have G1 := ((Gr.refl w).alloc _).trans g1
 clear g1
 go_wp2_with fail
 refine (fcheck_any _ _ _ (HR.out.gr G1)).mono ?_
 rw [hc2]
 rintro e w2 ⟨rfl, g2⟩
 have HB2 : Hid (w2.heap[w.heap.size]? = some (.cells (tArr fun _ => 0) 181 (0, 0))) := (Below.block g2 _ (Blk_lt HB1.out)).trans HB1.out
 have G2 := G1.trans g2
 clear g2 HB1 G1
 go_wp2_with fail
 refine (tableOf_any _ _ _ (HL.out.gr G2) HF.out hlF).mono ?_
 rintro e w3 ⟨rfl, g3⟩
 have HB3 : Hid (w3.heap[w.heap.size]? = some (.cells (tArr fun _ => 0) 181 (0, 0))) := (Below.block g3 _ (Blk_lt HB2.out)).trans HB2.out
 have G3 := G2.trans g3
 clear g3 HB2 G2
 go_wp2_with fail
 refine (tableOf_any _ _ _ (HR.out.gr G3) HG.out hlG).mono ?_
 rintro e w4 ⟨rfl, g4⟩
 have HB4 : Hid (w4.heap[w.heap.size]? = some (.cells (tArr fun _ => 0) 181 (0, 0))) := (Below.block g4 _ (Blk_lt HB3.out)).trans HB3.out
 have G4 := G3.trans g4
 clear g4 HB3 G3
 have HLT := Lib.hid (Blk_lt HB4.out)
 go_wp2_with (first
  | (refine wpList_store_row rfl 181 (.tmp 10) (.tmp 26) rfl w4.heap.size _ rfl rfl 181 _ (heap_alloc2_old _ _ _) (HS _).out (HSZ.out (fun _ => 0) _) (H1.out _) ?_)
  | (refine wpList_store_row rfl 181 (.tmp 11) (.tmp 28) rfl (w4.heap.size + 1) _ rfl rfl 181 _ ((setRow_other _ _ _ _ (by omega)).trans (heap_alloc2_new _ _ _)) (HS _).out (HSZ.out (fun _ => 0) _) (H1.out _) ?_))
 have A0 := Lib.hid (combAt_start (T := tabF F) (U := tabF G) (A := tArr fun _ => 0) (B := tArr fun _ => 0) G4 HLT.out HB4.out)
 go_loopw [29] (fun jj wi => ∃ j : Nat, j ≤ 16 ∧ jj = .int .i64 j ∧ CombAt w wi w4.heap.size (midC g (tabF F) (tabF G) j) (tabF G)) (fun jj _ => 16 - (intOf jj).toNat)
 case atStart => exact ⟨0, by omega, rfl, A0.out.ext (fun i _ => by simp [midC])⟩
 case round =>
  clear A0
  obtain ⟨j, hj, rfl, hat⟩ := hrel
  generalize w4.heap.size = BB at *
  have HA := Lib.hid hat
  by_cases hjt : j < 16
  ·have hj16 : (j : Int) < 16 := by omega
   have c1 : wr.cell? ⟨BB, j, none⟩ = some (.int .u64 (tabF F j : Nat)) := by
    rw [cell_of_row _ _ _ _ _ _ hat.2.2.2.1, tArr_at _ j hjt]
    simp [midC]
   have c2 : wr.cell? ⟨BB + 1, j, none⟩ = some (.int .u64 (tabF G j : Nat)) := by
    rw [cell_of_row _ _ _ _ _ _ hat.2.2.2.2, tArr_at _ j hjt]
   have hfz := frozen_of_row _ _ j _ _ hat.2.2.2.1
   have E : Hid (∀ i, i < 16 → (if i = j then g (tabF F j) (tabF G j) else midC g (tabF F) (tabF G) j i) = midC g (tabF F) (tabF G) (j + 1) i) := by
    intro i hi
    unfold midC
    by_cases e1 : i < j
    ·rw [if_neg (by omega), if_pos e1, if_pos (by omega)]
    ·by_cases e2 : i < j + 1
     ·obtain rfl : i = j := by omega
      rw [if_pos rfl, if_pos e2]
     ·rw [if_neg (by omega), if_neg e1, if_neg e2]
   clear hat
   go_wp2_with fail
   go_still_tail 10, (by kernel_rfl)
   still_call (HOPg.out _ _ (HTF.out j) (HTG.out j) _)
   repeat still_step
   refine wpStill_nil ?_
   change wpList _ _ _ _ _ wr.drew
   go_wp2_with fail
   go_roundw
   case rel => exact ⟨j + 1, by omega, by go_num, (HA.out.set j _ hjt).ext E.out⟩
   case measure => simp [intOf]; omega
  ·obtain rfl : j = 16 := by omega
   have HA2 := Lib.hid (hat.ext (fun i hi => show midC g (tabF F) (tabF G) 16 i = g (tabF F i) (tabF G i) by simp [midC, hi]))
   have hg := hat.1
   clear hat HA
   go_wp2_with (first | (refine wpList_load_row rfl 181 _ rfl BB rfl 181 _ (0, 0) _ HA2.out.2.2.2.1 Tryz.underlying181 rfl (HS _).out ?_) | (refine wpList_store_row rfl 181 _ _ rfl w.heap.size _ rfl rfl 181 _ HA2.out.2.2.1 (HS _).out (HSZ.out (fun _ => 0) _) (H1.out _) ?_))
   refine bodyPost_ret (v := .tuple #[.agg (tArr fun t => g (tabF F t) (tabF G t)), .int .i64 0]) (results_row_tmp Tryz.results123 _ _ w.heap.size 181 _ (0, 0) _ _ rfl rfl (setRow_heap _ _ _ _ _ _ HA2.out.2.2.1) Tryz.underlying181 rfl (HS _).out) rfl ⟨by rw [HGE.out], ?_⟩
   exact hg.setRow (Nat.le_refl _) _
end Go.Proofs.YtglbnggkkjhokaaGreat
/- The contract of package filter's combine, as Meet calls it. -/
namespace Go.Proofs.YtglbnggkkjhokaaGreat
open Go.RowKit Rm
theorem fcombine_meet (v v' : Value) (F G : List Bx) (w : World) (hl : RdF w v (F.map boxI)) (hr : RdF w v' (G.map boxI)) (hF : OkF F) (hG : OkF G) (hlF : F.length ≤ 40) (hlG : G.length ≤ 40) :
  Calls Tryz.prog 123 #[v, v', .func (.func 126) #[] #[]] w fun e w' => e = .returned (.tuple #[.agg (tArr fun t => tabF F t &&& tabF G t), .int .i64 0]) ∧ Gr w w' := by
 have HS : ∀ T, Hid ((Tryz.prog.info? 181).map (·.size) = some (tArr T).size) := fun T => by unfold Hid; rw [tArr_size]; exact table_info
 have hc1 := chkF_of hF hlF
 have hc2 := chkF_of hG hlG
 have HL := Lib.hid hl
 have HR := Lib.hid hr
 have HF := Lib.hid hF
 have HG := Lib.hid hG
 have HOP := Lib.hid uop_meet
 obtain ⟨g, hge⟩ : ∃ g : Nat → Nat → Nat, g = (fun a b => a &&& b) := ⟨_, rfl⟩
 have HOPg : Hid (OpU 126 g) := by rw [hge]; exact HOP.out
 have HGE := Lib.hid hge
 clear hge HOP
 have HSZ := Lib.hid (fun (T U : Nat → Nat) => show (tArr T).size = (tArr U).size by rw [tArr_size, tArr_size])
 have H1 := Lib.hid tArr_one
 have HTF := Lib.hid (fun t => tabF_lt hF t)
 have HTG := Lib.hid (fun t => tabF_lt hG t)
 clear hl hr hF hG
 go_enter Tryz.func123, Tryz.ntmps123
 go_wp2_with fail
 refine (fcheck_any _ _ _ (HL.out.alloc _)).mono ?_
 rw [hc1]
 rintro e w1 ⟨rfl, g1⟩
 have HB1 : Hid (w1.heap[w.heap.size]? = some (.cells (tArr fun _ => 0) 181 (0, 0))) := (Below.block g1 _ (by simp)).trans (heap_alloc_new _ _)
 have G1 := ((Gr.refl w).alloc _).trans g1
 clear g1
 go_wp2_with fail
 refine (fcheck_any _ _ _ (HR.out.gr G1)).mono ?_
 rw [hc2]
 rintro e w2 ⟨rfl, g2⟩
 have HB2 : Hid (w2.heap[w.heap.size]? = some (.cells (tArr fun _ => 0) 181 (0, 0))) := (Below.block g2 _ (Blk_lt HB1.out)).trans HB1.out
 have G2 := G1.trans g2
 clear g2 HB1 G1
 go_wp2_with fail
 refine (tableOf_any _ _ _ (HL.out.gr G2) HF.out hlF).mono ?_
 rintro e w3 ⟨rfl, g3⟩
 have HB3 : Hid (w3.heap[w.heap.size]? = some (.cells (tArr fun _ => 0) 181 (0, 0))) := (Below.block g3 _ (Blk_lt HB2.out)).trans HB2.out
 have G3 := G2.trans g3
 clear g3 HB2 G2
 go_wp2_with fail
 refine (tableOf_any _ _ _ (HR.out.gr G3) HG.out hlG).mono ?_
 rintro e w4 ⟨rfl, g4⟩
 have HB4 : Hid (w4.heap[w.heap.size]? = some (.cells (tArr fun _ => 0) 181 (0, 0))) := (Below.block g4 _ (Blk_lt HB3.out)).trans HB3.out
 have G4 := G3.trans g4
 clear g4 HB3 G3
 have HLT := Lib.hid (Blk_lt HB4.out)
 go_wp2_with (first
  | (refine wpList_store_row rfl 181 (.tmp 10) (.tmp 26) rfl w4.heap.size _ rfl rfl 181 _ (heap_alloc2_old _ _ _) (HS _).out (HSZ.out (fun _ => 0) _) (H1.out _) ?_)
  | (refine wpList_store_row rfl 181 (.tmp 11) (.tmp 28) rfl (w4.heap.size + 1) _ rfl rfl 181 _ ((setRow_other _ _ _ _ (by omega)).trans (heap_alloc2_new _ _ _)) (HS _).out (HSZ.out (fun _ => 0) _) (H1.out _) ?_))
 have A0 := Lib.hid (combAt_start (T := tabF F) (U := tabF G) (A := tArr fun _ => 0) (B := tArr fun _ => 0) G4 HLT.out HB4.out)
 go_loopw [29] (fun jj wi => ∃ j : Nat, j ≤ 16 ∧ jj = .int .i64 j ∧ CombAt w wi w4.heap.size (midC g (tabF F) (tabF G) j) (tabF G)) (fun jj _ => 16 - (intOf jj).toNat)
 case atStart => exact ⟨0, by omega, rfl, A0.out.ext (fun i _ => by simp [midC])⟩
 case round =>
  clear A0
  obtain ⟨j, hj, rfl, hat⟩ := hrel
  generalize w4.heap.size = BB at *
  have HA := Lib.hid hat
  by_cases hjt : j < 16
  ·have hj16 : (j : Int) < 16 := by omega
   have c1 : wr.cell? ⟨BB, j, none⟩ = some (.int .u64 (tabF F j : Nat)) := by
    rw [cell_of_row _ _ _ _ _ _ hat.2.2.2.1, tArr_at _ j hjt]
    simp [midC]
   have c2 : wr.cell? ⟨BB + 1, j, none⟩ = some (.int .u64 (tabF G j : Nat)) := by
    rw [cell_of_row _ _ _ _ _ _ hat.2.2.2.2, tArr_at _ j hjt]
   have hfz := frozen_of_row _ _ j _ _ hat.2.2.2.1
   have E : Hid (∀ i, i < 16 → (if i = j then g (tabF F j) (tabF G j) else midC g (tabF F) (tabF G) j i) = midC g (tabF F) (tabF G) (j + 1) i) := by
    intro i hi
    unfold midC
    by_cases e1 : i < j
    ·rw [if_neg (by omega), if_pos e1, if_pos (by omega)]
    ·by_cases e2 : i < j + 1
     ·obtain rfl : i = j := by omega
      rw [if_pos rfl, if_pos e2]
     ·rw [if_neg (by omega), if_neg e1, if_neg e2]
   clear hat
   go_wp2_with fail
   go_still_tail 10, (by kernel_rfl)
   still_call (HOPg.out _ _ (HTF.out j) (HTG.out j) _)
   repeat still_step
   refine wpStill_nil ?_
   change wpList _ _ _ _ _ wr.drew
   go_wp2_with fail
   go_roundw
   case rel => exact ⟨j + 1, by omega, by go_num, (HA.out.set j _ hjt).ext E.out⟩
   case measure => simp [intOf]; omega
  ·obtain rfl : j = 16 := by omega
   have HA2 := Lib.hid (hat.ext (fun i hi => show midC g (tabF F) (tabF G) 16 i = g (tabF F i) (tabF G i) by simp [midC, hi]))
   have hg := hat.1
   clear hat HA
   go_wp2_with (first | (refine wpList_load_row rfl 181 _ rfl BB rfl 181 _ (0, 0) _ HA2.out.2.2.2.1 Tryz.underlying181 rfl (HS _).out ?_) | (refine wpList_store_row rfl 181 _ _ rfl w.heap.size _ rfl rfl 181 _ HA2.out.2.2.1 (HS _).out (HSZ.out (fun _ => 0) _) (H1.out _) ?_))
   refine bodyPost_ret (v := .tuple #[.agg (tArr fun t => g (tabF F t) (tabF G t)), .int .i64 0]) (results_row_tmp Tryz.results123 _ _ w.heap.size 181 _ (0, 0) _ _ rfl rfl (setRow_heap _ _ _ _ _ _ HA2.out.2.2.1) Tryz.underlying181 rfl (HS _).out) rfl ⟨by rw [HGE.out], ?_⟩
   exact hg.setRow (Nat.le_refl _) _
end Go.Proofs.YtglbnggkkjhokaaGreat
/- The contract of package filter's combine, as Less calls it. -/
namespace Go.Proofs.YtglbnggkkjhokaaGreat
open Go.RowKit Rm
end Go.Proofs.YtglbnggkkjhokaaGreat
/- Joined: FilO, FilK. -/
/- The contract of math/bits.OnesCount64 over words of 32 bits. -/
namespace Rm
open Go Go.RowKit
theorem and_split (a b c d : Nat) (ha : a < 256) (hc : c < 256) : (a + 256 * b) &&& (c + 256 * d) = (a &&& c) + 256 * (b &&& d) := by
 have hac : a &&& c < 256 := Nat.lt_of_le_of_lt Nat.and_le_left ha
 have key : ∀ x y, x < 256 → (x + 256 * y) = 2 ^ 8 * y + x := fun x y _ => by omega
 rw [key a b ha, key c d hc, key (a &&& c) (b &&& d) hac]
 apply Nat.eq_of_testBit_eq
 intro i
 rw [Nat.testBit_and, Nat.testBit_two_pow_mul_add _ (by omega), Nat.testBit_two_pow_mul_add _ (by omega), Nat.testBit_two_pow_mul_add _ (by omega)]
 by_cases h : i < 8
 ·simp [h]
 ·simp [h]
def s1 (a : Nat) : Nat := ((a / 2) &&& 85) + (a &&& 85)
def s2 (a : Nat) : Nat := ((a / 4) &&& 51) + (a &&& 51)
def s3 (a : Nat) : Nat := (a / 16 + a) &&& 15
def stTab : Bool := (List.range 256).all fun a => (List.range 16).all fun r =>
 ((a / 2 + 128 * (r % 2)) &&& 85 == (a / 2) &&& 85) && (((a / 4 + 64 * (r % 4)) &&& 51) == (a / 4) &&& 51) && decide (s1 a < 256) && decide (s2 a < 256) &&
 (!(decide (r ≤ 4)) || ((s2 (s1 a) / 16 + 16 * r + s2 (s1 a)) &&& 15 == s3 (s2 (s1 a)))) && decide (s2 (s1 a) % 16 ≤ 4) && decide (s2 (s1 a) / 16 ≤ 4) && (s3 (s2 (s1 a)) == popTo a 8) && decide (s2 (s1 a) / 16 + 16 * 4 + s2 (s1 a) < 256)
theorem stTab_true : stTab = true := by decide +kernel
theorem stTab_at (a r : Nat) (ha : a < 256) (hr : r < 16) : ((a / 2 + 128 * (r % 2)) &&& 85 = (a / 2) &&& 85) ∧ (((a / 4 + 64 * (r % 4)) &&& 51) = (a / 4) &&& 51) ∧ s1 a < 256 ∧ s2 a < 256 ∧
    (r ≤ 4 → (s2 (s1 a) / 16 + 16 * r + s2 (s1 a)) &&& 15 = s3 (s2 (s1 a))) ∧ s2 (s1 a) % 16 ≤ 4 ∧ s2 (s1 a) / 16 ≤ 4 ∧ s3 (s2 (s1 a)) = popTo a 8 ∧ s2 (s1 a) / 16 + 16 * 4 + s2 (s1 a) < 256 := by
  have H := stTab_true
  unfold stTab at H
  rw [List.all_eq_true] at H
  have H1 := H a (List.mem_range.2 ha)
  rw [List.all_eq_true] at H1
  have H2 := H1 r (List.mem_range.2 hr)
  simp only [Bool.and_eq_true, beq_iff_eq, decide_eq_true_eq, Bool.or_eq_true, Bool.not_eq_true', decide_eq_false_iff_not] at H2
  obtain ⟨⟨⟨⟨⟨⟨⟨⟨h1, h2⟩, h3⟩, h4⟩, h5⟩, h6⟩, h7⟩, h8⟩, h9⟩ := H2
  exact ⟨h1, h2, h3, h4, fun hr => by rcases h5 with h | h; · exact absurd hr h
                                      · exact h, h6, h7, h8, h9⟩
def by4 (a b c d : Nat) : Nat := a + 256 * (b + 256 * (c + 256 * d))
theorem by4_of (x : Nat) (h : x < 2 ^ 32) : x = by4 (x % 256) (x / 256 % 256) (x / 65536 % 256) (x / 16777216 % 256) := by unfold by4; omega
theorem and4 (a b c d m r : Nat) (ha : a < 256) (hb : b < 256) (hc : c < 256) (hd : d < 256) (hm : m < 256) : by4 a b c d &&& (m + 256 * (m + 256 * (m + 256 * (m + 256 * r)))) = by4 (a &&& m) (b &&& m) (c &&& m) (d &&& m) := by
 unfold by4
 rw [and_split _ _ _ _ ha hm, and_split _ _ _ _ hb hm, and_split _ _ _ _ hc hm]
 have := and_split d 0 m r hd hm
 simp only [Nat.mul_zero, Nat.add_zero, Nat.zero_and] at this
 rw [this]
theorem half4 (a b c d : Nat) (ha : a < 256) (hb : b < 256) (hc : c < 256) (hd : d < 256) : by4 a b c d / 2 = by4 (a / 2 + 128 * (b % 2)) (b / 2 + 128 * (c % 2)) (c / 2 + 128 * (d % 2)) (d / 2) := by unfold by4; omega
theorem quar4 (a b c d : Nat) (ha : a < 256) (hb : b < 256) (hc : c < 256) (hd : d < 256) : by4 a b c d / 4 = by4 (a / 4 + 64 * (b % 4)) (b / 4 + 64 * (c % 4)) (c / 4 + 64 * (d % 4)) (d / 4) := by unfold by4; omega
theorem add4 (a b c d a' b' c' d' : Nat) : by4 a b c d + by4 a' b' c' d' = by4 (a + a') (b + b') (c + c') (d + d') := by unfold by4; omega
theorem six4 (a b c d : Nat) (ha : a < 256) (hb : b < 256) (hc : c < 256) (hd : d < 256) : by4 a b c d / 16 = by4 (a / 16 + 16 * (b % 16)) (b / 16 + 16 * (c % 16)) (c / 16 + 16 * (d % 16)) (d / 16) := by unfold by4; omega
theorem step1 (a b c d : Nat) (ha : a < 256) (hb : b < 256) (hc : c < 256) (hd : d < 256) : (by4 a b c d / 2 &&& 6148914691236517205) + (by4 a b c d &&& 6148914691236517205) = by4 (s1 a) (s1 b) (s1 c) (s1 d) := by
 have e : (6148914691236517205 : Nat) = 85 + 256 * (85 + 256 * (85 + 256 * (85 + 256 * 1431655765))) := by decide
 rw [e, half4 a b c d ha hb hc hd, and4 _ _ _ _ 85 _ (by omega) (by omega) (by omega) (by omega) (by omega), and4 a b c d 85 _ ha hb hc hd (by omega), add4]
 have ta := (stTab_at a (b % 16) ha (by omega)).1
 have tb := (stTab_at b (c % 16) hb (by omega)).1
 have tc := (stTab_at c (d % 16) hc (by omega)).1
 rw [show b % 16 % 2 = b % 2 by omega] at ta
 rw [show c % 16 % 2 = c % 2 by omega] at tb
 rw [show d % 16 % 2 = d % 2 by omega] at tc
 rw [ta, tb, tc]
 rfl
theorem step2 (a b c d : Nat) (ha : a < 256) (hb : b < 256) (hc : c < 256) (hd : d < 256) : (by4 a b c d / 4 &&& 3689348814741910323) + (by4 a b c d &&& 3689348814741910323) = by4 (s2 a) (s2 b) (s2 c) (s2 d) := by
 have e : (3689348814741910323 : Nat) = 51 + 256 * (51 + 256 * (51 + 256 * (51 + 256 * 858993459))) := by decide
 rw [e, quar4 a b c d ha hb hc hd, and4 _ _ _ _ 51 _ (by omega) (by omega) (by omega) (by omega) (by omega), and4 a b c d 51 _ ha hb hc hd (by omega), add4]
 have ta := (stTab_at a (b % 16) ha (by omega)).2.1
 have tb := (stTab_at b (c % 16) hb (by omega)).2.1
 have tc := (stTab_at c (d % 16) hc (by omega)).2.1
 rw [show b % 16 % 4 = b % 4 by omega] at ta
 rw [show c % 16 % 4 = c % 4 by omega] at tb
 rw [show d % 16 % 4 = d % 4 by omega] at tc
 rw [ta, tb, tc]
 rfl
theorem step3 (a b c d : Nat) (ha : a < 256) (hb : b < 256) (hc : c < 256) (hd : d < 256) :
  ((by4 (s2 (s1 a)) (s2 (s1 b)) (s2 (s1 c)) (s2 (s1 d)) / 16 + by4 (s2 (s1 a)) (s2 (s1 b)) (s2 (s1 c)) (s2 (s1 d))) &&& 1085102592571150095) = by4 (popTo a 8) (popTo b 8) (popTo c 8) (popTo d 8) := by
 have e : (1085102592571150095 : Nat) = 15 + 256 * (15 + 256 * (15 + 256 * (15 + 256 * 252645135))) := by decide
 obtain ⟨_, _, _, _, _, ma, qa, pa, za⟩ := stTab_at a 0 ha (by omega)
 obtain ⟨_, _, _, _, _, mb, qb, pb, zb⟩ := stTab_at b 0 hb (by omega)
 obtain ⟨_, _, _, _, _, mc, qc, pc, zc⟩ := stTab_at c 0 hc (by omega)
 obtain ⟨_, _, _, _, r0, md, qd, pd, zd⟩ := stTab_at d 0 hd (by omega)
 have ra := (stTab_at a (s2 (s1 b) % 16) ha (by omega)).2.2.2.2.1 mb
 have rb := (stTab_at b (s2 (s1 c) % 16) hb (by omega)).2.2.2.2.1 mc
 have rc := (stTab_at c (s2 (s1 d) % 16) hc (by omega)).2.2.2.2.1 md
 have rd := r0 (by omega)
 rw [e, six4 _ _ _ _ (by omega) (by omega) (by omega) (by omega), add4, and4 _ _ _ _ 15 _ (by omega) (by omega) (by omega) (by omega) (by omega), ra, rb, rc, pa, pb, pc]
 rw [Nat.mul_zero, Nat.add_zero] at rd
 rw [rd, pd]
theorem pop_end (p q r s : Nat) (hp : p ≤ 8) (hq : q ≤ 8) (hr : r ≤ 8) (hs : s ≤ 8) : ∀ x y z, x = by4 p q r s + by4 p q r s / 256 → y = x + x / 65536 → z = y + y / 4294967296 → z % 128 = p + q + r + s := by
 intro x y z hx hy hz
 have d1 : by4 p q r s / 256 = q + 256 * (r + 256 * s) := by unfold by4; omega
 rw [d1] at hx
 unfold by4 at hx
 have d2 : x / 65536 = r + s + 256 * s := by omega
 rw [d2] at hy
 have d3 : y / 4294967296 = 0 := by omega
 rw [d3] at hz
 omega
end Rm
namespace Go.Proofs.YtglbnggkkjhokaaGreat
open Go.RowKit Rm
theorem u64_small (n : Nat) (h : n < 18446744073709551616) : IntKind.u64.wrap (n : Int) = (n : Int) := by rw [IntKind.wrap_u64]; omega
theorem ones_eqs (x : Nat) (hx : x < 2 ^ 32) : ∃ y1 y2 y3 y4 y5 y6 : Nat,
  IntKind.u64.wrap (bits .and .u64 ((x : Int) / 2) 6148914691236517205 + bits .and .u64 (x : Int) 6148914691236517205) = (y1 : Int) ∧
  IntKind.u64.wrap (bits .and .u64 ((y1 : Int) / 4) 3689348814741910323 + bits .and .u64 (y1 : Int) 3689348814741910323) = (y2 : Int) ∧
  bits .and .u64 (IntKind.u64.wrap ((y2 : Int) / 16 + (y2 : Int))) 1085102592571150095 = (y3 : Int) ∧
  IntKind.u64.wrap ((y3 : Int) + (y3 : Int) / 256) = (y4 : Int) ∧ IntKind.u64.wrap ((y4 : Int) + (y4 : Int) / 65536) = (y5 : Int) ∧ IntKind.u64.wrap ((y5 : Int) + (y5 : Int) / 4294967296) = (y6 : Int) ∧
  (y6 : Int) < 17179869184 ∧ bits .and .i64 (y6 : Int) 127 = ((popc x : Nat) : Int) := by
 have ha : x % 256 < 256 := by omega
 have hb : x / 256 % 256 < 256 := by omega
 have hc : x / 65536 % 256 < 256 := by omega
 have hd : x / 16777216 % 256 < 256 := by omega
 have hp := popc_bytes x
 have q1 := step1 _ _ _ _ ha hb hc hd
 rw [← by4_of x hx] at q1
 have la := (stTab_at _ 0 ha (by omega))
 have lb := (stTab_at _ 0 hb (by omega))
 have lc := (stTab_at _ 0 hc (by omega))
 have ld := (stTab_at _ 0 hd (by omega))
 have q2 := step2 _ _ _ _ la.2.2.1 lb.2.2.1 lc.2.2.1 ld.2.2.1
 have q3 := step3 _ _ _ _ ha hb hc hd
 generalize x % 256 = a at *
 generalize x / 256 % 256 = b at *
 generalize x / 65536 % 256 = c at *
 generalize x / 16777216 % 256 = d at *
 have pa := popTo_le a 8
 have pb := popTo_le b 8
 have pc := popTo_le c 8
 have pd := popTo_le d 8
 have z1 : by4 (s1 a) (s1 b) (s1 c) (s1 d) < 4294967296 := by have := la.2.2.1; have := lb.2.2.1; have := lc.2.2.1; have := ld.2.2.1; unfold by4; omega
 have z2 : by4 (s2 (s1 a)) (s2 (s1 b)) (s2 (s1 c)) (s2 (s1 d)) < 4294967296 := by
  have := la.2.2.2.2.2.2.2.2; have := lb.2.2.2.2.2.2.2.2; have := lc.2.2.2.2.2.2.2.2; have := ld.2.2.2.2.2.2.2.2
  unfold by4; omega
 have z3 : by4 (popTo a 8) (popTo b 8) (popTo c 8) (popTo d 8) < 4294967296 := by unfold by4; omega
 have hfin := pop_end _ _ _ _ pa pb pc pd _ _ _ rfl rfl rfl
 clear la lb lc ld
 generalize by4 (s1 a) (s1 b) (s1 c) (s1 d) = y1 at *
 generalize by4 (s2 (s1 a)) (s2 (s1 b)) (s2 (s1 c)) (s2 (s1 d)) = y2 at *
 generalize by4 (popTo a 8) (popTo b 8) (popTo c 8) (popTo d 8) = y3 at *
 have l1 : x / 2 &&& 6148914691236517205 ≤ x / 2 := Nat.and_le_left
 have l2 : x &&& 6148914691236517205 ≤ x := Nat.and_le_left
 have l3 : y1 / 4 &&& 3689348814741910323 ≤ y1 / 4 := Nat.and_le_left
 have l4 : y1 &&& 3689348814741910323 ≤ y1 := Nat.and_le_left
 have h32 : x < 4294967296 := hx
 refine ⟨y1, y2, y3, y3 + y3 / 256, y3 + y3 / 256 + (y3 + y3 / 256) / 65536,
  y3 + y3 / 256 + (y3 + y3 / 256) / 65536 + (y3 + y3 / 256 + (y3 + y3 / 256) / 65536) / 4294967296, ?_, ?_, ?_, ?_, ?_, ?_, ?_, ?_⟩
 ·have e1 := u64_and_nat (x / 2) 6148914691236517205 (by omega) (by omega)
  have e2 := u64_and_nat x 6148914691236517205 (by omega) (by omega)
  rw [show ((x / 2 : Nat) : Int) = (x : Int) / 2 by omega] at e1
  rw [show (((6148914691236517205 : Nat)) : Int) = 6148914691236517205 from rfl] at e1 e2
  rw [e1, e2, ← Int.natCast_add, q1]
  exact u64_small _ (by omega)
 ·have e1 := u64_and_nat (y1 / 4) 3689348814741910323 (by omega) (by omega)
  have e2 := u64_and_nat y1 3689348814741910323 (by omega) (by omega)
  rw [show ((y1 / 4 : Nat) : Int) = (y1 : Int) / 4 by omega] at e1
  rw [show (((3689348814741910323 : Nat)) : Int) = 3689348814741910323 from rfl] at e1 e2
  rw [e1, e2, ← Int.natCast_add, q2]
  exact u64_small _ (by omega)
 ·rw [show (y2 : Int) / 16 + (y2 : Int) = ((y2 / 16 + y2 : Nat) : Int) by omega, u64_small _ (by omega)]
  have e1 := u64_and_nat (y2 / 16 + y2) 1085102592571150095 (by omega) (by omega)
  rw [q3] at e1
  exact e1
 ·rw [show (y3 : Int) + (y3 : Int) / 256 = ((y3 + y3 / 256 : Nat) : Int) by omega]
  exact u64_small _ (by omega)
 ·have z4 : y3 + y3 / 256 < 8589934592 := by omega
  generalize y3 + y3 / 256 = y4 at *
  rw [show (y4 : Int) + (y4 : Int) / 65536 = ((y4 + y4 / 65536 : Nat) : Int) by omega]
  exact u64_small _ (by omega)
 ·have z5 : y3 + y3 / 256 + (y3 + y3 / 256) / 65536 < 17179869184 := by omega
  generalize y3 + y3 / 256 + (y3 + y3 / 256) / 65536 = y5 at *
  rw [show (y5 : Int) + (y5 : Int) / 4294967296 = ((y5 + y5 / 4294967296 : Nat) : Int) by omega]
  exact u64_small _ (by omega)
 ·omega
 ·rw [i64_and127, hp, ← hfin]
  omega
theorem ones64_mask (x : Nat) (w : World) (hx : x < 2 ^ 32) :
  Calls Tryz.prog 243 #[.int .u64 x] w fun e w' => e = .returned (.int .i64 (popc x : Nat)) ∧ w = w' := by
 obtain ⟨y1, y2, y3, y4, y5, y6, e1, e2, e3, e4, e5, e6, e7, e8⟩ := ones_eqs x hx
 have hx' : (x : Int) < 4294967296 := by omega
 clear hx
 go_enter Tryz.func243, Tryz.ntmps243
 go_wp2
 go_ret
 exact ⟨rfl, rfl⟩
end Go.Proofs.YtglbnggkkjhokaaGreat
/- Package filter by tables: what each function does to filters that are told by the numbers of each combination of tags. -/
namespace Rm
open Go Go.RowKit
def eqT (T U : Nat → Nat) : Bool := (List.range 16).all fun i => ((T i : Nat) : Int) == ((U i : Nat) : Int)
def allT (P : Nat → Bool) : Bool := (List.range 16).all P
theorem allT_iff {P : Nat → Bool} : allT P = true ↔ ∀ t, t < 16 → P t = true := by simp [allT]
theorem allT_congr {P Q : Nat → Bool} (h : ∀ t, t < 16 → P t = Q t) : allT P = allT Q := by
 rw [Bool.eq_iff_iff, allT_iff, allT_iff]
 exact ⟨fun a t ht => by rw [← h t ht]; exact a t ht, fun a t ht => by rw [h t ht]; exact a t ht⟩
def withinT (T U : Nat → Nat) : Bool := allT fun t => lessM (T t) (U t) == 0
theorem eqT_zero (T : Nat → Nat) : eqT T (fun _ => 0) = allT fun t => T t == 0 := by
 refine allT_congr fun t _ => ?_
 rw [Bool.eq_iff_iff]
 simp
end Rm
namespace Go.Proofs.YtglbnggkkjhokaaGreat
open Go.RowKit Rm
theorem eqItems_tArr (d : Nat) (T U : Nat → Nat) (w : World) : ∀ is : List Nat, (∀ i ∈ is, i < 16) → (Op.eqItems (d + 1) 179 1 (tArr T) (tArr U) is).run Tryz.prog w = .ok (is.all fun i => ((T i : Nat) : Int) == ((U i : Nat) : Int)) w
 | [], _ => by simp [Op.eqItems]
 | i :: is, h => by
  have hi : i < 16 := h i (List.mem_cons_self ..)
  have ih := eqItems_tArr d T U w is (fun j hj => h j (List.mem_cons_of_mem _ hj))
  have ha : (isAgg 179).run Tryz.prog w = .ok false w := by
   unfold isAgg
   rw [Sem.run_bind, run_underlying Tryz.underlying179 w]
   rfl
  have p1 : (part 179 (tArr T) (i * 1)).run Tryz.prog w = .ok (.int .u64 (T i : Nat)) w := by
   unfold part
   rw [Sem.run_bind, ha]
   simp [tArr_at T i hi]
  have p2 : (part 179 (tArr U) (i * 1)).run Tryz.prog w = .ok (.int .u64 (U i : Nat)) w := by
   unfold part
   rw [Sem.run_bind, ha]
   simp [tArr_at U i hi]
  have p3 : (Op.equalIn (d + 1) 179 (.int .u64 (T i : Nat)) (.int .u64 (U i : Nat))).run Tryz.prog w = .ok (((T i : Nat) : Int) == ((U i : Nat) : Int)) w := by
   simp [Op.equalIn, Sem.run_bind, run_underlying Tryz.underlying179]
  simp only [Op.eqItems, Sem.run_bind, p1, p2, p3, Result.andThen_ok]
  cases hc : (((T i : Nat) : Int) == ((U i : Nat) : Int))
  ·simp [hc]
  ·simp [hc, ih]
theorem set_cells : Tryz.prog.cellsOf 179 = 1 := by kernel_rfl
theorem eq_tables (T U : Nat → Nat) (w : World) : (Op.equalIn 10000 181 (.agg (tArr T)) (.agg (tArr U))).run Tryz.prog w = .ok (eqT T U) w := by
 obtain ⟨i, hi⟩ : ∃ i, Tryz.prog.info? 179 = some i := by
  cases hq : Tryz.prog.info? 179 with
  | none => have := set_info; rw [hq] at this; simp at this
  | some i => exact ⟨i, rfl⟩
 rw [run_equalIn_array (P := Tryz.prog) w 9999 (tArr T) (tArr U) Tryz.underlying181 hi, set_cells]
 exact eqItems_tArr 9998 T U w (List.range 16) (fun i hi => List.mem_range.1 hi)
def FSn (n : Nat) (w : World) (v : Value) (T : Nat → Nat) : Prop := ∃ F, RdF w v (F.map boxI) ∧ OkF F ∧ F.length ≤ n ∧ ∀ t, t < 16 → tabF F t = T t
abbrev FS (w : World) (v : Value) (T : Nat → Nat) : Prop := FSn 40 w v T
theorem FSn.gr {n : Nat} {w w' : World} {v : Value} {T : Nat → Nat} (h : FSn n w v T) (g : Gr w w') : FSn n w' v T := by
 obtain ⟨F, h1, h2⟩ := h
 exact ⟨F, h1.gr g, h2⟩
theorem FSn.le {n m : Nat} {w : World} {v : Value} {T : Nat → Nat} (h : FSn n w v T) (hn : n ≤ m) : FSn m w v T := by
 obtain ⟨F, h1, h2, h3, h4⟩ := h
 exact ⟨F, h1, h2, by omega, h4⟩
theorem FSn.lt {n : Nat} {w : World} {v : Value} {T : Nat → Nat} (h : FSn n w v T) (t : Nat) (ht : t < 16) : T t < 2 ^ 32 := by
 obtain ⟨F, h1, h2, h3, h4⟩ := h
 rw [← h4 t ht]
 exact tabF_lt h2 t
def FO (base n : Nat) (w : World) (v : Value) (T : Nat → Nat) : Prop :=
  ∃ O : List (Bx × Value), w.ownsRow base 134 3 v O.length (flatO O) ∧ (∀ p ∈ O, w.ownsRow base 177 2 p.2 (pairs (canon p.1.2)).length (flat (pairs (canon p.1.2)))) ∧ OkF (O.map (·.1)) ∧ O.length ≤ n ∧ ∀ t, t < 16 → tabF (O.map (·.1)) t = T t
theorem own_base {w : World} {base base' : Nat} {e : TypeId} {size : Nat} {v : Value} {n : Nat} {xs : List Value} (h : w.ownsRow base e size v n xs) (hb : base' ≤ base) : w.ownsRow base' e size v n xs := by
 refine ⟨h.1, ?_⟩
 rcases h.2 with ⟨a, b⟩ | ⟨g, cap, cur, a, b, c⟩
 ·exact .inl ⟨a, b⟩
 ·exact .inr ⟨g, cap, cur, a, Nat.le_trans hb b, c⟩
theorem FO.gr {base n : Nat} {w w' : World} {v : Value} {T : Nat → Nat} (h : FO base n w v T) (g : Gr w w') : FO base n w' v T := by
 obtain ⟨O, h1, h2, h3⟩ := h
 exact ⟨O, own_gr h1 g, fun p hp => own_gr (h2 p hp) g, h3⟩
theorem FO.base {base base' n : Nat} {w : World} {v : Value} {T : Nat → Nat} (h : FO base n w v T) (hb : base' ≤ base) : FO base' n w v T := by
 obtain ⟨O, h1, h2, h3⟩ := h
 exact ⟨O, own_base h1 hb, fun p hp => own_base (h2 p hp) hb, h3⟩
theorem FO.ext {base n : Nat} {w : World} {v : Value} {T U : Nat → Nat} (h : FO base n w v T) (e : ∀ t, t < 16 → T t = U t) : FO base n w v U := by
 obtain ⟨O, h1, h2, h3, h4, h5⟩ := h
 exact ⟨O, h1, h2, h3, h4, fun t ht => (h5 t ht).trans (e t ht)⟩
theorem FO.fs {base n : Nat} {w : World} {v : Value} {T : Nat → Nat} (h : FO base n w v T) : FSn n w v T := by
 obtain ⟨O, h1, h2, h3, h4, h5⟩ := h
 exact ⟨O.map (·.1), rd_own h1 h2, h3, by simpa using h4, h5⟩
theorem boxes_own {T : Nat → Nat} {w : World} (hT : ∀ t, t < 16 → T t < 2 ^ 32) : Calls Tryz.prog 125 #[.agg (tArr T)] w fun e w' => ∃ u, e = .returned u ∧ FO w.heap.size 16 w' u T ∧ Gr w w' :=
 (boxes_any T w hT).mono fun e w' ⟨u, O, he, hg, ⟨wl, hl1, ho⟩, hok, hl, ht⟩ => ⟨u, he, ⟨O, own_base ho.2.1 hl1.le, fun p hp => own_base (ho.2.2 p hp).1 hl1.le, hok, by have := blkT_len T 16; omega, ht⟩, hg⟩
theorem fjoin_own {v v' : Value} {T U : Nat → Nat} {w : World} (h : FS w v T) (h' : FS w v' U) :
  Calls Tryz.prog 65 #[v, v'] w fun e w' => ∃ u, e = .returned (.tuple #[u, .int .i64 0]) ∧ FO w.heap.size 16 w' u (fun t => T t ||| U t) ∧ Gr w w' := by
 obtain ⟨F, h1, hF, hl1, t1⟩ := h
 obtain ⟨G, h2, hG, hl2, t2⟩ := h'
 obtain ⟨R, hR⟩ : ∃ R : Nat → Nat, R = fun t => tabF F t ||| tabF G t := ⟨_, rfl⟩
 have HS : Hid ((Tryz.prog.info? 181).map (·.size) = some (tArr R).size) := by rw [tArr_size]; exact table_info
 have HSZ : Hid ((tArr fun _ => 0).size = (tArr R).size) := by rw [tArr_size, tArr_size]; rfl
 have H1 := Lib.hid (tArr_one R)
 have HLT : Hid (∀ t, t < 16 → R t < 2 ^ 32) := fun t _ => by rw [hR]; exact Nat.or_lt_two_pow (tabF_lt hF t) (tabF_lt hG t)
 have HT : Hid (∀ t, t < 16 → R t = T t ||| U t) := fun t ht => by rw [hR]; simp only; rw [t1 t ht, t2 t ht]
 have HCC := Lib.hid (fcombine_join v v' F G w h1 h2 hF hG hl1 hl2)
 rw [← hR] at HCC
 clear h1 h2 hF hG hl1 hl2 t1 t2 hR
 go_enter Tryz.func65, Tryz.ntmps65
 go_wp2_with fail
 refine HCC.out.mono ?_
 rintro e w1 ⟨rfl, g1⟩
 go_wp2_with (first
  | (refine wpList_store_row rfl 181 (.tmp 6) (.tmp 12) rfl w1.heap.size (tArr R) rfl rfl 181 _ (heap_alloc_new _ _) HS.out HSZ.out H1.out ?_)
  | (refine wpList_load_row rfl 181 _ rfl w1.heap.size rfl 181 (tArr R) (0, 0) _ (setRow_heap _ _ _ _ _ _ (heap_alloc_new _ _)) Tryz.underlying181 rfl HS.out ?_))
 refine (boxes_own HLT.out).mono ?_
 rintro e w2 ⟨u, rfl, hu, g2⟩
 go_wp2_with fail
 go_ret2
 exact ⟨u, rfl, (hu.ext HT.out).base ((g1.alloc _).setRow g1.le _).le, ((g1.alloc _).setRow g1.le _).trans g2⟩
theorem fmeet_own {v v' : Value} {T U : Nat → Nat} {w : World} (h : FS w v T) (h' : FS w v' U) :
  Calls Tryz.prog 66 #[v, v'] w fun e w' => ∃ u, e = .returned (.tuple #[u, .int .i64 0]) ∧ FO w.heap.size 16 w' u (fun t => T t &&& U t) ∧ Gr w w' := by
 obtain ⟨F, h1, hF, hl1, t1⟩ := h
 obtain ⟨G, h2, hG, hl2, t2⟩ := h'
 obtain ⟨R, hR⟩ : ∃ R : Nat → Nat, R = fun t => tabF F t &&& tabF G t := ⟨_, rfl⟩
 have HS : Hid ((Tryz.prog.info? 181).map (·.size) = some (tArr R).size) := by rw [tArr_size]; exact table_info
 have HSZ : Hid ((tArr fun _ => 0).size = (tArr R).size) := by rw [tArr_size, tArr_size]; rfl
 have H1 := Lib.hid (tArr_one R)
 have HLT : Hid (∀ t, t < 16 → R t < 2 ^ 32) := fun t _ => by rw [hR]; exact Nat.lt_of_le_of_lt Nat.and_le_left (tabF_lt hF t)
 have HT : Hid (∀ t, t < 16 → R t = T t &&& U t) := fun t ht => by rw [hR]; simp only; rw [t1 t ht, t2 t ht]
 have HCC := Lib.hid (fcombine_meet v v' F G w h1 h2 hF hG hl1 hl2)
 rw [← hR] at HCC
 clear h1 h2 hF hG hl1 hl2 t1 t2 hR
 go_enter Tryz.func66, Tryz.ntmps66
 go_wp2_with fail
 refine HCC.out.mono ?_
 rintro e w1 ⟨rfl, g1⟩
 go_wp2_with (first
  | (refine wpList_store_row rfl 181 (.tmp 6) (.tmp 12) rfl w1.heap.size (tArr R) rfl rfl 181 _ (heap_alloc_new _ _) HS.out HSZ.out H1.out ?_)
  | (refine wpList_load_row rfl 181 _ rfl w1.heap.size rfl 181 (tArr R) (0, 0) _ (setRow_heap _ _ _ _ _ _ (heap_alloc_new _ _)) Tryz.underlying181 rfl HS.out ?_))
 refine (boxes_own HLT.out).mono ?_
 rintro e w2 ⟨u, rfl, hu, g2⟩
 go_wp2_with fail
 go_ret2
 exact ⟨u, rfl, (hu.ext HT.out).base ((g1.alloc _).setRow g1.le _).le, ((g1.alloc _).setRow g1.le _).trans g2⟩
end Go.Proofs.YtglbnggkkjhokaaGreat
/- Joined: FilDWithin, FilDSame. -/
/- The contract of package filter's combine, as Within calls it. -/
namespace Go.Proofs.YtglbnggkkjhokaaGreat
open Go.RowKit Rm
theorem fcombine_within (v v' : Value) (F G : List Bx) (w : World) (hl : RdF w v (F.map boxI)) (hr : RdF w v' (G.map boxI)) (hF : OkF F) (hG : OkF G) (hlF : F.length ≤ 40) (hlG : G.length ≤ 40) :
  Calls Tryz.prog 123 #[v, v', .func (.func 242) #[] #[]] w fun e w' => e = .returned (.tuple #[.agg (tArr fun t => lessM (tabF F t) (tabF G t)), .int .i64 0]) ∧ Gr w w' := by
 have HS : ∀ T, Hid ((Tryz.prog.info? 181).map (·.size) = some (tArr T).size) := fun T => by unfold Hid; rw [tArr_size]; exact table_info
 have hc1 := chkF_of hF hlF
 have hc2 := chkF_of hG hlG
 have HL := Lib.hid hl
 have HR := Lib.hid hr
 have HF := Lib.hid hF
 have HG := Lib.hid hG
 have HOP := Lib.hid uop_within
 obtain ⟨g, hge⟩ : ∃ g : Nat → Nat → Nat, g = (fun a b => lessM a b) := ⟨_, rfl⟩
 have HOPg : Hid (OpU 242 g) := by rw [hge]; exact HOP.out
 have HGE := Lib.hid hge
 clear hge HOP
 have HSZ := Lib.hid (fun (T U : Nat → Nat) => show (tArr T).size = (tArr U).size by rw [tArr_size, tArr_size])
 have H1 := Lib.hid tArr_one
 have HTF := Lib.hid (fun t => tabF_lt hF t)
 have HTG := Lib.hid (fun t => tabF_lt hG t)
 clear hl hr hF hG
 go_enter Tryz.func123, Tryz.ntmps123
 go_wp2_with fail
 refine (fcheck_any _ _ _ (HL.out.alloc _)).mono ?_
 rw [hc1]
 rintro e w1 ⟨rfl, g1⟩
 have HB1 : Hid (w1.heap[w.heap.size]? = some (.cells (tArr fun _ => 0) 181 (0, 0))) := (Below.block g1 _ (by simp)).trans (heap_alloc_new _ _)
 have G1 := ((Gr.refl w).alloc _).trans g1
 clear g1
 go_wp2_with fail
 refine (fcheck_any _ _ _ (HR.out.gr G1)).mono ?_
 rw [hc2]
 rintro e w2 ⟨rfl, g2⟩
 have HB2 : Hid (w2.heap[w.heap.size]? = some (.cells (tArr fun _ => 0) 181 (0, 0))) := (Below.block g2 _ (Blk_lt HB1.out)).trans HB1.out
 have G2 := G1.trans g2
 clear g2 HB1 G1
 go_wp2_with fail
 refine (tableOf_any _ _ _ (HL.out.gr G2) HF.out hlF).mono ?_
 rintro e w3 ⟨rfl, g3⟩
 have HB3 : Hid (w3.heap[w.heap.size]? = some (.cells (tArr fun _ => 0) 181 (0, 0))) := (Below.block g3 _ (Blk_lt HB2.out)).trans HB2.out
 have G3 := G2.trans g3
 clear g3 HB2 G2
 go_wp2_with fail
 refine (tableOf_any _ _ _ (HR.out.gr G3) HG.out hlG).mono ?_
 rintro e w4 ⟨rfl, g4⟩
 have HB4 : Hid (w4.heap[w.heap.size]? = some (.cells (tArr fun _ => 0) 181 (0, 0))) := (Below.block g4 _ (Blk_lt HB3.out)).trans HB3.out
 have G4 := G3.trans g4
 clear g4 HB3 G3
 have HLT := Lib.hid (Blk_lt HB4.out)
 go_wp2_with (first
  | (refine wpList_store_row rfl 181 (.tmp 10) (.tmp 26) rfl w4.heap.size _ rfl rfl 181 _ (heap_alloc2_old _ _ _) (HS _).out (HSZ.out (fun _ => 0) _) (H1.out _) ?_)
  | (refine wpList_store_row rfl 181 (.tmp 11) (.tmp 28) rfl (w4.heap.size + 1) _ rfl rfl 181 _ ((setRow_other _ _ _ _ (by omega)).trans (heap_alloc2_new _ _ _)) (HS _).out (HSZ.out (fun _ => 0) _) (H1.out _) ?_))
 have A0 := Lib.hid (combAt_start (T := tabF F) (U := tabF G) (A := tArr fun _ => 0) (B := tArr fun _ => 0) G4 HLT.out HB4.out)
 go_loopw [29] (fun jj wi => ∃ j : Nat, j ≤ 16 ∧ jj = .int .i64 j ∧ CombAt w wi w4.heap.size (midC g (tabF F) (tabF G) j) (tabF G)) (fun jj _ => 16 - (intOf jj).toNat)
 case atStart => exact ⟨0, by omega, rfl, A0.out.ext (fun i _ => by simp [midC])⟩
 case round =>
  clear A0
  obtain ⟨j, hj, rfl, hat⟩ := hrel
  generalize w4.heap.size = BB at *
  have HA := Lib.hid hat
  by_cases hjt : j < 16
  ·have hj16 : (j : Int) < 16 := by omega
   have c1 : wr.cell? ⟨BB, j, none⟩ = some (.int .u64 (tabF F j : Nat)) := by
    rw [cell_of_row _ _ _ _ _ _ hat.2.2.2.1, tArr_at _ j hjt]
    simp [midC]
   have c2 : wr.cell? ⟨BB + 1, j, none⟩ = some (.int .u64 (tabF G j : Nat)) := by
    rw [cell_of_row _ _ _ _ _ _ hat.2.2.2.2, tArr_at _ j hjt]
   have hfz := frozen_of_row _ _ j _ _ hat.2.2.2.1
   have E : Hid (∀ i, i < 16 → (if i = j then g (tabF F j) (tabF G j) else midC g (tabF F) (tabF G) j i) = midC g (tabF F) (tabF G) (j + 1) i) := by
    intro i hi
    unfold midC
    by_cases e1 : i < j
    ·rw [if_neg (by omega), if_pos e1, if_pos (by omega)]
    ·by_cases e2 : i < j + 1
     ·obtain rfl : i = j := by omega
      rw [if_pos rfl, if_pos e2]
     ·rw [if_neg (by omega), if_neg e1, if_neg e2]
   clear hat
   go_wp2_with fail
   go_still_tail 10, (by kernel_rfl)
   still_call (HOPg.out _ _ (HTF.out j) (HTG.out j) _)
   repeat still_step
   refine wpStill_nil ?_
   change wpList _ _ _ _ _ wr.drew
   go_wp2_with fail
   go_roundw
   case rel => exact ⟨j + 1, by omega, by go_num, (HA.out.set j _ hjt).ext E.out⟩
   case measure => simp [intOf]; omega
  ·obtain rfl : j = 16 := by omega
   have HA2 := Lib.hid (hat.ext (fun i hi => show midC g (tabF F) (tabF G) 16 i = g (tabF F i) (tabF G i) by simp [midC, hi]))
   have hg := hat.1
   clear hat HA
   go_wp2_with (first | (refine wpList_load_row rfl 181 _ rfl BB rfl 181 _ (0, 0) _ HA2.out.2.2.2.1 Tryz.underlying181 rfl (HS _).out ?_) | (refine wpList_store_row rfl 181 _ _ rfl w.heap.size _ rfl rfl 181 _ HA2.out.2.2.1 (HS _).out (HSZ.out (fun _ => 0) _) (H1.out _) ?_))
   refine bodyPost_ret (v := .tuple #[.agg (tArr fun t => g (tabF F t) (tabF G t)), .int .i64 0]) (results_row_tmp Tryz.results123 _ _ w.heap.size 181 _ (0, 0) _ _ rfl rfl (setRow_heap _ _ _ _ _ _ HA2.out.2.2.1) Tryz.underlying181 rfl (HS _).out) rfl ⟨by rw [HGE.out], ?_⟩
   exact hg.setRow (Nat.le_refl _) _
end Go.Proofs.YtglbnggkkjhokaaGreat
/- The contract of package filter's combine, as Same calls it. -/
namespace Go.Proofs.YtglbnggkkjhokaaGreat
open Go.RowKit Rm
end Go.Proofs.YtglbnggkkjhokaaGreat
/- Joined: FilL, FilN, FilQ, FilR. -/
/- Package filter by tables: Join, Meet, Less where Check refuses; Within and Same. -/
namespace Rm
open Go
theorem wpList_load_row_g {P : Program} {ops : Array Oper} {rest : List Oper} {o : Oper} {a : Act} {w : World} {Q : Exit → Act → World → Prop} (hw : Region.wanted o (yielded ops a.tmps) = true) (ty : TypeId) (x : Operand) (ho : o.op = .load ty x)
    (g : Nat) (hx : a.eval x = .pointer (some ⟨g, 0, none⟩)) (t : TypeId) (cs : Array Value) (fr : Nat × Nat) (d : TypeDesc) (hg : w.heap[g]? = some (.cells cs t fr))
    (hu : P.underlying ty = some d) (hd : (match d with | .struct _ | .array _ _ => true | _ => false) = true) (hi : (P.info? ty).map (·.size) = some cs.size)
    (h : wpList P ops Q rest (a.put o.dst (.agg cs)) w) : wpList P ops Q (o :: rest) a w :=
  wpList_step fun K hK => by rw [if_pos hw]; exact wp_load_row ty x ho g hx t cs fr d hg hu hd hi (hK _ _ h)
end Rm
namespace Go.Proofs.YtglbnggkkjhokaaGreat
open Go.RowKit Rm
theorem fwithin_ok {v v' : Value} {T U : Nat → Nat} {w : World} (h : FS w v T) (h' : FS w v' U) :
  Calls Tryz.prog 212 #[v, v'] w fun e w' => e = .returned (.tuple #[.bool (withinT T U), .int .i64 0]) ∧ Gr w w' := by
 obtain ⟨F, h1, hF, hl1, t1⟩ := h
 obtain ⟨G, h2, hG, hl2, t2⟩ := h'
 obtain ⟨R, hR0⟩ : ∃ R : Nat → Nat, R = fun t => lessM (tabF F t) (tabF G t) := ⟨_, rfl⟩
 have hR : ∀ t, R t = lessM (tabF F t) (tabF G t) := fun t => by rw [hR0]
 have HS : Hid ((Tryz.prog.info? 181).map (·.size) = some (tArr R).size) := by rw [tArr_size]; exact table_info
 have HSZ : Hid ((tArr fun _ => 0).size = (tArr R).size) := by rw [tArr_size, tArr_size]; rfl
 have H1 := Lib.hid (tArr_one R)
 have HE : eqT R (fun _ => 0) = withinT T U := by
  rw [eqT_zero]
  exact allT_congr fun t ht => by rw [hR, t1 t ht, t2 t ht]
 have hq : ∀ wx : World, (Op.equalIn 10000 181 (.agg (tArr R)) (.agg #[.int .u64 0, .int .u64 0, .int .u64 0, .int .u64 0, .int .u64 0, .int .u64 0, .int .u64 0, .int .u64 0, .int .u64 0, .int .u64 0, .int .u64 0, .int .u64 0, .int .u64 0, .int .u64 0, .int .u64 0, .int .u64 0])).run Tryz.prog wx = .ok (withinT T U) wx := fun wx => by
  rw [← HE]
  exact eq_tables R (fun _ => 0) wx
 have HCC := Lib.hid (fcombine_within v v' F G w h1 h2 hF hG hl1 hl2)
 rw [← hR0] at HCC
 clear h1 h2 hF hG hl1 hl2 t1 t2 hR hR0 HE
 go_enter Tryz.func212, Tryz.ntmps212
 go_wp2_with fail
 refine HCC.out.mono ?_
 rintro e w1 ⟨rfl, g1⟩
 go_wp2_with (first
  | (refine wpList_store_row rfl 181 (.tmp 6) (.tmp 12) rfl w1.heap.size (tArr R) rfl rfl 181 _ (heap_alloc_new _ _) HS.out HSZ.out H1.out ?_)
  | (refine wpList_load_row_g rfl 181 (.tmp 6) rfl w1.heap.size rfl 181 (tArr R) (0, 0) _ (setRow_heap _ _ _ _ _ _ (heap_alloc_new _ _)) Tryz.underlying181 rfl HS.out ?_))
 go_ret2
 exact ⟨rfl, (g1.alloc _).setRow g1.le _⟩
end Go.Proofs.YtglbnggkkjhokaaGreat
/- Package filter by tables: Point, Has, Count, Every; the statements' same and filterBegun. -/
namespace Rm
open Go Go.RowKit
def pointB (t n : Int) : Bool := decide (0 ≤ t) && decide (t < 16) && (decide (0 ≤ n) && decide (n < 32))
theorem point_of {t n : Int} (h : pointB t n = true) : ∃ a b : Nat, a < 16 ∧ b < 32 ∧ t = a ∧ n = b := by
 simp [pointB] at h
 exact ⟨t.toNat, n.toNat, by omega, by omega, by omega, by omega⟩
theorem pointB_nat {a b : Nat} (ha : a < 16) (hb : b < 32) : pointB a b = true := by simp [pointB]; omega
def bitT (T : Nat → Nat) (t n : Int) : Bool := pointB t n && (T t.toNat).testBit n.toNat
def errP (t n : Int) : Int := if pointB t n then 0 else 1
def cntTo (T : Nat → Nat) : Nat → Nat
  | 0 => 0
  | k + 1 => cntTo T k + popc (T k)
def cntT (T : Nat → Nat) : Nat := cntTo T 16
theorem cntTo_le (T : Nat → Nat) : ∀ k, cntTo T k ≤ 32 * k
 | 0 => Nat.le_refl _
 | k + 1 => by have := cntTo_le T k; have := popc_le (T k); simp only [cntTo]; omega
theorem cntTo_congr {T U : Nat → Nat} : ∀ k, (∀ t, t < k → T t = U t) → cntTo T k = cntTo U k
 | 0, _ => rfl
 | k + 1, h => by simp only [cntTo]; rw [cntTo_congr k (fun t ht => h t (by omega)), h k (by omega)]
end Rm
namespace Go.Proofs.YtglbnggkkjhokaaGreat
open Go.RowKit Rm
attribute [local go_sem ↓] Go.wp_at_zero Go.wp_at_succ
theorem point_any (t n : Int) (w : World) :
  Calls Tryz.prog 56 #[.agg #[.int .i64 t, .int .i64 n]] w fun e w' => e = .returned (.bool (pointB t n)) ∧ Gr w w' := by
 by_cases h1 : 0 ≤ t
 ·by_cases h2 : t < 16
  ·by_cases h3 : 0 ≤ n
   ·by_cases h4 : n < 32
    ·have e : pointB t n = true := by simp [pointB, h1, h2, h3, h4]
     rw [e]
     go_enter Tryz.func56, Tryz.ntmps56
     go_wp2
     go_ret
     exact ⟨rfl, (Gr.refl _).alloc _⟩
    ·have e : pointB t n = false := by simp [pointB, h4]
     rw [e]
     go_enter Tryz.func56, Tryz.ntmps56
     go_wp2
     go_ret
     exact ⟨rfl, (Gr.refl _).alloc _⟩
   ·have e : pointB t n = false := by simp [pointB, h3]
    rw [e]
    go_enter Tryz.func56, Tryz.ntmps56
    go_wp2
    go_ret
    exact ⟨rfl, (Gr.refl _).alloc _⟩
  ·have e : pointB t n = false := by simp [pointB, h2]
   rw [e]
   go_enter Tryz.func56, Tryz.ntmps56
   go_wp2
   go_ret
   exact ⟨rfl, (Gr.refl _).alloc _⟩
 ·have e : pointB t n = false := by simp [pointB, h1]
  rw [e]
  go_enter Tryz.func56, Tryz.ntmps56
  go_wp2
  go_ret
  exact ⟨rfl, (Gr.refl _).alloc _⟩
theorem fcount_ok {v : Value} {T : Nat → Nat} {w : World} (h : FS w v T) :
  Calls Tryz.prog 213 #[v] w fun e w' => e = .returned (.tuple #[.int .i64 (cntT T : Nat), .int .i64 0]) ∧ Gr w w' := by
 obtain ⟨F, h1, hF, hl1, t1⟩ := h
 have hc := chkF_of hF hl1
 have HL := Lib.hid h1
 have HF := Lib.hid hF
 have HT : Hid (cntT T = cntTo (tabF F) 16) := (cntTo_congr 16 t1).symm
 clear h1 hF t1
 go_enter Tryz.func213, Tryz.ntmps213
 go_wp2_with fail
 refine (fcheck_any _ _ _ HL.out).mono ?_
 rw [hc]
 rintro e w1 ⟨rfl, g1⟩
 go_wp2_with fail
 refine (tableOf_any _ _ _ (HL.out.gr g1) HF.out hl1).mono ?_
 rintro e w2 ⟨rfl, g2⟩
 have G2 := g1.trans g2
 clear g1 g2
 go_wp2_with fail
 go_loop [5, 15] (fun a i => ∃ k : Nat, k ≤ 16 ∧ i = .int .i64 k ∧ a = .int .i64 (cntTo (tabF F) k : Nat)) (fun _ i => 16 - (intOf i).toNat)
 case atStart => exact ⟨0, by omega, rfl, rfl⟩
 case round =>
  obtain ⟨k, hk, rfl, rfl⟩ := hrel
  by_cases hlt : k < 16
  ·have hix := fun wx => index_table (tabF F) k hlt wx
   have hk16 : (k : Int) < 16 := by omega
   have hcl : ((cntTo (tabF F) k : Nat) : Int) ≤ 512 := by have := cntTo_le (tabF F) k; omega
   have hpl : ((popc (tabF F k) : Nat) : Int) ≤ 32 := by have := popc_le (tabF F k); omega
   have HS : Hid (((cntTo (tabF F) (k + 1) : Nat) : Int) = ((cntTo (tabF F) k : Nat) : Int) + ((popc (tabF F k) : Nat) : Int)) := by simp only [cntTo]; unfold Hid; omega
   have HLT := Lib.hid (tabF_lt HF.out k)
   generalize cntTo (tabF F) k = cc at *
   generalize tabF F k = tk at *
   go_wp2_with fail
   refine (ones64_mask tk _ HLT.out).mono ?_
   rintro e w3 ⟨rfl, rfl⟩
   go_wp2_with fail
   go_round
   case rel => exact ⟨k + 1, by omega, by go_num, by rw [HS.out]⟩
   case measure => simp [intOf]; omega
  ·obtain rfl : k = 16 := by omega
   go_wp2_with fail
   go_ret2
   exact ⟨by rw [HT.out]; rfl, G2⟩
theorem tableOf_at (B : Nat) (t n : Int) (v : Value) (F : List Bx) (w : World) (hr : RdF w v (F.map boxI)) (hF : OkF F) (hl : F.length ≤ 40) (h : Two w B t n) :
  Calls Tryz.prog 113 #[v] w fun e w' => e = .returned (.agg (tArr (tabF F))) ∧ Gr w w' ∧ w'.cell? ⟨B, 0, none⟩ = some (.int .i64 t) ∧ w'.cell? ⟨B, 1, none⟩ = some (.int .i64 n) :=
 (tableOf_any v F w hr hF hl).mono fun e w' ⟨he, g⟩ => ⟨he, g, (h.gr g).2⟩
theorem fhas_ok {v : Value} {T : Nat → Nat} {w : World} (h : FS w v T) (t n : Int) :
  Calls Tryz.prog 57 #[v, .agg #[.int .i64 t, .int .i64 n]] w fun e w' => e = .returned (.tuple #[.bool (bitT T t n), .int .i64 (errP t n)]) ∧ Gr w w' := by
 obtain ⟨F, h1, hF, hl1, t1⟩ := h
 have hc := chkF_of hF hl1
 have HL := Lib.hid h1
 have HF := Lib.hid hF
 cases hp : pointB t n
 ·have e1 : bitT T t n = false := by simp [bitT, hp]
  have e2 : errP t n = 1 := by simp [errP, hp]
  rw [e1, e2]
  clear h1 hF t1 e1 e2
  go_enter Tryz.func57, Tryz.ntmps57
  go_wp2_with fail
  refine (fcheck_any _ _ _ (HL.out.alloc _)).mono ?_
  rw [hc]
  rintro e w1 ⟨rfl, g1⟩
  obtain ⟨k1, k2⟩ := g1.cells
  go_wp2_with fail
  refine (point_any _ _ _).mono ?_
  rw [hp]
  rintro e w2 ⟨rfl, g2⟩
  go_wp2_with fail
  go_ret2
  exact ⟨rfl, (((Gr.refl _).alloc _).trans g1).trans g2⟩
 ·obtain ⟨a, b, ha, hb, rfl, rfl⟩ := point_of hp
  have e1 : bitT T a b = (tabF F a).testBit b := by simp [bitT, hp, t1 a ha]
  have e2 : errP a b = 0 := by simp [errP, hp]
  rw [e1, e2]
  have HLT := Lib.hid (tabF_lt hF a)
  have hix := fun wx => index_table (tabF F) a ha wx
  have ha16 : (a : Int) < 16 := by omega
  have hb32 : (b : Int) < 32 := by omega
  clear h1 hF t1 e1 e2
  go_enter Tryz.func57, Tryz.ntmps57
  go_wp2_with fail
  refine (fcheck_any _ _ _ (HL.out.alloc _)).mono ?_
  rw [hc]
  rintro e w1 ⟨rfl, g1⟩
  obtain ⟨k1, k2⟩ := g1.cells
  go_wp2_with fail
  refine (point_any _ _ _).mono ?_
  rw [hp]
  rintro e w2 ⟨rfl, g2⟩
  have T2 := Lib.hid (((Two.new w a b 49).gr g1).gr g2)
  have G2 := (((Gr.refl w).alloc (.cells #[.int .i64 (a : Int), .int .i64 (b : Int)] 49)).trans g1).trans g2
  have T2d : Hid (Two w2.drew w.heap.size a b) := T2.out.gr ((Gr.refl _).drew)
  have R2 := Lib.hid (HL.out.gr G2.drew)
  clear k1 k2 g1 g2
  obtain ⟨q1, q2, q3⟩ := T2.out
  go_wp2_with fail
  go_region_held3 (fun x => x.cell? ⟨w.heap.size, 0, none⟩ = some (.int .i64 (a : Int)) ∧ x.cell? ⟨w.heap.size, 1, none⟩ = some (.int .i64 (b : Int))) (go_keep)
   (first
    | (go_at_call 113; refine (tableOf_at w.heap.size _ _ _ F _ R2.out HF.out hl1 T2d.out).mono ?_; rintro e w3 ⟨rfl, g3, k1, k2⟩)
    | (go_at_call 112; refine (fhas_any _ b _ HLT.out hb).mono ?_; rintro e w4 ⟨rfl, rfl⟩))
  go_wp2_with fail
  go_ret2
  exact ⟨rfl, G2.drew.trans g3⟩
end Go.Proofs.YtglbnggkkjhokaaGreat
/- Package filter's Every; the statements' same and filterBegun; filters that are written out. -/
namespace Go.Proofs.YtglbnggkkjhokaaGreat
open Go.RowKit Rm
theorem vld00 : Vld 0 0 := by refine ⟨?_, ?_, ?_⟩ <;> decide
theorem canonFull : canon 4294967295 = [(0, 32)] := by decide +kernel
theorem tabFull : ∀ t < 16, tabF [((0, 0), 4294967295)] t = 4294967295 := by decide +kernel
def fullT : Nat → Nat := fun _ => 4294967295
theorem lit_own (w : World) (y n f t : Nat) (m : Nat) (hc : canon m = [(f, t)]) (hm : m < 2 ^ 32) (hv : Vld y n) :
    FO w.heap.size 1 ((w.alloc (.cells #[.int .i64 f, .int .i64 t] 177)).alloc (.cells #[.int .i64 y, .int .i64 n, .slice (some ⟨w.heap.size, 0, none⟩) 1 1] 134)) (.slice (some ⟨w.heap.size + 1, 0, none⟩) 1 1) (tabF [((y, n), m)]) := by
  refine ⟨[(((y, n), m), .slice (some ⟨w.heap.size, 0, none⟩) 1 1)], ?_, ?_, ?_, by simp, fun _ _ => rfl⟩
  · have h := World.ownsRow_lit (base := w.heap.size) (e := 134) (size := 3) (w.alloc (.cells #[.int .i64 f, .int .i64 t] 177)) #[.int .i64 y, .int .i64 n, .slice (some ⟨w.heap.size, 0, none⟩) 1 1] 1 (by simp) (by simp [maxLen]) rfl
    simpa [flatO] using h
  · intro p hp
    obtain rfl : p = (((y, n), m), .slice (some ⟨w.heap.size, 0, none⟩) 1 1) := by simpa using hp
    simp only
    rw [hc]
    have h := World.ownsRow_lit (base := w.heap.size) (e := 177) (size := 2) w #[.int .i64 f, .int .i64 t] 1 (Nat.le_refl _) (by simp [maxLen]) rfl
    exact h.alloc _
  · intro b hb
    obtain rfl : b = ((y, n), m) := by simpa using hb
    exact ⟨hv, hm⟩
theorem fevery_own (w : World) : Calls Tryz.prog 52 #[] w fun e w' => ∃ v, e = .returned v ∧ FO w.heap.size 1 w' v fullT ∧ Gr w w' := by
 have HB := Lib.hid ((lit_own w 0 0 0 32 4294967295 canonFull (by decide) vld00).ext tabFull)
 go_enter Tryz.func52, Tryz.ntmps52
 go_wp2
 go_ret
 exact ⟨_, rfl, HB.out, ((Gr.refl _).alloc _).alloc _⟩
theorem fevery (w : World) : Calls Tryz.prog 52 #[] w fun e w' => ∃ v, e = .returned v ∧ FSn 1 w' v fullT ∧ Gr w w' :=
 (fevery_own w).mono fun e w' ⟨v, he, hv, g⟩ => ⟨v, he, hv.fs, g⟩
end Go.Proofs.YtglbnggkkjhokaaGreat
/- The plain mathematics of tables: what the statements on filters say of them. -/
namespace Rm
open Go Go.RowKit
theorem withinT_iff {T U : Nat → Nat} : withinT T U = true ↔ ∀ t, t < 16 → lessM (T t) (U t) = 0 := by
 unfold withinT
 rw [allT_iff]
 simp
def OkT (T : Nat → Nat) : Prop := ∀ t, t < 16 → T t < 2 ^ 32
theorem popTo_none {m : Nat} : ∀ k, popTo m k = 0 → ∀ i, i < k → m.testBit i = false
 | 0, _, i, hi => by omega
 | k + 1, h, i, hi => by
  simp only [popTo] at h
  rcases Nat.lt_or_ge i k with c | c
  ·exact popTo_none k (by omega) i c
  ·obtain rfl : i = k := by omega
   cases hb : m.testBit i
   ·rfl
   ·rw [hb] at h; simp at h
open Go.Proofs.YtglbnggkkjhokaaGreat in
theorem popc_none {m : Nat} (hm : m < 2 ^ 32) (h : popc m = 0) : m = 0 :=
 mask_ext hm (by decide) fun i hi => by rw [popTo_none 32 h i hi, Nat.zero_testBit]
theorem cntTo_none {T : Nat → Nat} (hT : OkT T) : ∀ k, k ≤ 16 → cntTo T k = 0 → ∀ t, t < k → T t = 0
 | 0, _, _, t, ht => by omega
 | k + 1, hk, h, t, ht => by
  simp only [cntTo] at h
  rcases Nat.lt_or_ge t k with c | c
  ·exact cntTo_none hT k (by omega) (by omega) t c
  ·obtain rfl : t = k := by omega
   exact popc_none (hT t (by omega)) (by omega)
open Go.Proofs.YtglbnggkkjhokaaGreat in
theorem within_bit {T U : Nat → Nat} (hT : OkT T) (hU : OkT U) (h : withinT T U = true) {t i : Nat} (ht : t < 16) (hi : i < 32) (hb : (T t).testBit i = true) : (U t).testBit i = true := by
 rw [withinT_iff] at h
 exact (sub_iff (hT t ht) (hU t ht)).1 (by simpa [subM] using h t ht) i hi hb
theorem okT_and {T U : Nat → Nat} (hT : OkT T) : OkT (fun t => T t &&& U t) := fun t ht => Nat.lt_of_le_of_lt Nat.and_le_left (hT t ht)
end Rm
namespace Go.Proofs.YtglbnggkkjhokaaGreat
open Go.RowKit Rm
end Go.Proofs.YtglbnggkkjhokaaGreat
/- What parts say: the meaning of a part, of lists of parts. -/
namespace Rm
open Go Go.RowKit Gx
def PtX.f (x : PtX) : Value := .slice x.fa x.fn x.fc
def PtX.k (x : PtX) : Value := .agg #[.slice x.va x.vn x.vc, .slice x.ma x.mn x.mc]
def emptyP (x : PtX) : Bool := cntT x.T == 0 || cntD (memB (formV x.D) (formM x.D)) == 0
def underP (x y : PtX) : Bool := wS x.D y.D && withinT x.T y.T
def hasP (K : List PtX) (t n a b : Nat) : Bool := K.any fun x => (x.T t).testBit n && x.D a b
def stepP (K : List PtX) (x : PtX) : List PtX := if !emptyP x && !K.any (fun y => underP x y) then K.filter (fun y => !underP y x) ++ [x] else K
def fewP (L : List PtX) : List PtX := L.foldl stepP []
theorem fewP_take {L : List PtX} {i : Nat} {x : PtX} (h : L[i]? = some x) : fewP (L.take (i + 1)) = stepP (fewP (L.take i)) x := by
 unfold fewP
 rw [List.take_add_one, h, List.foldl_append]
 rfl
theorem stepP_len (K : List PtX) (x : PtX) : (stepP K x).length ≤ K.length + 1 := by
 unfold stepP
 split
 ·rw [List.length_append, List.length_singleton]
  have := List.length_filter_le (fun y => !underP y x) K
  omega
 ·omega
theorem fewP_len (L : List PtX) : (fewP L).length ≤ L.length := by
 have key : ∀ (L K : List PtX), (L.foldl stepP K).length ≤ K.length + L.length := by
  intro L
  induction L with
  | nil => intro K; simp
  | cons a L ih =>
   intro K
   rw [List.foldl_cons]
   have h1 := ih (stepP K a)
   have h2 := stepP_len K a
   rw [List.length_cons]
   omega
 have := key L []
 unfold fewP
 simpa using this
theorem stepP_mem {K : List PtX} {x y : PtX} (h : y ∈ stepP K x) : y ∈ K ∨ y = x := by
 unfold stepP at h
 split at h
 ·rcases List.mem_append.1 h with h | h
  ·exact .inl (List.mem_filter.1 h).1
  ·exact .inr (List.mem_singleton.1 h)
 ·exact .inl h
theorem fewP_mem {L : List PtX} {y : PtX} (h : y ∈ fewP L) : y ∈ L := by
 have key : ∀ (L K : List PtX), y ∈ L.foldl stepP K → y ∈ K ∨ y ∈ L := by
  intro L
  induction L with
  | nil => intro K h; exact .inl h
  | cons a L ih =>
   intro K h
   rcases ih _ h with h | h
   ·rcases stepP_mem h with h | rfl
    ·exact .inl h
    ·exact .inr (List.mem_cons_self ..)
   ·exact .inr (List.mem_cons_of_mem _ h)
 rcases key L [] h with h | h
 ·cases h
 ·exact h
end Rm
namespace Go.Proofs.YtglbnggkkjhokaaGreat
open Go.RowKit Rm Gx
structure MeanP (w : World) (x : PtX) : Prop where
  fs : FS w x.f x.T
  kn : KnD w x.k x.D
  few : (formM x.D).length ≤ 60
theorem MeanP.gr {w w' : World} {x : PtX} (h : MeanP w x) (g : Gr w w') : MeanP w' x := ⟨h.fs.gr g, h.kn.gr g, h.few⟩
def MeansP (w : World) (K : List PtX) : Prop := ∀ x ∈ K, MeanP w x
theorem MeansP.gr {w w' : World} {K : List PtX} (h : MeansP w K) (g : Gr w w') : MeansP w' K := fun x hx => (h x hx).gr g
theorem khas (k : Value) (D : DS) (x y : Int) (w : World) (hk : KnD w k D) (hl : (formM D).length ≤ 60) :
  Calls Tryz.prog 167 #[k, .agg #[.int .i64 x, .int .i64 y]] w fun e w' => e = .returned (.tuple #[.bool (hasD D x y), .int .i64 (dotE x y)]) ∧ Gr w w' := by
 have hE : chkK (ints (formV D)) (pairs (formM D)) = 0 := (form_ok D).chk hl
 cases hd : dotB (x, y)
 ·have h := hasf_any k _ _ (x, y) w hk (by rw [chkA_1 hE hd]; decide)
  rw [chkA_1 hE hd] at h
  have e1 : hasD D x y = false := by unfold hasD; rw [hd]; rfl
  have e2 : dotE x y = 1 := by unfold dotE; rw [hd]; rfl
  rw [e1, e2]
  exact h
 ·obtain ⟨h1, h2, h3, h4⟩ := (dotB_iff _).1 hd
  simp only at h1 h2 h3 h4
  obtain ⟨s, rfl⟩ : ∃ n : Nat, x = n := ⟨x.toNat, by omega⟩
  obtain ⟨c, rfl⟩ : ∃ n : Nat, y = n := ⟨y.toNat, by omega⟩
  have hi : inR s c := ⟨by omega, by omega, by omega⟩
  have h := hasf_ok k _ _ s c w hk (form_ok D) hl hi
  rw [form_mem D s c hi] at h
  have e1 : hasD D (s : Int) (c : Int) = D s c := by unfold hasD; rw [hd]; simp
  have e2 : dotE (s : Int) (c : Int) = 0 := by unfold dotE; rw [hd]; rfl
  rw [e1, e2]
  exact h
theorem kcount (k : Value) (D : DS) (w : World) (hk : KnD w k D) (hl : (formM D).length ≤ 60) :
  Calls Tryz.prog 214 #[k] w fun e w' => e = .returned (.tuple #[.int .i64 ((cntD (memB (formV D) (formM D)) : Nat) : Int), .int .i64 0]) ∧ Gr w w' := by
 have h := count_ok k _ _ w hk (form_ok D) hl
 rw [← (form_ok D).count] at h
 exact h
theorem kwithin (k k' : Value) (D E : DS) (w : World) (hk : KnD w k D) (hk' : KnD w k' E) (hl : (formM D).length ≤ 60) (hl' : (formM E).length ≤ 60) :
  Calls Tryz.prog 211 #[k, k'] w fun e w' => e = .returned (.tuple #[.bool (wS D E), .int .i64 0]) ∧ Gr w w' :=
 within_ok k k' _ _ _ _ w hk hk' (form_ok D) (form_ok E) hl hl'
end Go.Proofs.YtglbnggkkjhokaaGreat
/- package part: what it does with single parts. -/
namespace Go.Proofs.YtglbnggkkjhokaaGreat
open Go.RowKit Rm Gx
theorem hasPoint_any (x : PtX) (t n : Int) (w : World) (hx : MeanP w x) :
  Calls Tryz.prog 120 #[.agg #[.slice x.fa x.fn x.fc, .slice x.va x.vn x.vc, .slice x.ma x.mn x.mc], .agg #[.int .i64 (t), .int .i64 (n)]] w fun e w' => e = .returned (.bool (bitT x.T t n)) ∧ Gr w w' := by
 refine enter (N := 15) Tryz.func120 rfl rfl rfl (fun A ok0 a => ?_)
 have H : A.eval (.tmp 0) = .agg #[.slice x.fa x.fn x.fc, .slice x.va x.vn x.vc, .slice x.ma x.mn x.mc] := a 0 _ rfl
 have I : A.eval (.tmp 1) = .agg #[.int .i64 (t), .int .i64 (n)] := a 1 _ rfl
 clear a
 have J := Gr.refl w
 refine wp_seq_k (fun X K => (wp_region_lit (sal (cs := #[.slice x.fa x.fn x.fc, .slice x.va x.vn x.vc, .slice x.ma x.mn x.mc]) ok0 rfl (wn _ rfl) rfl (o_box H) (fun Y Z b3 B b => ?_))))
 have L := J.trans B.gr
 refine sal (cs := #[.int .i64 (t), .int .i64 (n)]) b.ok rfl (wn _ rfl) rfl (o_box (b.n I)) (fun ab ac b9 c g => ?_)
 have C := L.trans c.gr
 have M := B.bk.gr c.gr
 refine sw g.ok (o_as ev_const) (fun af h => ?_)
 refine wpList_nil (th_n (K _ _ (wp_seq_k (fun ag O => (wp_region_lit (sw h.ok (o_fa (z := 1) (h.n (g.n b.at_)) Tryz.underlying151 rfl (by kernel_rfl) rfl rfl) (fun ah j => ?_)))))))
 refine sw j.ok (o_ld j.at_ (Tryz.isAgg22 _) (M.cell _ rfl)) (fun ai l => ?_)
 have S := l.n (j.n (h.n g.at_))
 refine sw l.ok (o_ldR S c.bk Tryz.underlying49 rfl (by kernel_rfl)) (fun aj o => ?_)
 refine sc o.ok rfl (wn _ rfl) rfl (o_f2 Tryz.func57 rfl rfl rfl (o.n l.at_) o.at_) (fhas_ok (T := x.T) (hx.gr C).fs t n) ?_
 rintro _ ak ⟨rfl, U⟩
 refine ⟨_, rfl, fun al D => ?_⟩
 have V := C.trans U
 refine sw D.ok (o_mv D.at_) (fun am q => ?_)
 refine sw q.ok (o_ex q.at_ rfl) (fun an r => ?_)
 refine sw r.ok (o_ex (r.n q.at_) rfl) (fun ao u => ?_)
 refine sw u.ok (o_as (u.n r.at_)) (fun ap y => ?_)
 refine sw y.ok (o_as (y.n u.at_)) (fun aq E => ?_)
 refine wpList_nil (th_n (O _ _ (wp_seq_k (fun ar W => (wp_region_lit (sw E.ok (o_mv (E.n y.at_)) (fun au F => ?_)))))))
 refine sw F.ok (o_as F.at_) (fun av G => ?_)
 refine wpList_nil (th_n (W _ _ (wp_ret (ret1 G.ok rfl (G.at_) ⟨rfl, V⟩))))
theorem hasDot_any (x : PtX) (a c : Int) (w : World) (hx : MeanP w x) :
  Calls Tryz.prog 121 #[.agg #[.slice x.fa x.fn x.fc, .slice x.va x.vn x.vc, .slice x.ma x.mn x.mc], .agg #[.int .i64 (a), .int .i64 (c)]] w fun e w' => e = .returned (.bool (hasD x.D a c)) ∧ Gr w w' := by
 refine enter (N := 15) Tryz.func121 rfl rfl rfl (fun A ok0 b => ?_)
 have I : A.eval (.tmp 0) = .agg #[.slice x.fa x.fn x.fc, .slice x.va x.vn x.vc, .slice x.ma x.mn x.mc] := b 0 _ rfl
 have J : A.eval (.tmp 1) = .agg #[.int .i64 (a), .int .i64 (c)] := b 1 _ rfl
 clear b
 have K := Gr.refl w
 refine wp_seq_k (fun Y L => (wp_region_lit (sal (cs := #[.slice x.fa x.fn x.fc, .slice x.va x.vn x.vc, .slice x.ma x.mn x.mc]) ok0 rfl (wn _ rfl) rfl (o_box I) (fun Z w4 b3 B g => ?_))))
 have M := K.trans B.gr
 refine sal (cs := #[.int .i64 (a), .int .i64 (c)]) g.ok rfl (wn _ rfl) rfl (o_box (g.n J)) (fun ac O b9 h j => ?_)
 have C := M.trans h.gr
 have S := B.bk.gr h.gr
 refine sw j.ok (o_as ev_const) (fun af l => ?_)
 refine wpList_nil (th_n (L _ _ (wp_seq_k (fun ag T => (wp_region_lit (sw l.ok (o_fa (z := 2) (l.n (j.n g.at_)) Tryz.underlying151 rfl (by kernel_rfl) rfl rfl) (fun ah n => ?_)))))))
 refine sw n.ok (o_ldA (k := 1) (cs := [.slice x.va x.vn x.vc, .slice x.ma x.mn x.mc]) n.at_ (bk_part S rfl) Tryz.underlying75 rfl (by kernel_rfl)) (fun ai o => ?_)
 have U := o.n (n.n (l.n j.at_))
 refine sw o.ok (o_ldR U h.bk Tryz.underlying51 rfl (by kernel_rfl)) (fun aj q => ?_)
 refine sc q.ok rfl (wn _ rfl) rfl (o_f2 Tryz.func167 rfl rfl rfl (q.n o.at_) q.at_) (khas _ x.D a c O (hx.gr C).kn hx.few) ?_
 rintro _ ak ⟨rfl, V⟩
 refine ⟨_, rfl, fun al E => ?_⟩
 have W := C.trans V
 refine sw E.ok (o_mv E.at_) (fun am r => ?_)
 refine sw r.ok (o_ex r.at_ rfl) (fun an t => ?_)
 refine sw t.ok (o_ex (t.n r.at_) rfl) (fun ao u => ?_)
 refine sw u.ok (o_as (u.n t.at_)) (fun ap y => ?_)
 refine sw y.ok (o_as (y.n u.at_)) (fun aq F => ?_)
 refine wpList_nil (th_n (T _ _ (wp_seq_k (fun ar X => (wp_region_lit (sw F.ok (o_mv (F.n y.at_)) (fun au G => ?_)))))))
 refine sw G.ok (o_as G.at_) (fun av H => ?_)
 refine wpList_nil (th_n (X _ _ (wp_ret (ret1 H.ok rfl (H.at_) ⟨rfl, W⟩))))
theorem emptyP_eq (x : PtX) : emptyP x = (decide (((cntT x.T : Nat) : Int) = 0) || decide (((cntD (memB (formV x.D) (formM x.D)) : Nat) : Int) = 0)) := by
 unfold emptyP
 rw [Bool.eq_iff_iff]
 simp
theorem empty_any (x : PtX) (w : World) (hx : MeanP w x) :
  Calls Tryz.prog 177 #[.agg #[.slice x.fa x.fn x.fc, .slice x.va x.vn x.vc, .slice x.ma x.mn x.mc]] w fun e w' => e = .returned (.bool (emptyP x)) ∧ Gr w w' := by
 refine enter (N := 25) Tryz.func177 rfl rfl rfl (fun a0 ok0 V => ?_)
 have ai : a0.eval (.tmp 0) = .agg #[.slice x.fa x.fn x.fc, .slice x.va x.vn x.vc, .slice x.ma x.mn x.mc] := V 0 _ rfl
 clear V
 have G0 := Gr.refl w
 refine wp_seq_k (fun K1 ak => (wp_region_lit (sal (cs := #[.slice x.fa x.fn x.fc, .slice x.va x.vn x.vc, .slice x.ma x.mn x.mc]) ok0 rfl (wn _ rfl) rfl (o_box ai) (fun ax w4 b3 u y => ?_))))
 have W := G0.trans u.gr
 refine sw y.ok (o_as ev_const) (fun aA A => ?_)
 refine wpList_nil (th_n (ak _ _ (wp_seq_k (fun K9 al => (wp_region_lit (sw A.ok (o_fa (z := 1) (A.n y.at_) Tryz.underlying151 rfl (by kernel_rfl) rfl rfl) (fun aC B => ?_)))))))
 refine sw B.ok (o_ld B.at_ (Tryz.isAgg22 _) (u.bk.cell _ rfl)) (fun aD C => ?_)
 refine sc C.ok rfl (wn _ rfl) rfl (o_f1 Tryz.func213 rfl rfl rfl C.at_) (fcount_ok (T := x.T) (hx.gr W).fs) ?_
 rintro _ am ⟨rfl, X⟩
 refine ⟨_, rfl, fun aE E => ?_⟩
 have Y := W.trans X
 have an := u.bk.gr X
 refine sw E.ok (o_mv E.at_) (fun aF c => ?_)
 refine sw c.ok (o_ex c.at_ rfl) (fun aG g => ?_)
 refine sw g.ok (o_ex (g.n c.at_) rfl) (fun aH h => ?_)
 refine sw h.ok (o_as (h.n g.at_)) (fun aI j => ?_)
 refine sw j.ok (o_as (j.n h.at_)) (fun aJ F => ?_)
 refine wpList_nil (th_n (al _ _ (wp_seq_k (fun aK ao => (wp_region_lit ?_)))))
 have ap := F.n (j.n (h.n (g.n (c.n (E.n (C.n (B.n (A.n y.at_))))))))
 refine sw F.ok (o_fa (z := 2) ap Tryz.underlying151 rfl (by kernel_rfl) rfl rfl) (fun aL G => ?_)
 refine sw G.ok (o_ldA (k := 1) (cs := [.slice x.va x.vn x.vc, .slice x.ma x.mn x.mc]) G.at_ (bk_part an rfl) Tryz.underlying75 rfl (by kernel_rfl)) (fun aM H => ?_)
 refine sc H.ok rfl (wn _ rfl) rfl (o_f1 Tryz.func214 rfl rfl rfl H.at_) (kcount _ x.D am (hx.gr Y).kn hx.few) ?_
 rintro _ aO ⟨rfl, aq⟩
 refine ⟨_, rfl, fun aS I => ?_⟩
 have Z := Y.trans aq
 refine sw I.ok (o_mv I.at_) (fun aT l => ?_)
 refine sw l.ok (o_ex l.at_ rfl) (fun aU n => ?_)
 refine sw n.ok (o_ex (n.n l.at_) rfl) (fun aV o => ?_)
 refine sw o.ok (o_as (o.n n.at_)) (fun aW q => ?_)
 refine sw q.ok (o_as (q.n o.at_)) (fun aX J => ?_)
 refine wpList_nil (th_n (ao _ _ (wp_seq_k (fun aY aa => (wp_region_lit ?_)))))
 have ar := J.n (q.n (o.n (n.n (l.n (I.n (H.n (G.n (F.n j.at_))))))))
 refine sw J.ok (o_mv ar) (fun aZ K => ?_)
 refine sw K.ok (o_eqI K.at_ ev_const) (fun a1 L => ?_)
 refine sw L.ok (o_mv L.at_) (fun a2 a => ?_)
 by_cases r : ((cntT x.T : Nat) : Int) = 0
 ·have M := (a.at_).trans (congrArg Value.bool (decide_eq_true r))
  refine sn a.ok rfl (wgF rfl (yl 2 true rfl M) rfl) rfl (fun a3 O => ?_)
  refine sn O.ok rfl (wgF rfl (yl 2 true rfl (O.n M)) rfl) rfl (fun a4 ab => ?_)
  refine sw ab.ok (o_pkT (ab.n (O.n M)) ev_const) (fun a6 ac => ?_)
  refine sw ac.ok (o_as ac.at_) (fun a7 ad => ?_)
  refine wpList_nil (th_n (aa _ _ (wp_ret (ret1 ad.ok rfl (ad.at_) ⟨congrArg (fun b => Ending.returned (Value.bool b)) (by rw [emptyP_eq, decide_eq_true r, Bool.true_or]), Z⟩))))
 ·have S := (a.at_).trans (congrArg Value.bool (decide_eq_false r))
  have au := a.n (L.n (K.n (J.n q.at_)))
  refine sv a.ok rfl (wgT rfl (yl 2 false rfl S) rfl) rfl (o_mv au) (fun a8 t => ?_)
  refine sv t.ok rfl (wgT rfl (yl 2 false rfl (t.n S)) rfl) rfl (o_eqI t.at_ ev_const) (fun a9 U => ?_)
  refine sw U.ok (o_pkF (U.n (t.n S)) U.at_) (fun ba af => ?_)
  refine sw af.ok (o_as af.at_) (fun bb ag => ?_)
  refine wpList_nil (th_n (aa _ _ (wp_ret (ret1 ag.ok rfl (ag.at_) ⟨congrArg (fun b => Ending.returned (Value.bool b)) (by rw [emptyP_eq, decide_eq_false r, Bool.false_or]), Z⟩))))
theorem impliedBy1_any (y x : PtX) (b : Nat) (w : World) (hy : MeanP w y) (hx : MeanP w x) (hb : Bk w b #[.slice x.fa x.fn x.fc, .slice x.va x.vn x.vc, .slice x.ma x.mn x.mc] 151) :
  Calls Tryz.prog 210 #[.agg #[.slice y.fa y.fn y.fc, .slice y.va y.vn y.vc, .slice y.ma y.mn y.mc], .pointer (some ⟨b, 0, none⟩)] w fun e w' => e = .returned (.bool (underP y x)) ∧ Gr w w' := by
 refine enter (N := 28) Tryz.func210 rfl rfl rfl (fun a0 ok0 M => ?_)
 have an : a0.eval (.tmp 0) = .agg #[.slice y.fa y.fn y.fc, .slice y.va y.vn y.vc, .slice y.ma y.mn y.mc] := M 0 _ rfl
 have ao : a0.eval (.tmp 1) = .pointer (some ⟨b, 0, none⟩) := M 1 _ rfl
 clear M
 have G0 := Gr.refl w
 refine wp_seq_k (fun K1 aq => (wp_region_lit (sal (cs := #[.slice y.fa y.fn y.fc, .slice y.va y.vn y.vc, .slice y.ma y.mn y.mc]) ok0 rfl (wn _ rfl) rfl (o_box an) (fun aF w4 b3 o q => ?_))))
 have O := G0.trans o.gr
 have B9 := hb.gr o.gr
 refine sw q.ok (o_as ev_const) (fun aH r => ?_)
 refine wpList_nil (th_n (aq _ _ (wp_seq_k (fun aI au => (wp_region_lit (sw r.ok (o_fa (z := 2) (r.n q.at_) Tryz.underlying151 rfl (by kernel_rfl) rfl rfl) (fun aJ t => ?_)))))))
 refine sw t.ok (o_ldA (k := 1) (cs := [.slice y.va y.vn y.vc, .slice y.ma y.mn y.mc]) t.at_ (bk_part o.bk rfl) Tryz.underlying75 rfl (by kernel_rfl)) (fun aK u => ?_)
 have ac := u.n (t.n (r.n (q.n ao)))
 refine sw u.ok (o_fa (z := 2) ac Tryz.underlying151 rfl (by kernel_rfl) rfl rfl) (fun aL a => ?_)
 refine sw a.ok (o_ldA (k := 1) (cs := [.slice x.va x.vn x.vc, .slice x.ma x.mn x.mc]) a.at_ (bk_part B9 rfl) Tryz.underlying75 rfl (by kernel_rfl)) (fun aM c => ?_)
 refine sc c.ok rfl (wn _ rfl) rfl (o_f2 Tryz.func211 rfl rfl rfl (c.n (a.n u.at_)) c.at_) (kwithin _ _ y.D x.D w4 (hy.gr O).kn (hx.gr O).kn hy.few hx.few) ?_
 rintro _ aO ⟨rfl, S⟩
 refine ⟨_, rfl, fun aS A => ?_⟩
 have V := O.trans S
 have av := B9.gr S
 have ax := o.bk.gr S
 refine sw A.ok (o_mv A.at_) (fun aT g => ?_)
 refine sw g.ok (o_ex g.at_ rfl) (fun aU h => ?_)
 refine sw h.ok (o_ex (h.n g.at_) rfl) (fun aV j => ?_)
 refine sw j.ok (o_as (j.n h.at_)) (fun aW l => ?_)
 refine sw l.ok (o_as (l.n j.at_)) (fun aX B => ?_)
 refine wpList_nil (th_n (au _ _ (wp_seq_k (fun aY ay => (wp_region_lit ?_)))))
 have az := B.n (l.n (j.n (h.n (g.n (A.n (c.n (a.n (u.n (t.n (r.n q.at_))))))))))
 refine sw B.ok (o_fa (z := 1) az Tryz.underlying151 rfl (by kernel_rfl) rfl rfl) (fun aZ C => ?_)
 refine sw C.ok (o_ld C.at_ (Tryz.isAgg22 _) (ax.cell _ rfl)) (fun a1 E => ?_)
 have aA := E.n (C.n (B.n (l.n (j.n (h.n (g.n (A.n (c.n (a.n ac)))))))))
 refine sw E.ok (o_fa (z := 1) aA Tryz.underlying151 rfl (by kernel_rfl) rfl rfl) (fun a2 F => ?_)
 refine sw F.ok (o_ld F.at_ (Tryz.isAgg22 _) (av.cell _ rfl)) (fun a3 G => ?_)
 refine sc G.ok rfl (wn _ rfl) rfl (o_f2 Tryz.func212 rfl rfl rfl (G.n (F.n E.at_)) G.at_) (fwithin_ok (T := y.T) (U := x.T) (hy.gr V).fs (hx.gr V).fs) ?_
 rintro _ a4 ⟨rfl, aB⟩
 refine ⟨_, rfl, fun a6 W => ?_⟩
 have ad := V.trans aB
 refine sw W.ok (o_mv W.at_) (fun a7 H => ?_)
 refine sw H.ok (o_ex H.at_ rfl) (fun a8 I => ?_)
 refine sw I.ok (o_ex (I.n H.at_) rfl) (fun a9 J => ?_)
 refine sw J.ok (o_as (J.n I.at_)) (fun ba K => ?_)
 refine sw K.ok (o_as (K.n J.at_)) (fun bb X => ?_)
 refine wpList_nil (th_n (ay _ _ (wp_seq_k (fun bc af => (wp_region_lit ?_)))))
 have aC := X.n (K.n (J.n (I.n (H.n (W.n (G.n (F.n (E.n (C.n (B.n l.at_))))))))))
 refine sw X.ok (o_mv aC) (fun bd Y => ?_)
 refine sw Y.ok (o_mv Y.at_) (fun bf n => ?_)
 cases L : (wS y.D x.D)
 ·have ag := (n.at_).trans (congrArg Value.bool (L))
  refine sn n.ok rfl (wgF rfl (yl 1 false rfl ag) rfl) rfl (fun bg ah => ?_)
  refine sw ah.ok (o_pkF (ah.n ag) ev_const) (fun bh ai => ?_)
  refine sw ai.ok (o_as ai.at_) (fun bi aj => ?_)
  refine wpList_nil (th_n (af _ _ (wp_ret (ret1 aj.ok rfl (aj.at_) ⟨congrArg (fun b => Ending.returned (Value.bool b)) (by simp [underP, L]), ad⟩))))
 ·have ak := (n.at_).trans (congrArg Value.bool (L))
  have aD := n.n (Y.n (X.n K.at_))
  refine sv n.ok rfl (wgT rfl (yl 1 true rfl ak) rfl) rfl (o_mv aD) (fun bj Z => ?_)
  refine sw Z.ok (o_pkT (Z.n ak) Z.at_) (fun bl al => ?_)
  refine sw al.ok (o_as al.at_) (fun bm am => ?_)
  refine wpList_nil (th_n (af _ _ (wp_ret (ret1 am.ok rfl (am.at_) ⟨congrArg (fun b => Ending.returned (Value.bool b)) (by simp [underP, L]), ad⟩))))
theorem impliedBy_any (x : PtX) (w : World) :
  Calls Tryz.prog 176 #[.agg #[.slice x.fa x.fn x.fc, .slice x.va x.vn x.vc, .slice x.ma x.mn x.mc]] w fun e w' => ∃ b : Nat, e = .returned (.func (.func 210) #[] #[.pointer (some ⟨b, 0, none⟩)]) ∧ w.heap.size ≤ b ∧ Bk w' b #[.slice x.fa x.fn x.fc, .slice x.va x.vn x.vc, .slice x.ma x.mn x.mc] 151 ∧ Gr w w' := by
 refine enter (N := 4) Tryz.func176 rfl rfl rfl (fun q ok0 g => ?_)
 have r : q.eval (.tmp 0) = .agg #[.slice x.fa x.fn x.fc, .slice x.va x.vn x.vc, .slice x.ma x.mn x.mc] := g 0 _ rfl
 clear g
 have h := Gr.refl w
 refine wp_seq_k (fun A t => (wp_region_lit (sal (cs := #[.slice x.fa x.fn x.fc, .slice x.va x.vn x.vc, .slice x.ma x.mn x.mc]) ok0 rfl (wn _ rfl) rfl (o_box r) (fun B C a c j => ?_))))
 have u : w.heap.size ≤ a := by rw [c.eq]; exact h.size
 have y := h.trans c.gr
 refine sw j.ok (o_as ev_const) (fun D l => ?_)
 refine wpList_nil (th_n (t _ _ (wp_seq_k (fun E z => (wp_region_lit (sw l.ok (o_mf (fs := []) (cs := [.pointer (some ⟨a, 0, none⟩)]) (by simp) (by simp [(l.n j.at_)])) (fun F n => ?_)))))))
 refine sw n.ok (o_as n.at_) (fun G o => ?_)
 refine wpList_nil (th_n (z _ _ (wp_ret (ret1 o.ok rfl (o.at_) ⟨a, rfl, u, c.bk, y⟩))))
theorem reduce1_any (y x : PtX) (b : Nat) (w : World) (hy : MeanP w y) (hx : MeanP w x) (hb : Bk w b #[.slice x.fa x.fn x.fc, .slice x.va x.vn x.vc, .slice x.ma x.mn x.mc] 151) :
  Calls Tryz.prog 175 #[.agg #[.slice y.fa y.fn y.fc, .slice y.va y.vn y.vc, .slice y.ma y.mn y.mc], .pointer (some ⟨b, 0, none⟩)] w fun e w' => e = .returned (.bool (underP x y)) ∧ Gr w w' := by
 refine enter (N := 8) Tryz.func175 rfl rfl rfl (fun r ok0 j => ?_)
 have t : r.eval (.tmp 0) = .agg #[.slice y.fa y.fn y.fc, .slice y.va y.vn y.vc, .slice y.ma y.mn y.mc] := j 0 _ rfl
 have u : r.eval (.tmp 1) = .pointer (some ⟨b, 0, none⟩) := j 1 _ rfl
 clear j
 have z := Gr.refl w
 refine wp_seq_k (fun S A => (wp_region_lit (sal (cs := #[.slice y.fa y.fn y.fc, .slice y.va y.vn y.vc, .slice y.ma y.mn y.mc]) ok0 rfl (wn _ rfl) rfl (o_box t) (fun T U V l n => ?_))))
 have o := z.trans l.gr
 have B := hb.gr l.gr
 refine sw n.ok (o_as ev_const) (fun W q => ?_)
 refine wpList_nil (th_n (A _ _ (wp_seq_k (fun X C => (reg_start (N := 8) (m := 5) (by kernel_rfl) (fun D => ?_))))))
 have E := D.snoc (n' := 1) rfl (fun vJ _ => vJ = .agg #[.slice y.fa y.fn y.fc, .slice y.va y.vn y.vc, .slice y.ma y.mn y.mc]) rfl (fun _ _ _ _ h => h) (fun aS wS pS => by
   exact Does.val (wn _ rfl) (o_ldR ((pS.old 2 rfl).trans (q.n n.at_)) (Bk.gr l.bk (gr_drew pS.gr)) Tryz.underlying151 rfl (by kernel_rfl)) (Gr.refl _) rfl rfl)
 have F := E.snoc (n' := 2) rfl (fun vJ wJ => ∃ (a : Nat), vJ = .func (.func 210) #[] #[.pointer (some ⟨a, 0, none⟩)] ∧ (Bk wJ a #[.slice y.fa y.fn y.fc, .slice y.va y.vn y.vc, .slice y.ma y.mn y.mc] 151)) rfl (fun _ _ _ g ⟨a, h, G⟩ => ⟨a, h, G.gr g⟩) (fun aS wS pS => by
   have eR12_0 : aS.eval (.tmp 4) = .agg #[.slice y.fa y.fn y.fc, .slice y.va y.vn y.vc, .slice y.ma y.mn y.mc] := pS.pre 0 rfl
   exact Does.call (wn _ rfl) (o_f1 Tryz.func176 rfl rfl rfl (eR12_0)) (impliedBy_any y wS) (by rintro _ H ⟨a, rfl, -, hbk2, g⟩; exact ⟨_, rfl, g, ⟨a, rfl, hbk2⟩⟩) rfl)
 have I := F.snoc (n' := 3) rfl (fun vJ _ => vJ = .agg #[.slice x.fa x.fn x.fc, .slice x.va x.vn x.vc, .slice x.ma x.mn x.mc]) rfl (fun _ _ _ _ h => h) (fun aS wS pS => by
   exact Does.val (wn _ rfl) (o_ldR ((pS.old 1 rfl).trans (q.n (n.n u))) (Bk.gr B (gr_drew pS.gr)) Tryz.underlying151 rfl (by kernel_rfl)) (Gr.refl _) rfl rfl)
 have J := I.snoc (n' := 4) rfl (fun vJ _ => vJ = .bool (underP x y)) rfl (fun _ _ _ _ h => h) (fun aS wS pS => by
   obtain ⟨a, eR12_1, hbk2⟩ := pS.pre 1 rfl
   have eR12_1 : aS.eval (.tmp 5) = .func (.func 210) #[] #[.pointer (some ⟨a, 0, none⟩)] := eR12_1
   have eR12_2 : aS.eval (.tmp 6) = .agg #[.slice x.fa x.fn x.fc, .slice x.va x.vn x.vc, .slice x.ma x.mn x.mc] := pS.pre 2 rfl
   exact Does.call (wn _ rfl) (o_fv1 (caps := [.pointer (some ⟨a, 0, none⟩)]) ⟨_, Tryz.func210, rfl, rfl⟩ (eR12_1) (eR12_2)) (impliedBy1_any x y a wS (hx.gr (o.trans (gr_drew pS.gr))) (hy.gr (o.trans (gr_drew pS.gr))) hbk2) (by rintro _ H ⟨rfl, g⟩; exact ⟨_, rfl, g, rfl⟩) rfl)
 have K := J.snoc (n' := 5) rfl (fun vJ _ => vJ = .bool (underP x y)) rfl (fun _ _ _ _ h => h) (fun aS wS pS => by
   have eR12_3 : aS.eval (.tmp 7) = .bool (underP x y) := pS.pre 3 rfl
   exact Does.val (wn _ rfl) (o_as (eR12_3)) (Gr.refl _) rfl rfl)
 refine K.run (k := 0) (L := #[true, true, true, true, true]) (by kernel_rfl) (by kernel_rfl) (by kernel_rfl) q.ok (by kernel_rfl) (by kernel_rfl) (fun ap14 Y c => ?_)
 have M := gr_drew c.gr
 have O := o.trans M
 obtain ⟨a, ep14_1, hbk2⟩ := c.js 1 rfl
 have ep14_1 : ap14.eval (.tmp 5) = .func (.func 210) #[] #[.pointer (some ⟨a, 0, none⟩)] := ep14_1
 refine wpAny_done (by kernel_rfl) ?_ _
 refine th_n (C _ _ (wp_ret ?_))
 have ep14_4 : ap14.eval (.tmp 3) = .bool (underP x y) := c.js 4 rfl
 exact ret1 c.ok rfl (ep14_4) ⟨rfl, O⟩
theorem has1_any (x : PtX) (b b2 : Nat) (t n a c : Int) (w : World) (hx : MeanP w x) (hb : Bk w b #[.int .i64 (t), .int .i64 (n)] 49) (hb2 : Bk w b2 #[.int .i64 (a), .int .i64 (c)] 51) :
  Calls Tryz.prog 119 #[.agg #[.slice x.fa x.fn x.fc, .slice x.va x.vn x.vc, .slice x.ma x.mn x.mc], .pointer (some ⟨b, 0, none⟩), .pointer (some ⟨b2, 0, none⟩)] w fun e w' => e = .returned (.bool (bitT x.T t n && hasD x.D a c)) ∧ Gr w w' := by
 refine enter (N := 13) Tryz.func119 rfl rfl rfl (fun F ok0 y => ?_)
 have W : F.eval (.tmp 0) = .agg #[.slice x.fa x.fn x.fc, .slice x.va x.vn x.vc, .slice x.ma x.mn x.mc] := y 0 _ rfl
 have X : F.eval (.tmp 1) = .pointer (some ⟨b, 0, none⟩) := y 1 _ rfl
 have Y : F.eval (.tmp 2) = .pointer (some ⟨b2, 0, none⟩) := y 2 _ rfl
 clear y
 have Z := Gr.refl w
 refine wp_seq_k (fun K1 aa => (wp_region_lit (sal (cs := #[.slice x.fa x.fn x.fc, .slice x.va x.vn x.vc, .slice x.ma x.mn x.mc]) ok0 rfl (wn _ rfl) rfl (o_box W) (fun aq w4 b3 j l => ?_))))
 have K := Z.trans j.gr
 have ac := hb.gr j.gr
 have ad := hb2.gr j.gr
 refine sw l.ok (o_as ev_const) (fun au o => ?_)
 refine wpList_nil (th_n (aa _ _ (wp_seq_k (fun av L => (wp_region_lit (sw o.ok (o_ldR (o.n l.at_) j.bk Tryz.underlying151 rfl (by kernel_rfl)) (fun ax q => ?_)))))))
 have af := q.n (o.n (l.n X))
 refine sw q.ok (o_ldR af ac Tryz.underlying49 rfl (by kernel_rfl)) (fun ay r => ?_)
 refine sc r.ok rfl (wn _ rfl) rfl (o_f2 Tryz.func120 rfl rfl rfl (r.n q.at_) r.at_) (hasPoint_any x t n w4 (hx.gr K)) ?_
 rintro _ ag ⟨rfl, G⟩
 refine ⟨_, rfl, fun az z => ?_⟩
 have H := K.trans G
 have ah := ad.gr G
 have ai := j.bk.gr G
 refine sw z.ok (o_mv z.at_) (fun aA g => ?_)
 cases A : (bitT x.T t n)
 ·have B := (g.at_).trans (congrArg Value.bool (A))
  refine sn g.ok rfl (wgF rfl (yl 3 false rfl B) rfl) rfl (fun aB C => ?_)
  refine sn C.ok rfl (wgF rfl (yl 3 false rfl (C.n B)) rfl) rfl (fun aC I => ?_)
  refine sn I.ok rfl (wgF rfl (yl 3 false rfl (I.n (C.n B))) rfl) rfl (fun aD M => ?_)
  have aj := M.n (I.n (C.n B))
  refine sw M.ok (o_pkF aj ev_const) (fun aE O => ?_)
  refine sw O.ok (o_as O.at_) (fun aF S => ?_)
  refine wpList_nil (th_n (L _ _ (wp_ret (ret1 S.ok rfl (S.at_) ⟨congrArg (fun b => Ending.returned (Value.bool b)) (by simp [A]), H⟩))))
 ·have E := (g.at_).trans (congrArg Value.bool (A))
  have ak := g.n (z.n (r.n (q.n (o.n l.at_))))
  refine sv g.ok rfl (wgT rfl (yl 3 true rfl E) rfl) rfl (o_ldR ak ai Tryz.underlying151 rfl (by kernel_rfl)) (fun aG h => ?_)
  have al := h.n (g.n (z.n (r.n (q.n (o.n (l.n Y))))))
  refine sv h.ok rfl (wgT rfl (yl 3 true rfl (h.n E)) rfl) rfl (o_ldR al ah Tryz.underlying51 rfl (by kernel_rfl)) (fun aH u => ?_)
  refine sc u.ok rfl (wgT rfl (yl 3 true rfl (u.n (h.n E))) rfl) rfl (o_f2 Tryz.func121 rfl rfl rfl (u.n h.at_) u.at_) (hasDot_any x a c ag (hx.gr H)) ?_
  rintro _ aI ⟨rfl, am⟩
  refine ⟨_, rfl, fun aJ J => ?_⟩
  have an := H.trans am
  have ao := J.n (u.n (h.n E))
  refine sw J.ok (o_pkT ao J.at_) (fun aK U => ?_)
  refine sw U.ok (o_as U.at_) (fun aL V => ?_)
  refine wpList_nil (th_n (L _ _ (wp_ret (ret1 V.ok rfl (V.at_) ⟨congrArg (fun b => Ending.returned (Value.bool b)) (by simp [A]), an⟩))))
end Go.Proofs.YtglbnggkkjhokaaGreat
/- part.Check, checkBoth, Has. -/
namespace Rm
open Go Go.RowKit Gx
structure PtI where
  fa : Option Addr
  fn : Nat
  fc : Nat
  va : Option Addr
  vn : Nat
  vc : Nat
  ma : Option Addr
  mn : Nat
  mc : Nat
  l : List BoxI
  V : List Int
  M : List (Int × Int)
def encR (x : PtI) : List Value := [.slice x.fa x.fn x.fc, .slice x.va x.vn x.vc, .slice x.ma x.mn x.mc]
def PtI.f (x : PtI) : Value := .slice x.fa x.fn x.fc
def PtI.k (x : PtI) : Value := .agg #[.slice x.va x.vn x.vc, .slice x.ma x.mn x.mc]
def chkI (x : PtI) : Int := if chkF x.l = 0 then chkK x.V x.M else chkF x.l
def chkPGo : List PtI → Int
 | [] => 0
 | x :: r => if chkI x = 0 then chkPGo r else chkI x
def chkP (K : List PtI) : Int := if 30 < K.length then 2 else chkPGo K
theorem chkPGo_at {K : List PtI} {i : Nat} {x : PtI} (h : K[i]? = some x) : chkPGo (K.drop i) = if chkI x = 0 then chkPGo (K.drop (i + 1)) else chkI x := by
 obtain ⟨hi, e⟩ := List.getElem?_eq_some_iff.1 h
 rw [List.drop_eq_getElem_cons hi, e]
 rfl
theorem chkPGo_zero {K : List PtI} : chkPGo K = 0 ↔ ∀ x ∈ K, chkI x = 0 := by
 induction K with
 | nil => simp [chkPGo]
 | cons a K ih =>
  unfold chkPGo
  by_cases h : chkI a = 0
  ·rw [if_pos h, ih]
   simp [h]
  ·rw [if_neg h]
   simp [h]
end Rm
namespace Go.Proofs.YtglbnggkkjhokaaGreat
open Go.RowKit Rm Gx
structure MeanI (w : World) (x : PtI) : Prop where
 fs : RdF w x.f x.l
 kn : KnR w x.k x.V x.M
theorem MeanI.gr {w w' : World} {x : PtI} (h : MeanI w x) (g : Gr w w') : MeanI w' x := ⟨h.fs.gr g, h.kn.gr g⟩
def MeansI (w : World) (K : List PtI) : Prop := ∀ x ∈ K, MeanI w x
theorem MeansI.gr {w w' : World} {K : List PtI} (h : MeansI w K) (g : Gr w w') : MeansI w' K := fun x hx => (h x hx).gr g
theorem MeanP.i {w : World} {y : PtX} (h : MeanP w y) : ∃ x : PtI, encR x = encP y ∧ MeanI w x ∧ chkI x = 0 := by
 obtain ⟨F, h1, h2, h3, h4⟩ := h.fs
 have h5 : KnR w y.k (ints (formV y.D)) (pairs (formM y.D)) := h.kn
 have h6 : chkK (ints (formV y.D)) (pairs (formM y.D)) = 0 := (form_ok y.D).chk h.few
 generalize ints (formV y.D) = V at h5 h6
 generalize pairs (formM y.D) = M at h5 h6
 refine ⟨⟨y.fa, y.fn, y.fc, y.va, y.vn, y.vc, y.ma, y.mn, y.mc, F.map boxI, V, M⟩, rfl, ⟨h1, h5⟩, ?_⟩
 unfold chkI
 rw [if_pos (chkF_of h2 h3)]
 exact h6
theorem MeansP.is {w : World} {L : List PtX} (h : MeansP w L) : ∃ K : List PtI, K.map encR = L.map encP ∧ MeansI w K ∧ ∀ x ∈ K, chkI x = 0 := by
 induction L with
 | nil => exact ⟨[], rfl, (fun x hx => by cases hx), fun x hx => by cases hx⟩
 | cons a L ih =>
  obtain ⟨y, h1, h2, h3⟩ := (h a (List.mem_cons_self ..)).i
  obtain ⟨K, h4, h5, h6⟩ := ih (fun x hx => h x (List.mem_cons_of_mem _ hx))
  refine ⟨y :: K, by simp [h1, h4], fun x hx => ?_, fun x hx => ?_⟩
  ·rcases List.mem_cons.1 hx with rfl | hx
   ·exact h2
   ·exact h5 x hx
  ·rcases List.mem_cons.1 hx with rfl | hx
   ·exact h3
   ·exact h6 x hx
theorem rd_map {E F : Type} {enc : E → List Value} {enc' : F → List Value} {s : Nat} {w : World} {a : Option Addr} {K : List E} {L : List F} (h : RdA enc s w a K) (e : L.map enc' = K.map enc) : RdA enc' s w a L := by
 intro hn
 have hl : L.length = K.length := by simpa using congrArg List.length e
 obtain ⟨b, off, h1, h2, h3⟩ := h (by intro q; rw [q] at hl; exact hn (List.eq_nil_of_length_eq_zero (by simpa using hl)))
 refine ⟨b, off, h1, h2, fun i y hy j u hu => ?_⟩
 have hi : i < K.length := by rw [← hl]; exact (List.getElem?_eq_some_iff.1 hy).1
 have e2 : (L.map enc')[i]? = (K.map enc)[i]? := by rw [e]
 rw [List.getElem?_map, List.getElem?_map, hy, List.getElem?_eq_getElem hi] at e2
 simp only [Option.map_some, Option.some.injEq] at e2
 rw [e2] at hu
 exact h3 i _ (List.getElem?_eq_getElem hi) j u hu
theorem pcheck_any (K : List PtI) (va : Option Addr) (vc : Nat) (w : World) (hl : K.length ≤ 9223372036854775807) (hv : RdA encR 3 w va K) (hm : MeansI w K) :
  Calls Tryz.prog 116 #[.slice va K.length vc] w fun e w' => e = .returned (.int .i64 (chkP K)) ∧ Gr w w' := by
 refine enter (N := 29) Tryz.func116 rfl rfl rfl (fun a0 ok0 h0 => ?_)
 have af : a0.eval (.tmp 0) = .slice va K.length vc := h0 0 _ rfl
 clear h0
 have G0 := Gr.refl w
 refine wp_seq_k (fun K1 aA => (wp_region_lit (sw ok0 (o_as ev_const) (fun bj S => ?_))))
 refine wpList_nil (th_n (aA _ _ (wp_seq_k (fun K3 aB => (wp_seq_k (fun K4 aC => (wp_region_lit (sw S.ok (o_mv (S.n af)) (fun bn T => ?_)))))))))
 refine sw T.ok (o_len T.at_ Tryz.underlying32) (fun bo U => ?_)
 refine sw U.ok (o_gtI U.at_ ev_const) (fun bp B => ?_)
 refine wpList_nil (th_n (aC _ _ ?_))
 by_cases c8 : (30 : Int) < ((K.length : Nat) : Int)
 ·refine wp_cond_true ((B.at_).trans (congrArg Value.bool (decide_eq_true c8))) ?_
  refine wp_seq_k (fun K9 aD => (wp_region_lit (sw B.ok (o_as ev_const) (fun br ai => ?_))))
  refine wpList_nil (th_n (aD _ _ (wp_ret (th_r (ret1 ai.ok rfl (ai.at_) ⟨congrArg (fun n => Ending.returned (Value.int .i64 n)) (by unfold chkP; rw [if_pos (by omega)]), G0⟩)))))
 ·refine wp_cond_false ((B.at_).trans (congrArg Value.bool (decide_eq_false c8))) ?_
  refine wp_skip (th_n (aB _ _ (wp_seq_k (fun bt aE => (wp_seq_k (fun bu aF => (wp_region_lit ?_)))))))
  have aG := B.n (U.n (T.n (S.n af)))
  refine sw B.ok (o_mv aG) (fun bv W => ?_)
  refine sw W.ok (o_len W.at_ Tryz.underlying32) (fun bx X => ?_)
  refine sw X.ok (o_mv ev_const) (fun bz J => ?_)
  refine wpList_nil (th_n (aF _ _ (wp_block ?_)))
  have aH := J.n (X.n (W.n (B.n (U.n (T.n S.at_)))))
  refine lp (fun (nL : Nat) (aL : Act) (wL : World) => ∃ i : Nat, nL = K.length - i ∧ Ok 29 aL ∧ Gr w wL ∧ (aL.eval (.tmp 2) = .int .i64 0) ∧ (aL.eval (.tmp 10) = .slice va K.length vc) ∧ (aL.eval (.tmp 11) = .int .i64 ((K.length : Nat) : Int)) ∧ (aL.eval (.tmp 12) = .int .i64 (i : Int)) ∧ (i ≤ K.length) ∧ (chkPGo K = chkPGo (K.drop i))) _ ⟨0, rfl, J.ok, G0, aH, (J.n (X.n W.at_)), (J.n X.at_), J.at_, by omega, rfl⟩ ?_
  rintro bA bB bC ⟨i, hmI17, okI17, GI17, aI, aj, ak, aa, hiI17, hgI17⟩ KI17 hKI17
  refine wp_seq_k (fun bD aJ => (wp_region_lit (sw okI17 (o_ltI aa ak) (fun bE a => ?_))))
  refine wpList_nil (th_n (aJ _ _ (wp_seq_k (fun bF aK => ?_))))
  by_cases al : (i : Int) < ((K.length : Nat) : Int)
  ·refine wp_cond_true ((a.at_).trans (congrArg Value.bool (decide_eq_true al))) ?_
   refine wp_skip (th_n (aK _ _ (wp_seq_k (fun bG aM => (wp_block (wp_seq_k (fun bH aO => (wp_region_lit ?_))))))))
   have ab : i < List.length K := by omega
   obtain ⟨bh28, fh28, aS, aT, aU⟩ := hv (ne_nil_of_lt ab)
   obtain ⟨xh28, C⟩ : ∃ x, (K)[i]? = some x := ⟨_, List.getElem?_eq_getElem ab⟩
   refine sw a.ok (o_iaV (i := i) (s := 3) aS (a.n aj) (a.n aa) Tryz.underlying32 (by kernel_rfl) ab) (fun bI D => ?_)
   refine sw D.ok (o_ldA (k := fh28 + i * 3) D.at_ (cs := [.slice xh28.fa xh28.fn xh28.fc, .slice xh28.va xh28.vn xh28.vc, .slice xh28.ma xh28.mn xh28.mc]) (fun j v hv => (Below.cell GI17 aT).trans (aU _ _ C j v hv)) Tryz.underlying151 rfl (by kernel_rfl)) (fun bJ E => ?_)
   refine sal (cs := #[.slice none 0 0, .slice none 0 0, .slice none 0 0]) E.ok rfl (wn _ rfl) rfl (o_al (z := .agg #[.slice none 0 0, .slice none 0 0, .slice none 0 0]) (by kernel_rfl)) (fun bK bL aV Y c => ?_)
   have aW : w.heap.size ≤ aV := by rw [Y.eq]; exact GI17.size
   have aX := GI17.trans Y.gr
   refine ssR rfl (wn _ rfl) (o_stR c.at_ (c.n E.at_) Y.bk (by kernel_rfl) rfl (by simp [Value.oneCell'])) Y.bk (fun am aY an => ?_)
   have ao : Gr w am := Below.upd aX aW aY
   refine wpList_nil (th_n (aO _ _ (wp_seq_k (fun bM aZ => (wp_seq_k (fun bO a1 => (wp_region_lit (sw c.ok (o_fa (z := 1) c.at_ Tryz.underlying151 rfl (by kernel_rfl) rfl rfl) (fun bS q => ?_)))))))))
   refine sw q.ok (o_ld q.at_ (Tryz.isAgg22 _) (an.cell _ rfl)) (fun bT t => ?_)
   refine sc t.ok rfl (wn _ rfl) rfl (o_f1 Tryz.func50 rfl rfl rfl t.at_) (fcheck_any _ _ am ((hm _ (List.mem_of_getElem? C)).gr ao).fs) ?_
   rintro _ a2 ⟨rfl, ap⟩
   refine ⟨_, rfl, fun bU u => ?_⟩
   have ac := ao.trans ap
   have a3 := an.gr ap
   refine sw u.ok (o_as u.at_) (fun bV h => ?_)
   refine wpList_nil (th_n (a1 _ _ (wp_seq_k (fun bW a4 => (wp_region_lit (sw h.ok (o_mv h.at_) (fun bX o => ?_)))))))
   refine sw o.ok (o_neI o.at_ ev_const) (fun bY b => ?_)
   refine wpList_nil (th_n (a4 _ _ ?_))
   by_cases F : ¬ (chkF xh28.l) = 0
   ·refine wp_cond_true ((b.at_).trans (congrArg Value.bool (decide_eq_true F))) ?_
    refine wp_seq_k (fun bZ a6 => (wp_region_lit (sw b.ok (o_mv (b.n (o.n h.at_))) (fun b0 aq => ?_))))
    refine sw aq.ok (o_as aq.at_) (fun b1 ar => ?_)
    refine wpList_nil (th_n (a6 _ _ (wp_ret (th_r (ib_r (th_r (th_r (ib_r (th_r (ret1 ar.ok rfl (ar.at_) ⟨congrArg (fun n => Ending.returned (Value.int .i64 n)) (by unfold chkP; rw [if_neg (by omega), hgI17, chkPGo_at C]; unfold chkI; rw [if_neg F, if_neg F]), ac⟩))))))))))
   ·refine wp_cond_false ((b.at_).trans (congrArg Value.bool (decide_eq_false F))) ?_
    refine wp_skip (th_n (aZ _ _ (wp_seq_k (fun b2 a7 => (wp_region_lit ?_)))))
    have a8 := b.n (o.n (h.n (u.n (t.n (q.n c.at_)))))
    refine sw b.ok (o_fa (z := 2) a8 Tryz.underlying151 rfl (by kernel_rfl) rfl rfl) (fun b3 G => ?_)
    refine sw G.ok (o_ldA (k := 1) (cs := [.slice xh28.va xh28.vn xh28.vc, .slice xh28.ma xh28.mn xh28.mc]) G.at_ (bk_part a3 rfl) Tryz.underlying75 rfl (by kernel_rfl)) (fun b4 H => ?_)
    refine sc H.ok rfl (wn _ rfl) rfl (o_f1 Tryz.func131 rfl rfl rfl H.at_) (kcheck_any _ _ _ a2 ((hm _ (List.mem_of_getElem? C)).gr ac).kn) ?_
    rintro _ b5 ⟨rfl, a9⟩
    refine ⟨_, rfl, fun b6 I => ?_⟩
    have au := ac.trans a9
    refine sw I.ok (o_as I.at_) (fun b7 y => ?_)
    refine wpList_nil (th_n (a7 _ _ (wp_seq_k (fun b8 ba => (wp_region_lit (sw y.ok (o_mv y.at_) (fun b9 A => ?_)))))))
    refine sw A.ok (o_neI A.at_ ev_const) (fun ca g => ?_)
    refine wpList_nil (th_n (ba _ _ ?_))
    by_cases Z : ¬ (chkK xh28.V xh28.M) = 0
    ·refine wp_cond_true ((g.at_).trans (congrArg Value.bool (decide_eq_true Z))) ?_
     refine wp_seq_k (fun cb bb => (wp_region_lit (sw g.ok (o_mv (g.n (A.n y.at_))) (fun cc av => ?_))))
     refine sw av.ok (o_as av.at_) (fun cd ax => ?_)
     refine wpList_nil (th_n (bb _ _ (wp_ret (ib_r (th_r (th_r (ib_r (th_r (ret1 ax.ok rfl (ax.at_) ⟨congrArg (fun n => Ending.returned (Value.int .i64 n)) (by unfold chkP; rw [if_neg (by omega), hgI17, chkPGo_at C]; unfold chkI; rw [if_pos (Decidable.of_not_not F), if_neg Z]), au⟩)))))))))
    ·refine wp_cond_false ((g.at_).trans (congrArg Value.bool (decide_eq_false Z))) ?_
     refine wp_skip (ib_n (th_n (aM _ _ (wp_region_lit ?_))))
     have bc := g.n (A.n (y.n (I.n (H.n (G.n (b.n (o.n (h.n (u.n (t.n (q.n (c.n (E.n (D.n (a.n aa)))))))))))))))
     refine sw g.ok (o_add (r := ((i + 1 : Nat) : Int)) bc ev_const (by omega) (by omega)) (fun cf L => ?_)
     refine sw L.ok (o_mv L.at_) (fun cg O => ?_)
     refine wpList_nil ?_
     have bd := O.n (L.n (g.n (A.n (y.n (I.n (H.n (G.n (b.n (o.n (h.n (u.n (t.n (q.n (c.n (E.n (D.n (a.n aI)))))))))))))))))
     have bf := O.n (L.n (g.n (A.n (y.n (I.n (H.n (G.n (b.n (o.n (h.n (u.n (t.n (q.n (c.n (E.n (D.n (a.n aj)))))))))))))))))
     have bg := O.n (L.n (g.n (A.n (y.n (I.n (H.n (G.n (b.n (o.n (h.n (u.n (t.n (q.n (c.n (E.n (D.n (a.n ak)))))))))))))))))
     exact th_n (hKI17 _ _ _ (by omega) ⟨i + 1, rfl, O.ok, au, bd, bf, bg, O.at_, by omega, by rw [hgI17, chkPGo_at C, if_pos]; unfold chkI; rw [if_pos (Decidable.of_not_not F)]; exact Decidable.of_not_not Z⟩)
  ·refine wp_cond_false ((a.at_).trans (congrArg Value.bool (decide_eq_false al))) ?_
   refine wp_exit (th_x (th_x (ib_x (th_n (aE _ _ (wp_seq_k (fun ch bh => (wp_region_lit (sw a.ok (o_as ev_const) (fun ci ay => ?_))))))))))
   refine wpList_nil (th_n (bh _ _ (wp_ret (ret1 ay.ok rfl (ay.at_) ⟨congrArg (fun n => Ending.returned (Value.int .i64 n)) (by unfold chkP; rw [if_neg (by omega), hgI17, List.drop_eq_nil_of_le (by omega)]; rfl), GI17⟩))))
theorem pcheck_ok (L : List PtX) (va : Option Addr) (vc : Nat) (w : World) (hl : L.length ≤ 30) (hv : RdA encP 3 w va L) (hm : MeansP w L) : Calls Tryz.prog 116 #[.slice va L.length vc] w fun e w' => e = .returned (.int .i64 0) ∧ Gr w w' := by
 obtain ⟨K, h1, h2, h3⟩ := hm.is
 have hlen : K.length = L.length := by simpa using congrArg List.length h1
 have h := pcheck_any K va vc w (by omega) (rd_map hv h1) h2
 have e : chkP K = 0 := by unfold chkP; rw [if_neg (by omega)]; exact chkPGo_zero.2 h3
 rw [e, hlen] at h
 exact h
def chkP2 (K L : List PtI) : Int := if chkP K = 0 then chkP L else chkP K
theorem pcheckBoth_any (K L : List PtI) (va vb : Option Addr) (vc vd : Nat) (w : World) (hl1 : K.length ≤ 9223372036854775807) (hl2 : L.length ≤ 9223372036854775807) (h1 : RdA encR 3 w va K) (h2 : RdA encR 3 w vb L) (hm1 : MeansI w K) (hm2 : MeansI w L) :
  Calls Tryz.prog 153 #[.slice va K.length vc, .slice vb L.length vd] w fun e w' => e = .returned (.int .i64 (chkP2 K L)) ∧ Gr w w' := by
 refine enter (N := 13) Tryz.func153 rfl rfl rfl (fun t ok0 j => ?_)
 have C : t.eval (.tmp 0) = .slice va K.length vc := j 0 _ rfl
 have D : t.eval (.tmp 1) = .slice vb L.length vd := j 1 _ rfl
 clear j
 have l := Gr.refl w
 refine wp_seq_k (fun V E => (wp_region_lit (sw ok0 (o_as ev_const) (fun W o => ?_))))
 refine wpList_nil (th_n (E _ _ (wp_seq_k (fun X F => (wp_seq_k (fun Y G => (wp_region_lit (sw o.ok (o_mv (o.n C)) (fun Z q => ?_)))))))))
 refine sc q.ok rfl (wn _ rfl) rfl (o_f1 Tryz.func116 rfl rfl rfl q.at_) (pcheck_any K va vc w hl1 (h1.gr l) (hm1.gr l)) ?_
 rintro _ H ⟨rfl, I⟩
 refine ⟨_, rfl, fun aa r => ?_⟩
 have b := l.trans I
 refine sw r.ok (o_as r.at_) (fun ab c => ?_)
 refine wpList_nil (th_n (G _ _ (wp_seq_k (fun ac J => (wp_region_lit (sw c.ok (o_mv c.at_) (fun ad g => ?_)))))))
 refine sw g.ok (o_neI g.at_ ev_const) (fun af a => ?_)
 refine wpList_nil (th_n (J _ _ ?_))
 by_cases h : ¬ (chkP K) = 0
 ·refine wp_cond_true ((a.at_).trans (congrArg Value.bool (decide_eq_true h))) ?_
  refine wp_seq_k (fun ag M => (wp_region_lit (sw a.ok (o_mv (a.n (g.n c.at_))) (fun ah u => ?_))))
  refine sw u.ok (o_as u.at_) (fun ai y => ?_)
  refine wpList_nil (th_n (M _ _ (wp_ret (th_r (ret1 y.ok rfl (y.at_) ⟨congrArg (fun n => Ending.returned (Value.int .i64 n)) (by unfold chkP2; rw [if_neg h]), b⟩)))))
 ·refine wp_cond_false ((a.at_).trans (congrArg Value.bool (decide_eq_false h))) ?_
  refine wp_skip (th_n (F _ _ (wp_seq_k (fun aj O => (wp_region_lit ?_)))))
  have S := a.n (g.n (c.n (r.n (q.n (o.n D)))))
  refine sw a.ok (o_mv S) (fun ak z => ?_)
  refine sc z.ok rfl (wn _ rfl) rfl (o_f1 Tryz.func116 rfl rfl rfl z.at_) (pcheck_any L vb vd H hl2 (h2.gr b) (hm2.gr b)) ?_
  rintro _ al ⟨rfl, T⟩
  refine ⟨_, rfl, fun am A => ?_⟩
  have U := b.trans T
  refine sw A.ok (o_as A.at_) (fun an B => ?_)
  refine wpList_nil (th_n (O _ _ (wp_ret (ret1 B.ok rfl (B.at_) ⟨congrArg (fun n => Ending.returned (Value.int .i64 n)) (by unfold chkP2; rw [if_pos (Decidable.of_not_not h)]), U⟩))))
theorem pcheckBoth_ok (K L : List PtX) (va vb : Option Addr) (vc vd : Nat) (w : World) (hl : K.length ≤ 30) (hl' : L.length ≤ 30) (hv : RdA encP 3 w va K) (hv' : RdA encP 3 w vb L) (hm : MeansP w K) (hm' : MeansP w L) : Calls Tryz.prog 153 #[.slice va K.length vc, .slice vb L.length vd] w fun e w' => e = .returned (.int .i64 0) ∧ Gr w w' := by
 obtain ⟨K', h1, h2, h3⟩ := hm.is
 obtain ⟨L', h4, h5, h6⟩ := hm'.is
 have hlen : K'.length = K.length := by simpa using congrArg List.length h1
 have hlen' : L'.length = L.length := by simpa using congrArg List.length h4
 have h := pcheckBoth_any K' L' va vb vc vd w (by omega) (by omega) (rd_map hv h1) (rd_map hv' h4) h2 h5
 have e : chkP K' = 0 := by unfold chkP; rw [if_neg (by omega)]; exact chkPGo_zero.2 h3
 have e' : chkP L' = 0 := by unfold chkP; rw [if_neg (by omega)]; exact chkPGo_zero.2 h6
 have e2 : chkP2 K' L' = 0 := by unfold chkP2; rw [if_pos e, e']
 rw [e2, hlen, hlen'] at h
 exact h
def hasE (t n a c : Int) : Int := if (pointB t n && dotB (a, c)) = true then 0 else 1
theorem phas_ok (K : List PtX) (va : Option Addr) (vc : Nat) (t n a c : Int) (w : World) (hl : K.length ≤ 30) (hv : RdA encP 3 w va K) (hm : MeansP w K) :
  Calls Tryz.prog 61 #[.slice va K.length vc, .agg #[.int .i64 (t), .int .i64 (n)], .agg #[.int .i64 (a), .int .i64 (c)]] w fun e w' => e = .returned (.tuple #[.bool (pointB t n && dotB (a, c) && K.any fun x => bitT x.T t n && hasD x.D a c), .int .i64 (hasE t n a c)]) ∧ Gr w w' := by
 refine enter (N := 25) Tryz.func61 rfl rfl rfl (fun W ok0 F => ?_)
 have aC : W.eval (.tmp 0) = .slice va K.length vc := F 0 _ rfl
 have aD : W.eval (.tmp 1) = .agg #[.int .i64 (t), .int .i64 (n)] := F 1 _ rfl
 have aE : W.eval (.tmp 2) = .agg #[.int .i64 (a), .int .i64 (c)] := F 2 _ rfl
 clear F
 have G0 := Gr.refl w
 refine wp_seq_k (fun K1 aG => (wp_region_lit (sal (cs := #[.int .i64 (t), .int .i64 (n)]) ok0 rfl (wn _ rfl) rfl (o_box aD) (fun bf w4 X W5 G => ?_))))
 have G7 := G0.trans W5.gr
 refine sal (cs := #[.int .i64 (a), .int .i64 (c)]) G.ok rfl (wn _ rfl) rfl (o_box (G.n aE)) (fun bh aI Y Z H => ?_)
 have aa := G7.trans Z.gr
 have aJ := W5.bk.gr Z.gr
 refine sw H.ok (o_as ev_const) (fun bi I => ?_)
 refine sw I.ok (o_as ev_const) (fun bj J => ?_)
 refine wpList_nil (th_n (aG _ _ (wp_seq_k (fun bl aK => (wp_seq_k (fun bm aL => (wp_region_lit ?_)))))))
 have am := J.n (I.n (H.n (G.n aC)))
 refine sw J.ok (o_mv am) (fun bn q => ?_)
 refine sc q.ok rfl (wn _ rfl) rfl (o_f1 Tryz.func116 rfl rfl rfl q.at_) (pcheck_ok K va vc aI hl (hv.gr aa) (hm.gr aa)) ?_
 rintro _ aM ⟨rfl, ab⟩
 refine ⟨_, rfl, fun bo r => ?_⟩
 have aO := aa.trans ab
 have an := aJ.gr ab
 have aS := Z.bk.gr ab
 refine sw r.ok (o_as r.at_) (fun bp u => ?_)
 refine wpList_nil (th_n (aL _ _ (wp_seq_k (fun bq aT => (wp_region_lit (sw u.ok (o_mv u.at_) (fun br y => ?_)))))))
 refine sw y.ok (o_neq (b := false) y.at_ ev_const (by decide)) (fun bt z => ?_)
 refine wpList_nil (th_n (aT _ _ (wp_cond_false (z.at_) ?_)))
 refine wp_skip (th_n (aK _ _ (wp_seq_k (fun bu aU => (wp_seq_k (fun bv ao => (wp_region_lit ?_)))))))
 have ap := z.n (y.n (u.n (r.n (q.n (J.n (I.n (H.n G.at_)))))))
 refine sw z.ok (o_ldR ap an Tryz.underlying49 rfl (by kernel_rfl)) (fun bx A => ?_)
 refine sc A.ok rfl (wn _ rfl) rfl (o_f1 Tryz.func56 rfl rfl rfl A.at_) (point_any t n aM) ?_
 rintro _ aV ⟨rfl, ac⟩
 refine ⟨_, rfl, fun bz B => ?_⟩
 have aq := aO.trans ac
 have aW := an.gr ac
 have ar := aS.gr ac
 refine sw B.ok (o_notI B.at_) (fun bA C => ?_)
 refine sw C.ok (o_mv C.at_) (fun bB h => ?_)
 cases E : (!(pointB t n))
 ·have L := (h.at_).trans (congrArg Value.bool (E))
  have au := h.n (C.n (B.n (A.n (z.n (y.n (u.n (r.n (q.n (J.n (I.n H.at_))))))))))
  refine sv h.ok rfl (wgT rfl (yl 3 false rfl L) rfl) rfl (o_ldR au ar Tryz.underlying51 rfl (by kernel_rfl)) (fun bC g => ?_)
  refine sc g.ok rfl (wgT rfl (yl 3 false rfl (g.n L)) rfl) rfl (o_f1 Tryz.func117 rfl rfl rfl g.at_) (dot_any (a, c) aV) ?_
  rintro _ aX ⟨rfl, ad⟩
  refine ⟨_, rfl, fun bD j => ?_⟩
  have M := aq.trans ad
  have aY := aW.gr ad
  have aZ := ar.gr ad
  refine sv j.ok rfl (wgT rfl (yl 3 false rfl (j.n (g.n L))) rfl) rfl (o_notI j.at_) (fun bE o => ?_)
  have a1 := o.n (j.n (g.n L))
  refine sw o.ok (o_pkF a1 o.at_) (fun bF l => ?_)
  refine wpList_nil (th_n (ao _ _ ?_))
  cases O : (!(dotB (a, c)))
  ·refine wp_cond_false ((l.at_).trans (congrArg Value.bool (O))) ?_
   refine wp_skip (th_n (aU _ _ (wp_seq_k (fun bG a2 => (wp_region_lit ?_)))))
   have a3 := l.n (o.n (j.n (g.n (h.n (C.n (B.n (A.n (z.n (y.n (u.n (r.n (q.n am))))))))))))
   refine sw l.ok (o_mv a3) (fun bH S => ?_)
   have a4 := S.n (l.n (o.n (j.n (g.n (h.n (C.n (B.n (A.n ap))))))))
   have a6 := S.n (l.n (o.n (j.n (g.n au))))
   refine sw S.ok (o_mf (fs := []) (cs := [.pointer (some ⟨X, 0, none⟩), .pointer (some ⟨Y, 0, none⟩)]) (by simp) (by simp [a4, a6])) (fun bI af => ?_)
   refine sc af.ok rfl (wn _ rfl) rfl (o_f2 Tryz.func118 rfl rfl rfl (af.n S.at_) af.at_) (containsP K va vc _ [.pointer (some ⟨X, 0, none⟩), .pointer (some ⟨Y, 0, none⟩)] (fun x => bitT x.T t n && hasD x.D a c) ⟨_, Tryz.func119, rfl, rfl⟩ (by omega) aX (hv.gr M) (fun x hx w1 g1 => has1_any x X Y t n a c w1 ((hm x hx).gr (M.trans g1)) (aY.gr g1) (aZ.gr g1))) ?_
   rintro _ bJ ⟨rfl, a8⟩
   refine ⟨_, rfl, fun bK av => ?_⟩
   have a9 := M.trans a8
   refine sw av.ok (o_as av.at_) (fun bL ax => ?_)
   refine sw ax.ok (o_as ev_const) (fun bM ah => ?_)
   refine wpList_nil (th_n (a2 _ _ (wp_ret (ret2 ah.ok rfl ((ah.n ax.at_)) (ah.at_) ⟨by unfold hasE; rw [show pointB t n = true by simpa using E, show dotB (a, c) = true by simpa using O]; rfl, a9⟩))))
  ·refine wp_cond_true ((l.at_).trans (congrArg Value.bool (O))) ?_
   refine wp_seq_k (fun bO ba => (wp_region_lit (sw l.ok (o_as ev_const) (fun bS ay => ?_))))
   refine sw ay.ok (o_as ev_const) (fun bT ai => ?_)
   refine wpList_nil (th_n (ba _ _ (wp_ret (th_r (ret2 ai.ok rfl ((ai.n ay.at_)) (ai.at_) ⟨by unfold hasE; rw [show pointB t n = true by simpa using E, show dotB (a, c) = false by simpa using O]; rfl, M⟩)))))
 ·have U := (h.at_).trans (congrArg Value.bool (E))
  refine sn h.ok rfl (wgF rfl (yl 3 true rfl U) rfl) rfl (fun bU V => ?_)
  refine sn V.ok rfl (wgF rfl (yl 3 true rfl (V.n U)) rfl) rfl (fun bV aj => ?_)
  refine sn aj.ok rfl (wgF rfl (yl 3 true rfl (aj.n (V.n U))) rfl) rfl (fun bW az => ?_)
  have bb := az.n (aj.n (V.n U))
  refine sw az.ok (o_pkT bb ev_const) (fun bX aA => ?_)
  refine wpList_nil (th_n (ao _ _ (wp_cond_true (aA.at_) ?_)))
  refine wp_seq_k (fun bY bc => (wp_region_lit (sw aA.ok (o_as ev_const) (fun bZ aB => ?_))))
  refine sw aB.ok (o_as ev_const) (fun b0 ak => ?_)
  refine wpList_nil (th_n (bc _ _ (wp_ret (th_r (ret2 ak.ok rfl ((ak.n aB.at_)) (ak.at_) ⟨by unfold hasE; rw [show pointB t n = false by simpa using E]; rfl, aq⟩)))))
end Go.Proofs.YtglbnggkkjhokaaGreat
/- What a part owns; narrow. -/
namespace Go.Proofs.YtglbnggkkjhokaaGreat
open Go.RowKit Rm Gx
def ptT : List TypeId := [134, 177, 3, 51]
def Tk (w w' : World) : Prop := ∀ (k : Nat) (cs : Array Value) (t : TypeId) (fr : Nat × Nat), w.heap[k]? = some (.cells cs t fr) → ptT.contains t = true → w'.heap[k]? = w.heap[k]?
theorem tk_gr {w w' : World} (g : Gr w w') : Tk w w' := fun k cs t fr h _ => Below.block g k (Array.getElem?_eq_some_iff.1 h).1
theorem tk_upd {w w' : World} {b : Nat} {cs : Array Value} {t : TypeId} (u : Upd w w' b) (h : Bk w b cs t) (ht : ptT.contains t = false) : Tk w w' := fun k cs' t' fr h' ht' => u.oth k (fun e => by
 subst e
 unfold Bk at h
 rw [h] at h'
 injection h' with h'
 injection h' with _ h2
 subst h2
 rw [ht] at ht'
 cases ht')
theorem tk_grown {w w' : World} {base s n : Nat} {t : TypeId} {v : Value} {xs : List Value} (h : w.ownsRow base t s v n xs) (g : w.grownBy w' v.ownBlock) (ht : ptT.contains t = false) : Tk w w' := fun k cs t' fr h' ht' => g.block k (Array.getElem?_eq_some_iff.1 h').1 (fun e => by
 obtain ⟨-, ⟨rfl, -⟩ | ⟨b, cap, cur, rfl, -, hg, -⟩⟩ := h
 ·cases e
 ·obtain rfl : k = b := by simpa [Value.ownBlock] using e
  rw [hg] at h'
  injection h' with h'
  injection h' with _ h2
  subst h2
  rw [ht] at ht'
  cases ht')
theorem ow_tk {w w' : World} {base s n : Nat} {t : TypeId} {v : Value} {xs : List Value} (h : w.ownsRow base t s v n xs) (k : Tk w w') (ht : ptT.contains t = true) : w'.ownsRow base t s v n xs := by
 obtain ⟨h1, h2 | ⟨b, cap, cur, rfl, h3, hg, h4⟩⟩ := h
 ·exact ⟨h1, .inl h2⟩
 ·exact ⟨h1, .inr ⟨b, cap, cur, rfl, h3, (k b cur t (0, 0) hg ht).trans hg, h4⟩⟩
theorem FO.tk {base n : Nat} {w w' : World} {v : Value} {T : Nat → Nat} (h : FO base n w v T) (k : Tk w w') : FO base n w' v T := by
 obtain ⟨O, h1, h2, h3⟩ := h
 exact ⟨O, ow_tk h1 k (by decide), fun p hp => ow_tk (h2 p hp) k (by decide), h3⟩
theorem KnO.tk {base : Nat} {w w' : World} {k : Value} {v : List Nat} {m : List (Nat × Nat)} (h : KnO base w k v m) (q : Tk w w') : KnO base w' k v m := by
 obtain ⟨vv, mv, e, h1, h2⟩ := h
 exact ⟨vv, mv, e, ow_tk h1 q (by decide), ow_tk h2 q (by decide)⟩
theorem FO.form {base n : Nat} {w : World} {v : Value} {T : Nat → Nat} (h : FO base n w v T) : ∃ a l c, v = .slice a l c := by
 obtain ⟨O, h1, -⟩ := h
 obtain ⟨a, c, rfl, -⟩ := ow_form h1
 exact ⟨a, _, c, rfl⟩
structure OwnP (base : Nat) (w : World) (x : PtX) : Prop where
  fo : FO base 16 w x.f x.T
  kn : KnO base w x.k (formV x.D) (formM x.D)
  few : (formM x.D).length ≤ 60
theorem OwnP.tk {base : Nat} {w w' : World} {x : PtX} (h : OwnP base w x) (k : Tk w w') : OwnP base w' x := ⟨h.fo.tk k, h.kn.tk k, h.few⟩
theorem OwnP.mean {base : Nat} {w : World} {x : PtX} (h : OwnP base w x) : MeanP w x := ⟨h.fo.fs.le (by decide), h.kn.rd, h.few⟩
theorem OwnP.base {base base' : Nat} {w : World} {x : PtX} (h : OwnP base w x) (hb : base' ≤ base) : OwnP base' w x := ⟨h.fo.base hb, h.kn.less hb, h.few⟩
def OwnsP (base : Nat) (w : World) (K : List PtX) : Prop := ∀ x ∈ K, OwnP base w x
theorem OwnsP.tk {base : Nat} {w w' : World} {K : List PtX} (h : OwnsP base w K) (k : Tk w w') : OwnsP base w' K := fun x hx => (h x hx).tk k
theorem OwnsP.mean {base : Nat} {w : World} {K : List PtX} (h : OwnsP base w K) : MeansP w K := fun x hx => (h x hx).mean
theorem OwnsP.snoc {base : Nat} {w : World} {K : List PtX} {x : PtX} (h : OwnsP base w K) (hx : OwnP base w x) : OwnsP base w (K ++ [x]) := fun y hy => by
 rcases List.mem_append.1 hy with hy | hy
 ·exact h y hy
 ·rw [List.mem_singleton.1 hy]; exact hx
theorem or_none (D : DS) : EqD (orD (memB (formV D) (formM D)) (memB [] [])) D := fun s c i => by
 have h := form_mem D s c i
 have e : memB [] [] s c = false := by
  cases q : memB [] [] s c
  ·rfl
  ·rw [memB_iff] at q
   simp [cv] at q
   have := i.2.1
   omega
 simp only [orD, h, e, Bool.or_false]
theorem kjoin0 (k : Value) (D : DS) (w : World) (hk : KnD w k D) (hl : (formM D).length ≤ 60) :
  Calls Tryz.prog 127 #[k, .agg #[.slice none 0 0, .slice none 0 0]] w fun e w' => ∃ va vn vc ma mn mc, e = .returned (.tuple #[.agg #[.slice va vn vc, .slice ma mn mc], .int .i64 0]) ∧ KnO w.heap.size w' (.agg #[.slice va vn vc, .slice ma mn mc]) (formV D) (formM D) ∧ Gr w w' := by
 have ok0 : OkV [] [] := ⟨by simp, by simp, by simp, by simp, by simp⟩
 refine (join_ok k _ _ [] _ [] w hk (knR_nil w) (form_ok D) ok0 hl (by simp)).mono ?_
 rintro e w' ⟨h, g⟩
 obtain ⟨k2, h1, h2⟩ := frmK.one (h.congr (or_none D))
 unfold frE at h1
 unfold frV frM at h2
 rw [if_pos hl] at h1
 rw [if_pos hl, if_pos hl] at h2
 obtain ⟨va, vc, ma, mc, rfl⟩ := h2.form
 exact ⟨va, _, vc, ma, _, mc, h1, h2, g⟩
def nar (U : Nat → Nat) (x : PtX) : (Nat → Nat) × DS := (fun t => x.T t &&& U t, x.D)
def _root_.Rm.PtX.m (x : PtX) : (Nat → Nat) × DS := (x.T, x.D)
theorem nar_step {U : Nat → Nat} {L R : List PtX} {i : Nat} {x y : PtX} (h : R.map PtX.m = (L.take i).map (nar U)) (hx : L[i]? = some x) (hy : y.m = nar U x) : (R ++ [y]).map PtX.m = (L.take (i + 1)).map (nar U) := by
 rw [List.map_append, h, List.take_add_one, hx, List.map_append]
 simp [hy]
theorem narrow_any (L : List PtX) (va : Option Addr) (vc : Nat) (fv : Value) (U : Nat → Nat) (hl : L.length ≤ 1000) (w : World) (hv : RdA encP 3 w va L) (hm : MeansP w L) (hf : FS w fv U) :
  Calls Tryz.prog 129 #[.slice va L.length vc, fv] w fun e w' => ∃ (R : List PtX) (v : Value), e = .returned v ∧ R.map PtX.m = L.map (nar U) ∧ w'.ownsRow w.heap.size 151 3 v R.length (flatE encP R) ∧ OwnsP w.heap.size w' R ∧ Gr w w' := by
 refine enter (N := 40) Tryz.func129 rfl rfl rfl (fun a0 ok0 h0 => ?_)
 have a6 : a0.eval (.tmp 0) = .slice va L.length vc := h0 0 _ rfl
 have a7 : a0.eval (.tmp 1) = fv := h0 1 _ rfl
 clear h0
 have G0 := Gr.refl w
 obtain ⟨base, z1⟩ : ∃ n, n = w.heap.size := ⟨_, rfl⟩
 have l2 : w.heap.size ≤ base := by rw [z1]; exact G0.size
 have z3 : base ≤ w.heap.size := Nat.le_of_eq z1
 have O4 := World.ownsRow_nil w base 151 3
 have hps : OwnsP base w ([] : List PtX) := fun x hx => by cases hx
 refine wp_seq_k (fun K5 bb => (wp_region_lit (sw ok0 (o_as ev_const) (fun cG n6 => ?_))))
 refine wpList_nil (th_n (bb _ _ (wp_seq_k (fun K7 bc => (wp_region_lit (sw n6.ok (o_as ev_const) (fun cI n8 => ?_)))))))
 refine wpList_nil (th_n (bc _ _ (wp_seq_k (fun K9 bd => (wp_seq_k (fun cK bf => (wp_region_lit (sw n8.ok (o_mv (n8.n (n6.n a6))) (fun cL am => ?_)))))))))
 refine sw am.ok (o_len am.at_ Tryz.underlying32) (fun cM an => ?_)
 refine sw an.ok (o_mv ev_const) (fun cO af => ?_)
 refine wpList_nil (th_n (bf _ _ (wp_block ?_)))
 have bg := af.n (an.n (am.n (n8.n (n6.n a7))))
 have bh := af.n (an.n (am.n (n8.n n6.at_)))
 have bi := af.n (an.n (am.n n8.at_))
 refine lp (fun (nL : Nat) (aL : Act) (wL : World) => ∃ i : Nat, ∃ R : List PtX, ∃ ra : Option Addr, ∃ rc : Nat, nL = L.length - i ∧ Ok 40 aL ∧ Gr w wL ∧ (aL.eval (.tmp 1) = fv) ∧ (aL.eval (.tmp 4) = .slice none 0 0) ∧ (aL.eval (.tmp 5) = .slice ra (R.length) rc) ∧ (aL.eval (.tmp 12) = .slice va L.length vc) ∧ (aL.eval (.tmp 13) = .int .i64 ((L.length : Nat) : Int)) ∧ (aL.eval (.tmp 14) = .int .i64 (i : Int)) ∧ (OwnsP base wL R) ∧ (World.ownsRow wL base 151 3 (.slice ra (R.length) rc) (R.length) ((flatE encP R))) ∧ (base ≤ wL.heap.size) ∧ (i ≤ L.length) ∧ (R.map PtX.m = (L.take i).map (nar U))) _ ⟨0, [], none, 0, rfl, af.ok, G0, bg, bh, bi, (af.n (an.n am.at_)), (af.n an.at_), af.at_, hps, O4, z3, by omega, rfl⟩ ?_
 rintro cS cT cU ⟨i, R, ra, rc, hmI14, okI14, GI14, bj, bl, aH, aI, aJ, aB, fpsI14, orI14, zbaseI14, hiI14, hRI14⟩ KI14 hKI14
 have hRlI14 : R.length = i := by have := congrArg List.length hRI14; rw [List.length_map, List.length_map, List.length_take] at this; omega
 refine wp_seq_k (fun cV bm => (wp_region_lit (sw okI14 (o_ltI aB aJ) (fun cW a => ?_))))
 refine wpList_nil (th_n (bm _ _ (wp_seq_k (fun cX bn => ?_))))
 by_cases aK : (i : Int) < ((L.length : Nat) : Int)
 ·refine wp_cond_true ((a.at_).trans (congrArg Value.bool (decide_eq_true aK))) ?_
  refine wp_skip (th_n (bn _ _ (wp_seq_k (fun cY bo => (wp_block (wp_seq_k (fun cZ bp => (wp_region_lit ?_))))))))
  have aC : i < List.length L := by omega
  obtain ⟨bh27, fh27, bq, br, bt⟩ := hv (ne_nil_of_lt aC)
  obtain ⟨xh27, ao⟩ : ∃ x, (L)[i]? = some x := ⟨_, List.getElem?_eq_getElem aC⟩
  refine sw a.ok (o_iaV (i := i) (s := 3) bq (a.n aI) (a.n aB) Tryz.underlying32 (by kernel_rfl) aC) (fun c0 aa => ?_)
  refine sw aa.ok (o_ldA (k := fh27 + i * 3) aa.at_ (cs := [.slice xh27.fa xh27.fn xh27.fc, .slice xh27.va xh27.vn xh27.vc, .slice xh27.ma xh27.mn xh27.mc]) (fun j v hv => (Below.cell GI14 br).trans (bt _ _ ao j v hv)) Tryz.underlying151 rfl (by kernel_rfl)) (fun c1 ab => ?_)
  refine sal (cs := #[.slice none 0 0, .slice none 0 0, .slice none 0 0]) ab.ok rfl (wn _ rfl) rfl (o_al (z := .agg #[.slice none 0 0, .slice none 0 0, .slice none 0 0]) (by kernel_rfl)) (fun c2 c3 aM H g => ?_)
  have bu : w.heap.size ≤ aM := by rw [H.eq]; exact GI14.size
  have bv : ∀ k, Value.ownBlock (.slice ra (R.length) rc) = some k → k < aM := fun k e => by rw [H.eq]; exact ow_in orI14 k e
  have bx := GI14.trans H.gr
  have bz := Nat.le_trans zbaseI14 H.gr.size
  have bA := ow_gr orI14 H.gr
  have bB := fpsI14.tk (tk_gr H.gr)
  refine ssR rfl (wn _ rfl) (o_stR g.at_ (g.n ab.at_) H.bk (by kernel_rfl) rfl (by simp [Value.oneCell'])) H.bk (fun aO ax aS => ?_)
  have ay : Gr w aO := Below.upd bx bu ax
  have bC : base ≤ aO.heap.size := by rw [ax.size]; exact bz
  have bD := ow_upd_ne bA ax bv
  have bE := bB.tk (tk_upd ax H.bk (by decide))
  refine wpList_nil (th_n (bp _ _ (wp_seq_k (fun c4 bF => (wp_region_lit (sw g.ok (o_fa (z := 1) g.at_ Tryz.underlying151 rfl (by kernel_rfl) rfl rfl) (fun c5 I => ?_)))))))
  refine sw I.ok (o_ld I.at_ (Tryz.isAgg22 _) (aS.cell _ rfl)) (fun c6 J => ?_)
  have aT := J.n (I.n (g.n (ab.n (aa.n (a.n bj)))))
  refine sw J.ok (o_mv aT) (fun c7 l => ?_)
  refine sc l.ok rfl (wn _ rfl) rfl (o_f2 Tryz.func66 rfl rfl rfl (l.n J.at_) l.at_) (fmeet_own (T := xh27.T) (U := U) ((hm _ (List.mem_of_getElem? ao)).gr ay).fs (hf.gr ay)) ?_
  rintro _ bG ⟨u1, rfl, hu1, ar⟩
  obtain ⟨fa1, fn1, fc1, rfl⟩ := hu1.form
  refine ⟨_, rfl, fun c9 K => ?_⟩
  have aD := ay.trans ar
  have bH := aS.gr ar
  have bI := Nat.le_trans bC ar.size
  have bJ := ow_gr bD ar
  have bK := bE.tk (tk_gr ar)
  refine sw K.ok (o_mv K.at_) (fun da o => ?_)
  refine sw o.ok (o_ex o.at_ rfl) (fun db q => ?_)
  refine sw q.ok (o_ex (q.n o.at_) rfl) (fun dc A => ?_)
  refine sw A.ok (o_as (A.n q.at_)) (fun dd B => ?_)
  refine sw B.ok (o_as (B.n A.at_)) (fun df M => ?_)
  refine wpList_nil (th_n (bF _ _ (wp_seq_k (fun dg bL => (wp_region_lit ?_)))))
  have bM := M.n (B.n (A.n (q.n (o.n (K.n (l.n (J.n (I.n g.at_))))))))
  refine sw M.ok (o_fa (z := 2) bM Tryz.underlying151 rfl (by kernel_rfl) rfl rfl) (fun dh O => ?_)
  refine sw O.ok (o_ldA (k := 1) (cs := [.slice xh27.va xh27.vn xh27.vc, .slice xh27.ma xh27.mn xh27.mc]) O.at_ (bk_part bH rfl) Tryz.underlying75 rfl (by kernel_rfl)) (fun di S => ?_)
  refine sw S.ok (o_b0 (cs := #[.slice none 0 0, .slice none 0 0]) Tryz.underlying75 (by kernel_rfl) (by kernel_rfl)) (fun dj C => ?_)
  refine sc C.ok rfl (wn _ rfl) rfl (o_f2 Tryz.func127 rfl rfl rfl (C.n S.at_) C.at_) (kjoin0 _ xh27.D bG ((hm _ (List.mem_of_getElem? ao)).gr aD).kn (hm _ (List.mem_of_getElem? ao)).few) ?_
  rintro _ dk ⟨va1, vn1, vc1, ma1, mn1, mc1, rfl, hk1, au⟩
  refine ⟨_, rfl, fun dl V => ?_⟩
  have aU := aD.trans au
  have bO := Nat.le_trans bI au.size
  have aV := ow_gr bJ au
  have bS := bK.tk (tk_gr au)
  have bT := (hu1.base ay.size).gr au
  refine sw V.ok (o_mv V.at_) (fun dm E => ?_)
  refine sw E.ok (o_ex E.at_ rfl) (fun dn F => ?_)
  refine sw F.ok (o_ex (F.n E.at_) rfl) (fun dp G => ?_)
  refine sal (cs := #[.slice none 0 0, .slice none 0 0]) G.ok rfl (wn _ rfl) rfl (o_al (z := .agg #[.slice none 0 0, .slice none 0 0]) (by kernel_rfl)) (fun dq dr aW b c => ?_)
  have bU : w.heap.size ≤ aW := by rw [b.eq]; exact aU.size
  have bV : ∀ k, Value.ownBlock (.slice ra (R.length) rc) = some k → k < aW := fun k e => by rw [b.eq]; exact ow_in aV k e
  have bW := aU.trans b.gr
  have bX := Nat.le_trans bO b.gr.size
  have bY := ow_gr aV b.gr
  have bZ := bS.tk (tk_gr b.gr)
  have b0 := bT.gr b.gr
  have b1 := (hk1.less aD.size).gr b.gr
  refine ssR rfl (wn _ rfl) (o_stR c.at_ (c.n (G.n F.at_)) b.bk (by kernel_rfl) rfl (by simp [Value.oneCell'])) b.bk (fun aX ap b2 => ?_)
  have b3 : Gr w aX := Below.upd bW bU ap
  have b4 : base ≤ aX.heap.size := by rw [ap.size]; exact bX
  have b5 := ow_upd_ne bY ap bV
  have b6 := bZ.tk (tk_upd ap b.bk (by decide))
  have b7 := b0.tk (tk_upd ap b.bk (by decide))
  have b8 := b1.tk (tk_upd ap b.bk (by decide))
  refine sw c.ok (o_as (c.n G.at_)) (fun ds W => ?_)
  refine wpList_nil (th_n (bL _ _ (wp_region_lit ?_)))
  have b9 := W.n (c.n (G.n (F.n (E.n (V.n (C.n (S.n (O.n (M.n (B.n (A.n (q.n (o.n (K.n (l.n (J.n (I.n (g.n (ab.n (aa.n (a.n aH)))))))))))))))))))))
  refine sw W.ok (o_mv b9) (fun dt X => ?_)
  have ca := X.n (W.n (c.n (G.n (F.n (E.n (V.n (C.n (S.n (O.n (M.n B.at_))))))))))
  refine sw X.ok (o_mv ca) (fun du Y => ?_)
  have cb := Y.n (X.n (W.n c.at_))
  refine sw Y.ok (o_ldR cb b2 Tryz.underlying75 rfl (by kernel_rfl)) (fun dv Z => ?_)
  refine sw Z.ok (o_bd (cells := #[.slice fa1 fn1 fc1, .slice va1 vn1 vc1, .slice ma1 mn1 mc1]) (vs := [(0, .slice fa1 fn1 fc1), (1, .agg #[.slice va1 vn1 vc1, .slice ma1 mn1 mc1])]) (by simp [(Z.n Y.at_), Z.at_, ev_const]) (by kernel_rfl)) (fun dx ac => ?_)
  obtain ⟨dy, cc, cd, aE⟩ := info3_of (show (Tryz.prog.info? 151).map (fun i => (i.zero, i.size)) = some (some (.agg #[.slice none 0 0, .slice none 0 0, .slice none 0 0]), 3) by kernel_rfl)
  refine sals (cs := #[.slice fa1 fn1 fc1, .slice va1 vn1 vc1, .slice ma1 mn1 mc1]) ac.ok rfl (wn _ rfl) rfl (o_bs (vs := [(0, .agg #[.slice fa1 fn1 fc1, .slice va1 vn1 vc1, .slice ma1 mn1 mc1])]) (by simp [ac.at_, ev_const]) Tryz.underlying32 cc cd (by rw [aE]; rfl) (by rw [aE]; rfl) (by rw [aE]; kernel_rfl)) (fun dz cf dA ag ad => ?_)
  have cg := b3.trans ag.gr
  have aY := Nat.le_trans b4 ag.gr.size
  have az := ow_gr b5 ag.gr
  have ch := b6.tk (tk_gr ag.gr)
  have ci := b7.gr ag.gr
  have cj := b8.gr ag.gr
  have ck := ad.n (ac.n (Z.n (Y.n X.at_)))
  obtain ⟨y130, hy131⟩ : ∃ y : PtX, y = (⟨fa1, fn1, fc1, va1, vn1, vc1, ma1, mn1, mc1, fun t => xh27.T t &&& U t, xh27.D⟩ : PtX) := ⟨_, rfl⟩
  have cl : OwnP base cf y130 := by subst hy131; exact ⟨z1 ▸ ci, z1 ▸ cj, (hm _ (List.mem_of_getElem? ao)).few⟩
  obtain ⟨dB, cm, cn, co, cp⟩ := info_of (show (Tryz.prog.info? 151).map (fun i => (i.zero, i.size, i.bytes)) = some (some (.agg #[.slice none 0 0, .slice none 0 0, .slice none 0 0]), 3, 72) by kernel_rfl)
  refine s_app (base := base) (n := R.length) (xs := (flatE encP R)) (m := 1) (news := encP y130) ad.ok (wn _ rfl) rfl Tryz.underlying32 cm cn co cp rfl (by omega) ck az ad.at_ rfl ((by subst hy131; exact fun j u hu => by rw [add_n]; exact bk_part ag.bk (k := 0) rfl j u hu)) (encP_ok.one y130) (by simp only [maxLen]; omega) (by omega) aY (fun dC cq dD aZ gg140 ah => ?_)
  obtain ⟨a1, a2, rfl, dE⟩ := ow_form aZ
  have cr := Gr.grown cg gg140 (fun k e => Nat.le_trans l2 (ow_lt az k e))
  have ct := Nat.le_trans aY gg140.size
  have cu := ch.tk (tk_grown az gg140 (by decide))
  have cx := cl.tk (tk_grown az gg140 (by decide))
  have cy : cq.ownsRow base 151 3 (.slice a1 ((R.length + 1)) a2) ((R.length + 1)) ((flatE encP (R ++ [y130]))) := by have h := aZ; rw [← flatE_one (enc := encP) y130, ← flatE_app] at h; exact h
  have hps149 := cu.snoc cx
  refine sw ah.ok (o_as ah.at_) (fun dF ai => ?_)
  refine wpList_nil (ib_n (th_n (bo _ _ (wp_region_lit ?_))))
  have cz := ai.n (ah.n (ad.n (ac.n (Z.n (Y.n (X.n (W.n (c.n (G.n (F.n (E.n (V.n (C.n (S.n (O.n (M.n (B.n (A.n (q.n (o.n (K.n (l.n (J.n (I.n (g.n (ab.n (aa.n (a.n aB))))))))))))))))))))))))))))
  refine sw ai.ok (o_add (r := ((i + 1 : Nat) : Int)) cz ev_const (by omega) (by omega)) (fun dG aj => ?_)
  refine sw aj.ok (o_mv aj.at_) (fun dH ak => ?_)
  refine wpList_nil ?_
  have cA := ak.n (aj.n (ai.n (ah.n (ad.n (ac.n (Z.n (Y.n (X.n (W.n (c.n (G.n (F.n (E.n (V.n (C.n (S.n (O.n (M.n (B.n (A.n (q.n (o.n (K.n (l.n aT))))))))))))))))))))))))
  have cB := ak.n (aj.n (ai.n (ah.n (ad.n (ac.n (Z.n (Y.n (X.n (W.n (c.n (G.n (F.n (E.n (V.n (C.n (S.n (O.n (M.n (B.n (A.n (q.n (o.n (K.n (l.n (J.n (I.n (g.n (ab.n (aa.n (a.n bl))))))))))))))))))))))))))))))
  have cC := ak.n (aj.n (ai.n (ah.n (ad.n (ac.n (Z.n (Y.n (X.n (W.n (c.n (G.n (F.n (E.n (V.n (C.n (S.n (O.n (M.n (B.n (A.n (q.n (o.n (K.n (l.n (J.n (I.n (g.n (ab.n (aa.n (a.n aI))))))))))))))))))))))))))))))
  have cD := ak.n (aj.n (ai.n (ah.n (ad.n (ac.n (Z.n (Y.n (X.n (W.n (c.n (G.n (F.n (E.n (V.n (C.n (S.n (O.n (M.n (B.n (A.n (q.n (o.n (K.n (l.n (J.n (I.n (g.n (ab.n (aa.n (a.n aJ))))))))))))))))))))))))))))))
  exact th_n (hKI14 _ _ _ (by omega) ⟨i + 1, R ++ [y130], a1, a2, rfl, ak.ok, cr, cA, cB, (by simpa using (ak.n (aj.n ai.at_))), cC, cD, ak.at_, hps149, (by simpa using cy), ct, by omega, nar_step hRI14 ao (by rw [hy131]; rfl)⟩)
 ·refine wp_cond_false ((a.at_).trans (congrArg Value.bool (decide_eq_false aK))) ?_
  refine wp_exit (th_x (th_x (ib_x (th_n (bd _ _ (wp_seq_k (fun dI cE => (wp_region_lit (sw a.ok (o_mv (a.n aH)) (fun dJ a3 => ?_))))))))))
  refine sw a3.ok (o_as a3.at_) (fun dK a4 => ?_)
  refine wpList_nil (th_n (cE _ _ (wp_ret (ret1 a4.ok rfl (a4.at_) ⟨R, _, rfl, by rw [hRI14, List.take_of_length_le (by omega)], z1 ▸ orI14, z1 ▸ fpsI14, GI14⟩))))
end Go.Proofs.YtglbnggkkjhokaaGreat
/- part.reduce. -/
namespace Go.Proofs.YtglbnggkkjhokaaGreat
open Go.RowKit Rm Gx
theorem reduce_any (L : List PtX) (va : Option Addr) (vc : Nat) (hl : L.length ≤ 1000) (w : World) (hv : RdA encP 3 w va L) (hm : MeansP w L) :
  Calls Tryz.prog 128 #[.slice va L.length vc] w fun e w' => ∃ v : Value, e = .returned v ∧ w'.ownsRow w.heap.size 151 3 v (fewP L).length (flatE encP (fewP L)) ∧ Gr w w' := by
 refine enter (N := 32) Tryz.func128 rfl rfl rfl (fun a0 ok0 h0 => ?_)
 have bp : a0.eval (.tmp 0) = .slice va L.length vc := h0 0 _ rfl
 clear h0
 have G0 := Gr.refl w
 obtain ⟨base, z1⟩ : ∃ n, n = w.heap.size := ⟨_, rfl⟩
 have l2 : w.heap.size ≤ base := by rw [z1]; exact G0.size
 have z3 : base ≤ w.heap.size := Nat.le_of_eq z1
 have O4 := World.ownsRow_nil w base 151 3
 refine wp_seq_k (fun K5 bt => (wp_region_lit (sw ok0 (o_as ev_const) (fun cA n6 => ?_))))
 refine wpList_nil (th_n (bt _ _ (wp_seq_k (fun K7 bu => (wp_region_lit (sw n6.ok (o_as ev_const) (fun cC n8 => ?_)))))))
 refine wpList_nil (th_n (bu _ _ (wp_seq_k (fun K9 bv => (wp_seq_k (fun cE bx => (wp_region_lit (sw n8.ok (o_mv (n8.n (n6.n bp))) (fun cF al => ?_)))))))))
 refine sw al.ok (o_len al.at_ Tryz.underlying32) (fun cG am => ?_)
 refine sw am.ok (o_mv ev_const) (fun cH aa => ?_)
 refine wpList_nil (th_n (bx _ _ (wp_block ?_)))
 have bz := aa.n (am.n (al.n (n8.n n6.at_)))
 have bA := aa.n (am.n (al.n n8.at_))
 refine lp (fun (nL : Nat) (aL : Act) (wL : World) => ∃ i : Nat, ∃ K : List PtX, ∃ ka : Option Addr, ∃ kc : Nat, nL = L.length - i ∧ Ok 32 aL ∧ Gr w wL ∧ (aL.eval (.tmp 2) = .slice none 0 0) ∧ (aL.eval (.tmp 3) = .slice ka K.length kc) ∧ (aL.eval (.tmp 7) = .slice va L.length vc) ∧ (aL.eval (.tmp 8) = .int .i64 ((L.length : Nat) : Int)) ∧ (aL.eval (.tmp 9) = .int .i64 (i : Int)) ∧ (World.ownsRow wL base 151 3 (.slice ka K.length kc) (K.length) ((flatE encP K))) ∧ (base ≤ wL.heap.size) ∧ (i ≤ L.length) ∧ (K = fewP (L.take i)) ∧ (MeansP w K)) _ ⟨0, [], none, 0, rfl, aa.ok, G0, bz, bA, (aa.n (am.n al.at_)), (aa.n am.at_), aa.at_, O4, z3, by omega, rfl, (fun x hx => by cases hx)⟩ ?_
 rintro cI cJ cK ⟨i, K, ka, kc, hmI14, okI14, GI14, aH, aI, av, ax, an, okrI14, zbaseI14, hiI14, hfkI14, hKmI14⟩ KI14 hKI14
 have hKlI14 : K.length ≤ i := by rw [hfkI14]; exact Nat.le_trans (fewP_len _) (by rw [List.length_take]; omega)
 have hKm := hKmI14
 refine wp_seq_k (fun cL bB => (wp_region_lit (sw okI14 (o_ltI an ax) (fun cM a => ?_))))
 refine wpList_nil (th_n (bB _ _ (wp_seq_k (fun cO bC => ?_))))
 by_cases a3 : (i : Int) < ((L.length : Nat) : Int)
 ·refine wp_cond_true ((a.at_).trans (congrArg Value.bool (decide_eq_true a3))) ?_
  refine wp_skip (th_n (bC _ _ (wp_seq_k (fun cS aJ => (wp_block (wp_seq_k (fun cT bD => (wp_region_lit ?_))))))))
  have aK : i < List.length L := by omega
  obtain ⟨bh26, fh26, bE, bF, bG⟩ := hv (ne_nil_of_lt aK)
  obtain ⟨xh26, S⟩ : ∃ x, (L)[i]? = some x := ⟨_, List.getElem?_eq_getElem aK⟩
  refine sw a.ok (o_iaV (i := i) (s := 3) bE (a.n av) (a.n an) Tryz.underlying32 (by kernel_rfl) aK) (fun cU D => ?_)
  refine sw D.ok (o_ldA (k := fh26 + i * 3) D.at_ (cs := [.slice xh26.fa xh26.fn xh26.fc, .slice xh26.va xh26.vn xh26.vc, .slice xh26.ma xh26.mn xh26.mc]) (fun j v hv => (Below.cell GI14 bF).trans (bG _ _ S j v hv)) Tryz.underlying151 rfl (by kernel_rfl)) (fun cV E => ?_)
  refine sal (cs := #[.slice none 0 0, .slice none 0 0, .slice none 0 0]) E.ok rfl (wn _ rfl) rfl (o_al (z := .agg #[.slice none 0 0, .slice none 0 0, .slice none 0 0]) (by kernel_rfl)) (fun cW cX ao V c => ?_)
  have bH : w.heap.size ≤ ao := by rw [V.eq]; exact GI14.size
  have aM : ∀ k, Value.ownBlock (.slice ka K.length kc) = some k → k < ao := fun k e => by rw [V.eq]; exact ow_in okrI14 k e
  have bI := GI14.trans V.gr
  have bJ := Nat.le_trans zbaseI14 V.gr.size
  have bK := ow_gr okrI14 V.gr
  refine ssR rfl (wn _ rfl) (o_stR c.at_ (c.n E.at_) V.bk (by kernel_rfl) rfl (by simp [Value.oneCell'])) V.bk (fun aO aT a4 => ?_)
  have a6 : Gr w aO := Below.upd bI bH aT
  have bL : base ≤ aO.heap.size := by rw [aT.size]; exact bJ
  have bM := ow_upd_ne bK aT aM
  refine wpList_nil (th_n (bD _ _ (wp_seq_k (fun cY bO => (wp_region_lit (sw c.ok (o_mf (fs := []) (cs := [.pointer (some ⟨ao, 0, none⟩)]) (by simp) (by simp [c.at_])) (fun cZ o => ?_)))))))
  refine sw o.ok (o_as o.at_) (fun c0 q => ?_)
  refine wpList_nil (th_n (bO _ _ (wp_seq_k (fun c1 a7 => (wp_region_lit (sw q.ok (o_ldR (q.n (o.n c.at_)) a4 Tryz.underlying151 rfl (by kernel_rfl)) (fun c3 t => ?_)))))))
  refine sc t.ok rfl (wn _ rfl) rfl (o_f1 Tryz.func177 rfl rfl rfl t.at_) (empty_any xh26 aO ((hm _ (List.mem_of_getElem? S)).gr a6)) ?_
  rintro _ bS ⟨rfl, ay⟩
  refine ⟨_, rfl, fun c4 A => ?_⟩
  have az := a6.trans ay
  have a8 := a4.gr ay
  have a9 := Nat.le_trans bL ay.size
  have aU := ow_gr bM ay
  refine sw A.ok (o_notI A.at_) (fun c5 B => ?_)
  refine sw B.ok (o_mv B.at_) (fun c6 l => ?_)
  cases ap : (!(emptyP xh26))
  ·have aA := (l.at_).trans (congrArg Value.bool (ap))
   refine sn l.ok rfl (wgF rfl (yl 3 false rfl aA) rfl) rfl (fun c7 M => ?_)
   refine sn M.ok rfl (wgF rfl (yl 3 false rfl (M.n aA)) rfl) rfl (fun c8 T => ?_)
   refine sn T.ok rfl (wgF rfl (yl 3 false rfl (T.n (M.n aA))) rfl) rfl (fun c9 W => ?_)
   have ba := W.n (T.n (M.n aA))
   refine sn W.ok rfl (wgF rfl (yl 3 false rfl ba) rfl) rfl (fun db X => ?_)
   refine sw X.ok (o_pkF (X.n ba) ev_const) (fun dd Y => ?_)
   refine wpList_nil (th_n (a7 _ _ (wp_cond_false (Y.at_) ?_)))
   refine wp_skip (ib_n (th_n (aJ _ _ (wp_region_lit ?_))))
   have bT := Y.n (X.n (W.n (T.n (M.n (l.n (B.n (A.n (t.n (q.n (o.n (c.n (E.n (D.n (a.n an))))))))))))))
   refine sw Y.ok (o_add (r := ((i + 1 : Nat) : Int)) bT ev_const (by omega) (by omega)) (fun df ab => ?_)
   refine sw ab.ok (o_mv ab.at_) (fun dg ac => ?_)
   refine wpList_nil ?_
   have bU := ac.n (ab.n (Y.n (X.n (W.n (T.n (M.n (l.n (B.n (A.n (t.n (q.n (o.n (c.n (E.n (D.n (a.n aH))))))))))))))))
   have bV := ac.n (ab.n (Y.n (X.n (W.n (T.n (M.n (l.n (B.n (A.n (t.n (q.n (o.n (c.n (E.n (D.n (a.n aI))))))))))))))))
   have bW := ac.n (ab.n (Y.n (X.n (W.n (T.n (M.n (l.n (B.n (A.n (t.n (q.n (o.n (c.n (E.n (D.n (a.n av))))))))))))))))
   have bX := ac.n (ab.n (Y.n (X.n (W.n (T.n (M.n (l.n (B.n (A.n (t.n (q.n (o.n (c.n (E.n (D.n (a.n ax))))))))))))))))
   exact th_n (hKI14 _ _ _ (by omega) ⟨i + 1, K, ka, kc, rfl, ac.ok, az, bU, bV, bW, bX, ac.at_, aU, a9, by omega, by rw [fewP_take S, ← hfkI14]; unfold stepP; rw [if_neg (by simp [ap])], hKmI14⟩)
  ·have aB := (l.at_).trans (congrArg Value.bool (ap))
   have aV := l.n (B.n (A.n (t.n (q.n (o.n (c.n (E.n (D.n (a.n aI)))))))))
   refine sv l.ok rfl (wgT rfl (yl 3 true rfl aB) rfl) rfl (o_mv aV) (fun dh C => ?_)
   have bY := C.n (l.n (B.n (A.n (t.n q.at_))))
   refine sv C.ok rfl (wgT rfl (yl 3 true rfl (C.n aB)) rfl) rfl (o_mv bY) (fun di F => ?_)
   refine sc F.ok rfl (wgT rfl (yl 3 true rfl (F.n (C.n aB))) rfl) rfl (o_f2 Tryz.func118 rfl rfl rfl (F.n C.at_) F.at_) (containsP K ka kc _ [.pointer (some ⟨ao, 0, none⟩)] (fun y => underP xh26 y) ⟨_, Tryz.func175, rfl, rfl⟩ (by omega) bS (RdA.own encP_ok aU rfl) (fun y hy w1 Z => reduce1_any y xh26 ao w1 ((hKm y hy).gr (az.trans Z)) ((hm _ (List.mem_of_getElem? S)).gr (az.trans Z)) (a8.gr Z))) ?_
   rintro _ bb ⟨rfl, aC⟩
   refine ⟨_, rfl, fun dj H => ?_⟩
   have aq := az.trans aC
   have bc := a8.gr aC
   have aX := Nat.le_trans a9 aC.size
   have U := ow_gr aU aC
   have bd := H.n (F.n (C.n aB))
   refine sv H.ok rfl (wgT rfl (yl 3 true rfl bd) rfl) rfl (o_notI H.at_) (fun dk I => ?_)
   refine sw I.ok (o_pkT (I.n bd) I.at_) (fun dl G => ?_)
   refine wpList_nil (th_n (a7 _ _ ?_))
   cases aD : (!(K.any fun y => underP xh26 y))
   ·refine wp_cond_false ((G.at_).trans (congrArg Value.bool (aD))) ?_
    refine wp_skip (ib_n (th_n (aJ _ _ (wp_region_lit ?_))))
    have bZ := G.n (I.n (H.n (F.n (C.n (l.n (B.n (A.n (t.n (q.n (o.n (c.n (E.n (D.n (a.n an))))))))))))))
    refine sw G.ok (o_add (r := ((i + 1 : Nat) : Int)) bZ ev_const (by omega) (by omega)) (fun dm ad => ?_)
    refine sw ad.ok (o_mv ad.at_) (fun dn af => ?_)
    refine wpList_nil ?_
    have b0 := af.n (ad.n (G.n (I.n (H.n (F.n (C.n (l.n (B.n (A.n (t.n (q.n (o.n (c.n (E.n (D.n (a.n aH))))))))))))))))
    have b1 := af.n (ad.n (G.n (I.n (H.n (F.n (C.n aV))))))
    have b2 := af.n (ad.n (G.n (I.n (H.n (F.n (C.n (l.n (B.n (A.n (t.n (q.n (o.n (c.n (E.n (D.n (a.n av))))))))))))))))
    have b3 := af.n (ad.n (G.n (I.n (H.n (F.n (C.n (l.n (B.n (A.n (t.n (q.n (o.n (c.n (E.n (D.n (a.n ax))))))))))))))))
    exact th_n (hKI14 _ _ _ (by omega) ⟨i + 1, K, ka, kc, rfl, af.ok, aq, b0, b1, b2, b3, af.at_, U, aX, by omega, by rw [fewP_take S, ← hfkI14]; unfold stepP; rw [if_neg (by simp [ap, aD])], hKmI14⟩)
   ·refine wp_cond_true ((G.at_).trans (congrArg Value.bool (aD))) ?_
    refine regd_start (N := 32) (m := 6) (Value.ownBlock (.slice ka K.length kc)) 3 (by kernel_rfl) (fun b4 => ?_)
    have b5 := G.n (I.n (H.n (F.n (C.n aV))))
    have b6 := b4.snoc (n' := 1) rfl rfl (fun vJ _ => vJ = .slice ka K.length kc) rfl (fun _ _ _ _ h => h) (fun aS wS pS => by
      exact Does.val (wn _ rfl) (o_mv ((pS.old 3 rfl).trans b5)) (Gr.refl _) rfl rfl)
    have bf := G.n (I.n (H.n (F.n (C.n (l.n (B.n (A.n (t.n (q.n (o.n c.at_))))))))))
    have b7 := b6.snoc (n' := 2) rfl rfl (fun vJ _ => vJ = .agg #[.slice xh26.fa xh26.fn xh26.fc, .slice xh26.va xh26.vn xh26.vc, .slice xh26.ma xh26.mn xh26.mc]) rfl (fun _ _ _ _ h => h) (fun aS wS pS => by
      exact Does.val (wn _ rfl) (o_ldR ((pS.old 5 rfl).trans bf) (Bk.grown_ne bc (gb_drew pS.gr) aM) Tryz.underlying151 rfl (by kernel_rfl)) (Gr.refl _) rfl rfl)
    have b8 := b7.snoc (n' := 3) rfl rfl (fun vJ wJ => ∃ (J : Nat), vJ = .func (.func 210) #[] #[.pointer (some ⟨J, 0, none⟩)] ∧ (bb.heap.size ≤ J) ∧ (Bk wJ J #[.slice xh26.fa xh26.fn xh26.fc, .slice xh26.va xh26.vn xh26.vc, .slice xh26.ma xh26.mn xh26.mc] 151)) rfl (fun _ _ _ g ⟨J, h, q0, q1⟩ => ⟨J, h, q0, q1.grown_ne g (fun k e => Nat.lt_of_lt_of_le (ow_in U k e) q0)⟩) (fun aS wS pS => by
      have eR97_1 : aS.eval (.tmp 24) = .agg #[.slice xh26.fa xh26.fn xh26.fc, .slice xh26.va xh26.vn xh26.vc, .slice xh26.ma xh26.mn xh26.mc] := pS.pre 1 rfl
      exact Does.call (wn _ rfl) (o_f1 Tryz.func176 rfl rfl rfl (eR97_1)) (impliedBy_any xh26 wS) (by rintro _ w2 ⟨J, rfl, hge2, hbk2, g⟩; exact ⟨_, rfl, g, ⟨J, rfl, Nat.le_trans pS.gr.size hge2, hbk2⟩⟩) rfl)
    have ca := b8.snocC (n' := 4) rfl rfl (fun vJ wJ => ∃ (da : Option Addr) (dc : Nat), vJ = .slice da ((K.filter fun y => !underP y xh26).length) dc ∧ (Value.ownBlock (.slice da (K.filter fun y => !underP y xh26).length dc) = Value.ownBlock (.slice ka K.length kc)) ∧ (World.ownsRow wJ base 151 3 (.slice da (K.filter fun y => !underP y xh26).length dc) (K.filter fun y => !underP y xh26).length (flatE encP (K.filter fun y => !underP y xh26)))) rfl (fun _ _ _ g ⟨da, dc, h, q0, q1⟩ => ⟨da, dc, h, q0, ow_gr q1 g⟩) (fun aS wS pS => by
      have eR97_0 : aS.eval (.tmp 23) = .slice ka K.length kc := pS.pre 0 rfl
      obtain ⟨J, eR97_2, hge2, hbk2⟩ := pS.pre 2 rfl
      have eR97_2 : aS.eval (.tmp 25) = .func (.func 210) #[] #[.pointer (some ⟨J, 0, none⟩)] := eR97_2
      exact DoesC.call (wn _ rfl) (o_f2 Tryz.func178 rfl rfl rfl (eR97_0) (eR97_2)) (deleteP K (.slice ka K.length kc) base _ [.pointer (some ⟨J, 0, none⟩)] (fun y => underP y xh26) ⟨_, Tryz.func210, rfl, rfl⟩ (by omega) w wS (aq.trans (gr_drew (pS.gr0 rfl))) l2 (Nat.le_trans aX pS.gr.size) (ow_gr U (gr_drew (pS.gr0 rfl))) (fun y hy w1 Z => impliedBy1_any y xh26 J w1 ((hKm y hy).gr (Gr.grown (aq.trans (gr_drew (pS.gr0 rfl))) Z (fun k e => Nat.le_trans l2 (ow_lt U k e)))) ((hm _ (List.mem_of_getElem? S)).gr (Gr.grown (aq.trans (gr_drew (pS.gr0 rfl))) Z (fun k e => Nat.le_trans l2 (ow_lt U k e)))) (hbk2.grown_ne Z (fun k e => Nat.lt_of_lt_of_le (ow_in U k e) hge2)))) (by rintro _ w2 ⟨u2, rfl, hob2, ho2, g⟩; obtain ⟨da, dc, rfl, -⟩ := ow_form ho2; exact ⟨_, rfl, g, ⟨da, dc, rfl, hob2, ho2⟩⟩) rfl)
    have cb := ca.snoc (n' := 5) rfl rfl (fun vJ _ => vJ = .agg #[.slice xh26.fa xh26.fn xh26.fc, .slice xh26.va xh26.vn xh26.vc, .slice xh26.ma xh26.mn xh26.mc]) rfl (fun _ _ _ _ h => h) (fun aS wS pS => by
      exact Does.val (wn _ rfl) (o_ldR ((pS.old 5 rfl).trans bf) (Bk.grown_ne bc (gb_drew pS.gr) aM) Tryz.underlying151 rfl (by kernel_rfl)) (Gr.refl _) rfl rfl)
    have cc := cb.snoc (n' := 6) rfl rfl (fun vJ wJ => ∃ ar : Nat, vJ = .slice (some ⟨ar, 0, none⟩) 1 1 ∧ bb.heap.size ≤ ar ∧ Bk wJ ar #[.slice xh26.fa xh26.fn xh26.fc, .slice xh26.va xh26.vn xh26.vc, .slice xh26.ma xh26.mn xh26.mc] 151) rfl (fun _ _ _ g ⟨b, h1, h2, h3⟩ => ⟨b, h1, h2, h3.grown_ne g (fun k e => Nat.lt_of_lt_of_le (ow_in U k e) h2)⟩) (fun aS wS pS => by
      have eR97_4 : aS.eval (.tmp 27) = .agg #[.slice xh26.fa xh26.fn xh26.fc, .slice xh26.va xh26.vn xh26.vc, .slice xh26.ma xh26.mn xh26.mc] := pS.pre 4 rfl
      obtain ⟨dq, cg, ch, aZ⟩ := info3_of (show (Tryz.prog.info? 151).map (fun i => (i.zero, i.size)) = some (some (.agg #[.slice none 0 0, .slice none 0 0, .slice none 0 0]), 3) by kernel_rfl)
      exact Does.val (wn _ rfl) (o_bs (vs := [(0, .agg #[.slice xh26.fa xh26.fn xh26.fc, .slice xh26.va xh26.vn xh26.vc, .slice xh26.ma xh26.mn xh26.mc])]) (by simp [(eR97_4), ev_const]) Tryz.underlying32 cg ch (by rw [aZ]; rfl) (by rw [aZ]; rfl) (by rw [aZ]; kernel_rfl)) ((Gr.refl _).alloc _) ⟨_, rfl, pS.gr.size, (New.mk' _ _ _).bk⟩ rfl)
    refine cc.run (k := 2) (L := #[true, true, true, true, true, true, false, false]) (by kernel_rfl) (by kernel_rfl) (by kernel_rfl) G.ok (by kernel_rfl) (by kernel_rfl) (fun ap103 dr O => ?_)
    have gg105 := gb_drew O.gr
    have ci := Gr.grown aq gg105 (fun k e => Nat.le_trans l2 (ow_lt U k e))
    have bh := Nat.le_trans aX gg105.size
    obtain ⟨J, ep103_2, hge2, hbk2⟩ := O.js 2 rfl
    have ep103_2 : ap103.eval (.tmp 25) = .func (.func 210) #[] #[.pointer (some ⟨J, 0, none⟩)] := ep103_2
    obtain ⟨da, dc, ep103_3, hob2, ho2⟩ := O.js 3 rfl
    have ep103_3 : ap103.eval (.tmp 26) = .slice da ((K.filter fun y => !underP y xh26).length) dc := ep103_3
    obtain ⟨ar, ep103_5, geb101, bkb101⟩ := O.js 5 rfl
    have ep103_5 : ap103.eval (.tmp 28) = .slice (some ⟨ar, 0, none⟩) 1 1 := ep103_5
    have hFl := List.length_filter_le (fun y => !underP y xh26) K
    obtain ⟨ds, cj, ck, cl, cm⟩ := info_of (show (Tryz.prog.info? 151).map (fun i => (i.zero, i.size, i.bytes)) = some (some (.agg #[.slice none 0 0, .slice none 0 0, .slice none 0 0]), 3, 72) by kernel_rfl)
    refine t_app (i := 6) (base := base) (n := (K.filter fun y => !underP y xh26).length) (xs := (flatE encP (K.filter fun y => !underP y xh26))) (m := 1) (news := encP xh26) (by kernel_rfl) rfl O.ok (wn _ rfl) rfl Tryz.underlying32 cj ck cl cm rfl (by omega) ep103_3 ho2 ep103_5 rfl ((fun j u hu => by rw [add_n]; exact bk_part bkb101 (k := 0) rfl j u hu)) (encP_ok.one xh26) (by simp only [maxLen]; omega) (by omega) bh (fun dt cn du bi gg120 ag => ?_)
    obtain ⟨bj, bl, rfl, dv⟩ := ow_form bi
    have co := Gr.grown ci gg120 (fun k e => Nat.le_trans l2 (ow_lt ho2 k e))
    have cp := Nat.le_trans bh gg120.size
    have cq : cn.ownsRow base 151 3 (.slice bj (((K.filter fun y => !underP y xh26).length + 1)) bl) (((K.filter fun y => !underP y xh26).length + 1)) ((flatE encP ((K.filter fun y => !underP y xh26) ++ [xh26]))) := by have h := bi; rw [← flatE_one (enc := encP) xh26, ← flatE_app] at h; exact h
    refine t_val (i := 7) (by kernel_rfl) rfl ag.ok rfl (wn _ rfl) rfl (o_as ag.at_) (fun dx ah => ?_)
    refine wpAny_done (by kernel_rfl) ?_ _
    refine ib_n (th_n (aJ _ _ (wp_region_lit ?_)))
    have cr := ah.n (ag.n ((O.old 9 rfl).trans (G.n (I.n (H.n (F.n (C.n (l.n (B.n (A.n (t.n (q.n (o.n (c.n (E.n (D.n (a.n an)))))))))))))))))
    refine sw ah.ok (o_add (r := ((i + 1 : Nat) : Int)) cr ev_const (by omega) (by omega)) (fun dy ai => ?_)
    refine sw ai.ok (o_mv ai.at_) (fun dz aj => ?_)
    refine wpList_nil ?_
    have ct := aj.n (ai.n (ah.n (ag.n ((O.old 2 rfl).trans (G.n (I.n (H.n (F.n (C.n (l.n (B.n (A.n (t.n (q.n (o.n (c.n (E.n (D.n (a.n aH)))))))))))))))))))
    have cu := aj.n (ai.n (ah.n (ag.n ((O.old 7 rfl).trans (G.n (I.n (H.n (F.n (C.n (l.n (B.n (A.n (t.n (q.n (o.n (c.n (E.n (D.n (a.n av)))))))))))))))))))
    have cx := aj.n (ai.n (ah.n (ag.n ((O.old 8 rfl).trans (G.n (I.n (H.n (F.n (C.n (l.n (B.n (A.n (t.n (q.n (o.n (c.n (E.n (D.n (a.n ax)))))))))))))))))))
    exact th_n (hKI14 _ _ _ (by omega) ⟨i + 1, ((K.filter fun y => !underP y xh26) ++ [xh26]), bj, bl, rfl, aj.ok, co, ct, (by simpa using (aj.n (ai.n ah.at_))), cu, cx, aj.at_, (by simpa using cq), cp, by omega, by rw [fewP_take S, ← hfkI14]; unfold stepP; rw [if_pos (by simp [ap, aD])], fun y hy => by
      rcases List.mem_append.1 hy with hy | hy
      ·exact hKmI14 y (List.mem_filter.1 hy).1
      ·rw [List.mem_singleton.1 hy]; exact hm _ (List.mem_of_getElem? S)⟩)
 ·refine wp_cond_false ((a.at_).trans (congrArg Value.bool (decide_eq_false a3))) ?_
  refine wp_exit (th_x (th_x (ib_x (th_n (bv _ _ (wp_seq_k (fun dA cy => (wp_region_lit (sw a.ok (o_mv (a.n aI)) (fun dB bm => ?_))))))))))
  refine sw bm.ok (o_as bm.at_) (fun dC bn => ?_)
  refine wpList_nil (th_n (cy _ _ (wp_ret (ret1 bn.ok rfl (bn.at_) ⟨.slice ka (fewP L).length kc, by rw [hfkI14, List.take_of_length_le (by omega)], by have h := okrI14; rw [hfkI14, List.take_of_length_le (by omega), z1] at h; exact h, GI14⟩))))
end Go.Proofs.YtglbnggkkjhokaaGreat
/- The contracts of slices.Grow at nil and of slices.Concat, over parts. -/
namespace Go.Proofs.YtglbnggkkjhokaaGreat
open Go.RowKit Rm
theorem ccp_info : (Tryz.prog.info? 151).map (fun i => (i.zero, i.size, i.bytes)) = some (some (.agg #[.slice none 0 0, .slice none 0 0, .slice none 0 0]), 3, 72) := by kernel_rfl
theorem own_formP {w : World} {base : Nat} {e : TypeId} {s n : Nat} {v : Value} {xs : List Value} (h : w.ownsRow base e s v n xs) : ∃ a c, v = .slice a n c ∧ n ≤ c := by
 rcases h.2 with ⟨rfl, rfl⟩ | ⟨g, cap, cur, rfl, _, _, hn, _⟩
 ·exact ⟨none, 0, rfl, Nat.le_refl _⟩
 ·exact ⟨_, cap, rfl, hn⟩
def RoomP (w w' : World) (v : Value) : Prop := Gr w w' ∧ w'.ownsRow w.heap.size 151 3 v 0 []
theorem growP_nil (n : Nat) (w : World) (hn : n ≤ 1000) :
  Calls Tryz.prog 196 #[.slice none 0 0, .int .i64 (n : Int)] w fun e w' => ∃ v, e = .returned v ∧ RoomP w w' v := by
 obtain ⟨i0, hi0, hz0, hz1, hz2⟩ := info_parts ccp_info
 by_cases h0 : n = 0
 ·subst h0
  go_enter Tryz.func196, Tryz.ntmps196
  go_wp2
  go_ret
  exact ⟨_, rfl, Gr.refl _, World.ownsRow_nil _ _ _ _⟩
 ·have hold : (Builtin.firstCells i0.size 0 (.slice none 0 0)).run Tryz.prog w.drew = .ok ([] : List Value).toArray w.drew := run_firstCells_none w.drew i0.size 0 0 0
  have hrz : ∀ ty, (Builtin.append_ #[32, 3] ty #[.slice none 0 0, .int .i64 (n : Int)]).run Tryz.prog w = _ := fun ty =>
   Lib.run_append_grow_zeros w 32 3 ty 151 i0 _ .i64 .i64 Tryz.underlying32 Tryz.underlying3 hi0 hz0 none 0 0 [] hold n (by omega) (by rw [hz1]; omega) (by omega) (by omega)
    (by rw [hz2]; omega) (by rw [hz2]; exact growslice_fits (by omega) (by omega))
  have HRZ := Lib.hid hrz
  have hGn : 0 + n ≤ grownCap w (0 + n) 0 151 := grownCap_ge w _ _ _
  have hGm : grownCap w (0 + n) 0 151 ≤ maxLen := grownCap_le_maxLen w (0 + n) 0 151 (by unfold maxLen; omega)
  rw [Nat.zero_add] at hGn hGm
  have h1 : (0 : Int) < (n : Int) := by omega
  have h2 : ¬ ((n : Int) < 0) := by omega
  clear hold hrz hz0 hi0
  go_enter Tryz.func196, Tryz.ntmps196
  go_wp2_with (at_builtin; refine Lib.wpList_append_run _ rfl _ _ _ _ rfl _ _ rfl rfl _ _ (HRZ.out _) ?_)
  go_ret
  refine ⟨_, rfl, ((Gr.refl w).drew).alloc _, ?_⟩
  have hb : w.heap.size ≤ w.drew.heap.size := Nat.le_refl _
  refine World.ownsRow_made (base := w.heap.size) (e := 151) (size := 3) w.drew _ _ hb hGm ?_
  simp only [Array.size_append, size_zeroCells]
  show n * 3 + (grownCap w n 0 151 - n) * 3 = grownCap w n 0 151 * 3
  omega
def SrcP (w : World) (bb : Nat) (X : List (Nat × List Value)) : Prop :=
  bb < w.heap.size ∧ ∀ i p, X[i]? = some p → ∃ v, w.cell? ⟨bb, i, none⟩ = some v ∧ RdC 3 w v p.1 p.2
def sumP (X : List (Nat × List Value)) : Nat := (X.map (·.1)).sum
def catP (X : List (Nat × List Value)) : List Value := (X.map (·.2)).flatten
theorem sumP_take {X : List (Nat × List Value)} {k : Nat} {p : Nat × List Value} (h : X[k]? = some p) : sumP (X.take (k + 1)) = sumP (X.take k) + p.1 := by
 obtain ⟨hk, e⟩ := List.getElem?_eq_some_iff.1 h
 rw [List.take_succ_eq_append_getElem hk, e]
 simp [sumP]
theorem catP_take {X : List (Nat × List Value)} {k : Nat} {p : Nat × List Value} (h : X[k]? = some p) : catP (X.take (k + 1)) = catP (X.take k) ++ p.2 := by
 obtain ⟨hk, e⟩ := List.getElem?_eq_some_iff.1 h
 rw [List.take_succ_eq_append_getElem hk, e]
 simp [catP]
theorem sumP_app (a b : List (Nat × List Value)) : sumP (a ++ b) = sumP a + sumP b := by simp [sumP]
theorem sumP_le (X : List (Nat × List Value)) (k : Nat) : sumP (X.take k) ≤ sumP X := by
 have h := sumP_app (X.take k) (X.drop k)
 rw [List.take_append_drop] at h
 omega
theorem concatP (X : List (Nat × List Value)) (bb cap : Nat) (w : World) (hX : SrcP w bb X) (hs : sumP X ≤ 1000) (hl : X.length ≤ 10) :
  Calls Tryz.prog 154 #[.slice (some ⟨bb, 0, none⟩) X.length cap] w fun e w' => ∃ v, e = .returned v ∧ Gr w w' ∧ w'.ownsRow w.heap.size 151 3 v (sumP X) (catP X) := by
 obtain ⟨i0, hi0, hz0, hz1, hz2⟩ := info_parts ccp_info
 have HX := Lib.hid hX
 have HSL := Lib.hid (sumP_le X)
 have hl' : (X.length : Int) ≤ 10 := by omega
 have hbb := hX.1
 clear hX
 go_enter Tryz.func154, Tryz.ntmps154
 go_wp2
 go_loop [3, 11] (fun a i => ∃ k : Nat, k ≤ X.length ∧ i = .int .i64 k ∧ a = .int .i64 (sumP (X.take k) : Nat)) (fun _ i => X.length - (intOf i).toNat)
 case atStart => exact ⟨0, by omega, rfl, rfl⟩
 case round =>
  obtain ⟨k, hk, rfl, rfl⟩ := hrel
  by_cases hlt : k < X.length
  ·obtain ⟨p, hp⟩ : ∃ p, X[k]? = some p := ⟨_, List.getElem?_eq_getElem hlt⟩
   obtain ⟨v0, c1, pl, p1, hv0⟩ := HX.out.2 k p hp
   have HS := Lib.hid (sumP_take hp)
   have hs1 := HSL.out (k + 1)
   have hs2 : sumP (X.take k) + p.1 ≤ 1000 := by rw [← sumP_take hp]; omega
   have hk10 : (k : Int) < 10 := by omega
   obtain ⟨ao, c, rfl⟩ : ∃ ao c, v0 = .slice ao p.1 c := by
    rcases hv0 with ⟨rfl, z⟩ | ⟨ad, c, rfl, _⟩
    ·exact ⟨none, 0, by rw [z]⟩
    ·exact ⟨some ad, c, rfl⟩
   clear hp hs1 hv0
   generalize sumP (X.take k) = sk at *
   have hs3 : (sk : Int) + (p.1 : Int) ≤ 1000 := by omega
   have hs4 : ¬ ((sk : Int) + (p.1 : Int) < 0) := by omega
   go_wp2_with fail
   go_round
   case rel => exact ⟨k + 1, by omega, by go_num, by rw [HS.out]; simp⟩
   case measure => simp [intOf]; omega
  ·obtain rfl : k = X.length := by omega
   rw [List.take_length]
   go_wp2_with fail
   refine (growP_nil (sumP X) _ hs).mono ?_
   rintro e w1 ⟨v, rfl, hg1, ho1⟩
   have HO1 := Lib.hid ho1
   have HG1 := Lib.hid hg1
   clear hg1 ho1
   go_wp2_with fail
   go_loopw [6, 27] (fun v i wr => ∃ k : Nat, k ≤ X.length ∧ i = .int .i64 k ∧ Gr w wr ∧ wr.ownsRow w.heap.size 151 3 v (sumP (X.take k)) (catP (X.take k))) (fun _ i _ => X.length - (intOf i).toNat)
   case atStart => exact ⟨0, by omega, rfl, HG1.out, HO1.out⟩
   case round =>
    obtain ⟨k, hk, rfl, hg, hown⟩ := hrel
    by_cases hlt : k < X.length
    ·obtain ⟨p, hp⟩ : ∃ p, X[k]? = some p := ⟨_, List.getElem?_eq_getElem hlt⟩
     obtain ⟨v0, c1, hv0⟩ := HX.out.2 k p hp
     obtain ⟨pl, p1, ⟨rfl, z1⟩ | ⟨ad, c, rfl, hnc, hb, hc⟩⟩ := hv0.gr hg
     ·rw [← hg.cells.1 bb _ hbb] at c1
      have HS := Lib.hid (sumP_take hp)
      have HC := Lib.hid (catP_take hp)
      have z2 : p.2 = [] := List.eq_nil_of_length_eq_zero (by simp [pl, z1])
      rw [z1] at HS
      rw [z2] at HC
      have hk10 : (k : Int) < 10 := by omega
      have HO := Lib.hid hown
      obtain ⟨va, vc, rfl, hvc⟩ := own_formP hown
      clear hp hown z1 z2 hv0 pl p1
      go_wp2_with (at_builtin; refine wpList_append_own_none rfl (.tmp 31) (.tmp 32) 32 rfl w.heap.size 151 i0 3 Tryz.underlying32 hi0 _ _ _ rfl HO.out rfl ?_)
      go_roundw
      case rel => exact ⟨k + 1, by omega, by go_num, hg, by rw [HS.out, HC.out, List.append_nil]; exact HO.out⟩
      case measure => simp [intOf]; omega
     ·rw [← hg.cells.1 bb _ hbb] at c1
      have HP := Lib.hid hc
      have HS := Lib.hid (sumP_take hp)
      have HC := Lib.hid (catP_take hp)
      have hs1 := HSL.out (k + 1)
      have hs2 : sumP (X.take k) + p.1 ≤ 1000 := by rw [← sumP_take hp]; omega
      have hk10 : (k : Int) < 10 := by omega
      have HPL := Lib.hid pl
      have HP1 := Lib.hid p1
      have HO := Lib.hid hown
      obtain ⟨va, vc, rfl, hvc⟩ := own_formP hown
      clear hp hs1 hc pl p1 hown hv0 hb
      generalize sumP (X.take k) = sk at *
      go_wp2_with (at_builtin; refine wpList_append_own _ rfl (.tmp 31) (.tmp 32) 32 rfl w.heap.size 151 i0 _ 3 72 Tryz.underlying32 hi0 hz0 hz1 hz2 rfl (by omega) _ _ _ rfl HO.out ad p.1 c p.2 rfl HPL.out HP.out HP1.out (by simp only [maxLen]; omega) (by omega) hg.le ?_; intro v1 w2 hown hg1 _)
      go_roundw
      case rel => exact ⟨k + 1, by omega, by go_num, hg.grown hg1 (fun k hk => (HO.out.lt k hk).1), by rw [HS.out, HC.out]; exact hown⟩
      case measure => simp [intOf]; omega
    ·obtain rfl : k = X.length := by omega
     rw [List.take_length] at hown
     go_wp2_with fail
     go_ret
     exact ⟨_, rfl, hg, hown⟩
end Go.Proofs.YtglbnggkkjhokaaGreat
/- part.Join, Narrow. -/
namespace Gx
open Go Go.RowKit Rm
theorem flatE_inv {E : Type} {enc : E → List Value} {s : Nat} (h : EncOk enc s) : ∀ (K : List E) (j : Nat) (u : Value), (flatE enc K)[j]? = some u → ∃ i x r, K[i]? = some x ∧ (enc x)[r]? = some u ∧ j = i * s + r := by
 intro K
 induction K with
 | nil => intro j u hj; simp [flatE] at hj
 | cons a K ih =>
  intro j u hj
  have e : flatE enc (a :: K) = enc a ++ flatE enc K := by simp [flatE]
  rw [e] at hj
  by_cases q : j < (enc a).length
  ·rw [List.getElem?_append_left q] at hj
   exact ⟨0, a, j, by simp, hj, by omega⟩
  ·rw [List.getElem?_append_right (by omega)] at hj
   obtain ⟨i, x, r, h1, h2, h3⟩ := ih _ _ hj
   rw [h.len] at q h3
   exact ⟨i + 1, x, r, by simpa using h1, h2, by rw [Nat.add_mul]; omega⟩
end Gx
namespace Go.Proofs.YtglbnggkkjhokaaGreat
open Go.RowKit Rm Gx
theorem rdc_of {E : Type} {enc : E → List Value} {s : Nat} (h : EncOk enc s) {w : World} {a : Option Addr} {K : List E} {c : Nat} (hr : RdA enc s w a K) (hc : K.length ≤ c) (hn : a = none → c = 0) : RdC s w (.slice a K.length c) K.length (flatE enc K) := by
 refine ⟨flatE_len h K, flatE_ones h K, ?_⟩
 cases a with
 | none =>
  have := hn rfl
  subst this
  have : K.length = 0 := by omega
  exact .inl ⟨by rw [this], this⟩
 | some ad =>
  refine .inr ⟨ad, c, rfl, hc, fun h0 => ?_, fun j u hj => ?_⟩
  ·obtain ⟨b, off, e, hb, -⟩ := hr (by intro q; rw [q] at h0; exact h0 rfl)
   injection e with e
   subst e
   exact hb
  ·obtain ⟨i, x, r, h1, h2, rfl⟩ := flatE_inv h K j u hj
   obtain ⟨b, off, e, hb, hx⟩ := hr (by intro q; rw [q] at h1; simp at h1)
   injection e with e
   subst e
   rw [add_n, show off + (i * s + r) = off + i * s + r by omega]
   exact hx i x h1 r u h2
theorem concatK (K L : List PtX) (va vb : Option Addr) (vc vd b : Nat) (t : TypeId) (w : World) (hl : K.length ≤ 30) (hl' : L.length ≤ 30) (hc : K.length ≤ vc) (hc' : L.length ≤ vd) (hn : va = none → vc = 0) (hn' : vb = none → vd = 0)
  (hv : RdA encP 3 w va K) (hv' : RdA encP 3 w vb L) (hb : Bk w b #[.slice va K.length vc, .slice vb L.length vd] t) :
  Calls Tryz.prog 154 #[.slice (some ⟨b, 0, none⟩) 2 2] w fun e w' => ∃ a c, e = .returned (.slice a (K ++ L).length c) ∧ w'.ownsRow w.heap.size 151 3 (.slice a (K ++ L).length c) (K ++ L).length (flatE encP (K ++ L)) ∧ Gr w w' := by
 have hS : SrcP w b [(K.length, flatE encP K), (L.length, flatE encP L)] := by
  refine ⟨hb.lt, fun i p hp => ?_⟩
  match i, hp with
  | 0, hp =>
   simp at hp; subst hp
   exact ⟨_, hb.cell 0 rfl, rdc_of encP_ok hv hc hn⟩
  | 1, hp =>
   simp at hp; subst hp
   exact ⟨_, hb.cell 1 rfl, rdc_of encP_ok hv' hc' hn'⟩
  | i + 2, hp => simp at hp
 refine (concatP _ b 2 w hS (by simp [sumP]; omega) (by simp)).mono ?_
 rintro e w' ⟨v, rfl, g, h⟩
 have e1 : sumP [(K.length, flatE encP K), (L.length, flatE encP L)] = (K ++ L).length := by simp [sumP]
 have e2 : catP [(K.length, flatE encP K), (L.length, flatE encP L)] = flatE encP (K ++ L) := by simp [catP, flatE_app]
 rw [e1, e2] at h
 obtain ⟨a, c, rfl, -⟩ := ow_form h
 exact ⟨a, c, rfl, h, g⟩
def ResP (base : Nat) (w : World) (e : Ending) (F : List PtX) : Prop :=
  (F.length ≤ 30 ∧ ∃ v, e = .returned (.tuple #[v, .int .i64 0]) ∧ w.ownsRow base 151 3 v F.length (flatE encP F) ∧ OwnsP base w F) ∨ (30 < F.length ∧ e = .returned (.tuple #[.slice none 0 0, .int .i64 2]))
theorem ow_lessP {w : World} {base base' s n : Nat} {t : TypeId} {v : Value} {xs : List Value} (h : w.ownsRow base t s v n xs) (hb : base' ≤ base) : w.ownsRow base' t s v n xs := by
 obtain ⟨h1, h2 | ⟨g, cap, cur, e, h3, h4⟩⟩ := h
 ·exact ⟨h1, .inl h2⟩
 ·exact ⟨h1, .inr ⟨g, cap, cur, e, Nat.le_trans hb h3, h4⟩⟩
theorem pjoin_ok (K L : List PtX) (va vb : Option Addr) (vc vd : Nat) (hl : K.length ≤ 30) (hl2 : L.length ≤ 30) (hc : K.length ≤ vc) (hc2 : L.length ≤ vd) (hn : va = none → vc = 0) (hn2 : vb = none → vd = 0) (w : World) (hv : RdA encP 3 w va K) (hv2 : RdA encP 3 w vb L) (hm : MeansP w K) (hm2 : MeansP w L) :
  Calls Tryz.prog 100 #[.slice va K.length vc, .slice vb L.length vd] w fun e w' => ∃ R : List PtX, R.map PtX.m = (K ++ L).map (nar fullT) ∧ ResP w.heap.size w' e (fewP R) ∧ Gr w w' := by
 refine enter (N := 25) Tryz.func100 rfl rfl rfl (fun M ok0 z => ?_)
 have O : M.eval (.tmp 0) = .slice va K.length vc := z 0 _ rfl
 have ai : M.eval (.tmp 1) = .slice vb L.length vd := z 1 _ rfl
 clear z
 have a := Gr.refl w
 refine wp_seq_k (fun K1 aj => (wp_region_lit (sw ok0 (o_as ev_const) (fun aS j => ?_))))
 refine sw j.ok (o_as ev_const) (fun aT l => ?_)
 refine wpList_nil (th_n (aj _ _ (wp_seq_k (fun K4 ak => (wp_seq_k (fun K5 al => (wp_region_lit (sw l.ok (o_mv (l.n (j.n O))) (fun aW n => ?_)))))))))
 have S := n.n (l.n (j.n ai))
 refine sw n.ok (o_mv S) (fun aX c => ?_)
 refine sc c.ok rfl (wn _ rfl) rfl (o_f2 Tryz.func153 rfl rfl rfl (c.n n.at_) c.at_) (pcheckBoth_ok K L va vb vc vd w hl hl2 (hv.gr a) (hv2.gr a) (hm.gr a) (hm2.gr a)) ?_
 rintro _ aY ⟨rfl, am⟩
 refine ⟨_, rfl, fun aZ o => ?_⟩
 have an := a.trans am
 refine sw o.ok (o_as o.at_) (fun a1 q => ?_)
 refine wpList_nil (th_n (al _ _ (wp_seq_k (fun a2 ao => (wp_region_lit (sw q.ok (o_mv q.at_) (fun a3 r => ?_)))))))
 refine sw r.ok (o_neq (b := false) r.at_ ev_const (by decide)) (fun a4 t => ?_)
 refine wpList_nil (th_n (ao _ _ (wp_cond_false (t.at_) ?_)))
 refine wp_skip (th_n (ak _ _ (wp_seq_k (fun a6 ap => (wp_region_lit ?_)))))
 have aq := t.n (r.n (q.n (o.n (c.n (n.n (l.n (j.n O)))))))
 refine sw t.ok (o_mv aq) (fun a7 A => ?_)
 have ar := A.n (t.n (r.n (q.n (o.n (c.n S)))))
 refine sw A.ok (o_mv ar) (fun a8 B => ?_)
 obtain ⟨a9, au, av, C⟩ := info3_of (show (Tryz.prog.info? 32).map (fun i => (i.zero, i.size)) = some (some (.slice none 0 0), 1) by kernel_rfl)
 refine sals (cs := #[.slice va K.length vc, .slice vb L.length vd]) B.ok rfl (wn _ rfl) rfl (o_bs (vs := [(0, .slice va K.length vc), (1, .slice vb L.length vd)]) (by simp [(B.n A.at_), B.at_, ev_const]) Tryz.underlying265 au av (by rw [C]; rfl) (by rw [C]; rfl) (by rw [C]; kernel_rfl)) (fun ba ax ay T U => ?_)
 have D := an.trans T.gr
 refine sc U.ok rfl (wn _ rfl) rfl (o_f1 Tryz.func154 rfl rfl rfl U.at_) (concatK K L va vb vc vd ay _ ax hl hl2 hc hc2 hn hn2 (hv.gr D) (hv2.gr D) T.bk) ?_
 rintro _ az ⟨ca, cc, rfl, aA, aB⟩
 refine ⟨_, rfl, fun bb V => ?_⟩
 have aC := D.trans aB
 refine sc V.ok rfl (wn _ rfl) rfl (o_f0 Tryz.func52 rfl rfl rfl ) (fevery az) ?_
 rintro _ aD ⟨ev, rfl, hev, W⟩
 refine ⟨_, rfl, fun bc E => ?_⟩
 have u := aC.trans W
 have aE := ow_gr aA W
 have hGn := u.size
 refine sc E.ok rfl (wn _ rfl) rfl (o_f2 Tryz.func129 rfl rfl rfl (E.n V.at_) E.at_) (narrow_any (K ++ L) ca cc _ fullT (by rw [List.length_append]; omega) aD (RdA.own encP_ok aE rfl) (fun x hx => (List.mem_append.1 hx).elim (fun h => (hm x h).gr u) (fun h => (hm2 x h).gr u)) (hev.le (by decide))) ?_
 rintro _ aF ⟨R, v1, rfl, hR, X, hP1, aG⟩
 obtain ⟨ra, rc, rfl, hrc⟩ := ow_form X
 have hRl : R.length = ((K ++ L)).length := by have := congrArg List.length hR; simpa using this
 refine ⟨_, rfl, fun bf Y => ?_⟩
 have Z := u.trans aG
 refine sc Y.ok rfl (wn _ rfl) rfl (o_f1 Tryz.func128 rfl rfl rfl Y.at_) (reduce_any R ra rc (by rw [hRl, List.length_append]; omega) aF (RdA.own encP_ok X rfl) (OwnsP.mean hP1)) ?_
 rintro _ bg ⟨v2, rfl, aa, ab⟩
 obtain ⟨qa, qc, rfl, hqc⟩ := ow_form aa
 refine ⟨_, rfl, fun bi ac => ?_⟩
 have ad := Z.trans ab
 have aH := hP1.tk (tk_gr ab)
 refine sw ac.ok (o_as ac.at_) (fun bj F => ?_)
 refine wpList_nil (th_n (ap _ _ (wp_seq_k (fun bl aI => (wp_seq_k (fun bm aJ => (wp_region_lit (sw F.ok (o_mv F.at_) (fun bn G => ?_)))))))))
 refine sw G.ok (o_len G.at_ Tryz.underlying32) (fun bo H => ?_)
 refine sw H.ok (o_gtI H.at_ ev_const) (fun bp g => ?_)
 refine wpList_nil (th_n (aJ _ _ ?_))
 by_cases y : (30 : Int) < (((fewP R).length : Nat) : Int)
 ·refine wp_cond_true ((g.at_).trans (congrArg Value.bool (decide_eq_true y))) ?_
  refine wp_seq_k (fun bq aK => (wp_region_lit (sw g.ok (o_as ev_const) (fun br af => ?_))))
  refine sw af.ok (o_as ev_const) (fun bt I => ?_)
  refine wpList_nil (th_n (aK _ _ (wp_ret (th_r (ret2 I.ok rfl ((I.n af.at_)) (I.at_) ⟨R, hR, .inr ⟨by have := y; omega, rfl⟩, ad⟩)))))
 ·refine wp_cond_false ((g.at_).trans (congrArg Value.bool (decide_eq_false y))) ?_
  refine wp_skip (th_n (aI _ _ (wp_seq_k (fun bu aL => (wp_region_lit ?_)))))
  have aM := g.n (H.n (G.n F.at_))
  refine sw g.ok (o_mv aM) (fun bv ag => ?_)
  refine sw ag.ok (o_as ag.at_) (fun bx ah => ?_)
  refine sw ah.ok (o_as ev_const) (fun bz J => ?_)
  refine wpList_nil (th_n (aL _ _ (wp_ret (ret2 J.ok rfl ((J.n ah.at_)) (J.at_) ⟨R, hR, .inl ⟨by have := y; omega, _, rfl, (ow_lessP aa Z.size), fun x hx => (aH x (fewP_mem hx)).base hGn⟩, ad⟩))))
end Go.Proofs.YtglbnggkkjhokaaGreat
/- reedkeep.parts, partBegun, both; small lists of parts. -/
namespace Gx
open Go Go.RowKit Rm
end Gx
namespace Rm
open Go Go.RowKit Gx
def EqP (K L : List PtX) : Prop := ∀ t n a c, t < 16 → n < 32 → inR a c → hasP K t n a c = hasP L t n a c
theorem EqP.trans {K L M : List PtX} (h : EqP K L) (k : EqP L M) : EqP K M := fun t n a c h1 h2 h3 => (h t n a c h1 h2 h3).trans (k t n a c h1 h2 h3)
theorem hasP_app (K L : List PtX) (t n a c : Nat) : hasP (K ++ L) t n a c = (hasP K t n a c || hasP L t n a c) := by simp [hasP]
theorem empty_no {x : PtX} (hT : OkT x.T) (h : emptyP x = true) {t n a c : Nat} (ht : t < 16) (hn : n < 32) (hi : inR a c) : ((x.T t).testBit n && x.D a c) = false := by
 unfold emptyP at h
 rw [Bool.or_eq_true] at h
 rcases h with h | h
 ·have h0 := cntTo_none hT 16 (Nat.le_refl _) (show cntT x.T = 0 by simpa using h) t ht
  rw [h0]; simp
 ·have hd : x.D a c = false := by
   cases q : x.D a c
   ·rfl
   ·exfalso
    rw [← form_mem x.D a c hi] at q
    have h1 : cntD (memB (formV x.D) (formM x.D)) = 0 := by simpa using h
    have h2 : kcntTo (memB (formV x.D) (formM x.D) a) 1024 = 0 := by
     have h5 := hi.1
     generalize memB (formV x.D) (formM x.D) = E at h1 ⊢
     have : cntS E a = 0 := by
      unfold cntD at h1
      have ha : a = 0 ∨ a = 1 ∨ a = 2 ∨ a = 3 ∨ a = 4 := by omega
      rcases ha with rfl | rfl | rfl | rfl | rfl <;> omega
     exact this
    have key : ∀ n, kcntTo (memB (formV x.D) (formM x.D) a) n = 0 → ∀ i, i < n → memB (formV x.D) (formM x.D) a i = false := by
     intro n
     induction n with
     | zero => intro _ i hi; omega
     | succ n ih =>
      intro h i hi
      unfold kcntTo at h
      rcases Nat.lt_or_ge i n with q | q
      ·exact ih (by split at h <;> omega) i q
      ·obtain rfl : i = n := by omega
       cases q3 : memB (formV x.D) (formM x.D) a i
       ·rfl
       ·rw [q3] at h; simp at h
    rw [key 1024 h2 c (by have := hi.2.2; omega)] at q
    cases q
  rw [hd]; simp
theorem under_has {x y : PtX} (hx : OkT x.T) (hy : OkT y.T) (h : underP x y = true) {t n a c : Nat} (ht : t < 16) (hn : n < 32) (hi : inR a c) (hk : ((x.T t).testBit n && x.D a c) = true) : ((y.T t).testBit n && y.D a c) = true := by
 unfold underP at h
 rw [Bool.and_eq_true] at h hk ⊢
 exact ⟨within_bit hx hy h.2 ht hn hk.1, (wS_iff _ _).1 h.1 a c hi hk.2⟩
theorem stepP_has {K : List PtX} {x : PtX} (hK : ∀ y ∈ K, OkT y.T) (hx : OkT x.T) {t n a c : Nat} (ht : t < 16) (hn : n < 32) (hi : inR a c) : hasP (stepP K x) t n a c = hasP (K ++ [x]) t n a c := by
 unfold stepP
 split
 ·rename_i h
  rw [hasP_app, hasP_app, Bool.eq_iff_iff]
  simp only [Bool.or_eq_true]
  constructor
  ·rintro (q | q)
   ·obtain ⟨y, hy, hq⟩ := List.any_eq_true.1 q
    exact .inl (List.any_eq_true.2 ⟨y, (List.mem_filter.1 hy).1, hq⟩)
   ·exact .inr q
  ·rintro (q | q)
   ·obtain ⟨y, hy, hq⟩ := List.any_eq_true.1 q
    cases hu : underP y x
    ·exact .inl (List.any_eq_true.2 ⟨y, List.mem_filter.2 ⟨hy, by simp [hu]⟩, hq⟩)
    ·exact .inr (List.any_eq_true.2 ⟨x, List.mem_singleton.2 rfl, under_has (hK y hy) hx hu ht hn hi hq⟩)
   ·exact .inr q
 ·rename_i h
  rw [hasP_app, Bool.eq_iff_iff, Bool.or_eq_true]
  constructor
  ·exact .inl
  ·rintro (q | q)
   ·exact q
   ·obtain ⟨y, hy, hq⟩ := List.any_eq_true.1 q
    rw [List.mem_singleton.1 hy] at hq
    cases he : emptyP x
    ·rw [he] at h
     simp only [Bool.not_false, Bool.true_and, Bool.not_eq_true', Bool.not_eq_false] at h
     obtain ⟨z, hz, hu⟩ := List.any_eq_true.1 h
     exact List.any_eq_true.2 ⟨z, hz, under_has hx (hK z hz) hu ht hn hi hq⟩
    ·rw [empty_no hx he ht hn hi] at hq; cases hq
theorem fewP_has {L : List PtX} (hL : ∀ y ∈ L, OkT y.T) : EqP (fewP L) L := fun t n a c ht hn hi => by
 have key : ∀ (L K : List PtX), (∀ y ∈ L, OkT y.T) → (∀ y ∈ K, OkT y.T) → hasP (L.foldl stepP K) t n a c = hasP (K ++ L) t n a c := by
  intro L
  induction L with
  | nil => intro K _ _; simp
  | cons x L ih =>
   intro K hL hK
   have hx := hL x (List.mem_cons_self ..)
   rw [List.foldl_cons, ih _ (fun y hy => hL y (List.mem_cons_of_mem _ hy)) (fun y hy => by
    rcases stepP_mem hy with h | rfl
    ·exact hK y h
    ·exact hx), hasP_app, stepP_has hK hx ht hn hi, hasP_app, Bool.or_assoc, ← hasP_app, ← hasP_app]
   rfl
 exact key L [] hL (fun y hy => by cases hy)
structure FewP (K : List PtX) : Prop where
  ne : ∀ x ∈ K, emptyP x = false
  no : ∀ (i j : Nat) (x y : PtX), K[i]? = some x → K[j]? = some y → i ≠ j → underP x y = false
theorem stepP_few {K : List PtX} {x : PtX} (h : FewP K) : FewP (stepP K x) := by
 unfold stepP
 split
 ·rename_i hc
  rw [Bool.and_eq_true, Bool.not_eq_true', Bool.not_eq_true'] at hc
  have hany := List.any_eq_false.1 hc.2
  have hsub : ∀ i y, (K.filter (fun y => !underP y x))[i]? = some y → ∃ i', K[i']? = some y ∧ underP y x = false := fun i y hy => by
   have hm := List.mem_of_getElem? hy
   obtain ⟨h1, h2⟩ := List.mem_filter.1 hm
   obtain ⟨i', hi'⟩ := List.getElem?_of_mem h1
   exact ⟨i', hi', by simpa using h2⟩
  refine ⟨fun y hy => ?_, fun i j y z hi hj hij => ?_⟩
  ·rcases List.mem_append.1 hy with hy | hy
   ·exact h.ne y (List.mem_filter.1 hy).1
   ·rw [List.mem_singleton.1 hy]; exact hc.1
  ·by_cases q1 : i < (K.filter (fun y => !underP y x)).length
   ·rw [List.getElem?_append_left q1] at hi
    by_cases q2 : j < (K.filter (fun y => !underP y x)).length
    ·rw [List.getElem?_append_left q2] at hj
     -- both are kept: their places in the list differ
     have hp : (K.filter (fun y => !underP y x)).Pairwise (fun a b => underP a b = false ∧ underP b a = false) := by
      refine List.Pairwise.filter _ ?_
      rw [List.pairwise_iff_getElem]
      intro a b ha hb hab
      exact ⟨h.no a b _ _ (List.getElem?_eq_getElem ha) (List.getElem?_eq_getElem hb) (by omega), h.no b a _ _ (List.getElem?_eq_getElem hb) (List.getElem?_eq_getElem ha) (by omega)⟩
     rw [List.pairwise_iff_getElem] at hp
     obtain ⟨_, e1⟩ := List.getElem?_eq_some_iff.1 hi
     obtain ⟨_, e2⟩ := List.getElem?_eq_some_iff.1 hj
     rcases Nat.lt_or_ge i j with q | q
     ·have := (hp i j q1 q2 q).1; rwa [e1, e2] at this
     ·have := (hp j i q2 q1 (by omega)).2; rwa [e1, e2] at this
    ·rw [List.getElem?_append_right (by omega)] at hj
     have : z = x := by
      have := List.mem_of_getElem? hj
      simpa using this
     subst this
     obtain ⟨_, _, hu⟩ := hsub i y hi
     exact hu
   ·rw [List.getElem?_append_right (by omega)] at hi
    have hyx : y = x := by
     have := List.mem_of_getElem? hi
     simpa using this
    subst hyx
    have hi0 : i = (K.filter (fun z => !underP z y)).length := by
     have := (List.getElem?_eq_some_iff.1 hi).1
     simp only [List.length_singleton] at this
     omega
    by_cases q2 : j < (K.filter (fun z => !underP z y)).length
    ·rw [List.getElem?_append_left q2] at hj
     have := hany z (List.mem_filter.1 (List.mem_of_getElem? hj)).1
     simpa using this
    ·rw [List.getElem?_append_right (by omega)] at hj
     have := (List.getElem?_eq_some_iff.1 hj).1
     simp only [List.length_singleton] at this
     omega
 ·exact h
theorem fewP_few (L : List PtX) : FewP (fewP L) := by
 have key : ∀ (L K : List PtX), FewP K → FewP (L.foldl stepP K) := by
  intro L
  induction L with
  | nil => intro K h; exact h
  | cons x L ih => intro K h; exact ih _ (stepP_few h)
 exact key L [] ⟨(fun x hx => by cases hx), fun i j x y hi => by simp at hi⟩
end Rm
namespace Go.Proofs.YtglbnggkkjhokaaGreat
open Go.RowKit Rm Gx
theorem FSn.okT {n : Nat} {w : World} {v : Value} {T : Nat → Nat} (h : FSn n w v T) : OkT T := fun t ht => h.lt t ht
theorem nar_has {U : Nat → Nat} {R L : List PtX} (h : R.map PtX.m = L.map (nar U)) (t n a c : Nat) : hasP R t n a c = ((U t).testBit n && hasP L t n a c) := by
  induction R generalizing L with
  | nil =>
    have : L = [] := by simpa using h.symm
    subst this; simp [hasP]
  | cons x R ih =>
    cases L with
    | nil => simp at h
    | cons y L =>
      simp only [List.map_cons, List.cons.injEq] at h
      have h1 := ih h.2
      have hx : x.T t = y.T t &&& U t ∧ x.D = y.D := by
        have := h.1
        unfold PtX.m nar at this
        simp only [Prod.mk.injEq] at this
        exact ⟨congrFun this.1 t, this.2⟩
      unfold hasP at h1 ⊢
      simp only [List.any_cons, h1, hx.1, hx.2, Nat.testBit_and]
      cases (y.T t).testBit n <;> cases (U t).testBit n <;> cases y.D a c <;> simp
theorem full_has {R L : List PtX} (h : R.map PtX.m = L.map (nar fullT)) : EqP R L := fun t n a c ht hn hi => by
 rw [nar_has h]
 have : (fullT t).testBit n = true := by
  unfold fullT
  rw [show (4294967295 : Nat) = 2 ^ 32 - 1 from rfl, Nat.testBit_two_pow_sub_one]
  simpa using hn
 rw [this, Bool.true_and]
theorem ok0 : OkV [] [] := ⟨by simp, by simp, by simp, by simp, by simp⟩
theorem FSn.form {n : Nat} {w : World} {v : Value} {T : Nat → Nat} (h : FSn n w v T) : ∃ a l c, v = .slice a l c := by
 obtain ⟨F, ⟨a, c, rfl, -⟩, -⟩ := h
 exact ⟨a, _, c, rfl⟩
end Go.Proofs.YtglbnggkkjhokaaGreat
/- What the laws on parts need. -/
namespace Rm
open Go Go.RowKit Gx
def hasV (K : List PtX) (t n a c : Int) : Bool := pointB t n && dotB (a, c) && K.any fun x => bitT x.T t n && hasD x.D a c
theorem hasV_in {K : List PtX} {t n a c : Nat} (ht : t < 16) (hn : n < 32) (hi : inR a c) : hasV K (t : Int) (n : Int) (a : Int) (c : Int) = hasP K t n a c := by
 unfold hasV hasP
 have hd : dotB ((a : Int), (c : Int)) = true := (dotB_iff _).2 ⟨by simp, by have := hi.1; simp only; omega, by have := hi.2.1; simp only; omega, by have := hi.2.2; simp only; omega⟩
 rw [pointB_nat ht hn, hd, Bool.true_and, Bool.true_and]
 congr 1
 funext x
 have h1 : bitT x.T (t : Int) (n : Int) = (x.T t).testBit n := by unfold bitT; rw [pointB_nat ht hn]; simp
 have h2 : hasD x.D (a : Int) (c : Int) = x.D a c := by unfold hasD; rw [hd]; simp
 rw [h1, h2]
end Rm
namespace Go.Proofs.YtglbnggkkjhokaaGreat
open Go.RowKit Rm Gx
theorem ow_nil {w : World} {base s n c : Nat} {t : TypeId} {a : Option Addr} {xs : List Value} (h : w.ownsRow base t s (.slice a n c) n xs) : a = none → c = 0 := by
 rintro rfl
 obtain ⟨-, ⟨e1, -⟩ | ⟨g', cap, cur, e1, -⟩⟩ := h
 ·injection e1
 ·injection e1 with e1; cases e1
theorem phas (K : List PtX) (va : Option Addr) (vc : Nat) (t n a c : Int) (w : World) (hl : K.length ≤ 30) (hv : RdA encP 3 w va K) (hm : MeansP w K) :
  Calls Tryz.prog 61 #[.slice va K.length vc, .agg #[.int .i64 t, .int .i64 n], .agg #[.int .i64 a, .int .i64 c]] w fun e w' => e = .returned (.tuple #[.bool (hasV K t n a c), .int .i64 (hasE t n a c)]) ∧ Gr w w' :=
 phas_ok K va vc t n a c w hl hv hm
end Go.Proofs.YtglbnggkkjhokaaGreat
/- What single operations do at strings and at pairs of integers. -/
namespace Gx
open Go Go.RowKit Rm
def bs (l : List UInt8) : ByteArray := ⟨l.toArray⟩
theorem bs_list (l : List UInt8) : (bs l).toList = l := ByteArray.toList_mk l
theorem bs_size (l : List UInt8) : (bs l).size = l.length := by simp [bs, ByteArray.size]
section
variable {P : Program} {ev : Operand → Value} {d : Option Tmp} {ty : TypeId} {p : String} {af : Array Edge} {g : Option (Nat × Bool)} {w : World}
theorem o_lenS {x : Operand} {T : TypeId} {l : List UInt8} (hx : ev x = .string (bs l)) (hu : P.underlying T = some .string) : (execOp ev (Oper.mk d (.call (Call.mk (.builtin .len) #[x] #[T])) ty p af g)).run P w = .ok (.value (.int .i64 (l.length : Int))) w := by
 simp [execOp, resolve, invoke, builtin, Builtin.len_, hx, run_underlying hu, goInt, go_sem, bs_size]
theorem o_eqS {t t' : TypeId} {x y : Operand} {l l' : List UInt8} (hx : ev x = .string (bs l)) (hy : ev y = .string (bs l')) : (execOp ev (Oper.mk d (.binOp .eql t x y t') ty p af g)).run P w = .ok (.value (.bool (decide (l = l')))) w := by
 have e : (l == l') = decide (l = l') := by rw [Bool.eq_iff_iff]; simp
 simp [execOp, hx, hy, eqGuard, binOp, Op.stringOp, go_sem, bs_list, e]
theorem o_neS {t t' : TypeId} {x y : Operand} {l l' : List UInt8} (hx : ev x = .string (bs l)) (hy : ev y = .string (bs l')) : (execOp ev (Oper.mk d (.binOp .neq t x y t') ty p af g)).run P w = .ok (.value (.bool (decide (¬ l = l')))) w := by
 have e : (!(l == l')) = decide (¬ l = l') := by rw [Bool.eq_iff_iff]; simp
 simp only [bs_list, execOp, hx, hy, eqGuard, binOp, Op.stringOp, Sem.run_bind, Sem.run_pure, Result.andThen_ok, e]
 rfl
theorem o_neSs {t t' : TypeId} {x y : Operand} {l : List UInt8} (hx : ev x = .string (bs l)) (hy : ev y = .string (bs l)) : (execOp ev (Oper.mk d (.binOp .neq t x y t') ty p af g)).run P w = .ok (.value (.bool false)) w := by
 have h := o_neS (P := P) (d := d) (ty := ty) (p := p) (af := af) (g := g) (w := w) (t := t) (t' := t') hx hy
 rw [decide_eq_false (fun q => q rfl)] at h
 exact h
theorem o_ltS {t t' : TypeId} {x y : Operand} {l l' : List UInt8} (hx : ev x = .string (bs l)) (hy : ev y = .string (bs l')) : (execOp ev (Oper.mk d (.binOp .lss t x y t') ty p af g)).run P w = .ok (.value (.bool (Op.bytesLess l l'))) w := by
 simp [execOp, hx, hy, eqGuard, binOp, Op.stringOp, go_sem, bs_list]
theorem o_gtS {t t' : TypeId} {x y : Operand} {l l' : List UInt8} (hx : ev x = .string (bs l)) (hy : ev y = .string (bs l')) : (execOp ev (Oper.mk d (.binOp .gtr t x y t') ty p af g)).run P w = .ok (.value (.bool (!(Op.bytesLess l l' || decide (l = l'))))) w := by
 have e : (l == l') = decide (l = l') := by rw [Bool.eq_iff_iff]; simp
 simp [execOp, hx, hy, eqGuard, binOp, Op.stringOp, go_sem, bs_list, e]
theorem o_eqA {t t' : TypeId} {x y : Operand} {xs ys : Array Value} {b : Bool} (hx : ev x = .agg xs) (hy : ev y = .agg ys) (hm : P.eqGuardType P.depth t = false) (he : (Op.equalIn 10000 t (.agg xs) (.agg ys)).run P w = .ok b w) : (execOp ev (Oper.mk d (.binOp .eql t x y t') ty p af g)).run P w = .ok (.value (.bool b)) w := by
 have h1 := run_eqGuard_agg w .eql t x y xs ys hm
 unfold execOp
 simp only [hx, hy, Sem.run_bind, h1, Result.andThen_ok, run_eql_struct, he]
 rfl
end
end Gx
namespace Go.Proofs.YtglbnggkkjhokaaGreat
open Go.RowKit Rm Gx
theorem eq_dot (a b c d : Int) (w : World) : (Op.equalIn 10000 51 (.agg #[.int .i64 a, .int .i64 b]) (.agg #[.int .i64 c, .int .i64 d])).run Tryz.prog w = .ok (decide (a = c ∧ b = d)) w := by
 rw [run_equalIn_struct w 9999 _ _ _ Tryz.underlying51 (by kernel_rfl)]
 simp [Op.eqFields, part, go_sem]
 by_cases h1 : a = c <;> by_cases h2 : b = d <;> simp [h1, h2]
end Go.Proofs.YtglbnggkkjhokaaGreat
/- Versions: as plain data, and as they are read. -/
namespace Rm
open Go Go.RowKit Gx
structure VerD where
 id : List UInt8
 s : Int
 c : Int
 t : Int
 n : Int
 b : Int
 V : List Int
 M : List (Int × Int)
def ltrB (x : UInt8) : Bool := decide (97 ≤ x.toNat) && decide (x.toNat ≤ 122)
def idB (l : List UInt8) : Bool := decide (0 < l.length) && decide (l.length ≤ 8) && l.all ltrB
def ptB (t n : Int) : Bool := decide (0 ≤ t) && decide (t < 16) && decide (0 ≤ n) && decide (n < 32)
theorem ptB_iff (t n : Int) : ptB t n = true ↔ 0 ≤ t ∧ t < 16 ∧ 0 ≤ n ∧ n < 32 := by simp [ptB, and_assoc]
def memI (V : List Int) (M : List (Int × Int)) (s c : Int) : Bool := memB (V.map Int.toNat) (M.map fun d => (d.1.toNat, d.2.toNat)) s.toNat c.toNat
theorem memI_of (v : List Nat) (m : List (Nat × Nat)) (s c : Nat) : memI (ints v) (pairs m) (s : Int) (c : Int) = memB v m s c := by
 have h1 : (ints v).map Int.toNat = v := by
  unfold ints
  rw [List.map_map]
  conv => rhs; rw [← List.map_id v]
  exact List.map_congr_left fun x _ => by simp
 have h2 : ((pairs m).map fun d => (d.1.toNat, d.2.toNat)) = m := by
  unfold pairs
  rw [List.map_map]
  conv => rhs; rw [← List.map_id m]
  exact List.map_congr_left fun x _ => by simp
 unfold memI
 rw [h1, h2]
 simp
def argB (x : VerD) : Bool := dotB (x.s, x.c) && ptB x.t x.n && decide (0 ≤ x.b) && decide (x.b ≤ 1000000)
def chkOne (x : VerD) : Int := if idB x.id = false then 3 else if argB x = false then 1 else if chkK x.V x.M ≠ 0 then chkK x.V x.M else if memI x.V x.M x.s x.c = true then 3 else 0
theorem chkOne_zero {x : VerD} (h : chkOne x = 0) : idB x.id = true ∧ argB x = true ∧ chkK x.V x.M = 0 ∧ memI x.V x.M x.s x.c = false := by
 unfold chkOne at h
 cases h1 : idB x.id
 ·rw [if_pos h1] at h; cases h
 ·cases h2 : argB x
  ·rw [if_neg (by simp [h1]), if_pos h2] at h; cases h
  ·rw [if_neg (by simp [h1]), if_neg (by simp [h2])] at h
   by_cases h3 : chkK x.V x.M = 0
   ·rw [if_neg (by simp [h3])] at h
    cases h4 : memI x.V x.M x.s x.c
    ·exact ⟨rfl, rfl, h3, rfl⟩
    ·rw [if_pos h4] at h; cases h
   ·rw [if_pos h3] at h
    exact absurd h h3
theorem argB_dot {x : VerD} (h : argB x = true) : dotB (x.s, x.c) = true := by
 unfold argB at h
 simp only [Bool.and_eq_true] at h
 exact h.1.1.1
def ovB (a b : VerD) : Bool := decide (b.id = a.id) && memI a.V a.M b.s b.c
def cmpS (l l' : List UInt8) : Int := if Op.bytesLess l l' = true then -1 else if (!(Op.bytesLess l l' || decide (l = l'))) = true then 1 else 0
def orC (x y : Int) : Int := if x != 0 then x else y
def cmpV (a b : VerD) : Int := orC (cmpS a.id b.id) (orC (Lib.compareInt a.s b.s) (Lib.compareInt a.c b.c))
def chkRow : Option VerD → List VerD → Int
 | _, [] => 0
 | p, x :: r => if chkOne x = 0 then (if (p.any fun y => decide (0 ≤ cmpV y x)) = true then 3 else chkRow (some x) r) else chkOne x
def chkShf (L : List VerD) : Int := if 60 < L.length then 2 else if chkRow none L = 0 then (if (L.any fun v => L.any fun x => ovB v x) = true then 6 else 0) else chkRow none L
structure VerI where
  d : VerD
  va : Option Addr
  vc : Nat
  ma : Option Addr
  mc : Nat
def encVr (x : VerI) : List Value := [.string (bs x.d.id), .int .i64 x.d.s, .int .i64 x.d.c, .int .i64 x.d.t, .int .i64 x.d.n, .int .i64 x.d.b, .slice x.va x.d.V.length x.vc, .slice x.ma x.d.M.length x.mc]
def VerI.k (x : VerI) : Value := .agg #[.slice x.va x.d.V.length x.vc, .slice x.ma x.d.M.length x.mc]
theorem encVr_ok : EncOk encVr 8 := ⟨fun x => rfl, fun x u hu => by
 simp [encVr] at hu
 rcases hu with rfl | rfl | rfl | rfl | rfl | rfl | rfl | rfl <;> rfl⟩
def okVr (x : VerI) : Prop := chkOne x.d = 0
end Rm
namespace Go.Proofs.YtglbnggkkjhokaaGreat
open Go.RowKit Rm Gx
def MeanV (w : World) (x : VerI) : Prop := KnR w x.k x.d.V x.d.M
theorem MeanV.gr {w w' : World} {x : VerI} (h : MeanV w x) (g : Gr w w') : MeanV w' x := KnR.gr h g
def MeansV (w : World) (K : List VerI) : Prop := ∀ x ∈ K, MeanV w x
theorem MeansV.gr {w w' : World} {K : List VerI} (h : MeansV w K) (g : Gr w w') : MeansV w' K := fun x hx => (h x hx).gr g
theorem cmpG (x y : Int) (w : World) : Calls Tryz.prog 218 #[.int .i64 x, .int .i64 y] w fun e w' => e = .returned (.int .i64 (Lib.compareInt x y)) ∧ Gr w w' :=
 (cmp_any x y w).mono fun e w' h => ⟨h.1, by rw [h.2]; exact Gr.refl w⟩
theorem orG (x y : Int) (B : Nat) (t : TypeId) (w : World) (h : Bk w B #[.int .i64 x, .int .i64 y] t) : Calls Tryz.prog 187 #[.slice (some ⟨B, 0, none⟩) 2 2] w fun e w' => e = .returned (.int .i64 (orC x y)) ∧ Gr w w' :=
 (or_any x y B 2 w (h.cell 0 rfl) (h.cell 1 rfl)).mono fun e w' k => ⟨k.1, by rw [k.2]; exact Gr.refl w⟩
theorem khasI (k : Value) (V : List Int) (M : List (Int × Int)) (s c : Int) (w : World) (hk : KnR w k V M) (hc : chkK V M = 0) (hd : dotB (s, c) = true) :
    Calls Tryz.prog 167 #[k, .agg #[.int .i64 s, .int .i64 c]] w fun e w' => e = .returned (.tuple #[.bool (memI V M s c), .int .i64 0]) ∧ Gr w w' := by
  obtain ⟨v, m, rfl, rfl, ok, hl⟩ := chkK_zero hc
  obtain ⟨h1, h2, h3, h4⟩ := (dotB_iff _).1 hd
  simp only at h1 h2 h3 h4
  obtain ⟨a, rfl⟩ : ∃ n : Nat, s = n := ⟨s.toNat, by omega⟩
  obtain ⟨b, rfl⟩ : ∃ n : Nat, c = n := ⟨c.toNat, by omega⟩
  rw [memI_of]
  exact hasf_ok k v m a b w hk ok hl ⟨by omega, by omega, by omega⟩
end Go.Proofs.YtglbnggkkjhokaaGreat
/- A range over a string, by steps. -/
namespace Gx
open Go Go.RowKit Rm
section
variable {P : Program} {ops : Array Oper} {rest : List Oper} {o : Oper} {a : Act} {w w' : World} {Q : Exit → Act → World → Prop} {N d : Nat} {s : ByteArray} {k pos : Nat}
theorem it_gr {ob : Obj} (h : w.heap[k]? = some ob) (g : Gr w w') : w'.heap[k]? = some ob := (g.block k (Array.getElem?_eq_some_iff.1 h).1).trans h
theorem s_rg {T : TypeId} {x : Operand} {ty : TypeId} {p : String} {af : Array Edge} {g : Option (Nat × Bool)} (ok : Ok N a) (hw : Region.wanted (Oper.mk (some d) (.range T x) ty p af g) (yielded ops a.tmps) = true) (hN : Nat.blt d N = true) (hx : a.eval x = .string s) (hu : P.underlying T = some .string)
  (h : ∀ a' w' k, Gr w w' → k = w.heap.size → w'.heap[k]? = some (.stringIter s 0) → Nx N a a' d (.pointer (some ⟨k, 0, none⟩)) → wpList P ops Q rest a' w') : wpList P ops Q (Oper.mk (some d) (.range T x) ty p af g :: rest) a w := by
 refine sv (d := d) ok rfl hw hN (v := .pointer (some ⟨w.heap.size, 0, none⟩)) (w' := w.iter s 0) ?_ (fun a' n => h a' _ w.heap.size ((Gr.refl w).alloc _) rfl (World.iter_heap w s 0) n)
 have h1 := run_range_string (P := P) w T s hu
 unfold execOp
 simp only [hx, Sem.run_bind, h1, Result.andThen_ok]
 rfl
theorem s_nxT {x : Operand} {ty : TypeId} {p : String} {af : Array Edge} {g : Option (Nat × Bool)} (ok : Ok N a) (hw : Region.wanted (Oper.mk (some d) (.next x true) ty p af g) (yielded ops a.tmps) = true) (hN : Nat.blt d N = true) (hx : a.eval x = .pointer (some ⟨k, 0, none⟩)) (hk : w.heap[k]? = some (.stringIter s pos)) (hp : pos < s.size)
  (h : ∀ a' w', Below k w w' → w'.heap[k]? = some (.stringIter s (pos + (Utf8.decode s pos).2)) → Nx N a a' d (.tuple #[.bool true, .int .i64 (pos : Int), .int .i32 ((Utf8.decode s pos).1 : Int)]) → wpList P ops Q rest a' w') : wpList P ops Q (Oper.mk (some d) (.next x true) ty p af g :: rest) a w := by
 refine sv (d := d) ok rfl hw hN (w' := w.iterAt k s (pos + (Utf8.decode s pos).2)) ?_ (fun a' n => h a' _ (Lib.below_iterAt (Below.refl _ _) (k := k) (Nat.le_refl _) s _) (Lib.iterAt_heap w k s pos _ hk) n)
 have h1 := fun ty => Lib.run_next_any_at (P := P) w k s pos ty hk hp
 unfold execOp
 simp only [hx, Sem.run_bind, h1, Result.andThen_ok]
 rfl
theorem s_nxF {x : Operand} {ty : TypeId} {p : String} {af : Array Edge} {g : Option (Nat × Bool)} (ok : Ok N a) (hw : Region.wanted (Oper.mk (some d) (.next x true) ty p af g) (yielded ops a.tmps) = true) (hN : Nat.blt d N = true) (hx : a.eval x = .pointer (some ⟨k, 0, none⟩)) (hk : w.heap[k]? = some (.stringIter s pos)) (hp : ¬ pos < s.size)
  (h : ∀ a', Nx N a a' d (.tuple #[.bool false]) → wpList P ops Q rest a' w) : wpList P ops Q (Oper.mk (some d) (.next x true) ty p af g :: rest) a w := by
 refine sv (d := d) ok rfl hw hN (w' := w) ?_ (fun a' n => h a' n)
 have h1 := fun ty => Lib.run_next_end_at (P := P) w k s pos ty hk hp
 unfold execOp
 simp only [hx, Sem.run_bind, h1, Result.andThen_ok]
 rfl
theorem dec_big (s : ByteArray) (i : Nat) (h : 128 ≤ (s.get! (i + 0)).toNat) : 128 ≤ (Utf8.decode s i).1 := by
 unfold Utf8.decode
 simp only [Utf8.runeError]
 split
 ·omega
 ·split
  ·split <;> simp only <;> omega
  ·split
   ·split
    ·rename_i q; simp only [ge_iff_le, Bool.and_eq_true, decide_eq_true_eq] at q; simp only; omega
    ·simp only; omega
   ·split
    ·split
     ·rename_i q; simp only [ge_iff_le, Bool.and_eq_true, decide_eq_true_eq] at q; simp only; omega
     ·simp only; omega
    ·simp only; omega
theorem bs_get {l : List UInt8} {i : Nat} {x : UInt8} (h : l[i]? = some x) : (bs l).get! (i + 0) = x := by
 obtain ⟨h1, h2⟩ := List.getElem?_eq_some_iff.1 h
 show (bs l).data[i]! = x
 show (l.toArray)[i]! = x
 rw [getElem!_pos _ _ (by simpa using h1)]
 simpa using h2
theorem dec_letter {l : List UInt8} {i : Nat} {x : UInt8} (h : l[i]? = some x) (h1 : 97 ≤ (Utf8.decode (bs l) i).1) (h2 : (Utf8.decode (bs l) i).1 ≤ 122) : 97 ≤ x.toNat ∧ x.toNat ≤ 122 ∧ (Utf8.decode (bs l) i).2 = 1 := by
  have hi := (List.getElem?_eq_some_iff.1 h).1
  have hg := bs_get h
  by_cases q : x.toNat < 128
  · have hs : i < (bs l).size := by rw [bs_size]; exact hi
    have e : (bs l)[i]'hs = x := by
      have := (List.getElem?_eq_some_iff.1 h).2
      exact this
    have hd := decode_ascii (bs l) i hs (by rw [e]; exact q)
    rw [hd, e] at h1 h2
    rw [hd]
    exact ⟨h1, h2, rfl⟩
  · have := dec_big (bs l) i (by rw [hg]; omega)
    omega
theorem dec_other {l : List UInt8} {i : Nat} {x : UInt8} (h : l[i]? = some x) (h1 : (Utf8.decode (bs l) i).1 < 97 ∨ 122 < (Utf8.decode (bs l) i).1) : x.toNat < 97 ∨ 122 < x.toNat := by
 have hi := (List.getElem?_eq_some_iff.1 h).1
 by_cases q : x.toNat < 128
 ·have hs : i < (bs l).size := by rw [bs_size]; exact hi
  have e : (bs l)[i]'hs = x := by
   have := (List.getElem?_eq_some_iff.1 h).2
   exact this
  have hd := decode_ascii (bs l) i hs (by rw [e]; exact q)
  rw [hd, e] at h1
  exact h1
 ·omega
end
end Gx
