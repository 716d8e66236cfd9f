/- Joined: FilP, FilA, FilB, FilC, FilD. -/
import Derived.Test.YtbodadddcbbjeaaSpanD
import Derived.Test.YtbodadddcbbjeaaPure
import Derived.Test.YtbodadddcbbjeaaCubeA
import Derived.Test.YtbodadddcbbjeaaSetB
import Derived.StillTailTactics
/- The plain mathematics of filters: boxes as they are read, valid boxes, the table of a filter. -/
namespace Rm
open Go Go.RowKit

/-- a box, as it is read -/
abbrev BoxI := (Int × Int) × List (Int × Int)
/-- what Check says of a box -/
def chkB (b : BoxI) : Int := if chk b.1.1 b.1.2 == 0 then chkS b.2 else chk b.1.1 b.1.2
def chkFGo : List BoxI → Int
  | [] => 0
  | b :: r => if chkB b == 0 then chkFGo r else chkB b
/-- what Check says of a filter -/
def chkF (l : List BoxI) : Int := if 40 < l.length then 2 else chkFGo l
def chkF2 (l r : List BoxI) : Int := if chkF l == 0 then chkF r else chkF l
/-- a valid box: the tags that must be, the tags that must not be, the numbers as a mask -/
abbrev Bx := (Nat × Nat) × Nat
def OkB (b : Bx) : Prop := Vld b.1.1 b.1.2 ∧ b.2 < 2 ^ 32
def OkF (F : List Bx) : Prop := ∀ b ∈ F, OkB b
def boxI (b : Bx) : BoxI := (((b.1.1 : Nat), (b.1.2 : Nat)), pairs (canon b.2))
theorem chkB_of {b : Bx} (h : OkB b) : chkB (boxI b) = 0 := by
  unfold chkB boxI
  simp only
  rw [h.1.chk, chkS_of (canon_VF b.2)]
  rfl
theorem okB_of {b : BoxI} (h : chkB b = 0) : ∃ B : Bx, b = boxI B ∧ OkB B := by
  obtain ⟨⟨y, n⟩, s⟩ := b
  unfold chkB at h
  simp only at h
  split at h
  · rename_i h0
    obtain ⟨a, c, hv, rfl, rfl⟩ := Vld.of (by simpa using h0)
    obtain ⟨L, rfl, hL⟩ := valid_of h
    exact ⟨((a, c), maskL L), by simp [boxI, canon_maskL hL], hv, maskL_lt hL.le⟩
  · rename_i h0
    rw [h] at h0
    simp at h0
theorem chkFGo_of {F : List Bx} (h : OkF F) : chkFGo (F.map boxI) = 0 := by
  induction F with
  | nil => rfl
  | cons b F ih =>
    show (if chkB (boxI b) == 0 then chkFGo (F.map boxI) else chkB (boxI b)) = 0
    rw [chkB_of (h b (List.mem_cons_self ..)), ih (fun c hc => h c (List.mem_cons_of_mem _ hc))]
    rfl
theorem okFGo_of {l : List BoxI} (h : chkFGo l = 0) : ∃ F, l = F.map boxI ∧ OkF F := by
  induction l with
  | nil => exact ⟨[], rfl, fun b hb => by cases hb⟩
  | cons b l ih =>
    unfold chkFGo at h
    split at h
    · rename_i h0
      obtain ⟨B, rfl, hB⟩ := okB_of (by simpa using h0)
      obtain ⟨F, rfl, hF⟩ := ih h
      refine ⟨B :: F, rfl, fun c hc => ?_⟩
      rcases List.mem_cons.1 hc with rfl | hc
      · exact hB
      · exact hF c hc
    · rename_i h0
      rw [h] at h0
      simp at h0
theorem chkF_of {F : List Bx} (h : OkF F) (hl : F.length ≤ 40) : chkF (F.map boxI) = 0 := by
  unfold chkF
  rw [if_neg (by simp; omega)]
  exact chkFGo_of h
theorem okF_of {l : List BoxI} (h : chkF l = 0) : ∃ F, l = F.map boxI ∧ OkF F ∧ F.length ≤ 40 := by
  unfold chkF at h
  split at h
  · omega
  · rename_i h0
    obtain ⟨F, rfl, hF⟩ := okFGo_of h
    exact ⟨F, rfl, hF, by simpa using h0⟩

/-- is a combination of tags in the cube of a box? -/
def inC (b : Bx) (t : Nat) : Bool := hasR (b.1.1 : Nat) (b.1.2 : Nat) (t : Nat)
/-- the numbers that a filter has for a combination of tags -/
def addB (t m : Nat) (b : Bx) : Nat := if inC b t then m ||| b.2 else m
def tabF (F : List Bx) (t : Nat) : Nat := F.foldl (addB t) 0
theorem tabF_nil (t : Nat) : tabF [] t = 0 := rfl
theorem tabF_snoc (F : List Bx) (b : Bx) (t : Nat) : tabF (F ++ [b]) t = addB t (tabF F t) b := by simp [tabF]
theorem tabF_take {F : List Bx} {k : Nat} {b : Bx} (h : F[k]? = some b) (t : Nat) : tabF (F.take (k + 1)) t = addB t (tabF (F.take k) t) b := by
  obtain ⟨hk, e⟩ := List.getElem?_eq_some_iff.1 h
  rw [List.take_succ_eq_append_getElem hk, e, tabF_snoc]
theorem foldB_bit (F : List Bx) (t m n : Nat) : (F.foldl (addB t) m).testBit n = true ↔ m.testBit n = true ∨ ∃ b ∈ F, inC b t = true ∧ b.2.testBit n = true := by
  induction F generalizing m with
  | nil => simp
  | cons b F ih =>
    rw [List.foldl_cons, ih]
    unfold addB
    split
    · rename_i h
      rw [Nat.testBit_or, Bool.or_eq_true]
      constructor
      · rintro ((h1 | h1) | ⟨c, hc, h2⟩)
        · exact .inl h1
        · exact .inr ⟨b, List.mem_cons_self .., h, h1⟩
        · exact .inr ⟨c, List.mem_cons_of_mem _ hc, h2⟩
      · rintro (h1 | ⟨c, hc, h2⟩)
        · exact .inl (.inl h1)
        · rcases List.mem_cons.1 hc with rfl | hc
          · exact .inl (.inr h2.2)
          · exact .inr ⟨c, hc, h2⟩
    · rename_i h
      constructor
      · rintro (h1 | ⟨c, hc, h2⟩)
        · exact .inl h1
        · exact .inr ⟨c, List.mem_cons_of_mem _ hc, h2⟩
      · rintro (h1 | ⟨c, hc, h2⟩)
        · exact .inl h1
        · rcases List.mem_cons.1 hc with rfl | hc
          · exact absurd h2.1 h
          · exact .inr ⟨c, hc, h2⟩
theorem tabF_bit (F : List Bx) (t n : Nat) : (tabF F t).testBit n = true ↔ ∃ b ∈ F, inC b t = true ∧ b.2.testBit n = true := by
  unfold tabF
  rw [foldB_bit]
  simp
theorem foldB_lt (F : List Bx) (t m : Nat) (hm : m < 2 ^ 32) (h : OkF F) : F.foldl (addB t) m < 2 ^ 32 := by
  induction F generalizing m with
  | nil => exact hm
  | cons b F ih =>
    refine ih _ ?_ (fun c hc => h c (List.mem_cons_of_mem _ hc))
    unfold addB
    split
    · exact Nat.or_lt_two_pow hm (h b (List.mem_cons_self ..)).2
    · exact hm
theorem tabF_lt {F : List Bx} (h : OkF F) (t : Nat) : tabF F t < 2 ^ 32 := foldB_lt F t 0 (by decide) h
/-- two filters that have the same boxes, in whatever order and however often, have the same table -/
theorem tabF_same {F G : List Bx} (h : ∀ b, b ∈ F ↔ b ∈ G) (t : Nat) : tabF F t = tabF G t := by
  apply Nat.eq_of_testBit_eq
  intro n
  rw [Bool.eq_iff_iff, tabF_bit, tabF_bit]
  simp only [h]
theorem OkF.take {F : List Bx} (h : OkF F) (k : Nat) : OkF (F.take k) := fun b hb => h b (List.mem_of_mem_take hb)
end Rm
/- A slice of boxes reads as a list; the contract of filter.Check. -/
namespace Go.Proofs.Ytbodadddcbbjeaa
open Go.RowKit Rm
set_option linter.unusedVariables false

/-- a slice of boxes reads as a list -/
def RdF (w : World) (v : Value) (l : List BoxI) : Prop :=
  ∃ a c, v = .slice a l.length c ∧ l.length ≤ c ∧ (l ≠ [] → ∃ b off, a = some ⟨b, off, none⟩ ∧ b < w.heap.size ∧
    ∀ i p, l[i]? = some p → ∃ sv, w.cell? ⟨b, off + i * 3, none⟩ = some (.int .i64 p.1.1) ∧ w.cell? ⟨b, off + i * 3 + 1, none⟩ = some (.int .i64 p.1.2) ∧ w.cell? ⟨b, off + i * 3 + 2, none⟩ = some sv ∧ Rd2 w sv p.2)
theorem RdF.gr {w w' : World} {v : Value} {l : List BoxI} (h : RdF w v l) (g : Gr w w') : RdF w' v l := by
  obtain ⟨a, c, e, hc, h⟩ := h
  refine ⟨a, c, e, hc, fun hl => ?_⟩
  obtain ⟨b, off, ea, hb, hx⟩ := h hl
  refine ⟨b, off, ea, Nat.lt_of_lt_of_le hb g.le, fun i p hp => ?_⟩
  obtain ⟨sv, h1, h2, h3, h4⟩ := hx i p hp
  exact ⟨sv, (g.cells.1 b _ hb).trans h1, (g.cells.1 b _ hb).trans h2, (g.cells.1 b _ hb).trans h3, h4.gr g⟩
theorem RdF.alloc {w : World} {v : Value} {l : List BoxI} (h : RdF w v l) (o : Obj) : RdF (w.alloc o) v l := h.gr ((Gr.refl w).alloc o)
theorem RdF.nil (w : World) : RdF w (.slice none 0 0) [] := ⟨none, 0, rfl, Nat.le_refl _, fun h => absurd rfl h⟩

theorem rd2_form {w : World} {v : Value} {l : List (Int × Int)} (h : Rd2 w v l) : ∃ a c, v = .slice a l.length c := by
  obtain ⟨a, c, e, _⟩ := h
  exact ⟨a, c, e⟩

theorem fdrop_at {l : List BoxI} {k : Nat} {p : BoxI} (h : l[k]? = some p) : l.drop k = p :: l.drop (k + 1) := by
  obtain ⟨hk, e⟩ := List.getElem?_eq_some_iff.1 h
  rw [List.drop_eq_getElem_cons hk, e]

set_option maxHeartbeats 1000000 in
set_option maxRecDepth 100000 in
theorem fcheck_any (v : Value) (l : List BoxI) (w : World) (hr : RdF w v l) :
    Calls Try.prog 43 #[v] w fun e w' => e = .returned (.int .i64 (chkF l)) ∧ Gr w w' := by
  obtain ⟨a, cp, rfl, hcp, hx⟩ := hr
  by_cases h40 : 40 < l.length
  · have e : chkF l = 2 := by simp [chkF, h40]
    rw [e]
    have hz : (40 : Int) < (l.length : Int) := by omega
    clear hx
    go_enter Try.func43, Try.ntmps43
    go_wp2
    go_ret
    exact ⟨rfl, Gr.refl _⟩
  · have e : chkF l = chkFGo l := by simp [chkF, h40]
    rw [e]
    clear e
    have hz : ¬ (40 : Int) < (l.length : Int) := by omega
    have HX := Lib.hid hx
    clear hx
    go_enter Try.func43, Try.ntmps43
    go_wp2
    go_loopw [12] (fun i wr => ∃ k : Nat, k ≤ l.length ∧ i = .int .i64 k ∧ Hid (chkFGo l = chkFGo (l.drop k)) ∧ Gr w wr) (fun i _ => l.length - (intOf i).toNat)
    case atStart => exact ⟨0, by omega, rfl, rfl, Gr.refl _⟩
    case round =>
      obtain ⟨k, hk, rfl, hh, hg⟩ := hrel
      generalize wr = wo at *
      by_cases hlt : k < l.length
      · obtain ⟨⟨⟨y, n⟩, s⟩, hp⟩ : ∃ p, l[k]? = some p := ⟨_, List.getElem?_eq_getElem hlt⟩
        obtain ⟨b, off, rfl, hb, hcell⟩ := HX.out (by intro e; rw [e] at hlt; simp at hlt)
        obtain ⟨sv, c1, c2, c3, hs⟩ := hcell k _ hp
        rw [← hg.cells.1 b _ hb] at c1 c2 c3
        simp only at c1 c2 c3 hs
        obtain ⟨sa, sc, rfl⟩ := rd2_form hs
        have hs1 := Lib.hid (hs.gr hg)
        have hbr : b < wo.heap.size := Nat.lt_of_lt_of_le hb hg.le
        have HH : Hid (chkFGo l = if chkB ((y, n), s) == 0 then chkFGo (l.drop (k + 1)) else chkB ((y, n), s)) := by
          rw [hh.out, fdrop_at hp]; rfl
        clear hh hcell hs hp
        have hk16 : (k : Int) ≤ 40 := by omega
        cases hc : (chk y n == 0)
        · have hc' := bne_of' hc
          have E1 : Hid (chkFGo l = chk y n) := by
            have := HH.out
            simp only [chkB, hc, Bool.false_eq_true, if_false] at this
            exact this
          clear HH
          go_wp2_with fail
          refine (check_any _ _ _).mono ?_
          rintro e w1 ⟨rfl, g1⟩
          go_wp2_with fail
          go_ret
          exact ⟨by rw [E1.out]; rfl, (hg.alloc _).trans g1⟩
        · have hc' := bne_of hc
          cases hd : (chkS s == 0)
          · have hd' := sbne_of' hd
            have E1 : Hid (chkFGo l = chkS s) := by
              have := HH.out
              simp only [chkB, hc, if_true, hd, Bool.false_eq_true, if_false] at this
              exact this
            clear HH
            go_wp2_with fail
            refine (check_any _ _ _).mono ?_
            rintro e w1 ⟨rfl, g1⟩
            obtain ⟨k1, k2⟩ := g1.cells
            go_wp2_with fail
            refine (scheck_any _ _ _ ((hs1.out.alloc _).gr g1)).mono ?_
            rintro e w2 ⟨rfl, g2⟩
            go_wp2_with fail
            go_ret
            exact ⟨by rw [E1.out]; rfl, ((hg.alloc _).trans g1).trans g2⟩
          · have hd' := sbne_of hd
            have E1 : Hid (chkFGo l = chkFGo (l.drop (k + 1))) := by
              have := HH.out
              simp only [chkB, hc, if_true, hd] at this
              exact this
            clear HH
            go_wp2_with fail
            refine (check_any _ _ _).mono ?_
            rintro e w1 ⟨rfl, g1⟩
            obtain ⟨k1, k2⟩ := g1.cells
            go_wp2_with fail
            refine (scheck_any _ _ _ ((hs1.out.alloc _).gr g1)).mono ?_
            rintro e w2 ⟨rfl, g2⟩
            go_wp2_with fail
            go_roundw
            case rel => exact ⟨k + 1, by omega, by go_num, E1, ((hg.alloc _).trans g1).trans g2⟩
            case measure => simp [intOf]; omega
      · obtain rfl : k = l.length := by omega
        have E1 : Hid (chkFGo l = 0) := by rw [hh.out, List.drop_length]; rfl
        clear hh
        go_wp2
        go_ret
        exact ⟨by rw [E1.out]; rfl, hg⟩
end Go.Proofs.Ytbodadddcbbjeaa
/- The contracts of package filter's has, setOf and tableOf. -/
namespace Rm
open Go Go.RowKit
theorem u64_pow (n : Nat) (h : n ≤ 32) : IntKind.u64.wrap (2 ^ n) = ((2 ^ n : Nat) : Int) := by
  rw [IntKind.wrap_u64]
  have h1 : (2 : Nat) ^ n ≤ 2 ^ 32 := Nat.pow_le_pow_right (by omega) h
  have h2 : ((2 ^ n : Nat) : Int) = (2 : Int) ^ n := by simp
  rw [← h2]
  generalize 2 ^ n = x at *
  omega
theorem bit_eq64 (m n : Nat) (hm : m < 2 ^ 32) (hn : n < 32) : (bits .and .u64 (m : Int) (IntKind.u64.wrap (2 ^ n)) != 0) = m.testBit n := by
  have h1 : (2 : Nat) ^ n < 2 ^ 32 := Nat.pow_lt_pow_right (by omega) hn
  rw [u64_pow n (by omega), u64_and_nat m (2 ^ n) (by omega) (by omega), ← and_pow_bne]
  rw [Bool.eq_iff_iff]
  simp only [bne_iff_ne, ne_eq]
  omega
/-- the numbers from f to t -/
theorem fill_bit (f t i : Nat) (h : f ≤ t) : (2 ^ t - 2 ^ f).testBit i = decide (f ≤ i ∧ i < t) := by
  obtain ⟨d, rfl⟩ : ∃ d, t = f + d := ⟨t - f, by omega⟩
  have e : 2 ^ (f + d) - 2 ^ f = 2 ^ f * (2 ^ d - 1) := by rw [Nat.pow_add, Nat.mul_sub, Nat.mul_one]
  rw [e, Nat.testBit_two_pow_mul, Nat.testBit_two_pow_sub_one, Bool.eq_iff_iff]
  simp
  omega
theorem or_fill (m f t : Nat) (h : f ≤ t) : m ||| (2 ^ t - 2 ^ f) = orTo m f (t - f) := by
  apply Nat.eq_of_testBit_eq
  intro i
  rw [Nat.testBit_or, fill_bit f t i h, orTo_bit]
  congr 2
  have : f + (t - f) = t := by omega
  rw [this]
theorem fill_eq (m f t : Nat) (hm : m < 2 ^ 32) (h : f ≤ t) (ht : t ≤ 32) : bits .or .u64 (m : Int) (IntKind.u64.wrap (IntKind.u64.wrap (2 ^ t) - IntKind.u64.wrap (2 ^ f))) = ((orTo m f (t - f) : Nat) : Int) := by
  have h1 : (2 : Nat) ^ t ≤ 2 ^ 32 := Nat.pow_le_pow_right (by omega) ht
  have h2 : (2 : Nat) ^ f ≤ 2 ^ t := Nat.pow_le_pow_right (by omega) h
  rw [u64_pow t ht, u64_pow f (by omega), ← or_fill m f t h]
  have e : IntKind.u64.wrap (((2 ^ t : Nat) : Int) - ((2 ^ f : Nat) : Int)) = ((2 ^ t - 2 ^ f : Nat) : Int) := by
    rw [IntKind.wrap_u64]
    generalize 2 ^ t = x at *
    generalize 2 ^ f = y at *
    omega
  have h3 : 2 ^ t - 2 ^ f < 18446744073709551616 := Nat.lt_of_le_of_lt (Nat.sub_le _ _) (by omega)
  rw [e, u64_or_nat m _ (by omega) h3]
/-- a table as an array -/
def tArr (T : Nat → Nat) : Array Value := ((List.range 16).map fun i => Value.int .u64 (T i : Nat)).toArray
theorem tArr_size (T : Nat → Nat) : (tArr T).size = 16 := by simp [tArr]
theorem tArr_at (T : Nat → Nat) (i : Nat) (h : i < 16) : (tArr T)[i]? = some (.int .u64 (T i : Nat)) := by simp [tArr, h]
theorem tArr_one (T : Nat → Nat) : (tArr T).all (·.oneCell') = true := by
  simp [tArr, Value.oneCell']
theorem tArr_ext {s t : Nat → Nat} (h : ∀ i, i < 16 → s i = t i) : tArr s = tArr t := by
  unfold tArr
  congr 1
  apply List.map_congr_left
  intro i hi
  rw [h i (List.mem_range.1 hi)]
theorem tArr_set (s : Nat → Nat) (k : Nat) (b : Nat) (hk : k < 16) : (tArr s).setIfInBounds k (.int .u64 (b : Nat)) = tArr (fun i => if i = k then b else s i) := by
  apply Array.ext
  · simp [tArr]
  · intro i h1 h2
    simp [tArr] at h1 h2 ⊢
    by_cases e : i = k
    · subst e; simp
    · have : ¬ k = i := fun h => e h.symm
      simp [this, e]
end Rm
namespace Go.Proofs.Ytbodadddcbbjeaa
open Go.RowKit Rm
set_option linter.unusedVariables false

set_option maxHeartbeats 400000 in
set_option maxRecDepth 100000 in
theorem fhas_any (m n : Nat) (w : World) (hm : m < 2 ^ 32) (hn : n < 32) :
    Calls Try.prog 76 #[.int .u64 m, .int .i64 n] w fun e w' => e = .returned (.bool (m.testBit n)) ∧ w = w' := by
  have h1 : ((n : Nat) : Int) < 32 := by omega
  have HB := Lib.hid (bit_eq64 m n hm hn)
  clear hm
  go_enter Try.func76, Try.ntmps76
  go_wp2
  go_ret
  exact ⟨by rw [← HB.out]; rfl, rfl⟩

set_option maxHeartbeats 1000000 in
set_option maxRecDepth 100000 in
theorem setOf_any (v : Value) (L : List (Nat × Nat)) (w : World) (hr : Rd2 w v (pairs L)) (hv : VF 0 L) :
    Calls Try.prog 73 #[v] w fun e w' => e = .returned (.int .u64 (maskL L : Nat)) ∧ Gr w w' := by
  obtain ⟨a, cp, rfl, hcp, hx⟩ := hr
  rw [pairs_len] at hcp
  rw [pairs_len]
  have HX := Lib.hid hx
  have HV := Lib.hid hv
  have hlen := hv.len16
  have hlen' : (L.length : Int) ≤ 16 := by omega
  clear hx hv
  go_enter Try.func73, Try.ntmps73
  go_wp2
  go_loopw [3, 8] (fun m i wr => ∃ k : Nat, k ≤ L.length ∧ i = .int .i64 k ∧ m = .int .u64 (maskL (L.take k) : Nat) ∧ Gr w wr) (fun _ i _ => L.length - (intOf i).toNat)
  case atStart => exact ⟨0, by omega, rfl, rfl, Gr.refl _⟩
  case round =>
    obtain ⟨k, hk, rfl, rfl, hg⟩ := hrel
    generalize wr = wo at *
    by_cases hlt : k < L.length
    · obtain ⟨⟨f, t⟩, hp⟩ : ∃ p, L[k]? = some p := ⟨_, List.getElem?_eq_getElem hlt⟩
      obtain ⟨b, off, rfl, hb, hcell⟩ := HX.out (by intro e; rw [← pairs_len, e] at hlt; simp at hlt)
      have c1 : w.cell? ⟨b, off + k * 2, none⟩ = some (.int .i64 f) := (hcell k _ (pairs_at hp)).1
      have c2 : w.cell? ⟨b, off + k * 2 + 1, none⟩ = some (.int .i64 t) := (hcell k _ (pairs_at hp)).2
      rw [← hg.cells.1 b _ hb] at c1 c2
      have hbr : b < wo.heap.size := Nat.lt_of_lt_of_le hb hg.le
      have hft : f < t ∧ t ≤ 32 := HV.out.le (f, t) (List.mem_of_getElem? hp)
      have HM := Lib.hid (maskL_take hp)
      have hml : maskL (L.take k) < 2 ^ 32 := maskL_lt (fun p hp => HV.out.le p (List.mem_of_mem_take hp))
      clear hcell
      generalize maskL (L.take k) = m at *
      have HF := Lib.hid (fill_eq m f t hml (by omega) hft.2)
      have hk16 : (k : Int) ≤ 16 := by omega
      have hf32 : (f : Int) < 32 := by omega
      have ht32 : (t : Int) ≤ 32 := by omega
      clear hml
      go_wp2
      go_quiet (fail)
      go_wp2
      go_roundw
      case rel => exact ⟨k + 1, by omega, by go_num, by rw [HM.out, ← HF.out], (hg.alloc _).drewN _⟩
      case measure => simp [intOf]; omega
    · obtain rfl : k = L.length := by omega
      go_wp2
      go_ret
      exact ⟨by rw [List.take_length]; rfl, hg⟩

theorem table_info : (Try.prog.info? 64).map (·.size) = some 16 := by kernel_rfl
/-- the table in the making: below j the box has been added -/
def midT (F : List Bx) (b : Bx) (k j t : Nat) : Nat := if t < j then addB t (tabF (F.take k) t) b else tabF (F.take k) t
/-- where the loops stand -/
def TabAt (w wr : World) (T : Nat → Nat) : Prop := Gr w wr ∧ wr.heap[w.heap.size + 1]? = some (.cells (tArr T) 64 (0, 0)) ∧ wr.heap[w.heap.size]? = some (.cells (tArr fun _ => 0) 64 (0, 0))
theorem TabAt.more {w wr w' : World} {T : Nat → Nat} (h : TabAt w wr T) (g : Gr wr w') : TabAt w w' T :=
  ⟨h.1.trans g, (Below.block g _ (Blk_lt h.2.1)).trans h.2.1, (Below.block g _ (Blk_lt h.2.2)).trans h.2.2⟩
theorem TabAt.set {w wr : World} {T : Nat → Nat} (h : TabAt w wr T) (k m : Nat) (hk : k < 16) : TabAt w (wr.setCell ⟨w.heap.size + 1, k, none⟩ (.int .u64 (m : Nat))) (fun i => if i = k then m else T i) := by
  refine ⟨h.1.setCell (by simp) _, ?_, ?_⟩
  · rw [heap_setCell_same _ _ _ _ _ _ h.2.1, tArr_set _ _ _ hk]
  · rw [heap_setCell_other _ _ _ _ (by simp)]; exact h.2.2
theorem TabAt.ext {w wr : World} {T T' : Nat → Nat} (h : TabAt w wr T) (e : ∀ i, i < 16 → T i = T' i) : TabAt w wr T' := by rw [TabAt, ← tArr_ext e]; exact h
/-- a box alone in its block -/
def Three (w : World) (b : Nat) (y n : Int) (s : Value) : Prop := b < w.heap.size ∧ w.cell? ⟨b, 0, none⟩ = some (.int .i64 y) ∧ w.cell? ⟨b, 1, none⟩ = some (.int .i64 n) ∧ w.cell? ⟨b, 2, none⟩ = some s
theorem Three.gr {w w' : World} {b : Nat} {y n : Int} {s : Value} (h : Three w b y n s) (g : Gr w w') : Three w' b y n s :=
  ⟨Nat.lt_of_lt_of_le h.1 g.le, (g.cells.1 b 0 h.1).trans h.2.1, (g.cells.1 b 1 h.1).trans h.2.2.1, (g.cells.1 b 2 h.1).trans h.2.2.2⟩
theorem Three.new (w : World) (y n : Int) (s : Value) (t : TypeId) : Three (w.alloc (.cells #[.int .i64 y, .int .i64 n, s] t)) w.heap.size y n s := by
  refine ⟨by simp, ?_, ?_, ?_⟩ <;> simp [go_sem]
theorem Three.far {w : World} {b : Nat} {y n : Int} {s : Value} (h : Three w b y n s) {p : Addr} (hp : b ≠ p.block) (u : Value) : Three (w.setCell p u) b y n s := by
  obtain ⟨h1, h2, h3, h4⟩ := h
  refine ⟨by simpa using h1, ?_, ?_, ?_⟩
  · rw [World.cell?_setCell_other _ _ _ _ (fun e => hp (by rw [e]))]; exact h2
  · rw [World.cell?_setCell_other _ _ _ _ (fun e => hp (by rw [e]))]; exact h3
  · rw [World.cell?_setCell_other _ _ _ _ (fun e => hp (by rw [e]))]; exact h4

set_option maxHeartbeats 1000000 in
set_option maxRecDepth 100000 in
theorem tableOf_any (v : Value) (F : List Bx) (w : World) (hr : RdF w v (F.map boxI)) (hF : OkF F) (hl : F.length ≤ 40) :
    Calls Try.prog 58 #[v] w fun e w' => e = .returned (.agg (tArr (tabF F))) ∧ Gr w w' := by
  obtain ⟨a, cp, rfl, hcp, hx⟩ := hr
  rw [List.length_map] at hcp
  rw [List.length_map]
  have HX := Lib.hid hx
  have HF := Lib.hid hF
  have hlen' : (F.length : Int) ≤ 40 := by omega
  clear hx hF
  go_enter Try.func58, Try.ntmps58
  go_wp2
  go_loopw [12] (fun i wr => ∃ k : Nat, k ≤ F.length ∧ i = .int .i64 k ∧ TabAt w wr (tabF (F.take k))) (fun i _ => F.length - (intOf i).toNat)
  case atStart =>
    refine ⟨0, by omega, rfl, ((Gr.refl _).alloc _).alloc _, ?_, ?_⟩
    · rw [heap_alloc2_new]; rfl
    · rw [heap_alloc2_old]; rfl
  case round =>
    obtain ⟨k, hk, rfl, hat⟩ := hrel
    generalize wr = wo at *
    have hg := hat.1
    by_cases hlt : k < F.length
    · obtain ⟨⟨⟨y, n⟩, m⟩, hp⟩ : ∃ p, F[k]? = some p := ⟨_, List.getElem?_eq_getElem hlt⟩
      obtain ⟨b, off, rfl, hb, hcell⟩ := HX.out (by intro e; rw [← List.length_map (f := boxI), e] at hlt; simp at hlt)
      obtain ⟨sv, c1, c2, c3, hs⟩ := hcell k (boxI ((y, n), m)) (by simp [hp])
      rw [← hg.cells.1 b _ hb] at c1 c2 c3
      simp only [boxI] at c1 c2 c3 hs
      obtain ⟨sa, sc, rfl⟩ := rd2_form hs
      have hok : OkB ((y, n), m) := HF.out _ (List.mem_of_getElem? hp)
      have hs1 := Lib.hid (hs.gr hg)
      have hbr : b < wo.heap.size := Nat.lt_of_lt_of_le hb hg.le
      have HT := Lib.hid (fun t => tabF_take hp t)
      have HO := Lib.hid hok
      have HL := Lib.hid (fun t => tabF_lt (HF.out.take k) t)
      have hk16 : (k : Int) ≤ 40 := by omega
      have HA := Lib.hid hat
      have hmk := maskL_canon hok.2
      clear hcell hs hp hat hok
      go_wp2_with fail
      refine (setOf_any _ _ _ (hs1.out.alloc _) (canon_VF m)).mono ?_
      rw [hmk]
      rintro e w1 ⟨rfl, g1⟩
      have T1 := Lib.hid ((Three.new wo y n (.slice sa (pairs (canon m)).length sc) 72).gr g1)
      have A1 := Lib.hid ((HA.out.more ((Gr.refl _).alloc (.cells #[.int .i64 y, .int .i64 n, .slice sa (pairs (canon m)).length sc] 72))).more g1)
      have hbb : wo.heap.size ≠ w.heap.size + 1 := by have := Blk_lt HA.out.2.1; omega
      clear HA hs1 hg c1 c2 c3 g1 hmk
      generalize wo.heap.size = BB at *
      go_wp2_with fail
      go_loopw [19] (fun jj wi => ∃ j : Nat, j ≤ 16 ∧ jj = .int .i64 j ∧ TabAt w wi (midT F ((y, n), m) k j) ∧ Three wi BB y n (.slice sa (pairs (canon m)).length sc)) (fun jj _ => 16 - (intOf jj).toNat)
      case atStart => exact ⟨0, by omega, rfl, A1.out.ext (fun i _ => by simp [midT]), T1.out⟩
      case round =>
        obtain ⟨j, hj, rfl, hti, h3⟩ := hrel
        by_cases hjt : j < 16
        · have hin : hasR (y : Int) (n : Int) (j : Int) = inC ((y, n), m) j := rfl
          have HTI := Lib.hid hti
          have H3 := Lib.hid h3
          obtain ⟨t1, t2, t3, t4⟩ := h3
          have hj16 : (j : Int) < 16 := by omega
          clear hti
          cases hc : inC ((y, n), m) j
          · rw [hc] at hin
            have E : Hid (∀ i, i < 16 → midT F ((y, n), m) k j i = midT F ((y, n), m) k (j + 1) i) := by
              intro i hi
              unfold midT
              by_cases e1 : i < j
              · rw [if_pos e1, if_pos (by omega)]
              · rw [if_neg e1]
                by_cases e2 : i < j + 1
                · obtain rfl : i = j := by omega
                  rw [if_pos e2]
                  simp [addB, hc]
                · rw [if_neg e2]
            clear hc
            go_wp2_with fail
            refine (has_any _ _ _ _).mono ?_
            rw [hin]
            rintro e w2 ⟨rfl, g2⟩
            have A2 := Lib.hid (HTI.out.more g2)
            have T2 := Lib.hid (H3.out.gr g2)
            clear g2
            go_wp2_with fail
            go_roundw
            case rel => exact ⟨j + 1, by omega, by go_num, A2.out.ext E.out, T2.out⟩
            case measure => simp [intOf]; omega
          · rw [hc] at hin
            have E : Hid (∀ i, i < 16 → (if i = j then (tabF (F.take k) j ||| m) else midT F ((y, n), m) k j i) = midT F ((y, n), m) k (j + 1) i) := by
              intro i hi
              unfold midT
              by_cases e1 : i < j
              · rw [if_neg (by omega), if_pos e1, if_pos (by omega)]
              · by_cases e2 : i < j + 1
                · obtain rfl : i = j := by omega
                  rw [if_pos rfl, if_pos e2]
                  simp [addB, hc]
                · rw [if_neg (by omega), if_neg e1, if_neg e2]
            have HU := Lib.hid (u64_or_nat (tabF (F.take k) j) m (by have := HL.out j; omega) (by have := HO.out.2; omega))
            clear hc
            go_wp2_with fail
            refine (has_any _ _ _ _).mono ?_
            rw [hin]
            rintro e w2 ⟨rfl, g2⟩
            have A2 := Lib.hid (HTI.out.more g2)
            have T2 := Lib.hid (H3.out.gr g2)
            have hc : w2.cell? ⟨w.heap.size + 1, j, none⟩ = some (.int .u64 (tabF (F.take k) j : Nat)) := by
              rw [cell_of_row _ _ _ _ _ _ A2.out.2.1, tArr_at _ j hjt]
              simp [midT]
            have hfz := frozen_of_row _ _ j _ _ A2.out.2.1
            clear g2
            go_wp2_with fail
            go_roundw
            case rel => exact ⟨j + 1, by omega, by go_num, by have := (A2.out.set j _ hjt).ext E.out; rw [← HU.out] at this; exact this, T2.out.far hbb _⟩
            case measure => simp [intOf]; omega
        · obtain rfl : j = 16 := by omega
          have HTI := Lib.hid hti
          clear hti
          go_wp2
          go_roundw
          case rel => exact ⟨k + 1, by omega, by go_num, HTI.out.ext (fun i hi => by rw [HT.out i]; simp [midT, hi])⟩
          case measure => simp [intOf]; omega
    · obtain rfl : k = F.length := by omega
      rw [List.take_length] at hat
      have HS : Hid ((Try.prog.info? 64).map (·.size) = some (tArr (tabF F)).size) := by rw [tArr_size]; exact table_info
      have HO : Hid ((tArr fun _ => 0).size = (tArr (tabF F)).size) := by rw [tArr_size, tArr_size]; rfl
      have H1 := Lib.hid (tArr_one (tabF F))
      have HB := Lib.hid hat.2.1
      have HR := Lib.hid hat.2.2
      clear hat
      go_wp2_with (first | (refine wpList_load_row rfl 64 _ rfl (w.heap.size + 1) rfl 64 _ (0, 0) _ HB.out Try.underlying64 rfl HS.out ?_) | (refine wpList_store_row rfl 64 _ _ rfl w.heap.size _ rfl rfl 64 _ HR.out HS.out HO.out H1.out ?_))
      refine bodyPost_ret (v := .agg (tArr (tabF F))) (results_cell_row Try.results58 _ _ w.heap.size 64 _ (0, 0) _ rfl (setRow_heap _ _ _ _ _ _ HR.out) Try.underlying64 rfl HS.out) rfl ⟨rfl, ?_⟩
      exact hg.setRow (Nat.le_refl _) _
end Go.Proofs.Ytbodadddcbbjeaa
/- The contracts of package filter's combine. -/
namespace Rm
open Go Go.RowKit
theorem andNot64 (a b : Nat) (ha : a < 2 ^ 32) (hb : b < 2 ^ 32) : a &&& (18446744073709551615 - b) = lessM a b := by
  apply Nat.eq_of_testBit_eq
  intro i
  rw [lessM_bit a b i hb ha, Nat.testBit_and]
  have e : 18446744073709551615 - b = 2 ^ 64 - (b + 1) := by omega
  rw [e, Nat.testBit_two_pow_sub_succ (by omega)]
  by_cases h : i < 64
  · simp [h]
  · have h2 : a.testBit i = false := Nat.testBit_lt_two_pow (Nat.lt_of_lt_of_le ha (Nat.pow_le_pow_right (by omega) (by omega)))
    simp [h2]
theorem results_row_tmp {P : Program} {fn : Func} {p q : Tmp} {ty : TypeId} (h : fn.results = #[.cell p ty, .tmp q]) (tmps : Array Value) (w : World) (g : Nat) (t : TypeId) (cs : Array Value) (fr : Nat × Nat) (d : TypeDesc) (v : Value)
    (hp : tmps.getD p undef = .pointer (some ⟨g, 0, none⟩)) (hq : tmps.getD q undef = v) (hg : w.heap[g]? = some (.cells cs t fr))
    (hu : P.underlying ty = some d) (hd : (match d with | .struct _ | .array _ _ => true | _ => false) = true) (hi : (P.info? ty).map (·.size) = some cs.size) :
    (results fn tmps).run P w = .ok (.tuple #[.agg cs, v]) w := by
  have hp' : tmps[p]?.getD undef = .pointer (some ⟨g, 0, none⟩) := by simpa using hp
  have hq' : tmps[q]?.getD undef = v := by simpa using hq
  simp [results, h, hp', hq', asAddr, run_loadVar_row w g t ty cs fr d hg hu hd hi]
theorem chkF2_bad {l r : List BoxI} (h : (chkF l == 0) = false) : chkF2 l r = chkF l := by simp [chkF2, h]
theorem chkF2_ok {l r : List BoxI} (h : (chkF l == 0) = true) : chkF2 l r = chkF r := by simp [chkF2, h]
end Rm
namespace Go.Proofs.Ytbodadddcbbjeaa
open Go.RowKit Rm
set_option linter.unusedVariables false

/-- a function of two sets -/
def OpU (f : Nat) (g : Nat → Nat → Nat) : Prop := ∀ (a b : Nat), a < 2 ^ 32 → b < 2 ^ 32 → ∀ w : World, Calls Try.prog f #[.int .u64 a, .int .u64 b] w fun e w' => e = .returned (.int .u64 (g a b : Nat)) ∧ w' = w

theorem uop_join : OpU 39 (fun a b => a ||| b) := by
  intro a b ha hb w
  have e := u64_or_nat a b (by omega) (by omega)
  skip
  have E := Lib.hid e
  clear e
  go_enter Try.func39, Try.ntmps39
  go_wp2
  go_ret
  exact ⟨by rw [← E.out]; rfl, rfl⟩

theorem uop_meet : OpU 38 (fun a b => a &&& b) := by
  intro a b ha hb w
  have e := u64_and_nat a b (by omega) (by omega)
  skip
  have E := Lib.hid e
  clear e
  go_enter Try.func38, Try.ntmps38
  go_wp2
  go_ret
  exact ⟨by rw [← E.out]; rfl, rfl⟩

theorem uop_less : OpU 35 (fun a b => lessM a b) := by
  intro a b ha hb w
  have e := u64_andNot_nat a b (by omega) (by omega)
  rw [andNot64 a b ha hb] at e
  have E := Lib.hid e
  clear e
  go_enter Try.func35, Try.ntmps35
  go_wp2
  go_ret
  exact ⟨by rw [← E.out]; rfl, rfl⟩

theorem uop_same : OpU 62 (fun a b => a ^^^ b) := by
  intro a b ha hb w
  have e := u64_xor_nat a b (by omega) (by omega)
  skip
  have E := Lib.hid e
  clear e
  go_enter Try.func62, Try.ntmps62
  go_wp2
  go_ret
  exact ⟨by rw [← E.out]; rfl, rfl⟩

set_option maxHeartbeats 1000000 in
set_option maxRecDepth 100000 in
theorem fcombine_bad (f : Nat) (v v' : Value) (l r : List BoxI) (w : World) (hl : RdF w v l) (hr : RdF w v' r) (hc : (chkF2 l r == 0) = false) :
    Calls Try.prog 34 #[v, v', .func (.func f) #[] #[]] w fun e w' => e = .returned (.tuple #[.agg (tArr fun _ => 0), .int .i64 (chkF2 l r)]) ∧ Gr w w' := by
  have HS : Hid ((Try.prog.info? 64).map (·.size) = some (tArr fun _ => 0).size) := by rw [tArr_size]; exact table_info
  have H1 := Lib.hid (tArr_one fun _ => 0)
  have HL := Lib.hid hl
  have HR := Lib.hid hr
  clear hl hr
  cases h1 : (chkF l == 0)
  · rw [chkF2_bad h1]
    have h1' := bne_of' h1
    clear hc
    go_enter Try.func34, Try.ntmps34
    go_wp2_with fail
    refine (fcheck_any _ _ _ (HL.out.alloc _)).mono ?_
    rintro e w1 ⟨rfl, g1⟩
    have HB : Hid (w1.heap[w.heap.size]? = some (.cells (tArr fun _ => 0) 64 (0, 0))) := (Below.block g1 _ (by simp)).trans (heap_alloc_new _ _)
    have G1 := ((Gr.refl w).alloc _).trans g1
    clear g1
    go_wp2_with (refine wpList_store_row rfl 64 (.tmp 6) (.tmp 17) rfl w.heap.size (tArr fun _ => 0) rfl rfl 64 _ HB.out HS.out rfl H1.out ?_)
    refine bodyPost_ret (v := .tuple #[.agg (tArr fun _ => 0), .int .i64 (chkF l)]) (results_row_tmp Try.results34 _ _ w.heap.size 64 _ (0, 0) _ _ rfl rfl (setRow_heap _ _ _ _ _ _ HB.out) Try.underlying64 rfl HS.out) rfl ⟨rfl, ?_⟩
    exact G1.setRow (Nat.le_refl _) _
  · rw [chkF2_ok h1] at hc
    rw [chkF2_ok h1]
    have h1' := bne_of h1
    have hc' := bne_of' hc
    go_enter Try.func34, Try.ntmps34
    go_wp2_with fail
    refine (fcheck_any _ _ _ (HL.out.alloc _)).mono ?_
    rintro e w1 ⟨rfl, g1⟩
    have HB : Hid (w1.heap[w.heap.size]? = some (.cells (tArr fun _ => 0) 64 (0, 0))) := (Below.block g1 _ (by simp)).trans (heap_alloc_new _ _)
    have G1 := ((Gr.refl w).alloc _).trans g1
    clear g1
    go_wp2_with fail
    refine (fcheck_any _ _ _ (HR.out.gr G1)).mono ?_
    rintro e w2 ⟨rfl, g2⟩
    have HB2 : Hid (w2.heap[w.heap.size]? = some (.cells (tArr fun _ => 0) 64 (0, 0))) := (Below.block g2 _ (Blk_lt HB.out)).trans HB.out
    have G2 := G1.trans g2
    clear g2 HB
    go_wp2_with (refine wpList_store_row rfl 64 (.tmp 6) (.tmp 23) rfl w.heap.size (tArr fun _ => 0) rfl rfl 64 _ HB2.out HS.out rfl H1.out ?_)
    refine bodyPost_ret (v := .tuple #[.agg (tArr fun _ => 0), .int .i64 (chkF r)]) (results_row_tmp Try.results34 _ _ w.heap.size 64 _ (0, 0) _ _ rfl rfl (setRow_heap _ _ _ _ _ _ HB2.out) Try.underlying64 rfl HS.out) rfl ⟨rfl, ?_⟩
    exact G2.setRow (Nat.le_refl _) _
end Go.Proofs.Ytbodadddcbbjeaa
/- The contract of package filter's combine over valid filters. -/
namespace Go.Proofs.Ytbodadddcbbjeaa
open Go.RowKit Rm
set_option linter.unusedVariables false

/-- two tables, combined below j -/
def midC (g : Nat → Nat → Nat) (T U : Nat → Nat) (j t : Nat) : Nat := if t < j then g (T t) (U t) else T t
/-- where combine's loop stands -/
def CombAt (w wr : World) (b : Nat) (T U : Nat → Nat) : Prop :=
  Gr w wr ∧ w.heap.size < b ∧ wr.heap[w.heap.size]? = some (.cells (tArr fun _ => 0) 64 (0, 0)) ∧ wr.heap[b]? = some (.cells (tArr T) 64 (0, 0)) ∧ wr.heap[b + 1]? = some (.cells (tArr U) 64 (0, 0))
theorem CombAt.set {w wr : World} {b : Nat} {T U : Nat → Nat} (h : CombAt w wr b T U) (k m : Nat) (hk : k < 16) : CombAt w ((wr.setCell ⟨b, k, none⟩ (.int .u64 (m : Nat))).drew) b (fun i => if i = k then m else T i) U := by
  obtain ⟨g, hlt, h0, h1, h2⟩ := h
  refine ⟨(g.setCell (by simp; omega) _).drew, hlt, ?_, ?_, ?_⟩
  · show (wr.setCell _ _).heap[_]? = _
    rw [heap_setCell_other _ _ _ _ (by show w.heap.size ≠ b; omega)]; exact h0
  · show (wr.setCell _ _).heap[_]? = _
    rw [heap_setCell_same _ _ _ _ _ _ h1, tArr_set _ _ _ hk]
  · show (wr.setCell _ _).heap[_]? = _
    rw [heap_setCell_other _ _ _ _ (by simp)]; exact h2
theorem CombAt.ext {w wr : World} {b : Nat} {T T' U : Nat → Nat} (h : CombAt w wr b T U) (e : ∀ i, i < 16 → T i = T' i) : CombAt w wr b T' U := by rw [CombAt, ← tArr_ext e]; exact h
theorem combAt_start {w w4 : World} {A B : Array Value} {T U : Nat → Nat} (g : Gr w w4) (hlt : w.heap.size < w4.heap.size) (h0 : w4.heap[w.heap.size]? = some (.cells (tArr fun _ => 0) 64 (0, 0))) :
    CombAt w ((((w4.alloc (.cells A 64)).alloc (.cells B 64)).setRow w4.heap.size (tArr T)).setRow (w4.heap.size + 1) (tArr U)) w4.heap.size T U := by
  refine ⟨(((g.alloc _).alloc _).setRow g.le _).setRow (by have := g.le; omega) _, hlt, ?_, ?_, ?_⟩
  · rw [setRow_other _ _ _ _ (by omega), setRow_other _ _ _ _ (by omega), Below.heap_alloc _ _ _ (by simp; omega), Below.heap_alloc _ _ _ hlt]; exact h0
  · rw [setRow_other _ _ _ _ (by omega)]
    exact setRow_heap _ _ _ _ _ _ (heap_alloc2_old w4 _ _)
  · refine setRow_heap _ _ B _ _ _ ?_
    rw [setRow_other _ _ _ _ (by omega)]
    exact heap_alloc2_new w4 _ _

end Go.Proofs.Ytbodadddcbbjeaa
