/- Joined: SpanD, SpanE, SpanF, SpanG, SpanH, SpanI, MaskM, SpanO. -/
import Derived.Test.YtbodadddcbbjeaaSpanA
import Derived.Lib.BitFns
import Derived.Laws.AppendOwnNone
import Derived.Laws.Rows
/- The contracts of package span's combine and what stands on it, and of slices.Equal over spans. -/
namespace Rm
open Go Go.RowKit
def chkS2 (l r : List (Int × Int)) : Int := if chkS l == 0 then chkS r else chkS l
theorem sbne_of {a : Int} (h : (a == 0) = true) : (a != 0) = false := by simp [bne, h]
theorem sbne_of' {a : Int} (h : (a == 0) = false) : (a != 0) = true := by simp [bne, h]
theorem chkGo_valid : ∀ (l : List (Int × Int)) (last : Int), -1 ≤ last → chkGo last l = 0 → ∃ L, l = pairs L ∧ VF (last + 1).toNat L
  | [], _, _, _ => ⟨[], rfl, trivial⟩
  | p :: l, last, hl, h => by
    unfold chkGo at h
    split at h
    · omega
    · split at h
      · omega
      · rename_i h1 h2
        obtain ⟨L, rfl, hv⟩ := chkGo_valid l p.2 (by omega) h
        refine ⟨(p.1.toNat, p.2.toNat) :: L, ?_, ?_⟩
        · simp only [pairs, List.map_cons, List.cons.injEq, and_true]
          ext
          · simp only; omega
          · simp only; omega
        · refine ⟨by simp only; omega, by simp only; omega, by simp only; omega, ?_⟩
          have e : (p.2 + 1).toNat = p.2.toNat + 1 := by omega
          rw [← e]
          exact hv
theorem valid_of {l : List (Int × Int)} (h : chkS l = 0) : ∃ L, l = pairs L ∧ VF 0 L := by
  unfold chkS at h
  split at h
  · omega
  · exact chkGo_valid l (-1) (by omega) h
theorem chkGo_of : ∀ (L : List (Nat × Nat)) (lo : Nat) (last : Int), last < lo → VF lo L → chkGo last (pairs L) = 0
  | [], _, _, _, _ => rfl
  | p :: L, lo, last, hl, h => by
    obtain ⟨h1, h2, h3, h4⟩ := h
    show (if (p.1 : Int) < 0 ∨ 32 < (p.2 : Int) ∨ (p.2 : Int) ≤ (p.1 : Int) then 1 else if (p.1 : Int) ≤ last then 3 else chkGo (p.2 : Int) (pairs L)) = 0
    rw [if_neg (by omega), if_neg (by omega)]
    exact chkGo_of L (p.2 + 1) p.2 (by omega) h4
theorem chkS_of {L : List (Nat × Nat)} (h : VF 0 L) : chkS (pairs L) = 0 := by
  unfold chkS
  rw [if_neg (by rw [pairs_len]; have := h.len16; omega)]
  exact chkGo_of L 0 (-1) (by omega) h
theorem chkS2_of {L R : List (Nat × Nat)} (h : VF 0 L) (h' : VF 0 R) : chkS2 (pairs L) (pairs R) = 0 := by simp [chkS2, chkS_of h, chkS_of h']
theorem valid2_of {l r : List (Int × Int)} (h : chkS2 l r = 0) : ∃ L R, l = pairs L ∧ r = pairs R ∧ VF 0 L ∧ VF 0 R := by
  unfold chkS2 at h
  split at h
  · rename_i h0
    obtain ⟨L, e, hv⟩ := valid_of (by simpa using h0)
    obtain ⟨R, e', hv'⟩ := valid_of h
    exact ⟨L, R, e, e', hv, hv'⟩
  · rename_i h0
    rw [h] at h0
    simp at h0
/-- what Less does to masks -/
def lessM (a b : Nat) : Nat := a &&& (4294967295 - b)
theorem lessM_bit (a b i : Nat) (hb : b < 2 ^ 32) (ha : a < 2 ^ 32) : (lessM a b).testBit i = (a.testBit i && !b.testBit i) := by
  unfold lessM
  have e : 4294967295 - b = 2 ^ 32 - (b + 1) := by omega
  rw [e, Nat.testBit_and, Nat.testBit_two_pow_sub_succ hb]
  by_cases h : i < 32
  · simp [h]
  · have h2 : a.testBit i = false := Nat.testBit_lt_two_pow (Nat.lt_of_lt_of_le ha (Nat.pow_le_pow_right (by omega) (by omega)))
    simp [h2]
theorem lessM_lt (a b : Nat) (ha : a < 2 ^ 32) : lessM a b < 2 ^ 32 := Nat.lt_of_le_of_lt Nat.and_le_left ha
end Rm
namespace Go.Proofs.Ytbodadddcbbjeaa
open Go.RowKit Rm
set_option linter.unusedVariables false

/-- a function of two masks -/
def OpIs (f : Nat) (g : Nat → Nat → Nat) : Prop := ∀ (a b : Nat), a < 2 ^ 32 → b < 2 ^ 32 → g a b < 2 ^ 32 ∧ ∀ w : World, Calls Try.prog f #[.int .u32 a, .int .u32 b] w fun e w' => e = .returned (.int .u32 (g a b : Nat)) ∧ w = w'

theorem ListAt.more {w w1 w2 : World} {l : List (Nat × Nat)} {v : Value} (g : Gr w w1) (h : ListAt w1 w2 l v) : ListAt w w2 l v := by
  refine ⟨g.trans h.1, h.2.1, ?_⟩
  rcases h.2.2 with ⟨a, b⟩ | ⟨g', cap, cur, a, b, c⟩
  · exact .inl ⟨a, b⟩
  · exact .inr ⟨g', cap, cur, a, Nat.le_trans g.le b, c⟩
theorem ListAt.rd {w w1 : World} {l : List (Nat × Nat)} {v : Value} (h : ListAt w w1 l v) : Rd2 w1 v (pairs l) := Rd2.own h.2

end Go.Proofs.Ytbodadddcbbjeaa
/- The contracts of math/bits.OnesCount32 and of span.Count, Has, Within. -/
namespace Rm
open Go Go.RowKit
/-- how many bits of a number are set, below the k-th -/
def popTo (m : Nat) : Nat → Nat
  | 0 => 0
  | k + 1 => popTo m k + (m.testBit k).toNat
theorem popTo_le (m k : Nat) : popTo m k ≤ k := by
  induction k with
  | zero => exact Nat.le_refl _
  | succ k ih => have := Bool.toNat_le (m.testBit k); simp only [popTo]; omega
theorem popTo_congr {m m' k : Nat} (h : ∀ i, i < k → m.testBit i = m'.testBit i) : popTo m k = popTo m' k := by
  induction k with
  | zero => rfl
  | succ k ih => simp only [popTo]; rw [ih (fun i hi => h i (by omega)), h k (by omega)]
theorem popTo_add (m j k : Nat) : popTo m (j + k) = popTo m j + popTo (m / 2 ^ j) k := by
  induction k with
  | zero => rfl
  | succ k ih =>
    show popTo m (j + k) + (m.testBit (j + k)).toNat = popTo m j + (popTo (m / 2 ^ j) k + ((m / 2 ^ j).testBit k).toNat)
    rw [ih, Nat.testBit_div_two_pow, Nat.add_comm k j]
    omega
theorem popTo_mod (m : Nat) : popTo (m % 256) 8 = popTo m 8 := by
  apply popTo_congr
  intro i hi
  have e : m % 256 = m % 2 ^ 8 := rfl
  rw [e, Nat.testBit_mod_two_pow]
  simp [hi]
def popTab : Bool := (List.range 256).all fun n => Lib.pop8 (n : Int) == ((popTo n 8 : Nat) : Int)
theorem popTab_true : popTab = true := by decide +kernel
theorem pop8_tab (n : Nat) (h : n < 256) : Lib.pop8 (n : Int) = ((popTo n 8 : Nat) : Int) := by
  have H := popTab_true
  unfold popTab at H
  rw [List.all_eq_true] at H
  have := H n (List.mem_range.2 h)
  simpa only [beq_iff_eq] using this
theorem tab_eq (b : Nat) (h : b < Lib.pop8tab.size) (hb : b < 256) : (((Lib.pop8tab[b]'h).toNat : Nat) : Int) = ((popTo b 8 : Nat) : Int) := by
  rw [← pop8_tab b hb]
  unfold Lib.pop8
  simp [h]
/-- the elements of a set -/
def popc (m : Nat) : Nat := popTo m 32
theorem popc_le (m : Nat) : popc m ≤ 32 := popTo_le m 32
theorem popc_bytes (x : Nat) : popc x = popTo (x % 256) 8 + popTo (x / 256 % 256) 8 + popTo (x / 65536 % 256) 8 + popTo (x / 16777216 % 256) 8 := by
  unfold popc
  rw [popTo_mod, popTo_mod, popTo_mod, popTo_mod]
  have e1 : popTo x 32 = popTo x 8 + popTo (x / 2 ^ 8) 24 := popTo_add x 8 24
  have e2 : popTo (x / 2 ^ 8) 24 = popTo (x / 2 ^ 8) 8 + popTo (x / 2 ^ 8 / 2 ^ 8) 16 := popTo_add (x / 2 ^ 8) 8 16
  have e3 : popTo (x / 2 ^ 8 / 2 ^ 8) 16 = popTo (x / 2 ^ 8 / 2 ^ 8) 8 + popTo (x / 2 ^ 8 / 2 ^ 8 / 2 ^ 8) 8 := popTo_add (x / 2 ^ 8 / 2 ^ 8) 8 8
  have d1 : x / 2 ^ 8 = x / 256 := rfl
  have d2 : x / 256 / 2 ^ 8 = x / 65536 := by rw [Nat.div_div_eq_div_mul]
  have d3 : x / 65536 / 2 ^ 8 = x / 16777216 := by rw [Nat.div_div_eq_div_mul]
  rw [d1] at e1 e2 e3
  rw [d2] at e2 e3
  rw [d3] at e3
  omega
theorem and255 (a : Nat) (h : a < 2 ^ 32) : bits .and .u32 (a : Int) 255 = ((a % 256 : Nat) : Int) := by
  have e := u32_and_nat a 255 h (by decide)
  rw [show a &&& 255 = a % 256 from Nat.and_two_pow_sub_one_eq_mod a 8] at e
  exact e
end Rm
namespace Go.Proofs.Ytbodadddcbbjeaa
open Go.RowKit Rm
set_option linter.unusedVariables false

/-! span.Count -/
/-! span.Has -/
/-- is an integer a bit of a mask? -/
def bitB (m : Nat) (n : Int) : Bool := numB n && m.testBit n.toNat
/-! span.Within -/
/-- is a mask within another one? -/
def subM (a b : Nat) : Bool := lessM a b == 0
theorem subM_eq (a b : Nat) (ha : a < 2 ^ 32) (hb : b < 2 ^ 32) : (bits .andNot .u32 (a : Int) (b : Int) == 0) = subM a b := by
  rw [u32_andNot_nat a b ha hb, Bool.eq_iff_iff]
  simp only [subM, lessM, beq_iff_eq]
  omega
end Go.Proofs.Ytbodadddcbbjeaa
/- The contracts of slices.Equal over spans, and of the statements' own sets. -/
namespace Go.Proofs.Ytbodadddcbbjeaa
open Go.RowKit Rm
set_option linter.unusedVariables false

theorem take_snoc_eq {l r : List (Int × Int)} {k : Nat} {p : Int × Int} (h : l.take k = r.take k) (hl : l[k]? = some p) (hr : r[k]? = some p) : l.take (k + 1) = r.take (k + 1) := by
  obtain ⟨h1, e1⟩ := List.getElem?_eq_some_iff.1 hl
  obtain ⟨h2, e2⟩ := List.getElem?_eq_some_iff.1 hr
  rw [List.take_succ_eq_append_getElem h1, List.take_succ_eq_append_getElem h2, h, e1, e2]

set_option maxHeartbeats 1000000 in
set_option maxRecDepth 100000 in
theorem sequal_any (v v' : Value) (l r : List (Int × Int)) (w : World) (hl : Rd2 w v l) (hr : Rd2 w v' r) (hb : l.length < 1000000) :
    Calls Try.prog 30 #[v, v'] w fun e w' => e = .returned (.bool (decide (l = r))) ∧ Gr w w' := by
  obtain ⟨a, cp, rfl, hcp, hx⟩ := hl
  obtain ⟨a', cp', rfl, hcp', hx'⟩ := hr
  have HX := Lib.hid hx
  have HX' := Lib.hid hx'
  clear hx hx'
  have hb' : (l.length : Int) < 1000000 := by omega
  by_cases hlen : l.length = r.length
  · have hne : ((l.length : Int) != (r.length : Int)) = false := by simp; omega
    go_enter Try.func30, Try.ntmps30
    have HLen := Lib.hid hlen
    clear hlen
    go_wp2
    go_loopw [13] (fun i wr => ∃ k : Nat, k ≤ l.length ∧ i = .int .i64 k ∧ Hid (l.take k = r.take k) ∧ Gr w wr) (fun i _ => l.length - (intOf i).toNat)
    case atStart => exact ⟨0, by omega, rfl, rfl, Gr.refl _⟩
    case round =>
      obtain ⟨k, hk, rfl, hh, hg⟩ := hrel
      by_cases hlt : k < l.length
      · have hlt' : k < r.length := by have := HLen.out; omega
        obtain ⟨⟨f, t⟩, hp⟩ : ∃ p, l[k]? = some p := ⟨_, List.getElem?_eq_getElem hlt⟩
        obtain ⟨⟨f', t'⟩, hp'⟩ : ∃ p, r[k]? = some p := ⟨_, List.getElem?_eq_getElem hlt'⟩
        obtain ⟨b, off, rfl, hbb, hcell⟩ := HX.out (by intro e; rw [e] at hlt; simp at hlt)
        obtain ⟨b', off', rfl, hbb', hcell'⟩ := HX'.out (by intro e; rw [e] at hlt'; simp at hlt')
        obtain ⟨c1, c2⟩ := hcell k _ hp
        obtain ⟨d1, d2⟩ := hcell' k _ hp'
        rw [← hg.cells.1 _ _ hbb] at c1 c2
        rw [← hg.cells.1 _ _ hbb'] at d1 d2
        simp only at c1 c2 d1 d2
        clear hcell hcell'
        have hki : (k : Int) < (l.length : Int) := by omega
        have hki' : (k : Int) < (r.length : Int) := by omega
        by_cases q : f = f' ∧ t = t'
        · obtain ⟨rfl, rfl⟩ := q
          have HT := Lib.hid (take_snoc_eq hh.out hp hp')
          clear hh
          go_wp2
          go_quiet (fail)
          go_wp2
          go_roundw
          case rel => exact ⟨k + 1, by omega, by go_num, HT, hg.drewN _⟩
          case measure => simp [intOf]; omega
        · have E : Hid (decide (l = r) = false) := by
            refine decide_eq_false (fun e => q ?_)
            rw [e, hp'] at hp
            simp at hp
            exact ⟨hp.1.symm, hp.2.symm⟩
          clear hh
          by_cases q1 : f = f'
          · subst q1
            have q2 : ¬ t = t' := fun e => q ⟨rfl, e⟩
            clear q
            go_wp2
            go_quiet (fail)
            go_wp2
            go_ret
            exact ⟨by rw [E.out]; rfl, hg.drewN _⟩
          · clear q
            go_wp2
            go_quiet (fail)
            go_wp2
            go_ret
            exact ⟨by rw [E.out]; rfl, hg.drewN _⟩
      · obtain rfl : k = l.length := by omega
        have E : Hid (decide (l = r) = true) := by
          refine decide_eq_true ?_
          have := hh.out
          rw [List.take_length, HLen.out, List.take_length] at this
          exact this
        clear hh
        go_wp2
        go_ret
        exact ⟨by rw [E.out]; rfl, hg⟩
  · have E : decide (l = r) = false := decide_eq_false (fun e => hlen (by rw [e]))
    rw [E]
    have hne : ((l.length : Int) != (r.length : Int)) = true := by simp; omega
    clear E
    go_enter Try.func30, Try.ntmps30
    go_wp2
    go_ret
    exact ⟨rfl, Gr.refl _⟩
end Go.Proofs.Ytbodadddcbbjeaa
/- The contracts of the document's own sets: Told, and the statements' spans and every. -/
namespace Rm
open Go Go.RowKit
/-- a set of numbers, one by one, as an array of bools -/
def bArr (s : Nat → Bool) : Array Value := ((List.range 32).map fun i => Value.bool (s i)).toArray
theorem bArr_size (s : Nat → Bool) : (bArr s).size = 32 := by simp [bArr]
theorem bArr_at (s : Nat → Bool) (i : Nat) (h : i < 32) : (bArr s)[i]? = some (.bool (s i)) := by simp [bArr, h]
theorem told_yes {s : Nat → Bool} {n : Nat} (hn : n < 32) (h : s n = true) : toldTo s (32 - n) = pre (toldTo s (32 - (n + 1))) n := by
  have e : 32 - n = (32 - (n + 1)) + 1 := by omega
  have e2 : 31 - (32 - (n + 1)) = n := by omega
  rw [e]
  simp only [toldTo]
  rw [e2, h]
  rfl
theorem told_no {s : Nat → Bool} {n : Nat} (hn : n < 32) (h : s n = false) : toldTo s (32 - n) = toldTo s (32 - (n + 1)) := by
  have e : 32 - n = (32 - (n + 1)) + 1 := by omega
  have e2 : 31 - (32 - (n + 1)) = n := by omega
  rw [e]
  simp only [toldTo]
  rw [e2, h]
  simp
theorem Blk_lt {w : World} {g : Nat} {o : Obj} (h : w.heap[g]? = some o) : g < w.heap.size := by
  rcases Nat.lt_or_ge g w.heap.size with c | c
  · exact c
  · rw [Array.getElem?_eq_none c] at h; cases h
theorem flat_set0 (l : List (Int × Int)) (a b a' : Int) : (flat ((a, b) :: l)).set 0 (.int .i64 a') = flat ((a', b) :: l) := rfl
end Rm
namespace Go.Proofs.Ytbodadddcbbjeaa
open Go.RowKit Rm
set_option linter.unusedVariables false

end Go.Proofs.Ytbodadddcbbjeaa
/- The contracts of the statements' spans and every. -/
namespace Rm
open Go Go.RowKit
/-- the bits below the k-th -/
def cut (m k i : Nat) : Bool := decide (i < k) && m.testBit i
theorem bArr_ext {s t : Nat → Bool} (h : ∀ i, i < 32 → s i = t i) : bArr s = bArr t := by
  unfold bArr
  congr 1
  apply List.map_congr_left
  intro i hi
  rw [h i (List.mem_range.1 hi)]
theorem bArr_set (s : Nat → Bool) (k : Nat) (b : Bool) (hk : k < 32) : (bArr s).setIfInBounds k (.bool b) = bArr (fun i => if i = k then b else s i) := by
  apply Array.ext
  · simp [bArr]
  · intro i h1 h2
    simp [bArr] at h1 h2 ⊢
    by_cases e : i = k
    · subst e; simp
    · have : ¬ k = i := fun h => e h.symm
      simp [this, e]
theorem cut_step (m k : Nat) (i : Nat) : (if i = k then m.testBit k else cut m k i) = cut m (k + 1) i := by
  unfold cut
  by_cases e : i = k
  · subst e; simp
  · have : (i < k + 1) ↔ i < k := by omega
    simp [e, this]
theorem listTo_congr {s t : Nat → Bool} : ∀ n, (∀ i, i < n → s i = t i) → listTo s n = listTo t n
  | 0, _ => rfl
  | n + 1, h => by simp only [listTo]; rw [listTo_congr n (fun i hi => h i (by omega)), h n (by omega)]
theorem cut_list (m : Nat) : listTo (cut m 32) 32 = canon m := listTo_congr 32 (fun i hi => by simp [cut, hi])
theorem bit1_eq (m k : Nat) (hm : m < 2 ^ 32) : (bits .and .u32 ((m : Int) / 2 ^ k) 1 == 1) = m.testBit k := by
  have e0 : ((m : Int) / 2 ^ k) = ((m / 2 ^ k : Nat) : Int) := by simp
  have hlt : m / 2 ^ k < 2 ^ 32 := Nat.lt_of_le_of_lt (Nat.div_le_self _ _) hm
  have e := u32_and_nat (m / 2 ^ k) 1 hlt (by decide)
  rw [e0]
  rw [show (((1 : Nat) : Int)) = 1 from rfl] at e
  rw [e, Nat.and_one_is_mod]
  rw [Nat.testBit_eq_decide_div_mod_eq, Bool.eq_iff_iff]
  simp only [beq_iff_eq, decide_eq_true_eq]
  omega
end Rm
namespace Go.Proofs.Ytbodadddcbbjeaa
open Go.RowKit Rm
set_option linter.unusedVariables false

end Go.Proofs.Ytbodadddcbbjeaa
/- Package span by masks: what each function does to sets that are told by 32 bits. -/
namespace Go.Proofs.Ytbodadddcbbjeaa
open Go.RowKit Rm
set_option linter.unusedVariables false

/-- a slice that is the set of a mask -/
def MS (w : World) (v : Value) (a : Nat) : Prop := Rd2 w v (pairs (canon a)) ∧ a < 2 ^ 32
theorem MS.gr {w w' : World} {v : Value} {a : Nat} (h : MS w v a) (g : Gr w w') : MS w' v a := ⟨h.1.gr g, h.2⟩
theorem MS.alloc {w : World} {v : Value} {a : Nat} (h : MS w v a) (o : Obj) : MS (w.alloc o) v a := ⟨h.1.alloc o, h.2⟩
theorem ListAt.ms {w w1 : World} {a : Nat} {v : Value} (h : ListAt w w1 (canon a) v) (ha : a < 2 ^ 32) : MS w1 v a := ⟨h.rd, ha⟩

/-- are two masks one? -/
def eqM (a b : Nat) : Bool := decide (a = b)
theorem eqM_true {a b : Nat} (h : a = b) : eqM a b = true := by simp [eqM, h]
theorem canon_len (a : Nat) : (pairs (canon a)).length < 1000000 := by rw [pairs_len]; have := (canon_VF a).len16; omega
theorem mequal {a b : Nat} {v v' : Value} {w : World} (h : MS w v a) (h' : MS w v' b) : Calls Try.prog 30 #[v, v'] w fun e w' => e = .returned (.bool (eqM a b)) ∧ Gr w w' := by
  have hq : decide (pairs (canon a) = pairs (canon b)) = eqM a b := by
    unfold eqM
    rw [Bool.eq_iff_iff]
    simp only [decide_eq_true_eq]
    refine ⟨fun e => ?_, fun e => by rw [e]⟩
    have e' := pairs_inj e
    rw [← maskL_canon h.2, ← maskL_canon h'.2, e']
  have := sequal_any v v' _ _ w h.1 h'.1 (canon_len a)
  rw [hq] at this
  exact this

/-- a set that is written out: one interval, two of them -/
theorem lit1 (w : World) (f t : Nat) (T : TypeId) (a : Nat) (hc : canon a = [(f, t)]) (ha : a < 2 ^ 32) : MS (w.alloc (.cells #[.int .i64 f, .int .i64 t] T)) (.slice (some ⟨w.heap.size, 0, none⟩) 1 1) a := by
  refine ⟨?_, ha⟩
  rw [hc]
  refine ⟨_, 1, rfl, by simp [pairs], fun _ => ⟨w.heap.size, 0, rfl, by simp, ?_⟩⟩
  intro i p hp
  cases i with
  | zero => simp [pairs] at hp; subst hp; simp [go_sem]
  | succ i => simp [pairs] at hp
theorem lit1b (w : World) (o : Obj) (f t : Nat) (T : TypeId) (a : Nat) (hc : canon a = [(f, t)]) (ha : a < 2 ^ 32) : MS ((w.alloc o).alloc (.cells #[.int .i64 f, .int .i64 t] T)) (.slice (some ⟨w.heap.size + 1, 0, none⟩) 1 1) a := by
  have h := lit1 (w.alloc o) f t T a hc ha
  rw [World.size_alloc] at h
  exact h
theorem lit2 (w : World) (f t f' t' : Nat) (T : TypeId) (a : Nat) (hc : canon a = [(f, t), (f', t')]) (ha : a < 2 ^ 32) : MS (w.alloc (.cells #[.int .i64 f, .int .i64 t, .int .i64 f', .int .i64 t'] T)) (.slice (some ⟨w.heap.size, 0, none⟩) 2 2) a := by
  refine ⟨?_, ha⟩
  rw [hc]
  refine ⟨_, 2, rfl, by simp [pairs], fun _ => ⟨w.heap.size, 0, rfl, by simp, ?_⟩⟩
  intro i p hp
  match i with
  | 0 => simp [pairs] at hp; subst hp; simp [go_sem]
  | 1 => simp [pairs] at hp; subst hp; simp [go_sem]
  | i + 2 => simp [pairs] at hp

/-- a row of zeros -/
theorem zeros_at (w : World) (n : Nat) (T : TypeId) (k : Nat) (h : k < n) : (w.alloc (.cells (Array.replicate n (.int .i64 0)) T)).cell? ⟨w.heap.size, k, none⟩ = some (.int .i64 0) := by
  rw [cell_of_row _ _ _ _ _ _ (heap_alloc_new w _)]
  simp [h]
theorem of_u32 {a : Int} (h : (Lit.int .u32 a).wf = true) : ∃ m : Nat, a = m ∧ m < 2 ^ 32 := by
  have hb : 0 ≤ a ∧ a < 4294967296 := by
    simp [Lit.wf, IntKind.min, IntKind.max, IntKind.signed, IntKind.bits] at h
    omega
  exact ⟨a.toNat, by omega, by omega⟩
end Go.Proofs.Ytbodadddcbbjeaa
/- The plain mathematics of masks: Boole, De Morgan, parts, counts. -/
namespace Go.Proofs.Ytbodadddcbbjeaa
open Rm

theorem bit_big {a i : Nat} (h : a < 2 ^ 32) (hi : ¬ i < 32) : a.testBit i = false :=
  Nat.testBit_lt_two_pow (Nat.lt_of_lt_of_le h (Nat.pow_le_pow_right (by omega) (by omega)))
theorem mask_ext {a b : Nat} (ha : a < 2 ^ 32) (hb : b < 2 ^ 32) (h : ∀ i, i < 32 → a.testBit i = b.testBit i) : a = b := by
  apply Nat.eq_of_testBit_eq
  intro i
  by_cases hi : i < 32
  · exact h i hi
  · rw [bit_big ha hi, bit_big hb hi]
theorem or_lt {a b : Nat} (ha : a < 2 ^ 32) (hb : b < 2 ^ 32) : a ||| b < 2 ^ 32 := Nat.or_lt_two_pow ha hb
theorem and_lt {a b : Nat} (ha : a < 2 ^ 32) : a &&& b < 2 ^ 32 := Nat.lt_of_le_of_lt Nat.and_le_left ha
theorem full_lt : 4294967295 < 2 ^ 32 := by decide
theorem full_bit (i : Nat) (h : i < 32) : (4294967295 : Nat).testBit i = true := by
  have e : (4294967295 : Nat) = 2 ^ 32 - 1 := by decide
  rw [e, Nat.testBit_two_pow_sub_one]
  simpa using h
theorem m_absorb (a b : Nat) : a ||| (a &&& b) = a := by
  apply Nat.eq_of_testBit_eq; intro i; simp only [Nat.testBit_or, Nat.testBit_and]; cases a.testBit i <;> simp
theorem m_absorb' (a b : Nat) : a &&& (a ||| b) = a := by
  apply Nat.eq_of_testBit_eq; intro i; simp only [Nat.testBit_or, Nat.testBit_and]; cases a.testBit i <;> simp
theorem m_distrib (a b c : Nat) : a &&& (b ||| c) = (a &&& b) ||| (a &&& c) := by
  apply Nat.eq_of_testBit_eq; intro i; simp only [Nat.testBit_or, Nat.testBit_and]; cases a.testBit i <;> simp
theorem m_morgan {a b : Nat} (ha : a < 2 ^ 32) (hb : b < 2 ^ 32) : lessM 4294967295 (a &&& b) = lessM 4294967295 a ||| lessM 4294967295 b := by
  refine mask_ext (lessM_lt _ _ full_lt) (or_lt (lessM_lt _ _ full_lt) (lessM_lt _ _ full_lt)) fun i hi => ?_
  rw [Nat.testBit_or, lessM_bit _ _ _ (and_lt ha) full_lt, lessM_bit _ _ _ ha full_lt, lessM_bit _ _ _ hb full_lt, Nat.testBit_and]
  cases a.testBit i <;> cases b.testBit i <;> simp
theorem m_twice {a : Nat} (ha : a < 2 ^ 32) : lessM 4294967295 (lessM 4294967295 a) = a := by
  refine mask_ext (lessM_lt _ _ full_lt) ha fun i hi => ?_
  rw [lessM_bit _ _ _ (lessM_lt _ _ full_lt) full_lt, lessM_bit _ _ _ ha full_lt, full_bit i hi]
  cases a.testBit i <;> rfl
theorem m_less {a b : Nat} (ha : a < 2 ^ 32) (hb : b < 2 ^ 32) : lessM a b = a &&& lessM 4294967295 b := by
  refine mask_ext (lessM_lt _ _ ha) (and_lt ha) fun i hi => ?_
  rw [Nat.testBit_and, lessM_bit _ _ _ hb ha, lessM_bit _ _ _ hb full_lt, full_bit i hi]
  cases a.testBit i <;> simp
theorem m_whole {a b : Nat} (ha : a < 2 ^ 32) (hb : b < 2 ^ 32) : (a &&& b) ||| lessM a b = a := by
  refine mask_ext (or_lt (and_lt ha) (lessM_lt _ _ ha)) ha fun i hi => ?_
  rw [Nat.testBit_or, Nat.testBit_and, lessM_bit _ _ _ hb ha]
  cases a.testBit i <;> cases b.testBit i <;> rfl
theorem m_none {a b : Nat} (ha : a < 2 ^ 32) (hb : b < 2 ^ 32) : (a &&& b) &&& lessM a b = 0 := by
  refine mask_ext (and_lt (and_lt ha)) (by decide) fun i hi => ?_
  rw [Nat.testBit_and, Nat.testBit_and, lessM_bit _ _ _ hb ha, Nat.zero_testBit]
  cases a.testBit i <;> cases b.testBit i <;> rfl
theorem popTo_incl (a b : Nat) : ∀ k, popTo a k + popTo b k = popTo (a ||| b) k + popTo (a &&& b) k
  | 0 => rfl
  | k + 1 => by
    have ih := popTo_incl a b k
    simp only [popTo, Nat.testBit_or, Nat.testBit_and]
    cases a.testBit k <;> cases b.testBit k <;> simp <;> omega
theorem popTo_parts {a b : Nat} (ha : a < 2 ^ 32) (hb : b < 2 ^ 32) : ∀ k, popTo (a &&& b) k + popTo (lessM a b) k = popTo a k
  | 0 => rfl
  | k + 1 => by
    have ih := popTo_parts ha hb k
    simp only [popTo, Nat.testBit_and, lessM_bit _ _ _ hb ha]
    cases a.testBit k <;> cases b.testBit k <;> simp <;> omega
theorem sub_iff {a b : Nat} (ha : a < 2 ^ 32) (hb : b < 2 ^ 32) : subM a b = true ↔ ∀ i, i < 32 → a.testBit i = true → b.testBit i = true := by
  unfold subM
  simp only [beq_iff_eq]
  constructor
  · intro h i hi hai
    have e := lessM_bit a b i hb ha
    rw [h, Nat.zero_testBit, hai] at e
    cases hbi : b.testBit i
    · rw [hbi] at e; cases e
    · rfl
  · intro h
    refine mask_ext (lessM_lt _ _ ha) (by decide) fun i hi => ?_
    rw [lessM_bit _ _ _ hb ha, Nat.zero_testBit]
    cases hai : a.testBit i
    · rfl
    · rw [h i hi hai]; rfl
theorem sub_trans {a b c : Nat} (ha : a < 2 ^ 32) (hb : b < 2 ^ 32) (hc : c < 2 ^ 32) (h1 : subM a b = true) (h2 : subM b c = true) : subM a c = true :=
  (sub_iff ha hc).2 fun i hi h => (sub_iff hb hc).1 h2 i hi ((sub_iff ha hb).1 h1 i hi h)
theorem sub_anti {a b : Nat} (ha : a < 2 ^ 32) (hb : b < 2 ^ 32) : (subM a b && subM b a) = eqM a b := by
  rw [Bool.eq_iff_iff]
  simp only [Bool.and_eq_true, eqM, decide_eq_true_eq]
  constructor
  · rintro ⟨h1, h2⟩
    refine mask_ext ha hb fun i hi => ?_
    rw [Bool.eq_iff_iff]
    exact ⟨(sub_iff ha hb).1 h1 i hi, (sub_iff hb ha).1 h2 i hi⟩
  · rintro rfl
    exact ⟨(sub_iff ha ha).2 fun _ _ h => h, (sub_iff ha ha).2 fun _ _ h => h⟩
theorem sub_join {a b : Nat} (ha : a < 2 ^ 32) (hb : b < 2 ^ 32) : subM a b = eqM (a ||| b) b := by
  rw [Bool.eq_iff_iff, sub_iff ha hb]
  simp only [eqM, decide_eq_true_eq]
  constructor
  · intro h
    refine mask_ext (or_lt ha hb) hb fun i hi => ?_
    rw [Nat.testBit_or]
    cases hai : a.testBit i
    · simp
    · rw [h i hi hai]; rfl
  · intro h i hi hai
    rw [← h, Nat.testBit_or, hai]
    rfl
end Go.Proofs.Ytbodadddcbbjeaa
/- The contract of span.Of; slices of integers. -/
namespace Rm
open Go Go.RowKit
/-- the set of the integers of a list -/
def maskI (l : List Int) : Nat := l.foldl (fun m x => m ||| 2 ^ x.toNat) 0
theorem maskI_take {l : List Int} {k : Nat} {x : Int} (h : l[k]? = some x) : maskI (l.take (k + 1)) = maskI (l.take k) ||| 2 ^ x.toNat := by
  obtain ⟨hk, e⟩ := List.getElem?_eq_some_iff.1 h
  rw [List.take_succ_eq_append_getElem hk, e]
  simp [maskI]
theorem all_take {l : List Int} {k : Nat} {x : Int} (h : l[k]? = some x) (p : Int → Bool) : (l.take (k + 1)).all p = ((l.take k).all p && p x) := by
  obtain ⟨hk, e⟩ := List.getElem?_eq_some_iff.1 h
  rw [List.take_succ_eq_append_getElem hk, e]
  simp
theorem all_not {l : List Int} {k : Nat} {x : Int} (h : l[k]? = some x) (p : Int → Bool) (hp : p x = false) : l.all p = false := by
  cases ha : l.all p
  · rfl
  · rw [List.all_eq_true] at ha
    rw [ha x (List.mem_of_getElem? h)] at hp
    cases hp
theorem foldI_lt (l : List Int) (m : Nat) (hm : m < 2 ^ 32) (h : l.all numB = true) : l.foldl (fun m x => m ||| 2 ^ x.toNat) m < 2 ^ 32 := by
  induction l generalizing m with
  | nil => exact hm
  | cons x l ih =>
    simp only [List.all_cons, Bool.and_eq_true] at h
    refine ih _ (Nat.or_lt_two_pow hm (Nat.pow_lt_pow_right (by omega) ?_)) h.2
    have := h.1
    simp [numB] at this
    omega
theorem maskI_lt {l : List Int} (h : l.all numB = true) : maskI l < 2 ^ 32 := foldI_lt l 0 (by decide) h
end Rm
namespace Go.Proofs.Ytbodadddcbbjeaa
open Go.RowKit Rm
set_option linter.unusedVariables false
/-- a slice of integers reads as a list -/
def Rd1 (w : World) (v : Value) (l : List Int) : Prop :=
  ∃ a c, v = .slice a l.length c ∧ l.length ≤ c ∧ (l ≠ [] → ∃ b off, a = some ⟨b, off, none⟩ ∧ b < w.heap.size ∧ ∀ i x, l[i]? = some x → w.cell? ⟨b, off + i, none⟩ = some (.int .i64 x))
theorem Rd1.gr {w w' : World} {v : Value} {l : List Int} (h : Rd1 w v l) (g : Gr w w') : Rd1 w' v l := by
  obtain ⟨a, c, e, hc, h⟩ := h
  refine ⟨a, c, e, hc, fun hl => ?_⟩
  obtain ⟨b, off, ea, hb, hx⟩ := h hl
  exact ⟨b, off, ea, Nat.lt_of_lt_of_le hb g.le, fun i p hp => (g.cells.1 b _ hb).trans (hx i p hp)⟩
theorem Rd1.alloc {w : World} {v : Value} {l : List Int} (h : Rd1 w v l) (o : Obj) : Rd1 (w.alloc o) v l := h.gr ((Gr.refl w).alloc o)

set_option maxHeartbeats 400000 in
set_option maxRecDepth 100000 in
theorem of_large (v : Value) (l : List Int) (w : World) (hr : Rd1 w v l) (hlen : 400 < l.length) :
    Calls Try.prog 18 #[v] w fun e w' => e = .returned (.tuple #[.slice none 0 0, .int .i64 2]) ∧ Gr w w' := by
  obtain ⟨a, cp, rfl, hcp, hx⟩ := hr
  have hlen' : 400 < (l.length : Int) := by omega
  clear hx
  go_enter Try.func18, Try.ntmps18
  go_wp2_with fail
  go_ret2
  exact ⟨rfl, Gr.refl _⟩

set_option maxHeartbeats 1000000 in
set_option maxRecDepth 100000 in
theorem of_any (v : Value) (l : List Int) (w : World) (hr : Rd1 w v l) (hlen : l.length ≤ 400) :
    Calls Try.prog 18 #[v] w fun e w' => (l.all numB = false ∧ e = .returned (.tuple #[.slice none 0 0, .int .i64 1]) ∧ Gr w w') ∨
      (l.all numB = true ∧ ∃ u, e = .returned (.tuple #[u, .int .i64 0]) ∧ ListAt w w' (canon (maskI l)) u ∧ maskI l < 2 ^ 32) := by
  obtain ⟨a, cp, rfl, hcp, hx⟩ := hr
  have HX := Lib.hid hx
  have hlen' : (l.length : Int) ≤ 400 := by omega
  clear hx
  go_enter Try.func18, Try.ntmps18
  go_wp2_with fail
  go_loopw [4, 12] (fun m i wr => ∃ k : Nat, k ≤ l.length ∧ i = .int .i64 k ∧ m = .int .u32 (maskI (l.take k) : Nat) ∧ Hid ((l.take k).all numB = true) ∧ Gr w wr) (fun _ i _ => l.length - (intOf i).toNat)
  case atStart => exact ⟨0, by omega, rfl, rfl, by simp [Hid], Gr.refl _⟩
  case round =>
    obtain ⟨k, hk, rfl, rfl, hall, hg⟩ := hrel
    generalize wr = wo at *
    by_cases hlt : k < l.length
    · obtain ⟨x, hp⟩ : ∃ p, l[k]? = some p := ⟨_, List.getElem?_eq_getElem hlt⟩
      obtain ⟨b, off, rfl, hb, hcell⟩ := HX.out (by intro e; rw [e] at hlt; simp at hlt)
      have c1 : w.cell? ⟨b, off + k, none⟩ = some (.int .i64 x) := hcell k _ hp
      rw [← hg.cells.1 b _ hb] at c1
      have hbr : b < wo.heap.size := Nat.lt_of_lt_of_le hb hg.le
      have hml := Lib.hid (maskI_lt hall.out)
      have HM := Lib.hid (maskI_take hp)
      have HAT := Lib.hid (all_take hp numB)
      have HNO := Lib.hid (all_not hp numB)
      generalize maskI (l.take k) = m at *
      have hk4 : (k : Int) < 400 := by omega
      clear hcell
      have HP := Lib.hid hp
      clear hp
      cases hn : numB x
      · have HN := Lib.hid (HNO.out hn)
        clear HNO
        go_wp2_with fail
        refine (isNum_any _ _).mono ?_
        rintro e w2 ⟨rfl, rfl⟩
        go_wp2_with fail
        go_ret2
        exact Or.inl ⟨HN.out, rfl, hg⟩
      · obtain ⟨n, rfl⟩ := Int.eq_ofNat_of_zero_le (show 0 ≤ x by simp [numB] at hn; omega)
        have hn32 : n < 32 := by simp [numB] at hn; omega
        have HO := Lib.hid (or_eq m n hml.out hn32)
        have hn32' : (n : Int) < 32 := by omega
        have HA : Hid ((l.take (k + 1)).all numB = true) := by unfold Hid; rw [HAT.out, hall.out, hn]; rfl
        have HM2 : Hid (maskI (l.take (k + 1)) = m ||| 2 ^ n) := HM.out
        clear HNO HAT HM
        go_wp2_with fail
        refine (isNum_any _ _).mono ?_
        rintro e w2 ⟨rfl, rfl⟩
        go_wp2
        go_roundw
        case measure => simp [intOf]; omega
        case rel => exact ⟨k + 1, by omega, by go_num, by rw [HM2.out, ← HO.out, IntKind.wrap_u32'], HA, hg⟩
    · obtain rfl : k = l.length := by omega
      rw [List.take_length] at hall
      rw [List.take_length]
      have HL := Lib.hid (maskI_lt hall.out)
      go_wp2_with fail
      refine (list_any _ _ HL.out).mono ?_
      rintro e w2 ⟨u, rfl, hu⟩
      go_wp2_with fail
      go_ret2
      exact Or.inr ⟨hall.out, _, rfl, hu.more hg, HL.out⟩
end Go.Proofs.Ytbodadddcbbjeaa
