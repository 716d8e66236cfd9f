/- Joined: SpanD, CubeA, SetB, FilA, FilE, FilDA, FilK, FilDB, FilL, FilS, PtC, PtD, PtE, In16, Doc1, SetC, SayA, RefA, RefB, RefC, RefD, RefE, PtR, PtS, XOf, PtT. -/
import Derived.Test.YtbpkfkljeibjoaaGreatPx3
import Derived.Lib.BitFns
import Derived.Laws.AppendOwnNone
import Derived.Laws.Rows
import Derived.Test.YtbpkfkljeibjoaaGreatProg
import Derived.WalkKit
import Derived.WalkSpells
import Derived.WalkLawsBesides
import Derived.Deep.QuietTactic
import Derived.BigQuiet
import Derived.Lib.Hide
import Derived.StillTailTactics
import Derived.Deep.RegionHeld3
import Derived.Deep.AppendLies
import Derived.Deep.DrawnRows
import Derived.Laws.Bits128
import Derived.ChangeKeysEq
import Derived.LoopTactic
import Derived.BigRegion
import Derived.Great.Walk
set_option linter.unusedVariables false
set_option linter.unusedSimpArgs false
/- Joined: SpanD, SpanE, SpanF, SpanG, SpanH, SpanI, MaskM, SpanO. -/
/- The contracts of package span's combine and what stands on it, and of slices.Equal over spans. -/
namespace Rm
open Go Go.RowKit
theorem sbne_of {a : Int} (h : (a == 0) = true) : (a != 0) = false := by simp [bne, h]
theorem sbne_of' {a : Int} (h : (a == 0) = false) : (a != 0) = true := by simp [bne, h]
theorem chkGo_valid : ∀ (l : List (Int × Int)) (last : Int), -1 ≤ last → chkGo last l = 0 → ∃ L, l = pairs L ∧ VF (last + 1).toNat L
  | [], _, _, _ => ⟨[], rfl, trivial⟩
  | p :: l, last, hl, h => by
    unfold chkGo at h
    split at h
    · omega
    · split at h
      · omega
      · rename_i h1 h2
        obtain ⟨L, rfl, hv⟩ := chkGo_valid l p.2 (by omega) h
        refine ⟨(p.1.toNat, p.2.toNat) :: L, ?_, ?_⟩
        · simp only [pairs, List.map_cons, List.cons.injEq, and_true]
          ext
          · simp only; omega
          · simp only; omega
        · refine ⟨by simp only; omega, by simp only; omega, by simp only; omega, ?_⟩
          have e : (p.2 + 1).toNat = p.2.toNat + 1 := by omega
          rw [← e]
          exact hv
theorem valid_of {l : List (Int × Int)} (h : chkS l = 0) : ∃ L, l = pairs L ∧ VF 0 L := by
  unfold chkS at h
  split at h
  · omega
  · exact chkGo_valid l (-1) (by omega) h
theorem chkGo_of : ∀ (L : List (Nat × Nat)) (lo : Nat) (last : Int), last < lo → VF lo L → chkGo last (pairs L) = 0
  | [], _, _, _, _ => rfl
  | p :: L, lo, last, hl, h => by
    obtain ⟨h1, h2, h3, h4⟩ := h
    show (if (p.1 : Int) < 0 ∨ 32 < (p.2 : Int) ∨ (p.2 : Int) ≤ (p.1 : Int) then 1 else if (p.1 : Int) ≤ last then 3 else chkGo (p.2 : Int) (pairs L)) = 0
    rw [if_neg (by omega), if_neg (by omega)]
    exact chkGo_of L (p.2 + 1) p.2 (by omega) h4
theorem chkS_of {L : List (Nat × Nat)} (h : VF 0 L) : chkS (pairs L) = 0 := by
  unfold chkS
  rw [if_neg (by rw [pairs_len]; have := h.len16; omega)]
  exact chkGo_of L 0 (-1) (by omega) h
def lessM (a b : Nat) : Nat := a &&& (4294967295 - b)
theorem lessM_bit (a b i : Nat) (hb : b < 2 ^ 32) (ha : a < 2 ^ 32) : (lessM a b).testBit i = (a.testBit i && !b.testBit i) := by
  unfold lessM
  have e : 4294967295 - b = 2 ^ 32 - (b + 1) := by omega
  rw [e, Nat.testBit_and, Nat.testBit_two_pow_sub_succ hb]
  by_cases h : i < 32
  · simp [h]
  · have h2 : a.testBit i = false := Nat.testBit_lt_two_pow (Nat.lt_of_lt_of_le ha (Nat.pow_le_pow_right (by omega) (by omega)))
    simp [h2]
theorem lessM_lt (a b : Nat) (ha : a < 2 ^ 32) : lessM a b < 2 ^ 32 := Nat.lt_of_le_of_lt Nat.and_le_left ha
end Rm
namespace Go.Proofs.YtbpkfkljeibjoaaGreat
open Go.RowKit Rm
theorem ListAt.more {w w1 w2 : World} {l : List (Nat × Nat)} {v : Value} (g : Gr w w1) (h : ListAt w1 w2 l v) : ListAt w w2 l v := by
  refine ⟨g.trans h.1, h.2.1, ?_⟩
  rcases h.2.2 with ⟨a, b⟩ | ⟨g', cap, cur, a, b, c⟩
  · exact .inl ⟨a, b⟩
  · exact .inr ⟨g', cap, cur, a, Nat.le_trans g.le b, c⟩
theorem ListAt.rd {w w1 : World} {l : List (Nat × Nat)} {v : Value} (h : ListAt w w1 l v) : Rd2 w1 v (pairs l) := Rd2.own h.2
end Go.Proofs.YtbpkfkljeibjoaaGreat
/- The contracts of math/bits.OnesCount32 and of span.Count, Has, Within. -/
namespace Rm
open Go Go.RowKit
def popTo (m : Nat) : Nat → Nat
  | 0 => 0
  | k + 1 => popTo m k + (m.testBit k).toNat
theorem popTo_le (m k : Nat) : popTo m k ≤ k := by
  induction k with
  | zero => exact Nat.le_refl _
  | succ k ih => have := Bool.toNat_le (m.testBit k); simp only [popTo]; omega
theorem popTo_congr {m m' k : Nat} (h : ∀ i, i < k → m.testBit i = m'.testBit i) : popTo m k = popTo m' k := by
  induction k with
  | zero => rfl
  | succ k ih => simp only [popTo]; rw [ih (fun i hi => h i (by omega)), h k (by omega)]
theorem popTo_add (m j k : Nat) : popTo m (j + k) = popTo m j + popTo (m / 2 ^ j) k := by
  induction k with
  | zero => rfl
  | succ k ih =>
    show popTo m (j + k) + (m.testBit (j + k)).toNat = popTo m j + (popTo (m / 2 ^ j) k + ((m / 2 ^ j).testBit k).toNat)
    rw [ih, Nat.testBit_div_two_pow, Nat.add_comm k j]
    omega
theorem popTo_mod (m : Nat) : popTo (m % 256) 8 = popTo m 8 := by
  apply popTo_congr
  intro i hi
  have e : m % 256 = m % 2 ^ 8 := rfl
  rw [e, Nat.testBit_mod_two_pow]
  simp [hi]
def popc (m : Nat) : Nat := popTo m 32
theorem popc_le (m : Nat) : popc m ≤ 32 := popTo_le m 32
theorem popc_bytes (x : Nat) : popc x = popTo (x % 256) 8 + popTo (x / 256 % 256) 8 + popTo (x / 65536 % 256) 8 + popTo (x / 16777216 % 256) 8 := by
  unfold popc
  rw [popTo_mod, popTo_mod, popTo_mod, popTo_mod]
  have e1 : popTo x 32 = popTo x 8 + popTo (x / 2 ^ 8) 24 := popTo_add x 8 24
  have e2 : popTo (x / 2 ^ 8) 24 = popTo (x / 2 ^ 8) 8 + popTo (x / 2 ^ 8 / 2 ^ 8) 16 := popTo_add (x / 2 ^ 8) 8 16
  have e3 : popTo (x / 2 ^ 8 / 2 ^ 8) 16 = popTo (x / 2 ^ 8 / 2 ^ 8) 8 + popTo (x / 2 ^ 8 / 2 ^ 8 / 2 ^ 8) 8 := popTo_add (x / 2 ^ 8 / 2 ^ 8) 8 8
  have d1 : x / 2 ^ 8 = x / 256 := rfl
  have d2 : x / 256 / 2 ^ 8 = x / 65536 := by rw [Nat.div_div_eq_div_mul]
  have d3 : x / 65536 / 2 ^ 8 = x / 16777216 := by rw [Nat.div_div_eq_div_mul]
  rw [d1] at e1 e2 e3
  rw [d2] at e2 e3
  rw [d3] at e3
  omega
end Rm
namespace Go.Proofs.YtbpkfkljeibjoaaGreat
open Go.RowKit Rm
/-! span.Count -/
/-! span.Has -/
/-! span.Within -/
def subM (a b : Nat) : Bool := lessM a b == 0
end Go.Proofs.YtbpkfkljeibjoaaGreat
/- The contracts of slices.Equal over spans, and of the statements' own sets. -/
namespace Go.Proofs.YtbpkfkljeibjoaaGreat
open Go.RowKit Rm
end Go.Proofs.YtbpkfkljeibjoaaGreat
/- The contracts of the document's own sets: Told, and the statements' spans and every. -/
namespace Rm
open Go Go.RowKit
def bArr (s : Nat → Bool) : Array Value := ((List.range 32).map fun i => Value.bool (s i)).toArray
theorem bArr_size (s : Nat → Bool) : (bArr s).size = 32 := by simp [bArr]
theorem bArr_at (s : Nat → Bool) (i : Nat) (h : i < 32) : (bArr s)[i]? = some (.bool (s i)) := by simp [bArr, h]
theorem Blk_lt {w : World} {g : Nat} {o : Obj} (h : w.heap[g]? = some o) : g < w.heap.size := by
  rcases Nat.lt_or_ge g w.heap.size with c | c
  · exact c
  · rw [Array.getElem?_eq_none c] at h; cases h
end Rm
namespace Go.Proofs.YtbpkfkljeibjoaaGreat
open Go.RowKit Rm
end Go.Proofs.YtbpkfkljeibjoaaGreat
/- The contracts of the statements' spans and every. -/
namespace Rm
open Go Go.RowKit
def cut (m k i : Nat) : Bool := decide (i < k) && m.testBit i
theorem bArr_ext {s t : Nat → Bool} (h : ∀ i, i < 32 → s i = t i) : bArr s = bArr t := by
  unfold bArr
  congr 1
  apply List.map_congr_left
  intro i hi
  rw [h i (List.mem_range.1 hi)]
theorem bArr_set (s : Nat → Bool) (k : Nat) (b : Bool) (hk : k < 32) : (bArr s).setIfInBounds k (.bool b) = bArr (fun i => if i = k then b else s i) := by
  apply Array.ext
  · simp [bArr]
  · intro i h1 h2
    simp [bArr] at h1 h2 ⊢
    by_cases e : i = k
    · subst e; simp
    · have : ¬ k = i := fun h => e h.symm
      simp [this, e]
end Rm
namespace Go.Proofs.YtbpkfkljeibjoaaGreat
open Go.RowKit Rm
end Go.Proofs.YtbpkfkljeibjoaaGreat
/- Package span by masks: what each function does to sets that are told by 32 bits. -/
namespace Go.Proofs.YtbpkfkljeibjoaaGreat
open Go.RowKit Rm
def MS (w : World) (v : Value) (a : Nat) : Prop := Rd2 w v (pairs (canon a)) ∧ a < 2 ^ 32
theorem MS.gr {w w' : World} {v : Value} {a : Nat} (h : MS w v a) (g : Gr w w') : MS w' v a := ⟨h.1.gr g, h.2⟩
theorem MS.alloc {w : World} {v : Value} {a : Nat} (h : MS w v a) (o : Obj) : MS (w.alloc o) v a := ⟨h.1.alloc o, h.2⟩
end Go.Proofs.YtbpkfkljeibjoaaGreat
/- The plain mathematics of masks: Boole, De Morgan, parts, counts. -/
namespace Go.Proofs.YtbpkfkljeibjoaaGreat
open Rm
theorem bit_big {a i : Nat} (h : a < 2 ^ 32) (hi : ¬ i < 32) : a.testBit i = false :=
  Nat.testBit_lt_two_pow (Nat.lt_of_lt_of_le h (Nat.pow_le_pow_right (by omega) (by omega)))
theorem mask_ext {a b : Nat} (ha : a < 2 ^ 32) (hb : b < 2 ^ 32) (h : ∀ i, i < 32 → a.testBit i = b.testBit i) : a = b := by
  apply Nat.eq_of_testBit_eq
  intro i
  by_cases hi : i < 32
  · exact h i hi
  · rw [bit_big ha hi, bit_big hb hi]
theorem sub_iff {a b : Nat} (ha : a < 2 ^ 32) (hb : b < 2 ^ 32) : subM a b = true ↔ ∀ i, i < 32 → a.testBit i = true → b.testBit i = true := by
  unfold subM
  simp only [beq_iff_eq]
  constructor
  · intro h i hi hai
    have e := lessM_bit a b i hb ha
    rw [h, Nat.zero_testBit, hai] at e
    cases hbi : b.testBit i
    · rw [hbi] at e; cases e
    · rfl
  · intro h
    refine mask_ext (lessM_lt _ _ ha) (by decide) fun i hi => ?_
    rw [lessM_bit _ _ _ hb ha, Nat.zero_testBit]
    cases hai : a.testBit i
    · rfl
    · rw [h i hi hai]; rfl
end Go.Proofs.YtbpkfkljeibjoaaGreat
/- The contract of span.Of; slices of integers. -/
namespace Rm
open Go Go.RowKit
def maskI (l : List Int) : Nat := l.foldl (fun m x => m ||| 2 ^ x.toNat) 0
theorem maskI_take {l : List Int} {k : Nat} {x : Int} (h : l[k]? = some x) : maskI (l.take (k + 1)) = maskI (l.take k) ||| 2 ^ x.toNat := by
  obtain ⟨hk, e⟩ := List.getElem?_eq_some_iff.1 h
  rw [List.take_succ_eq_append_getElem hk, e]
  simp [maskI]
theorem all_take {l : List Int} {k : Nat} {x : Int} (h : l[k]? = some x) (p : Int → Bool) : (l.take (k + 1)).all p = ((l.take k).all p && p x) := by
  obtain ⟨hk, e⟩ := List.getElem?_eq_some_iff.1 h
  rw [List.take_succ_eq_append_getElem hk, e]
  simp
theorem all_not {l : List Int} {k : Nat} {x : Int} (h : l[k]? = some x) (p : Int → Bool) (hp : p x = false) : l.all p = false := by
  cases ha : l.all p
  · rfl
  · rw [List.all_eq_true] at ha
    rw [ha x (List.mem_of_getElem? h)] at hp
    cases hp
theorem foldI_lt (l : List Int) (m : Nat) (hm : m < 2 ^ 32) (h : l.all numB = true) : l.foldl (fun m x => m ||| 2 ^ x.toNat) m < 2 ^ 32 := by
  induction l generalizing m with
  | nil => exact hm
  | cons x l ih =>
    simp only [List.all_cons, Bool.and_eq_true] at h
    refine ih _ (Nat.or_lt_two_pow hm (Nat.pow_lt_pow_right (by omega) ?_)) h.2
    have := h.1
    simp [numB] at this
    omega
theorem maskI_lt {l : List Int} (h : l.all numB = true) : maskI l < 2 ^ 32 := foldI_lt l 0 (by decide) h
end Rm
namespace Go.Proofs.YtbpkfkljeibjoaaGreat
open Go.RowKit Rm
def Rd1 (w : World) (v : Value) (l : List Int) : Prop :=
  ∃ a c, v = .slice a l.length c ∧ l.length ≤ c ∧ (l ≠ [] → ∃ b off, a = some ⟨b, off, none⟩ ∧ b < w.heap.size ∧ ∀ i x, l[i]? = some x → w.cell? ⟨b, off + i, none⟩ = some (.int .i64 x))
theorem Rd1.gr {w w' : World} {v : Value} {l : List Int} (h : Rd1 w v l) (g : Gr w w') : Rd1 w' v l := by
  obtain ⟨a, c, e, hc, h⟩ := h
  refine ⟨a, c, e, hc, fun hl => ?_⟩
  obtain ⟨b, off, ea, hb, hx⟩ := h hl
  exact ⟨b, off, ea, Nat.lt_of_lt_of_le hb g.le, fun i p hp => (g.cells.1 b _ hb).trans (hx i p hp)⟩
theorem Rd1.alloc {w : World} {v : Value} {l : List Int} (h : Rd1 w v l) (o : Obj) : Rd1 (w.alloc o) v l := h.gr ((Gr.refl w).alloc o)
set_option maxHeartbeats 1000000 in
set_option maxRecDepth 100000 in
theorem of_any (v : Value) (l : List Int) (w : World) (hr : Rd1 w v l) (hlen : l.length ≤ 400) :
    Calls Tryz.prog 190 #[v] w fun e w' => (l.all numB = false ∧ e = .returned (.tuple #[.slice none 0 0, .int .i64 1]) ∧ Gr w w') ∨
      (l.all numB = true ∧ ∃ u, e = .returned (.tuple #[u, .int .i64 0]) ∧ ListAt w w' (canon (maskI l)) u ∧ maskI l < 2 ^ 32) := by
  obtain ⟨a, cp, rfl, hcp, hx⟩ := hr
  have HX := Lib.hid hx
  have hlen' : (l.length : Int) ≤ 400 := by omega
  clear hx
  go_enter Tryz.func190, Tryz.ntmps190
  go_wp2_with fail
  go_loopw [4, 12] (fun m i wr => ∃ k : Nat, k ≤ l.length ∧ i = .int .i64 k ∧ m = .int .u32 (maskI (l.take k) : Nat) ∧ Hid ((l.take k).all numB = true) ∧ Gr w wr) (fun _ i _ => l.length - (intOf i).toNat)
  case atStart => exact ⟨0, by omega, rfl, rfl, by simp [Hid], Gr.refl _⟩
  case round =>
    obtain ⟨k, hk, rfl, rfl, hall, hg⟩ := hrel
    generalize wr = wo at *
    by_cases hlt : k < l.length
    · obtain ⟨x, hp⟩ : ∃ p, l[k]? = some p := ⟨_, List.getElem?_eq_getElem hlt⟩
      obtain ⟨b, off, rfl, hb, hcell⟩ := HX.out (by intro e; rw [e] at hlt; simp at hlt)
      have c1 : w.cell? ⟨b, off + k, none⟩ = some (.int .i64 x) := hcell k _ hp
      rw [← hg.cells.1 b _ hb] at c1
      have hbr : b < wo.heap.size := Nat.lt_of_lt_of_le hb hg.le
      have hml := Lib.hid (maskI_lt hall.out)
      have HM := Lib.hid (maskI_take hp)
      have HAT := Lib.hid (all_take hp numB)
      have HNO := Lib.hid (all_not hp numB)
      generalize maskI (l.take k) = m at *
      have hk4 : (k : Int) < 400 := by omega
      clear hcell
      have HP := Lib.hid hp
      clear hp
      cases hn : numB x
      · have HN := Lib.hid (HNO.out hn)
        clear HNO
        go_wp2_with fail
        refine (isNum_any _ _).mono ?_
        rintro e w2 ⟨rfl, rfl⟩
        go_wp2_with fail
        go_ret2
        exact Or.inl ⟨HN.out, rfl, hg⟩
      · obtain ⟨n, rfl⟩ := Int.eq_ofNat_of_zero_le (show 0 ≤ x by simp [numB] at hn; omega)
        have hn32 : n < 32 := by simp [numB] at hn; omega
        have HO := Lib.hid (or_eq m n hml.out hn32)
        have hn32' : (n : Int) < 32 := by omega
        have HA : Hid ((l.take (k + 1)).all numB = true) := by unfold Hid; rw [HAT.out, hall.out, hn]; rfl
        have HM2 : Hid (maskI (l.take (k + 1)) = m ||| 2 ^ n) := HM.out
        clear HNO HAT HM
        go_wp2_with fail
        refine (isNum_any _ _).mono ?_
        rintro e w2 ⟨rfl, rfl⟩
        go_wp2
        go_roundw
        case measure => simp [intOf]; omega
        case rel => exact ⟨k + 1, by omega, by go_num, by rw [HM2.out, ← HO.out, IntKind.wrap_u32'], HA, hg⟩
    · obtain rfl : k = l.length := by omega
      rw [List.take_length] at hall
      rw [List.take_length]
      have HL := Lib.hid (maskI_lt hall.out)
      go_wp2_with fail
      refine (list_any _ _ HL.out).mono ?_
      rintro e w2 ⟨u, rfl, hu⟩
      go_wp2_with fail
      go_ret2
      exact Or.inr ⟨hall.out, _, rfl, hu.more hg, HL.out⟩
end Go.Proofs.YtbpkfkljeibjoaaGreat
/- Joined: CubeA, CubeH. -/
/- The contracts of package cube's small functions. -/
namespace Go.Proofs.YtbpkfkljeibjoaaGreat
open Go.RowKit Rm
theorem bne_of {a : Int} (h : (a == 0) = true) : (a != 0) = false := by simp [bne, h]
theorem bne_of' {a : Int} (h : (a == 0) = false) : (a != 0) = true := by simp [bne, h]
set_option maxHeartbeats 400000 in
set_option maxRecDepth 100000 in
theorem areTags_any (x : Int) (w : World) :
    Calls Tryz.prog 144 #[.int .i64 x] w fun e w' => e = .returned (.bool (tagsB x)) ∧ w = w' := by
  by_cases h0 : 0 ≤ x
  · by_cases h1 : x ≤ 15
    · have ht : tagsB x = true := by simp [tagsB, h0, h1]
      rw [ht]
      go_enter Tryz.func144, Tryz.ntmps144
      go_wp2
      go_ret
      exact ⟨rfl, rfl⟩
    · have ht : tagsB x = false := by simp [tagsB, h1]
      rw [ht]
      go_enter Tryz.func144, Tryz.ntmps144
      go_wp2
      go_ret
      exact ⟨rfl, rfl⟩
  · have ht : tagsB x = false := by simp [tagsB, h0]
    rw [ht]
    go_enter Tryz.func144, Tryz.ntmps144
    go_wp2
    go_ret
    exact ⟨rfl, rfl⟩
set_option maxHeartbeats 400000 in
set_option maxRecDepth 100000 in
theorem check_any (y n : Int) (w : World) :
    Calls Tryz.prog 104 #[.agg #[.int .i64 y, .int .i64 n]] w fun e w' => e = .returned (.int .i64 (chk y n)) ∧ Gr w w' := by
  cases hy : tagsB y
  · have hc : chk y n = 1 := by simp [chk, hy]
    rw [hc]
    go_enter Tryz.func104, Tryz.ntmps104
    go_wp2_with (go_at_call 144; refine (areTags_any _ _).mono ?_; rintro e w' ⟨rfl, rfl⟩)
    go_ret
    exact ⟨rfl, (Gr.refl _).alloc _⟩
  cases hn : tagsB n
  · have hc : chk y n = 1 := by simp [chk, hn]
    rw [hc]
    go_enter Tryz.func104, Tryz.ntmps104
    go_wp2_with (go_at_call 144; refine (areTags_any _ _).mono ?_; rintro e w' ⟨rfl, rfl⟩)
    go_ret
    exact ⟨rfl, (Gr.refl _).alloc _⟩
  cases hb : (bits .and .i64 y n == 0)
  · have hc : chk y n = 3 := by simp [chk, hy, hn, hb]
    rw [hc]
    have hb' : (bits .and .i64 y n != 0) = true := by simp [bne, hb]
    go_enter Tryz.func104, Tryz.ntmps104
    go_wp2_with (go_at_call 144; refine (areTags_any _ _).mono ?_; rintro e w' ⟨rfl, rfl⟩)
    go_ret
    exact ⟨rfl, (Gr.refl _).alloc _⟩
  · have hc : chk y n = 0 := by simp [chk, hy, hn, hb]
    rw [hc]
    have hb' : (bits .and .i64 y n != 0) = false := by simp [bne, hb]
    go_enter Tryz.func104, Tryz.ntmps104
    go_wp2_with (go_at_call 144; refine (areTags_any _ _).mono ?_; rintro e w' ⟨rfl, rfl⟩)
    go_ret
    exact ⟨rfl, (Gr.refl _).alloc _⟩
end Go.Proofs.YtbpkfkljeibjoaaGreat
/- The contract of cube.Has. -/
namespace Go.Proofs.YtbpkfkljeibjoaaGreat
open Go.RowKit Rm
set_option maxHeartbeats 400000 in
set_option maxRecDepth 100000 in
theorem has_any (y n t : Int) (w : World) :
    Calls Tryz.prog 187 #[.agg #[.int .i64 y, .int .i64 n], .int .i64 t] w fun e w' => e = .returned (.tuple #[.bool (hasR y n t), .int .i64 (hasE y n t)]) ∧ Gr w w' := by
  cases hc : (chk y n == 0)
  · have hc1 : hasE y n t = chk y n := by simp [hasE, hc]
    have hc2 : hasR y n t = false := by simp [hasR, hc1, hc]
    rw [hc2, hc1]
    have hc' := bne_of' hc
    clear hc1 hc2
    go_enter Tryz.func187, Tryz.ntmps187
    go_wp2_with (go_at_call 104; refine (check_any _ _ _).mono ?_; rintro e w1 ⟨rfl, hb⟩)
    go_ret2
    exact ⟨rfl, ((Gr.refl _).alloc _).trans hb⟩
  · have hc' := bne_of hc
    have h0 : chk y n = 0 := by simpa using hc
    cases ht : tagsB t
    · have hc1 : hasE y n t = 1 := by simp [hasE, h0, ht]
      have hc2 : hasR y n t = false := by simp [hasR, hc1]
      rw [hc2, hc1]
      clear hc1 hc2 h0
      go_enter Tryz.func187, Tryz.ntmps187
      go_wp2_with fail
      refine (check_any _ _ _).mono ?_
      rintro e w1 ⟨rfl, hb⟩
      go_wp2_with (go_at_call 144; refine (areTags_any _ _).mono ?_; rintro e w' ⟨rfl, rfl⟩)
      go_ret2
      exact ⟨rfl, ((Gr.refl _).alloc _).trans hb⟩
    · have hc1 : hasE y n t = 0 := by simp [hasE, h0, ht]
      cases h1 : (bits .andNot .i64 y t == 0)
      · have hc2 : hasR y n t = false := by simp [hasR, hasB, hc1, h1]
        rw [hc2, hc1]
        clear hc1 hc2 h0
        go_enter Tryz.func187, Tryz.ntmps187
        go_wp2_with fail
        refine (check_any _ _ _).mono ?_
        rintro e w1 ⟨rfl, hb⟩
        obtain ⟨hbc, hbf⟩ := hb.cells
        go_wp2_with (go_at_call 144; refine (areTags_any _ _).mono ?_; rintro e w' ⟨rfl, rfl⟩)
        go_ret2
        exact ⟨rfl, ((Gr.refl _).alloc _).trans hb⟩
      · cases h2 : (bits .and .i64 n t == 0)
        · have hc2 : hasR y n t = false := by simp [hasR, hasB, hc1, h2]
          rw [hc2, hc1]
          clear hc1 hc2 h0
          go_enter Tryz.func187, Tryz.ntmps187
          go_wp2_with fail
          refine (check_any _ _ _).mono ?_
          rintro e w1 ⟨rfl, hb⟩
          obtain ⟨hbc, hbf⟩ := hb.cells
          go_wp2_with (go_at_call 144; refine (areTags_any _ _).mono ?_; rintro e w' ⟨rfl, rfl⟩)
          go_ret2
          exact ⟨rfl, ((Gr.refl _).alloc _).trans hb⟩
        · have hc2 : hasR y n t = true := by simp [hasR, hasB, hc1, h1, h2]
          rw [hc2, hc1]
          clear hc1 hc2 h0
          go_enter Tryz.func187, Tryz.ntmps187
          go_wp2_with fail
          refine (check_any _ _ _).mono ?_
          rintro e w1 ⟨rfl, hb⟩
          obtain ⟨hbc, hbf⟩ := hb.cells
          go_wp2_with (go_at_call 144; refine (areTags_any _ _).mono ?_; rintro e w' ⟨rfl, rfl⟩)
          go_ret2
          exact ⟨rfl, ((Gr.refl _).alloc _).trans hb⟩
end Go.Proofs.YtbpkfkljeibjoaaGreat
/- The contracts of the document's own Spans and Set. -/
namespace Rm
open Go Go.RowKit
theorem bArr_one (s : Nat → Bool) : (bArr s).all (·.oneCell') = true := by
  rw [Array.all_eq_true_iff_forall_mem]
  intro x hx
  simp [bArr] at hx
  obtain ⟨i, _, rfl⟩ := hx
  rfl
theorem Gr.setRow {a w : World} (h : Gr a w) {g : Nat} (hg : a.heap.size ≤ g) (cs : Array Value) : Gr a (w.setRow g cs) :=
  ⟨h.os, h.tape, h.output, by have := h.le; simpa using this, fun k hk => (setRow_other w g k cs (by omega)).trans (h.block k hk)⟩
end Rm
namespace Go.Proofs.YtbpkfkljeibjoaaGreat
open Go.RowKit Rm
set_option maxHeartbeats 1000000 in
set_option maxRecDepth 100000 in
theorem rspans_any (v : Value) (l : List (Int × Int)) (w : World) (hr : Rd2 w v l) :
    Calls Tryz.prog 43 #[v] w fun e w' => e = .returned (.int .i64 (chkS l)) ∧ Gr w w' := by
  obtain ⟨a, cp, rfl, hcp, hx⟩ := hr
  by_cases h16 : 16 < l.length
  · have e : chkS l = 2 := by simp [chkS, h16]
    rw [e]
    have hz : (16 : Int) < (l.length : Int) := by omega
    go_enter Tryz.func43, Tryz.ntmps43
    go_wp2
    go_ret
    exact ⟨rfl, Gr.refl _⟩
  · have e : chkS l = chkGo (-1) l := by simp [chkS, h16]
    rw [e]
    clear e
    have hz : ¬ (16 : Int) < (l.length : Int) := by omega
    have HX := Lib.hid hx
    clear hx
    go_enter Tryz.func43, Tryz.ntmps43
    go_wp2
    go_loopw [3, 11] (fun la i wr => ∃ (k : Nat) (last : Int), k ≤ l.length ∧ i = .int .i64 k ∧ la = .int .i64 last ∧ Hid (chkGo (-1) l = chkGo last (l.drop k)) ∧ Gr w wr) (fun _ i _ => l.length - (intOf i).toNat)
    case atStart => exact ⟨0, -1, by omega, rfl, rfl, rfl, Gr.refl _⟩
    case round =>
      obtain ⟨k, last, hk, rfl, rfl, hh, hg⟩ := hrel
      by_cases hlt : k < l.length
      · obtain ⟨⟨f, t⟩, hp⟩ : ∃ p, l[k]? = some p := ⟨_, List.getElem?_eq_getElem hlt⟩
        obtain ⟨b, off, rfl, hb, hcell⟩ := HX.out (by intro e; rw [e] at hlt; simp at hlt)
        obtain ⟨c1, c2⟩ := hcell k _ hp
        rw [← hg.cells.1 b _ hb] at c1 c2
        simp only at c1 c2
        have hbr : b < wr.heap.size := Nat.lt_of_lt_of_le hb hg.le
        have HH : Hid (chkGo (-1) l = if f < 0 ∨ 32 < t ∨ t ≤ f then 1 else if f ≤ last then 3 else chkGo t (l.drop (k + 1))) := by
          rw [hh.out, drop_at hp]; rfl
        clear hh hcell
        have hk16 : (k : Int) ≤ 16 := by omega
        by_cases hbad : f < 0 ∨ 32 < t ∨ t ≤ f
        · have E1 : Hid (chkGo (-1) l = 1) := by rw [HH.out, if_pos hbad]; rfl
          clear HH
          by_cases q1 : f < 0
          · go_wp2
            go_ret
            exact ⟨by rw [E1.out]; rfl, hg.alloc _⟩
          · by_cases q2 : 32 < t
            · go_wp2
              go_ret
              exact ⟨by rw [E1.out]; rfl, hg.alloc _⟩
            · have q3 : t ≤ f := by omega
              go_wp2
              go_ret
              exact ⟨by rw [E1.out]; rfl, hg.alloc _⟩
        · have q1 : ¬ f < 0 := by omega
          have q2 : ¬ 32 < t := by omega
          have q3 : ¬ t ≤ f := by omega
          have e1 : Hid (chkGo (-1) l = if f ≤ last then 3 else chkGo t (l.drop (k + 1))) := by rw [HH.out, if_neg hbad]; rfl
          clear HH hbad
          by_cases q4 : f ≤ last
          · have E1 : Hid (chkGo (-1) l = 3) := by rw [e1.out, if_pos q4]; rfl
            clear e1
            go_wp2
            go_ret
            exact ⟨by rw [E1.out]; rfl, hg.alloc _⟩
          · have E1 : Hid (chkGo (-1) l = chkGo t (l.drop (k + 1))) := by rw [e1.out, if_neg q4]; rfl
            clear e1
            go_wp2
            go_roundw
            case rel => exact ⟨k + 1, t, by omega, by go_num, rfl, E1, hg.alloc _⟩
            case measure => simp [intOf]; omega
      · obtain rfl : k = l.length := by omega
        have E1 : Hid (chkGo (-1) l = 0) := by rw [hh.out, List.drop_length]; rfl
        clear hh
        go_wp2
        go_ret
        exact ⟨by rw [E1.out]; rfl, hg⟩
theorem nums_info : (Tryz.prog.info? 102).map (·.size) = some 32 := by kernel_rfl
theorem mem_step (m n : Nat) (i : Nat) : (if i = n then true else m.testBit i) = (m ||| 2 ^ n).testBit i := by
  rw [Nat.testBit_or, Nat.testBit_two_pow]
  by_cases h : i = n
  · subst h; simp
  · have : ¬ n = i := fun e => h e.symm
    simp [h, this]
set_option maxHeartbeats 1000000 in
set_option maxRecDepth 100000 in
theorem set_any (v : Value) (L : List (Nat × Nat)) (w : World) (hr : Rd2 w v (pairs L)) (hv : VF 0 L) :
    Calls Tryz.prog 49 #[v] w fun e w' => e = .returned (.agg (bArr (maskL L).testBit)) ∧ Gr w w' := by
  obtain ⟨a, cp, rfl, hcp, hx⟩ := hr
  rw [pairs_len] at hcp
  rw [pairs_len]
  have HX := Lib.hid hx
  have HV := Lib.hid hv
  have hlen := hv.len16
  have hlen' : (L.length : Int) ≤ 16 := by omega
  clear hx hv
  go_enter Tryz.func49, Tryz.ntmps49
  go_wp2
  go_loopw [9] (fun i wr => ∃ k : Nat, k ≤ L.length ∧ i = .int .i64 k ∧ Gr w wr ∧ wr.heap[w.heap.size + 1]? = some (.cells (bArr (maskL (L.take k)).testBit) 102 (0, 0)) ∧ wr.heap[w.heap.size]? = some (.cells (bArr fun _ => false) 102 (0, 0))) (fun i _ => L.length - (intOf i).toNat)
  case atStart =>
    refine ⟨0, by omega, rfl, ((Gr.refl _).alloc _).alloc _, ?_, ?_⟩
    · rw [heap_alloc2_new, show bArr (maskL (L.take 0)).testBit = bArr (fun _ => false) from bArr_ext (fun i _ => by simp [maskL])]; rfl
    · rw [heap_alloc2_old]; rfl
  case round =>
    obtain ⟨k, hk, rfl, hg, hblk, hres⟩ := hrel
    generalize wr = wo at *
    by_cases hlt : k < L.length
    · obtain ⟨⟨f, t⟩, hp⟩ : ∃ p, L[k]? = some p := ⟨_, List.getElem?_eq_getElem hlt⟩
      obtain ⟨b, off, rfl, hb, hcell⟩ := HX.out (by intro e; rw [← pairs_len, e] at hlt; simp at hlt)
      have c1 : w.cell? ⟨b, off + k * 2, none⟩ = some (.int .i64 f) := (hcell k _ (pairs_at hp)).1
      have c2 : w.cell? ⟨b, off + k * 2 + 1, none⟩ = some (.int .i64 t) := (hcell k _ (pairs_at hp)).2
      rw [← hg.cells.1 b _ hb] at c1 c2
      have hbr : b < wo.heap.size := Nat.lt_of_lt_of_le hb hg.le
      have hft : f < t ∧ t ≤ 32 := HV.out.le (f, t) (List.mem_of_getElem? hp)
      have HM := Lib.hid (maskL_take hp)
      clear hcell
      generalize maskL (L.take k) = m at *
      have HB := Lib.hid hblk
      have HR := Lib.hid hres
      clear hblk hres
      have hk16 : (k : Int) ≤ 16 := by omega
      have hs1 := Blk_lt HB.out
      go_wp2
      have T0 := Two.new wo f t 87
      have G0 := hg.alloc (.cells #[.int .i64 f, .int .i64 t] 87)
      have HB1 := Lib.hid ((Below.heap_alloc wo (.cells #[.int .i64 f, .int .i64 t] 87) _ hs1).trans HB.out)
      have HR1 := Lib.hid ((Below.heap_alloc wo (.cells #[.int .i64 f, .int .i64 t] 87) _ (Blk_lt HR.out)).trans HR.out)
      generalize hBB : wo.heap.size = BB at *
      have HBB := Lib.hid hBB
      clear hBB c1 c2 HB HR
      generalize wo.alloc (.cells #[.int .i64 f, .int .i64 t] 87) = W1 at *
      go_loopw [6] (fun nn wi => ∃ n : Nat, f ≤ n ∧ n ≤ t ∧ nn = .int .i64 n ∧ Gr w wi ∧ Two wi BB f t ∧ wi.heap[w.heap.size + 1]? = some (.cells (bArr (orTo m f (n - f)).testBit) 102 (0, 0)) ∧ wi.heap[w.heap.size]? = some (.cells (bArr fun _ => false) 102 (0, 0))) (fun nn _ => t - (intOf nn).toNat)
      case atStart => exact ⟨f, by omega, by omega, rfl, G0, T0, by simpa [orTo] using HB1.out, HR1.out⟩
      case round =>
        obtain ⟨n, hn1, hn2, rfl, hgi, ⟨t1, t2, t3⟩, hbi, hri⟩ := hrel
        by_cases hnt : n < t
        · have HS := Lib.hid (orTo_step m f n hn1)
          have hc : wr.cell? ⟨w.heap.size + 1, n, none⟩ = some (.bool ((orTo m f (n - f)).testBit n)) := by rw [cell_of_row _ _ _ _ _ _ hbi, bArr_at _ n (by omega)]
          have hfz := frozen_of_row _ _ n _ _ hbi
          have HBI := Lib.hid hbi
          have HRI := Lib.hid hri
          have hn32 : (n : Int) < 32 := by omega
          have HT : Hid (Two wr BB f t) := ⟨t1, t2, t3⟩
          have hbb : BB ≠ w.heap.size + 1 := by have := HBB.out; omega
          clear hbi hri
          go_wp2
          go_roundw
          case rel =>
            refine ⟨n + 1, by omega, by omega, by go_num, hgi.setCell (by simp) _, HT.out.far hbb _, ?_, ?_⟩
            · rw [heap_setCell_same _ _ _ _ _ _ HBI.out, bArr_set _ _ _ (by omega), HS.out, bArr_ext (fun i _ => mem_step _ n i)]
            · rw [heap_setCell_other _ _ _ _ (by simp)]; exact HRI.out
          case measure => simp [intOf]; omega
        · obtain rfl : n = t := by omega
          have HBI := Lib.hid hbi
          have HRI := Lib.hid hri
          clear hbi hri
          go_wp2
          go_roundw
          case rel => exact ⟨k + 1, by omega, by go_num, hgi, by rw [HM.out]; exact HBI.out, HRI.out⟩
          case measure => simp [intOf]; omega
    · obtain rfl : k = L.length := by omega
      rw [List.take_length] at hblk
      have HS : Hid ((Tryz.prog.info? 102).map (·.size) = some (bArr (maskL L).testBit).size) := by rw [bArr_size]; exact nums_info
      have HO : Hid ((bArr fun _ => false).size = (bArr (maskL L).testBit).size) := by rw [bArr_size, bArr_size]; rfl
      have H1 := Lib.hid (bArr_one (maskL L).testBit)
      have HB := Lib.hid hblk
      have HR := Lib.hid hres
      clear hblk hres
      go_wp2_with (first | (refine wpList_load_row rfl 102 _ rfl (w.heap.size + 1) rfl 102 _ (0, 0) _ HB.out Tryz.underlying102 rfl HS.out ?_) | (refine wpList_store_row rfl 102 _ _ rfl w.heap.size _ rfl rfl 102 _ HR.out HS.out HO.out H1.out ?_))
      refine bodyPost_ret (v := .agg (bArr (maskL L).testBit)) (results_cell_row Tryz.results49 _ _ w.heap.size 102 _ (0, 0) _ rfl (setRow_heap _ _ _ _ _ _ HR.out) Tryz.underlying102 rfl HS.out) rfl ⟨rfl, ?_⟩
      exact hg.setRow (Nat.le_refl _) _
end Go.Proofs.YtbpkfkljeibjoaaGreat
/- Joined: FilP, FilA, FilB, FilC, FilD. -/
/- The plain mathematics of filters: boxes as they are read, valid boxes, the table of a filter. -/
namespace Rm
open Go Go.RowKit
abbrev BoxI := (Int × Int) × List (Int × Int)
def chkB (b : BoxI) : Int := if chk b.1.1 b.1.2 == 0 then chkS b.2 else chk b.1.1 b.1.2
def chkFGo : List BoxI → Int
  | [] => 0
  | b :: r => if chkB b == 0 then chkFGo r else chkB b
def chkF (l : List BoxI) : Int := if 40 < l.length then 2 else chkFGo l
abbrev Bx := (Nat × Nat) × Nat
def OkB (b : Bx) : Prop := Vld b.1.1 b.1.2 ∧ b.2 < 2 ^ 32
def OkF (F : List Bx) : Prop := ∀ b ∈ F, OkB b
def boxI (b : Bx) : BoxI := (((b.1.1 : Nat), (b.1.2 : Nat)), pairs (canon b.2))
theorem chkB_of {b : Bx} (h : OkB b) : chkB (boxI b) = 0 := by
  unfold chkB boxI
  simp only
  rw [h.1.chk, chkS_of (canon_VF b.2)]
  rfl
theorem okB_of {b : BoxI} (h : chkB b = 0) : ∃ B : Bx, b = boxI B ∧ OkB B := by
  obtain ⟨⟨y, n⟩, s⟩ := b
  unfold chkB at h
  simp only at h
  split at h
  · rename_i h0
    obtain ⟨a, c, hv, rfl, rfl⟩ := Vld.of (by simpa using h0)
    obtain ⟨L, rfl, hL⟩ := valid_of h
    exact ⟨((a, c), maskL L), by simp [boxI, canon_maskL hL], hv, maskL_lt hL.le⟩
  · rename_i h0
    rw [h] at h0
    simp at h0
theorem chkFGo_of {F : List Bx} (h : OkF F) : chkFGo (F.map boxI) = 0 := by
  induction F with
  | nil => rfl
  | cons b F ih =>
    show (if chkB (boxI b) == 0 then chkFGo (F.map boxI) else chkB (boxI b)) = 0
    rw [chkB_of (h b (List.mem_cons_self ..)), ih (fun c hc => h c (List.mem_cons_of_mem _ hc))]
    rfl
theorem okFGo_of {l : List BoxI} (h : chkFGo l = 0) : ∃ F, l = F.map boxI ∧ OkF F := by
  induction l with
  | nil => exact ⟨[], rfl, fun b hb => by cases hb⟩
  | cons b l ih =>
    unfold chkFGo at h
    split at h
    · rename_i h0
      obtain ⟨B, rfl, hB⟩ := okB_of (by simpa using h0)
      obtain ⟨F, rfl, hF⟩ := ih h
      refine ⟨B :: F, rfl, fun c hc => ?_⟩
      rcases List.mem_cons.1 hc with rfl | hc
      · exact hB
      · exact hF c hc
    · rename_i h0
      rw [h] at h0
      simp at h0
theorem chkF_of {F : List Bx} (h : OkF F) (hl : F.length ≤ 40) : chkF (F.map boxI) = 0 := by
  unfold chkF
  rw [if_neg (by simp; omega)]
  exact chkFGo_of h
theorem okF_of {l : List BoxI} (h : chkF l = 0) : ∃ F, l = F.map boxI ∧ OkF F ∧ F.length ≤ 40 := by
  unfold chkF at h
  split at h
  · omega
  · rename_i h0
    obtain ⟨F, rfl, hF⟩ := okFGo_of h
    exact ⟨F, rfl, hF, by simpa using h0⟩
def inC (b : Bx) (t : Nat) : Bool := hasR (b.1.1 : Nat) (b.1.2 : Nat) (t : Nat)
def addB (t m : Nat) (b : Bx) : Nat := if inC b t then m ||| b.2 else m
def tabF (F : List Bx) (t : Nat) : Nat := F.foldl (addB t) 0
theorem tabF_nil (t : Nat) : tabF [] t = 0 := rfl
theorem tabF_snoc (F : List Bx) (b : Bx) (t : Nat) : tabF (F ++ [b]) t = addB t (tabF F t) b := by simp [tabF]
theorem tabF_take {F : List Bx} {k : Nat} {b : Bx} (h : F[k]? = some b) (t : Nat) : tabF (F.take (k + 1)) t = addB t (tabF (F.take k) t) b := by
  obtain ⟨hk, e⟩ := List.getElem?_eq_some_iff.1 h
  rw [List.take_succ_eq_append_getElem hk, e, tabF_snoc]
theorem foldB_bit (F : List Bx) (t m n : Nat) : (F.foldl (addB t) m).testBit n = true ↔ m.testBit n = true ∨ ∃ b ∈ F, inC b t = true ∧ b.2.testBit n = true := by
  induction F generalizing m with
  | nil => simp
  | cons b F ih =>
    rw [List.foldl_cons, ih]
    unfold addB
    split
    · rename_i h
      rw [Nat.testBit_or, Bool.or_eq_true]
      constructor
      · rintro ((h1 | h1) | ⟨c, hc, h2⟩)
        · exact .inl h1
        · exact .inr ⟨b, List.mem_cons_self .., h, h1⟩
        · exact .inr ⟨c, List.mem_cons_of_mem _ hc, h2⟩
      · rintro (h1 | ⟨c, hc, h2⟩)
        · exact .inl (.inl h1)
        · rcases List.mem_cons.1 hc with rfl | hc
          · exact .inl (.inr h2.2)
          · exact .inr ⟨c, hc, h2⟩
    · rename_i h
      constructor
      · rintro (h1 | ⟨c, hc, h2⟩)
        · exact .inl h1
        · exact .inr ⟨c, List.mem_cons_of_mem _ hc, h2⟩
      · rintro (h1 | ⟨c, hc, h2⟩)
        · exact .inl h1
        · rcases List.mem_cons.1 hc with rfl | hc
          · exact absurd h2.1 h
          · exact .inr ⟨c, hc, h2⟩
theorem tabF_bit (F : List Bx) (t n : Nat) : (tabF F t).testBit n = true ↔ ∃ b ∈ F, inC b t = true ∧ b.2.testBit n = true := by
  unfold tabF
  rw [foldB_bit]
  simp
theorem foldB_lt (F : List Bx) (t m : Nat) (hm : m < 2 ^ 32) (h : OkF F) : F.foldl (addB t) m < 2 ^ 32 := by
  induction F generalizing m with
  | nil => exact hm
  | cons b F ih =>
    refine ih _ ?_ (fun c hc => h c (List.mem_cons_of_mem _ hc))
    unfold addB
    split
    · exact Nat.or_lt_two_pow hm (h b (List.mem_cons_self ..)).2
    · exact hm
theorem tabF_lt {F : List Bx} (h : OkF F) (t : Nat) : tabF F t < 2 ^ 32 := foldB_lt F t 0 (by decide) h
theorem OkF.take {F : List Bx} (h : OkF F) (k : Nat) : OkF (F.take k) := fun b hb => h b (List.mem_of_mem_take hb)
end Rm
/- A slice of boxes reads as a list; the contract of filter.Check. -/
namespace Go.Proofs.YtbpkfkljeibjoaaGreat
open Go.RowKit Rm
def RdF (w : World) (v : Value) (l : List BoxI) : Prop :=
  ∃ a c, v = .slice a l.length c ∧ l.length ≤ c ∧ (l ≠ [] → ∃ b off, a = some ⟨b, off, none⟩ ∧ b < w.heap.size ∧
    ∀ i p, l[i]? = some p → ∃ sv, w.cell? ⟨b, off + i * 3, none⟩ = some (.int .i64 p.1.1) ∧ w.cell? ⟨b, off + i * 3 + 1, none⟩ = some (.int .i64 p.1.2) ∧ w.cell? ⟨b, off + i * 3 + 2, none⟩ = some sv ∧ Rd2 w sv p.2)
theorem RdF.gr {w w' : World} {v : Value} {l : List BoxI} (h : RdF w v l) (g : Gr w w') : RdF w' v l := by
  obtain ⟨a, c, e, hc, h⟩ := h
  refine ⟨a, c, e, hc, fun hl => ?_⟩
  obtain ⟨b, off, ea, hb, hx⟩ := h hl
  refine ⟨b, off, ea, Nat.lt_of_lt_of_le hb g.le, fun i p hp => ?_⟩
  obtain ⟨sv, h1, h2, h3, h4⟩ := hx i p hp
  exact ⟨sv, (g.cells.1 b _ hb).trans h1, (g.cells.1 b _ hb).trans h2, (g.cells.1 b _ hb).trans h3, h4.gr g⟩
theorem RdF.alloc {w : World} {v : Value} {l : List BoxI} (h : RdF w v l) (o : Obj) : RdF (w.alloc o) v l := h.gr ((Gr.refl w).alloc o)
theorem RdF.nil (w : World) : RdF w (.slice none 0 0) [] := ⟨none, 0, rfl, Nat.le_refl _, fun h => absurd rfl h⟩
theorem rd2_form {w : World} {v : Value} {l : List (Int × Int)} (h : Rd2 w v l) : ∃ a c, v = .slice a l.length c := by
  obtain ⟨a, c, e, _⟩ := h
  exact ⟨a, c, e⟩
theorem fdrop_at {l : List BoxI} {k : Nat} {p : BoxI} (h : l[k]? = some p) : l.drop k = p :: l.drop (k + 1) := by
  obtain ⟨hk, e⟩ := List.getElem?_eq_some_iff.1 h
  rw [List.drop_eq_getElem_cons hk, e]
set_option maxHeartbeats 1000000 in
set_option maxRecDepth 100000 in
theorem fcheck_any (v : Value) (l : List BoxI) (w : World) (hr : RdF w v l) :
    Calls Tryz.prog 40 #[v] w fun e w' => e = .returned (.int .i64 (chkF l)) ∧ Gr w w' := by
  obtain ⟨a, cp, rfl, hcp, hx⟩ := hr
  by_cases h40 : 40 < l.length
  · have e : chkF l = 2 := by simp [chkF, h40]
    rw [e]
    have hz : (40 : Int) < (l.length : Int) := by omega
    clear hx
    go_enter Tryz.func40, Tryz.ntmps40
    go_wp2
    go_ret
    exact ⟨rfl, Gr.refl _⟩
  · have e : chkF l = chkFGo l := by simp [chkF, h40]
    rw [e]
    clear e
    have hz : ¬ (40 : Int) < (l.length : Int) := by omega
    have HX := Lib.hid hx
    clear hx
    go_enter Tryz.func40, Tryz.ntmps40
    go_wp2
    go_loopw [12] (fun i wr => ∃ k : Nat, k ≤ l.length ∧ i = .int .i64 k ∧ Hid (chkFGo l = chkFGo (l.drop k)) ∧ Gr w wr) (fun i _ => l.length - (intOf i).toNat)
    case atStart => exact ⟨0, by omega, rfl, rfl, Gr.refl _⟩
    case round =>
      obtain ⟨k, hk, rfl, hh, hg⟩ := hrel
      generalize wr = wo at *
      by_cases hlt : k < l.length
      · obtain ⟨⟨⟨y, n⟩, s⟩, hp⟩ : ∃ p, l[k]? = some p := ⟨_, List.getElem?_eq_getElem hlt⟩
        obtain ⟨b, off, rfl, hb, hcell⟩ := HX.out (by intro e; rw [e] at hlt; simp at hlt)
        obtain ⟨sv, c1, c2, c3, hs⟩ := hcell k _ hp
        rw [← hg.cells.1 b _ hb] at c1 c2 c3
        simp only at c1 c2 c3 hs
        obtain ⟨sa, sc, rfl⟩ := rd2_form hs
        have hs1 := Lib.hid (hs.gr hg)
        have hbr : b < wo.heap.size := Nat.lt_of_lt_of_le hb hg.le
        have HH : Hid (chkFGo l = if chkB ((y, n), s) == 0 then chkFGo (l.drop (k + 1)) else chkB ((y, n), s)) := by
          rw [hh.out, fdrop_at hp]; rfl
        clear hh hcell hs hp
        have hk16 : (k : Int) ≤ 40 := by omega
        cases hc : (chk y n == 0)
        · have hc' := bne_of' hc
          have E1 : Hid (chkFGo l = chk y n) := by
            have := HH.out
            simp only [chkB, hc, Bool.false_eq_true, if_false] at this
            exact this
          clear HH
          go_wp2_with fail
          refine (check_any _ _ _).mono ?_
          rintro e w1 ⟨rfl, g1⟩
          go_wp2_with fail
          go_ret
          exact ⟨by rw [E1.out]; rfl, (hg.alloc _).trans g1⟩
        · have hc' := bne_of hc
          cases hd : (chkS s == 0)
          · have hd' := sbne_of' hd
            have E1 : Hid (chkFGo l = chkS s) := by
              have := HH.out
              simp only [chkB, hc, if_true, hd, Bool.false_eq_true, if_false] at this
              exact this
            clear HH
            go_wp2_with fail
            refine (check_any _ _ _).mono ?_
            rintro e w1 ⟨rfl, g1⟩
            obtain ⟨k1, k2⟩ := g1.cells
            go_wp2_with fail
            refine (scheck_any _ _ _ ((hs1.out.alloc _).gr g1)).mono ?_
            rintro e w2 ⟨rfl, g2⟩
            go_wp2_with fail
            go_ret
            exact ⟨by rw [E1.out]; rfl, ((hg.alloc _).trans g1).trans g2⟩
          · have hd' := sbne_of hd
            have E1 : Hid (chkFGo l = chkFGo (l.drop (k + 1))) := by
              have := HH.out
              simp only [chkB, hc, if_true, hd] at this
              exact this
            clear HH
            go_wp2_with fail
            refine (check_any _ _ _).mono ?_
            rintro e w1 ⟨rfl, g1⟩
            obtain ⟨k1, k2⟩ := g1.cells
            go_wp2_with fail
            refine (scheck_any _ _ _ ((hs1.out.alloc _).gr g1)).mono ?_
            rintro e w2 ⟨rfl, g2⟩
            go_wp2_with fail
            go_roundw
            case rel => exact ⟨k + 1, by omega, by go_num, E1, ((hg.alloc _).trans g1).trans g2⟩
            case measure => simp [intOf]; omega
      · obtain rfl : k = l.length := by omega
        have E1 : Hid (chkFGo l = 0) := by rw [hh.out, List.drop_length]; rfl
        clear hh
        go_wp2
        go_ret
        exact ⟨by rw [E1.out]; rfl, hg⟩
end Go.Proofs.YtbpkfkljeibjoaaGreat
/- The contracts of package filter's has, setOf and tableOf. -/
namespace Rm
open Go Go.RowKit
theorem u64_pow (n : Nat) (h : n ≤ 32) : IntKind.u64.wrap (2 ^ n) = ((2 ^ n : Nat) : Int) := by
  rw [IntKind.wrap_u64]
  have h1 : (2 : Nat) ^ n ≤ 2 ^ 32 := Nat.pow_le_pow_right (by omega) h
  have h2 : ((2 ^ n : Nat) : Int) = (2 : Int) ^ n := by simp
  rw [← h2]
  generalize 2 ^ n = x at *
  omega
theorem bit_eq64 (m n : Nat) (hm : m < 2 ^ 32) (hn : n < 32) : (bits .and .u64 (m : Int) (IntKind.u64.wrap (2 ^ n)) != 0) = m.testBit n := by
  have h1 : (2 : Nat) ^ n < 2 ^ 32 := Nat.pow_lt_pow_right (by omega) hn
  rw [u64_pow n (by omega), u64_and_nat m (2 ^ n) (by omega) (by omega), ← and_pow_bne]
  rw [Bool.eq_iff_iff]
  simp only [bne_iff_ne, ne_eq]
  omega
theorem fill_bit (f t i : Nat) (h : f ≤ t) : (2 ^ t - 2 ^ f).testBit i = decide (f ≤ i ∧ i < t) := by
  obtain ⟨d, rfl⟩ : ∃ d, t = f + d := ⟨t - f, by omega⟩
  have e : 2 ^ (f + d) - 2 ^ f = 2 ^ f * (2 ^ d - 1) := by rw [Nat.pow_add, Nat.mul_sub, Nat.mul_one]
  rw [e, Nat.testBit_two_pow_mul, Nat.testBit_two_pow_sub_one, Bool.eq_iff_iff]
  simp
  omega
theorem or_fill (m f t : Nat) (h : f ≤ t) : m ||| (2 ^ t - 2 ^ f) = orTo m f (t - f) := by
  apply Nat.eq_of_testBit_eq
  intro i
  rw [Nat.testBit_or, fill_bit f t i h, orTo_bit]
  congr 2
  have : f + (t - f) = t := by omega
  rw [this]
theorem fill_eq (m f t : Nat) (hm : m < 2 ^ 32) (h : f ≤ t) (ht : t ≤ 32) : bits .or .u64 (m : Int) (IntKind.u64.wrap (IntKind.u64.wrap (2 ^ t) - IntKind.u64.wrap (2 ^ f))) = ((orTo m f (t - f) : Nat) : Int) := by
  have h1 : (2 : Nat) ^ t ≤ 2 ^ 32 := Nat.pow_le_pow_right (by omega) ht
  have h2 : (2 : Nat) ^ f ≤ 2 ^ t := Nat.pow_le_pow_right (by omega) h
  rw [u64_pow t ht, u64_pow f (by omega), ← or_fill m f t h]
  have e : IntKind.u64.wrap (((2 ^ t : Nat) : Int) - ((2 ^ f : Nat) : Int)) = ((2 ^ t - 2 ^ f : Nat) : Int) := by
    rw [IntKind.wrap_u64]
    generalize 2 ^ t = x at *
    generalize 2 ^ f = y at *
    omega
  have h3 : 2 ^ t - 2 ^ f < 18446744073709551616 := Nat.lt_of_le_of_lt (Nat.sub_le _ _) (by omega)
  rw [e, u64_or_nat m _ (by omega) h3]
def tArr (T : Nat → Nat) : Array Value := ((List.range 16).map fun i => Value.int .u64 (T i : Nat)).toArray
theorem tArr_size (T : Nat → Nat) : (tArr T).size = 16 := by simp [tArr]
theorem tArr_at (T : Nat → Nat) (i : Nat) (h : i < 16) : (tArr T)[i]? = some (.int .u64 (T i : Nat)) := by simp [tArr, h]
theorem tArr_one (T : Nat → Nat) : (tArr T).all (·.oneCell') = true := by
  simp [tArr, Value.oneCell']
theorem tArr_ext {s t : Nat → Nat} (h : ∀ i, i < 16 → s i = t i) : tArr s = tArr t := by
  unfold tArr
  congr 1
  apply List.map_congr_left
  intro i hi
  rw [h i (List.mem_range.1 hi)]
theorem tArr_set (s : Nat → Nat) (k : Nat) (b : Nat) (hk : k < 16) : (tArr s).setIfInBounds k (.int .u64 (b : Nat)) = tArr (fun i => if i = k then b else s i) := by
  apply Array.ext
  · simp [tArr]
  · intro i h1 h2
    simp [tArr] at h1 h2 ⊢
    by_cases e : i = k
    · subst e; simp
    · have : ¬ k = i := fun h => e h.symm
      simp [this, e]
end Rm
namespace Go.Proofs.YtbpkfkljeibjoaaGreat
open Go.RowKit Rm
set_option maxHeartbeats 400000 in
set_option maxRecDepth 100000 in
theorem fhas_any (m n : Nat) (w : World) (hm : m < 2 ^ 32) (hn : n < 32) :
    Calls Tryz.prog 189 #[.int .u64 m, .int .i64 n] w fun e w' => e = .returned (.bool (m.testBit n)) ∧ w = w' := by
  have h1 : ((n : Nat) : Int) < 32 := by omega
  have HB := Lib.hid (bit_eq64 m n hm hn)
  clear hm
  go_enter Tryz.func189, Tryz.ntmps189
  go_wp2
  go_ret
  exact ⟨by rw [← HB.out]; rfl, rfl⟩
set_option maxHeartbeats 1000000 in
set_option maxRecDepth 100000 in
theorem setOf_any (v : Value) (L : List (Nat × Nat)) (w : World) (hr : Rd2 w v (pairs L)) (hv : VF 0 L) :
    Calls Tryz.prog 186 #[v] w fun e w' => e = .returned (.int .u64 (maskL L : Nat)) ∧ Gr w w' := by
  obtain ⟨a, cp, rfl, hcp, hx⟩ := hr
  rw [pairs_len] at hcp
  rw [pairs_len]
  have HX := Lib.hid hx
  have HV := Lib.hid hv
  have hlen := hv.len16
  have hlen' : (L.length : Int) ≤ 16 := by omega
  clear hx hv
  go_enter Tryz.func186, Tryz.ntmps186
  go_wp2
  go_loopw [3, 8] (fun m i wr => ∃ k : Nat, k ≤ L.length ∧ i = .int .i64 k ∧ m = .int .u64 (maskL (L.take k) : Nat) ∧ Gr w wr) (fun _ i _ => L.length - (intOf i).toNat)
  case atStart => exact ⟨0, by omega, rfl, rfl, Gr.refl _⟩
  case round =>
    obtain ⟨k, hk, rfl, rfl, hg⟩ := hrel
    generalize wr = wo at *
    by_cases hlt : k < L.length
    · obtain ⟨⟨f, t⟩, hp⟩ : ∃ p, L[k]? = some p := ⟨_, List.getElem?_eq_getElem hlt⟩
      obtain ⟨b, off, rfl, hb, hcell⟩ := HX.out (by intro e; rw [← pairs_len, e] at hlt; simp at hlt)
      have c1 : w.cell? ⟨b, off + k * 2, none⟩ = some (.int .i64 f) := (hcell k _ (pairs_at hp)).1
      have c2 : w.cell? ⟨b, off + k * 2 + 1, none⟩ = some (.int .i64 t) := (hcell k _ (pairs_at hp)).2
      rw [← hg.cells.1 b _ hb] at c1 c2
      have hbr : b < wo.heap.size := Nat.lt_of_lt_of_le hb hg.le
      have hft : f < t ∧ t ≤ 32 := HV.out.le (f, t) (List.mem_of_getElem? hp)
      have HM := Lib.hid (maskL_take hp)
      have hml : maskL (L.take k) < 2 ^ 32 := maskL_lt (fun p hp => HV.out.le p (List.mem_of_mem_take hp))
      clear hcell
      generalize maskL (L.take k) = m at *
      have HF := Lib.hid (fill_eq m f t hml (by omega) hft.2)
      have hk16 : (k : Int) ≤ 16 := by omega
      have hf32 : (f : Int) < 32 := by omega
      have ht32 : (t : Int) ≤ 32 := by omega
      clear hml
      go_wp2
      go_quiet (fail)
      go_wp2
      go_roundw
      case rel => exact ⟨k + 1, by omega, by go_num, by rw [HM.out, ← HF.out], (hg.alloc _).drewN _⟩
      case measure => simp [intOf]; omega
    · obtain rfl : k = L.length := by omega
      go_wp2
      go_ret
      exact ⟨by rw [List.take_length]; rfl, hg⟩
theorem table_info : (Tryz.prog.info? 196).map (·.size) = some 16 := by kernel_rfl
def midT (F : List Bx) (b : Bx) (k j t : Nat) : Nat := if t < j then addB t (tabF (F.take k) t) b else tabF (F.take k) t
def TabAt (w wr : World) (T : Nat → Nat) : Prop := Gr w wr ∧ wr.heap[w.heap.size + 1]? = some (.cells (tArr T) 196 (0, 0)) ∧ wr.heap[w.heap.size]? = some (.cells (tArr fun _ => 0) 196 (0, 0))
theorem TabAt.more {w wr w' : World} {T : Nat → Nat} (h : TabAt w wr T) (g : Gr wr w') : TabAt w w' T :=
  ⟨h.1.trans g, (Below.block g _ (Blk_lt h.2.1)).trans h.2.1, (Below.block g _ (Blk_lt h.2.2)).trans h.2.2⟩
theorem TabAt.set {w wr : World} {T : Nat → Nat} (h : TabAt w wr T) (k m : Nat) (hk : k < 16) : TabAt w (wr.setCell ⟨w.heap.size + 1, k, none⟩ (.int .u64 (m : Nat))) (fun i => if i = k then m else T i) := by
  refine ⟨h.1.setCell (by simp) _, ?_, ?_⟩
  · rw [heap_setCell_same _ _ _ _ _ _ h.2.1, tArr_set _ _ _ hk]
  · rw [heap_setCell_other _ _ _ _ (by simp)]; exact h.2.2
theorem TabAt.ext {w wr : World} {T T' : Nat → Nat} (h : TabAt w wr T) (e : ∀ i, i < 16 → T i = T' i) : TabAt w wr T' := by rw [TabAt, ← tArr_ext e]; exact h
def Three (w : World) (b : Nat) (y n : Int) (s : Value) : Prop := b < w.heap.size ∧ w.cell? ⟨b, 0, none⟩ = some (.int .i64 y) ∧ w.cell? ⟨b, 1, none⟩ = some (.int .i64 n) ∧ w.cell? ⟨b, 2, none⟩ = some s
theorem Three.gr {w w' : World} {b : Nat} {y n : Int} {s : Value} (h : Three w b y n s) (g : Gr w w') : Three w' b y n s :=
  ⟨Nat.lt_of_lt_of_le h.1 g.le, (g.cells.1 b 0 h.1).trans h.2.1, (g.cells.1 b 1 h.1).trans h.2.2.1, (g.cells.1 b 2 h.1).trans h.2.2.2⟩
theorem Three.new (w : World) (y n : Int) (s : Value) (t : TypeId) : Three (w.alloc (.cells #[.int .i64 y, .int .i64 n, s] t)) w.heap.size y n s := by
  refine ⟨by simp, ?_, ?_, ?_⟩ <;> simp [go_sem]
theorem Three.far {w : World} {b : Nat} {y n : Int} {s : Value} (h : Three w b y n s) {p : Addr} (hp : b ≠ p.block) (u : Value) : Three (w.setCell p u) b y n s := by
  obtain ⟨h1, h2, h3, h4⟩ := h
  refine ⟨by simpa using h1, ?_, ?_, ?_⟩
  · rw [World.cell?_setCell_other _ _ _ _ (fun e => hp (by rw [e]))]; exact h2
  · rw [World.cell?_setCell_other _ _ _ _ (fun e => hp (by rw [e]))]; exact h3
  · rw [World.cell?_setCell_other _ _ _ _ (fun e => hp (by rw [e]))]; exact h4
set_option maxHeartbeats 1000000 in
set_option maxRecDepth 100000 in
theorem tableOf_any (v : Value) (F : List Bx) (w : World) (hr : RdF w v (F.map boxI)) (hF : OkF F) (hl : F.length ≤ 40) :
    Calls Tryz.prog 166 #[v] w fun e w' => e = .returned (.agg (tArr (tabF F))) ∧ Gr w w' := by
  obtain ⟨a, cp, rfl, hcp, hx⟩ := hr
  rw [List.length_map] at hcp
  rw [List.length_map]
  have HX := Lib.hid hx
  have HF := Lib.hid hF
  have hlen' : (F.length : Int) ≤ 40 := by omega
  clear hx hF
  go_enter Tryz.func166, Tryz.ntmps166
  go_wp2
  go_loopw [12] (fun i wr => ∃ k : Nat, k ≤ F.length ∧ i = .int .i64 k ∧ TabAt w wr (tabF (F.take k))) (fun i _ => F.length - (intOf i).toNat)
  case atStart =>
    refine ⟨0, by omega, rfl, ((Gr.refl _).alloc _).alloc _, ?_, ?_⟩
    · rw [heap_alloc2_new]; rfl
    · rw [heap_alloc2_old]; rfl
  case round =>
    obtain ⟨k, hk, rfl, hat⟩ := hrel
    generalize wr = wo at *
    have hg := hat.1
    by_cases hlt : k < F.length
    · obtain ⟨⟨⟨y, n⟩, m⟩, hp⟩ : ∃ p, F[k]? = some p := ⟨_, List.getElem?_eq_getElem hlt⟩
      obtain ⟨b, off, rfl, hb, hcell⟩ := HX.out (by intro e; rw [← List.length_map (f := boxI), e] at hlt; simp at hlt)
      obtain ⟨sv, c1, c2, c3, hs⟩ := hcell k (boxI ((y, n), m)) (by simp [hp])
      rw [← hg.cells.1 b _ hb] at c1 c2 c3
      simp only [boxI] at c1 c2 c3 hs
      obtain ⟨sa, sc, rfl⟩ := rd2_form hs
      have hok : OkB ((y, n), m) := HF.out _ (List.mem_of_getElem? hp)
      have hs1 := Lib.hid (hs.gr hg)
      have hbr : b < wo.heap.size := Nat.lt_of_lt_of_le hb hg.le
      have HT := Lib.hid (fun t => tabF_take hp t)
      have HO := Lib.hid hok
      have HL := Lib.hid (fun t => tabF_lt (HF.out.take k) t)
      have hk16 : (k : Int) ≤ 40 := by omega
      have HA := Lib.hid hat
      have hmk := maskL_canon hok.2
      clear hcell hs hp hat hok
      go_wp2_with fail
      refine (setOf_any _ _ _ (hs1.out.alloc _) (canon_VF m)).mono ?_
      rw [hmk]
      rintro e w1 ⟨rfl, g1⟩
      have T1 := Lib.hid ((Three.new wo y n (.slice sa (pairs (canon m)).length sc) 92).gr g1)
      have A1 := Lib.hid ((HA.out.more ((Gr.refl _).alloc (.cells #[.int .i64 y, .int .i64 n, .slice sa (pairs (canon m)).length sc] 92))).more g1)
      have hbb : wo.heap.size ≠ w.heap.size + 1 := by have := Blk_lt HA.out.2.1; omega
      clear HA hs1 hg c1 c2 c3 g1 hmk
      generalize wo.heap.size = BB at *
      go_wp2_with fail
      go_loopw [19] (fun jj wi => ∃ j : Nat, j ≤ 16 ∧ jj = .int .i64 j ∧ TabAt w wi (midT F ((y, n), m) k j) ∧ Three wi BB y n (.slice sa (pairs (canon m)).length sc)) (fun jj _ => 16 - (intOf jj).toNat)
      case atStart => exact ⟨0, by omega, rfl, A1.out.ext (fun i _ => by simp [midT]), T1.out⟩
      case round =>
        obtain ⟨j, hj, rfl, hti, h3⟩ := hrel
        by_cases hjt : j < 16
        · have hin : hasR (y : Int) (n : Int) (j : Int) = inC ((y, n), m) j := rfl
          have HTI := Lib.hid hti
          have H3 := Lib.hid h3
          obtain ⟨t1, t2, t3, t4⟩ := h3
          have hj16 : (j : Int) < 16 := by omega
          clear hti
          cases hc : inC ((y, n), m) j
          · rw [hc] at hin
            have E : Hid (∀ i, i < 16 → midT F ((y, n), m) k j i = midT F ((y, n), m) k (j + 1) i) := by
              intro i hi
              unfold midT
              by_cases e1 : i < j
              · rw [if_pos e1, if_pos (by omega)]
              · rw [if_neg e1]
                by_cases e2 : i < j + 1
                · obtain rfl : i = j := by omega
                  rw [if_pos e2]
                  simp [addB, hc]
                · rw [if_neg e2]
            clear hc
            go_wp2_with fail
            refine (has_any _ _ _ _).mono ?_
            rw [hin]
            rintro e w2 ⟨rfl, g2⟩
            have A2 := Lib.hid (HTI.out.more g2)
            have T2 := Lib.hid (H3.out.gr g2)
            clear g2
            go_wp2_with fail
            go_roundw
            case rel => exact ⟨j + 1, by omega, by go_num, A2.out.ext E.out, T2.out⟩
            case measure => simp [intOf]; omega
          · rw [hc] at hin
            have E : Hid (∀ i, i < 16 → (if i = j then (tabF (F.take k) j ||| m) else midT F ((y, n), m) k j i) = midT F ((y, n), m) k (j + 1) i) := by
              intro i hi
              unfold midT
              by_cases e1 : i < j
              · rw [if_neg (by omega), if_pos e1, if_pos (by omega)]
              · by_cases e2 : i < j + 1
                · obtain rfl : i = j := by omega
                  rw [if_pos rfl, if_pos e2]
                  simp [addB, hc]
                · rw [if_neg (by omega), if_neg e1, if_neg e2]
            have HU := Lib.hid (u64_or_nat (tabF (F.take k) j) m (by have := HL.out j; omega) (by have := HO.out.2; omega))
            clear hc
            go_wp2_with fail
            refine (has_any _ _ _ _).mono ?_
            rw [hin]
            rintro e w2 ⟨rfl, g2⟩
            have A2 := Lib.hid (HTI.out.more g2)
            have T2 := Lib.hid (H3.out.gr g2)
            have hc : w2.cell? ⟨w.heap.size + 1, j, none⟩ = some (.int .u64 (tabF (F.take k) j : Nat)) := by
              rw [cell_of_row _ _ _ _ _ _ A2.out.2.1, tArr_at _ j hjt]
              simp [midT]
            have hfz := frozen_of_row _ _ j _ _ A2.out.2.1
            clear g2
            go_wp2_with fail
            go_roundw
            case rel => exact ⟨j + 1, by omega, by go_num, by have := (A2.out.set j _ hjt).ext E.out; rw [← HU.out] at this; exact this, T2.out.far hbb _⟩
            case measure => simp [intOf]; omega
        · obtain rfl : j = 16 := by omega
          have HTI := Lib.hid hti
          clear hti
          go_wp2
          go_roundw
          case rel => exact ⟨k + 1, by omega, by go_num, HTI.out.ext (fun i hi => by rw [HT.out i]; simp [midT, hi])⟩
          case measure => simp [intOf]; omega
    · obtain rfl : k = F.length := by omega
      rw [List.take_length] at hat
      have HS : Hid ((Tryz.prog.info? 196).map (·.size) = some (tArr (tabF F)).size) := by rw [tArr_size]; exact table_info
      have HO : Hid ((tArr fun _ => 0).size = (tArr (tabF F)).size) := by rw [tArr_size, tArr_size]; rfl
      have H1 := Lib.hid (tArr_one (tabF F))
      have HB := Lib.hid hat.2.1
      have HR := Lib.hid hat.2.2
      clear hat
      go_wp2_with (first | (refine wpList_load_row rfl 196 _ rfl (w.heap.size + 1) rfl 196 _ (0, 0) _ HB.out Tryz.underlying196 rfl HS.out ?_) | (refine wpList_store_row rfl 196 _ _ rfl w.heap.size _ rfl rfl 196 _ HR.out HS.out HO.out H1.out ?_))
      refine bodyPost_ret (v := .agg (tArr (tabF F))) (results_cell_row Tryz.results166 _ _ w.heap.size 196 _ (0, 0) _ rfl (setRow_heap _ _ _ _ _ _ HR.out) Tryz.underlying196 rfl HS.out) rfl ⟨rfl, ?_⟩
      exact hg.setRow (Nat.le_refl _) _
end Go.Proofs.YtbpkfkljeibjoaaGreat
/- The contracts of package filter's combine. -/
namespace Rm
open Go Go.RowKit
theorem andNot64 (a b : Nat) (ha : a < 2 ^ 32) (hb : b < 2 ^ 32) : a &&& (18446744073709551615 - b) = lessM a b := by
  apply Nat.eq_of_testBit_eq
  intro i
  rw [lessM_bit a b i hb ha, Nat.testBit_and]
  have e : 18446744073709551615 - b = 2 ^ 64 - (b + 1) := by omega
  rw [e, Nat.testBit_two_pow_sub_succ (by omega)]
  by_cases h : i < 64
  · simp [h]
  · have h2 : a.testBit i = false := Nat.testBit_lt_two_pow (Nat.lt_of_lt_of_le ha (Nat.pow_le_pow_right (by omega) (by omega)))
    simp [h2]
theorem results_row_tmp {P : Program} {fn : Func} {p q : Tmp} {ty : TypeId} (h : fn.results = #[.cell p ty, .tmp q]) (tmps : Array Value) (w : World) (g : Nat) (t : TypeId) (cs : Array Value) (fr : Nat × Nat) (d : TypeDesc) (v : Value)
    (hp : tmps.getD p undef = .pointer (some ⟨g, 0, none⟩)) (hq : tmps.getD q undef = v) (hg : w.heap[g]? = some (.cells cs t fr))
    (hu : P.underlying ty = some d) (hd : (match d with | .struct _ | .array _ _ => true | _ => false) = true) (hi : (P.info? ty).map (·.size) = some cs.size) :
    (results fn tmps).run P w = .ok (.tuple #[.agg cs, v]) w := by
  have hp' : tmps[p]?.getD undef = .pointer (some ⟨g, 0, none⟩) := by simpa using hp
  have hq' : tmps[q]?.getD undef = v := by simpa using hq
  simp [results, h, hp', hq', asAddr, run_loadVar_row w g t ty cs fr d hg hu hd hi]
end Rm
namespace Go.Proofs.YtbpkfkljeibjoaaGreat
open Go.RowKit Rm
def OpU (f : Nat) (g : Nat → Nat → Nat) : Prop := ∀ (a b : Nat), a < 2 ^ 32 → b < 2 ^ 32 → ∀ w : World, Calls Tryz.prog f #[.int .u64 a, .int .u64 b] w fun e w' => e = .returned (.int .u64 (g a b : Nat)) ∧ w' = w
theorem uop_meet : OpU 142 (fun a b => a &&& b) := by
  intro a b ha hb w
  have e := u64_and_nat a b (by omega) (by omega)
  skip
  have E := Lib.hid e
  clear e
  go_enter Tryz.func142, Tryz.ntmps142
  go_wp2
  go_ret
  exact ⟨by rw [← E.out]; rfl, rfl⟩
theorem uop_within : OpU 165 (fun a b => lessM a b) := by
  intro a b ha hb w
  have e := u64_andNot_nat a b (by omega) (by omega)
  rw [andNot64 a b ha hb] at e
  have E := Lib.hid e
  clear e
  go_enter Tryz.func165, Tryz.ntmps165
  go_wp2
  go_ret
  exact ⟨by rw [← E.out]; rfl, rfl⟩
end Go.Proofs.YtbpkfkljeibjoaaGreat
/- The contract of package filter's combine over valid filters. -/
namespace Go.Proofs.YtbpkfkljeibjoaaGreat
open Go.RowKit Rm
def midC (g : Nat → Nat → Nat) (T U : Nat → Nat) (j t : Nat) : Nat := if t < j then g (T t) (U t) else T t
def CombAt (w wr : World) (b : Nat) (T U : Nat → Nat) : Prop :=
  Gr w wr ∧ w.heap.size < b ∧ wr.heap[w.heap.size]? = some (.cells (tArr fun _ => 0) 196 (0, 0)) ∧ wr.heap[b]? = some (.cells (tArr T) 196 (0, 0)) ∧ wr.heap[b + 1]? = some (.cells (tArr U) 196 (0, 0))
theorem CombAt.set {w wr : World} {b : Nat} {T U : Nat → Nat} (h : CombAt w wr b T U) (k m : Nat) (hk : k < 16) : CombAt w ((wr.setCell ⟨b, k, none⟩ (.int .u64 (m : Nat))).drew) b (fun i => if i = k then m else T i) U := by
  obtain ⟨g, hlt, h0, h1, h2⟩ := h
  refine ⟨(g.setCell (by simp; omega) _).drew, hlt, ?_, ?_, ?_⟩
  · show (wr.setCell _ _).heap[_]? = _
    rw [heap_setCell_other _ _ _ _ (by show w.heap.size ≠ b; omega)]; exact h0
  · show (wr.setCell _ _).heap[_]? = _
    rw [heap_setCell_same _ _ _ _ _ _ h1, tArr_set _ _ _ hk]
  · show (wr.setCell _ _).heap[_]? = _
    rw [heap_setCell_other _ _ _ _ (by simp)]; exact h2
theorem CombAt.ext {w wr : World} {b : Nat} {T T' U : Nat → Nat} (h : CombAt w wr b T U) (e : ∀ i, i < 16 → T i = T' i) : CombAt w wr b T' U := by rw [CombAt, ← tArr_ext e]; exact h
theorem combAt_start {w w4 : World} {A B : Array Value} {T U : Nat → Nat} (g : Gr w w4) (hlt : w.heap.size < w4.heap.size) (h0 : w4.heap[w.heap.size]? = some (.cells (tArr fun _ => 0) 196 (0, 0))) :
    CombAt w ((((w4.alloc (.cells A 196)).alloc (.cells B 196)).setRow w4.heap.size (tArr T)).setRow (w4.heap.size + 1) (tArr U)) w4.heap.size T U := by
  refine ⟨(((g.alloc _).alloc _).setRow g.le _).setRow (by have := g.le; omega) _, hlt, ?_, ?_, ?_⟩
  · rw [setRow_other _ _ _ _ (by omega), setRow_other _ _ _ _ (by omega), Below.heap_alloc _ _ _ (by simp; omega), Below.heap_alloc _ _ _ hlt]; exact h0
  · rw [setRow_other _ _ _ _ (by omega)]
    exact setRow_heap _ _ _ _ _ _ (heap_alloc2_old w4 _ _)
  · refine setRow_heap _ _ B _ _ _ ?_
    rw [setRow_other _ _ _ _ (by omega)]
    exact heap_alloc2_new w4 _ _
end Go.Proofs.YtbpkfkljeibjoaaGreat
/- Joined: FilE, FilF, FilG, FilH, FilI, FilJ. -/
/- The contract of package filter's spans; the plain mathematics of blocks and merge. -/
namespace Rm
open Go Go.RowKit
def bitsL (m : Nat) : Nat → List Int
  | 0 => []
  | k + 1 => if m.testBit k then bitsL m k ++ [(k : Int)] else bitsL m k
theorem bitsL_yes {m k : Nat} (h : m.testBit k = true) : bitsL m (k + 1) = bitsL m k ++ [(k : Int)] := by simp [bitsL, h]
theorem bitsL_no {m k : Nat} (h : m.testBit k = false) : bitsL m (k + 1) = bitsL m k := by simp [bitsL, h]
theorem bitsL_len (m : Nat) : ∀ k, (bitsL m k).length ≤ k
  | 0 => Nat.le_refl _
  | k + 1 => by
    have := bitsL_len m k
    unfold bitsL
    split
    · simp; omega
    · omega
theorem bitsL_mem (m : Nat) (x : Int) : ∀ k, x ∈ bitsL m k ↔ ∃ i : Nat, i < k ∧ x = i ∧ m.testBit i = true
  | 0 => by simp [bitsL]
  | k + 1 => by
    unfold bitsL
    split
    · rename_i h
      rw [List.mem_append, bitsL_mem m x k]
      constructor
      · rintro (⟨i, a, b, c⟩ | hx)
        · exact ⟨i, by omega, b, c⟩
        · exact ⟨k, by omega, by simpa using hx, h⟩
      · rintro ⟨i, a, b, c⟩
        rcases Nat.lt_or_ge i k with d | d
        · exact .inl ⟨i, d, b, c⟩
        · obtain rfl : i = k := by omega
          exact .inr (by simp [b])
    · rename_i h
      rw [bitsL_mem m x k]
      constructor
      · rintro ⟨i, a, b, c⟩; exact ⟨i, by omega, b, c⟩
      · rintro ⟨i, a, b, c⟩
        refine ⟨i, ?_, b, c⟩
        rcases Nat.lt_or_ge i k with d | d
        · exact d
        · obtain rfl : i = k := by omega
          exact absurd c h
theorem bitsL_num (m : Nat) : (bitsL m 32).all numB = true := by
  rw [List.all_eq_true]
  intro x hx
  obtain ⟨i, a, rfl, _⟩ := (bitsL_mem m x 32).1 hx
  simp [numB]
  omega
theorem foldI_bit (l : List Int) (m i : Nat) : (l.foldl (fun m x => m ||| 2 ^ x.toNat) m).testBit i = true ↔ m.testBit i = true ∨ ∃ x ∈ l, x.toNat = i := by
  induction l generalizing m with
  | nil => simp
  | cons x l ih =>
    rw [List.foldl_cons, ih, Nat.testBit_or, Nat.testBit_two_pow]
    simp [or_assoc]
theorem maskI_bit (l : List Int) (i : Nat) : (maskI l).testBit i = true ↔ ∃ x ∈ l, x.toNat = i := by
  unfold maskI
  rw [foldI_bit]
  simp
theorem maskI_bitsL {m : Nat} (h : m < 2 ^ 32) : maskI (bitsL m 32) = m := by
  apply Nat.eq_of_testBit_eq
  intro i
  rw [Bool.eq_iff_iff, maskI_bit]
  constructor
  · rintro ⟨x, hx, rfl⟩
    obtain ⟨j, _, rfl, hj⟩ := (bitsL_mem m x 32).1 hx
    simpa using hj
  · intro hi
    refine ⟨(i : Int), (bitsL_mem m i 32).2 ⟨i, ?_, rfl, hi⟩, by simp⟩
    rcases Nat.lt_or_ge i 32 with c | c
    · exact c
    · have := Nat.testBit_lt_two_pow (Nat.lt_of_lt_of_le h (Nat.pow_le_pow_right (by omega) c))
      rw [this] at hi; cases hi
def flat1 (l : List Int) : List Value := l.map fun x => .int .i64 x
theorem new1 (w : World) (v : Value) (t : TypeId) : ∀ j u, ([v] : List Value)[j]? = some u → (w.alloc (.cells #[v] t)).cell? ((⟨w.heap.size, 0, none⟩ : Addr).add j) = some u := by
  intro j u hu
  match j with
  | 0 => simp at hu; subst hu; simp [go_sem, Addr.add]
  | j + 1 => simp at hu
end Rm
namespace Go.Proofs.YtbpkfkljeibjoaaGreat
open Go.RowKit Rm
theorem int_info : (Tryz.prog.info? 3).map (fun i => (i.zero, i.size, i.bytes)) = some (some (.int .i64 0), 1, 8) := by kernel_rfl
theorem Rd1.own {w : World} {base : Nat} {e : TypeId} {v : Value} {l : List Int} (h : w.ownsRow base e 1 v l.length (flat1 l)) : Rd1 w v l := by
  obtain ⟨hl, h⟩ := h
  rcases h with ⟨rfl, h0⟩ | ⟨g, cap, cur, rfl, _, hg, hn, _, hs, ht⟩
  · have : l = [] := List.eq_nil_of_length_eq_zero h0
    subst this
    exact ⟨none, 0, rfl, Nat.le_refl _, fun h => absurd rfl h⟩
  · refine ⟨_, _, rfl, hn, fun hne => ?_⟩
    refine ⟨g, 0, rfl, Blk_lt hg, fun i x hp => ?_⟩
    have hi : i < l.length := (List.getElem?_eq_some_iff.1 hp).1
    have hf : (flat1 l)[i]? = some (.int .i64 x) := by simp [flat1, hp]
    rw [← ht] at hf
    rw [List.getElem?_take_of_lt (by omega)] at hf
    simpa [World.cell?, hg] using hf
set_option maxHeartbeats 1000000 in
set_option maxRecDepth 100000 in
theorem fspans_any (m : Nat) (w : World) (hm : m < 2 ^ 32) :
    Calls Tryz.prog 170 #[.int .u64 m] w fun e w' => ∃ u, e = .returned u ∧ ListAt w w' (canon m) u := by
  obtain ⟨i0, hi0, hz0, hz1, hz2⟩ := info_parts int_info
  have HM := Lib.hid hm
  clear hm
  go_enter Tryz.func170, Tryz.ntmps170
  go_wp2
  go_loopw [3, 7] (fun v i wr => ∃ n : Nat, n ≤ 32 ∧ i = .int .i64 n ∧ Gr w wr ∧ wr.ownsRow w.heap.size 3 1 v (bitsL m n).length (flat1 (bitsL m n))) (fun _ i _ => 32 - (intOf i).toNat)
  case atStart => exact ⟨0, by omega, rfl, Gr.refl _, World.ownsRow_nil _ _ _ _⟩
  case round =>
    obtain ⟨n, hn, rfl, hg, hown⟩ := hrel
    have hlen := bitsL_len m n
    by_cases hlt : n < 32
    · cases hbit : m.testBit n
      · have HL := Lib.hid (bitsL_no hbit)
        have HO := Lib.hid hown
        clear hown
        go_wp2_with fail
        refine (fhas_any m n _ HM.out hlt).mono ?_
        rw [hbit]
        rintro e w1 ⟨rfl, rfl⟩
        go_wp2_with fail
        go_roundw
        case rel => exact ⟨n + 1, by omega, by go_num, hg, by rw [HL.out]; exact HO.out⟩
        case measure => simp [intOf]; omega
      · obtain ⟨a, c, rfl, hc⟩ := own_form hown
        have HO := Lib.hid hown
        have HP : Hid (flat1 (bitsL m (n + 1)) = flat1 (bitsL m n) ++ [.int .i64 (n : Int)] ∧ (bitsL m (n + 1)).length = (bitsL m n).length + 1) := by
          rw [bitsL_yes hbit]
          exact ⟨by simp [flat1], by simp⟩
        clear hown hc
        generalize (bitsL m n).length = len at *
        go_wp2_with fail
        refine (fhas_any m n _ HM.out hlt).mono ?_
        rw [hbit]
        rintro e w1 ⟨rfl, rfl⟩
        go_wp2_with (at_builtin; refine wpList_append_own _ rfl (.tmp 13) (.tmp 15) 30 rfl w.heap.size 3 i0 _ 1 8 Tryz.underlying30 hi0 hz0 hz1 hz2 rfl (by omega) _ _ _ rfl (HO.out.alloc _) ⟨wr.heap.size, 0, none⟩ 1 1 [.int .i64 (n : Int)] rfl rfl (new1 _ _ _) (by simp [Value.oneCell']) (by simp only [maxLen]; omega) (by omega) (by have := hg.le; simp; omega) ?_; intro v1 w1 hown hg1 _)
        go_roundw
        case rel => exact ⟨n + 1, by omega, by go_num, (hg.alloc _).grown hg1 (fun k hk => (HO.out.lt k hk).1), by rw [HP.out.1, HP.out.2]; exact hown⟩
        case measure => simp [intOf]; omega
    · obtain rfl : n = 32 := by omega
      have HO := Lib.hid (Rd1.own hown)
      clear hown
      go_wp2_with fail
      refine (of_any _ _ _ HO.out (by omega)).mono ?_
      rintro e w1 (⟨h0, _⟩ | ⟨h0, u, rfl, hu, _⟩)
      · exact absurd (bitsL_num m) (by rw [h0]; simp)
      · rw [maskI_bitsL HM.out] at hu
        clear h0
        go_wp2_with fail
        go_ret
        exact ⟨u, rfl, hu.more hg⟩
end Go.Proofs.YtbpkfkljeibjoaaGreat
/- The plain mathematics of blocks and merge. -/
namespace Rm
open Go Go.RowKit
theorem xor16 : ∀ a < 16, ∀ b < 16, bits .xor .i64 ((a : Nat) : Int) ((b : Nat) : Int) = ((a ^^^ b : Nat) : Int) := by decide +kernel
theorem andNot16' : ∀ a < 16, ∀ b < 16, bits .andNot .i64 ((a : Nat) : Int) ((b : Nat) : Int) = ((a &&& (15 - b) : Nat) : Int) := by decide +kernel
theorem andNot16_lt (a b : Nat) (h : a < 16) : a &&& (15 - b) < 16 := Nat.lt_of_le_of_lt Nat.and_le_left h
def blk1 (T : Nat → Nat) (k : Nat) : Bx := ((k, 15 - k), T k)
theorem not15 : ∀ k < 16, bits .andNot .i64 15 ((k : Nat) : Int) = ((15 - k : Nat) : Int) := by decide +kernel
def blkT (T : Nat → Nat) : Nat → List Bx
  | 0 => []
  | k + 1 => if T k = 0 then blkT T k else blkT T k ++ [blk1 T k]
theorem blkT_no {T : Nat → Nat} {k : Nat} (h : T k = 0) : blkT T (k + 1) = blkT T k := by simp [blkT, h]
theorem blkT_yes {T : Nat → Nat} {k : Nat} (h : ¬ T k = 0) : blkT T (k + 1) = blkT T k ++ [blk1 T k] := by simp [blkT, h]
theorem blkT_len (T : Nat → Nat) : ∀ k, (blkT T k).length ≤ k
  | 0 => Nat.le_refl _
  | k + 1 => by
    have := blkT_len T k
    unfold blkT
    split
    · omega
    · simp; omega
theorem blkT_mem (T : Nat → Nat) (b : Bx) : ∀ k, b ∈ blkT T k → ∃ i, i < k ∧ b = blk1 T i
  | 0, h => by cases h
  | k + 1, h => by
    unfold blkT at h
    split at h
    · obtain ⟨i, a, b⟩ := blkT_mem T b k h; exact ⟨i, by omega, b⟩
    · rcases List.mem_append.1 h with h | h
      · obtain ⟨i, a, b⟩ := blkT_mem T b k h; exact ⟨i, by omega, b⟩
      · exact ⟨k, by omega, by simpa using h⟩
theorem vld15 : ∀ k < 16, Nat.land k (15 - k) = 0 := by decide
theorem blkT_ok {T : Nat → Nat} (hT : ∀ t, t < 16 → T t < 2 ^ 32) {k : Nat} (hk : k ≤ 16) : OkF (blkT T k) := by
  intro b hb
  obtain ⟨i, hi, rfl⟩ := blkT_mem T b k hb
  exact ⟨⟨by simp [blk1]; omega, by simp [blk1]; omega, vld15 i (by omega)⟩, hT i (by omega)⟩
def inTab : Bool := (List.range 16).all fun k => (List.range 16).all fun t => hasR ((k : Nat) : Int) ((15 - k : Nat) : Int) ((t : Nat) : Int) == decide (k = t)
theorem inTab_true : inTab = true := by decide +kernel
theorem in_blk1 (T : Nat → Nat) {k t : Nat} (hk : k < 16) (ht : t < 16) : inC (blk1 T k) t = decide (k = t) := by
  have H := inTab_true
  unfold inTab at H
  rw [List.all_eq_true] at H
  have := H k (List.mem_range.2 hk)
  rw [List.all_eq_true] at this
  have h2 := this t (List.mem_range.2 ht)
  rw [beq_iff_eq] at h2
  exact h2
theorem tab_blkT (T : Nat → Nat) {t : Nat} (ht : t < 16) : ∀ k, k ≤ 16 → tabF (blkT T k) t = if t < k then T t else 0
  | 0, _ => by simp [blkT, tabF]
  | k + 1, hk => by
    have ih := tab_blkT T ht k (by omega)
    unfold blkT
    split
    · rename_i h
      rw [ih]
      by_cases e : t = k
      · subst e; rw [if_neg (by omega), if_pos (by omega), h]
      · have : (t < k) ↔ (t < k + 1) := by omega
        simp only [this]
    · rw [tabF_snoc, ih, addB, in_blk1 T (by omega) ht]
      by_cases e : k = t
      · subst e
        rw [if_pos (by simp), if_neg (by omega), if_pos (by omega)]
        simp [blk1]
      · have : (t < k) ↔ (t < k + 1) := by omega
        rw [if_neg (by simpa using e)]
        simp only [this]
def twin (g : Nat) (b : Bx) : Bx := ((b.1.1 ^^^ g, b.1.2 ^^^ g), b.2)
def both (g : Nat) (b : Bx) : Bx := ((b.1.1 &&& (15 - g), b.1.2 &&& (15 - g)), b.2)
def twinTab (i : Nat) : Bool := (List.range 16).all fun y => (List.range 16).all fun n => (List.range 16).all fun t =>
  !(Nat.land y n == 0 && Nat.land (y ^^^ 2 ^ i) (n ^^^ 2 ^ i) == 0) ||
  ((hasR ((y &&& (15 - 2 ^ i) : Nat) : Int) ((n &&& (15 - 2 ^ i) : Nat) : Int) ((t : Nat) : Int) == (hasR ((y ^^^ 2 ^ i : Nat) : Int) ((n ^^^ 2 ^ i : Nat) : Int) ((t : Nat) : Int) || hasR ((y : Nat) : Int) ((n : Nat) : Int) ((t : Nat) : Int))) && (Nat.land (y &&& (15 - 2 ^ i)) (n &&& (15 - 2 ^ i)) == 0))
theorem twinTab0 : twinTab 0 = true := by decide +kernel
theorem twinTab1 : twinTab 1 = true := by decide +kernel
theorem twinTab2 : twinTab 2 = true := by decide +kernel
theorem twinTab3 : twinTab 3 = true := by decide +kernel
theorem twinTab_all (i : Nat) (h : i < 4) : twinTab i = true := by
  match i, h with
  | 0, _ => exact twinTab0
  | 1, _ => exact twinTab1
  | 2, _ => exact twinTab2
  | 3, _ => exact twinTab3
theorem twin_both {i : Nat} (hi : i < 4) {b : Bx} (h : OkB b) (h' : OkB (twin (2 ^ i) b)) : OkB (both (2 ^ i) b) ∧ ∀ t, t < 16 → inC (both (2 ^ i) b) t = (inC (twin (2 ^ i) b) t || inC b t) := by
  obtain ⟨⟨y, n⟩, m⟩ := b
  obtain ⟨⟨h1, h2, h3⟩, h4⟩ := h
  obtain ⟨⟨_, _, h5⟩, _⟩ := h'
  simp only [twin] at h1 h2 h3 h4 h5
  have key : ∀ t, t < 16 → _ := fun t ht => by
    have H := twinTab_all i hi
    unfold twinTab at H
    rw [List.all_eq_true] at H
    have H1 := H y (List.mem_range.2 h1)
    rw [List.all_eq_true] at H1
    have H2 := H1 n (List.mem_range.2 h2)
    rw [List.all_eq_true] at H2
    have H3 := H2 t (List.mem_range.2 ht)
    rw [h3, h5] at H3
    simp only [beq_self_eq_true, Bool.and_self, Bool.not_true, Bool.false_or, Bool.and_eq_true, beq_iff_eq] at H3
    exact H3
  refine ⟨⟨⟨andNot16_lt _ _ h1, andNot16_lt _ _ h2, (key 0 (by omega)).2⟩, h4⟩, fun t ht => (key t ht).1⟩
theorem tab_set {M : List Bx} {b : Bx} {i j : Nat} (hi : i < 4) (hM : OkF M) (hb : OkB b) (hj : M[j]? = some (twin (2 ^ i) b)) : OkF (M.set j (both (2 ^ i) b)) ∧ ∀ t, t < 16 → tabF (M.set j (both (2 ^ i) b)) t = addB t (tabF M t) b := by
  have hjl : j < M.length := (List.getElem?_eq_some_iff.1 hj).1
  obtain ⟨k1, k2⟩ := twin_both hi hb (hM _ (List.mem_of_getElem? hj))
  have hmem : ∀ c, c ∈ M.set j (both (2 ^ i) b) ↔ c = both (2 ^ i) b ∨ ∃ l, l ≠ j ∧ M[l]? = some c := by
    intro c
    rw [List.mem_iff_getElem?]
    constructor
    · rintro ⟨l, hl⟩
      by_cases e : l = j
      · subst e
        rw [List.getElem?_set_self hjl] at hl
        exact .inl (by simpa using hl.symm)
      · rw [List.getElem?_set_ne (fun h => e h.symm)] at hl
        exact .inr ⟨l, e, hl⟩
    · rintro (rfl | ⟨l, e, hl⟩)
      · exact ⟨j, List.getElem?_set_self hjl⟩
      · exact ⟨l, by rw [List.getElem?_set_ne (fun h => e h.symm)]; exact hl⟩
  refine ⟨fun c hc => ?_, fun t ht => ?_⟩
  · rcases (hmem c).1 hc with rfl | ⟨l, _, hl⟩
    · exact k1
    · exact hM c (List.mem_of_getElem? hl)
  · apply Nat.eq_of_testBit_eq
    intro n
    rw [Bool.eq_iff_iff, tabF_bit]
    have e1 : (addB t (tabF M t) b).testBit n = true ↔ (tabF M t).testBit n = true ∨ (inC b t = true ∧ b.2.testBit n = true) := by
      unfold addB
      split
      · rename_i h; simp [h]
      · rename_i h; simp [h]
    rw [e1, tabF_bit]
    constructor
    · rintro ⟨c, hc, h1, h2⟩
      rcases (hmem c).1 hc with rfl | ⟨l, _, hl⟩
      · rw [k2 t ht, Bool.or_eq_true] at h1
        rcases h1 with h1 | h1
        · exact .inl ⟨_, List.mem_of_getElem? hj, h1, h2⟩
        · exact .inr ⟨h1, h2⟩
      · exact .inl ⟨c, List.mem_of_getElem? hl, h1, h2⟩
    · rintro (⟨c, hc, h1, h2⟩ | ⟨h1, h2⟩)
      · obtain ⟨l, hl⟩ := List.mem_iff_getElem?.1 hc
        by_cases e : l = j
        · subst e
          rw [hj] at hl
          obtain rfl := Option.some.inj hl
          exact ⟨both (2 ^ i) b, (hmem _).2 (.inl rfl), by rw [k2 t ht, h1]; rfl, h2⟩
        · exact ⟨c, (hmem c).2 (.inr ⟨l, e, hl⟩), h1, h2⟩
      · exact ⟨both (2 ^ i) b, (hmem _).2 (.inl rfl), by rw [k2 t ht, h1]; simp, h2⟩
def flatK (l : List Bx) : List Value := l.flatMap fun b => [.int .i64 (b.1.1 : Nat), .int .i64 (b.1.2 : Nat), .int .u64 (b.2 : Nat)]
theorem flatK_cons (p : Bx) (l : List Bx) : flatK (p :: l) = .int .i64 (p.1.1 : Nat) :: .int .i64 (p.1.2 : Nat) :: .int .u64 (p.2 : Nat) :: flatK l := rfl
theorem flatK_app (l r : List Bx) : flatK (l ++ r) = flatK l ++ flatK r := by simp [flatK]
theorem flatK_at (l : List Bx) (i : Nat) (p : Bx) (h : l[i]? = some p) : (flatK l)[i * 3]? = some (.int .i64 (p.1.1 : Nat)) ∧ (flatK l)[i * 3 + 1]? = some (.int .i64 (p.1.2 : Nat)) ∧ (flatK l)[i * 3 + 2]? = some (.int .u64 (p.2 : Nat)) := by
  induction l generalizing i with
  | nil => simp at h
  | cons q l ih =>
    rw [flatK_cons]
    cases i with
    | zero => simp at h; subst h; simp
    | succ i =>
      have e : (i + 1) * 3 = i * 3 + 1 + 1 + 1 := by omega
      rw [e]
      simpa using ih i (by simpa using h)
theorem flatK_set (l : List Bx) (i : Nat) (p q : Bx) (h : l[i]? = some p) (e : p.2 = q.2) : ((flatK l).set (i * 3) (.int .i64 (q.1.1 : Nat))).set (i * 3 + 1) (.int .i64 (q.1.2 : Nat)) = flatK (l.set i q) := by
  induction l generalizing i with
  | nil => simp at h
  | cons r l ih =>
    cases i with
    | zero => simp at h; subst h; simp [flatK_cons, e]
    | succ i =>
      have e : (i + 1) * 3 = i * 3 + 1 + 1 + 1 := by omega
      have e2 : (r :: l).set (i + 1) q = r :: l.set i q := rfl
      rw [e, e2, flatK_cons, flatK_cons]
      simpa using ih i (by simpa using h)
end Rm
/- The contracts of package filter's blocks and of slices.Index over blocks. -/
namespace Go.Proofs.YtbpkfkljeibjoaaGreat
open Go.RowKit Rm
theorem set_info : (Tryz.prog.info? 194).map (·.size) = some 1 := by kernel_rfl
theorem index_table (T : Nat → Nat) (k : Nat) (hk : k < 16) (w : World) : (Instr.index 196 (.agg (tArr T)) (.int .i64 (k : Int))).run Tryz.prog w = .ok (.int .u64 (T k : Nat)) w := by
  have hz : (sizeOf 194).run Tryz.prog w = .ok 1 w := by
    cases hq : Tryz.prog.info? 194 with
    | none => have := set_info; rw [hq] at this; simp at this
    | some i =>
      have hs : i.size = 1 := by have := set_info; rw [hq] at this; simpa using this
      simp [sizeOf, typeInfo, hq, hs]
  have hc := tArr_at T k hk
  simp [Instr.index, Sem.run_bind, run_underlying Tryz.underlying196, asIntOf, part, hz, hc]
  intro h
  omega
def Rd3 (w : World) (v : Value) (l : List Bx) : Prop :=
  ∃ a c, v = .slice a l.length c ∧ l.length ≤ c ∧ (l ≠ [] → ∃ b off, a = some ⟨b, off, none⟩ ∧ b < w.heap.size ∧
    ∀ i p, l[i]? = some p → w.cell? ⟨b, off + i * 3, none⟩ = some (.int .i64 (p.1.1 : Nat)) ∧ w.cell? ⟨b, off + i * 3 + 1, none⟩ = some (.int .i64 (p.1.2 : Nat)) ∧ w.cell? ⟨b, off + i * 3 + 2, none⟩ = some (.int .u64 (p.2 : Nat)))
theorem Rd3.gr {w w' : World} {v : Value} {l : List Bx} (h : Rd3 w v l) (g : Gr w w') : Rd3 w' v l := by
  obtain ⟨a, c, e, hc, h⟩ := h
  refine ⟨a, c, e, hc, fun hl => ?_⟩
  obtain ⟨b, off, ea, hb, hx⟩ := h hl
  refine ⟨b, off, ea, Nat.lt_of_lt_of_le hb g.le, fun i p hp => ?_⟩
  obtain ⟨h1, h2, h3⟩ := hx i p hp
  exact ⟨(g.cells.1 b _ hb).trans h1, (g.cells.1 b _ hb).trans h2, (g.cells.1 b _ hb).trans h3⟩
theorem Rd3.own {w : World} {base : Nat} {e : TypeId} {v : Value} {l : List Bx} (h : w.ownsRow base e 3 v l.length (flatK l)) : Rd3 w v l := by
  obtain ⟨hl, h⟩ := h
  rcases h with ⟨rfl, h0⟩ | ⟨g, cap, cur, rfl, _, hg, hn, _, hs, ht⟩
  · have : l = [] := List.eq_nil_of_length_eq_zero h0
    subst this
    exact ⟨none, 0, rfl, Nat.le_refl _, fun h => absurd rfl h⟩
  · refine ⟨_, _, rfl, hn, fun hne => ?_⟩
    refine ⟨g, 0, rfl, Blk_lt hg, fun i p hp => ?_⟩
    have hi : i < l.length := (List.getElem?_eq_some_iff.1 hp).1
    have hf := flatK_at l i p hp
    rw [← ht] at hf
    have key : ∀ j, j < l.length * 3 → w.cell? ⟨g, 0 + j, none⟩ = (cur.toList.take (l.length * 3))[j]? := by
      intro j hj
      rw [List.getElem?_take_of_lt hj]
      simp [World.cell?, hg]
    have k2 := key (i * 3 + 1) (by omega)
    have k3 := key (i * 3 + 2) (by omega)
    rw [← Nat.add_assoc] at k2 k3
    exact ⟨(key (i * 3) (by omega)).trans hf.1, k2.trans hf.2.1, k3.trans hf.2.2⟩
theorem new3 (w : World) (a b c : Value) (t : TypeId) : ∀ j u, ([a, b, c] : List Value)[j]? = some u → (w.alloc (.cells #[a, b, c] t)).cell? ((⟨w.heap.size, 0, none⟩ : Addr).add j) = some u := by
  intro j u hu
  match j with
  | 0 => simp at hu; subst hu; simp [go_sem, Addr.add]
  | 1 => simp at hu; subst hu; simp [go_sem, Addr.add]
  | 2 => simp at hu; subst hu; simp [go_sem, Addr.add]
  | j + 3 => simp at hu
theorem block_info : (Tryz.prog.info? 219).map (fun i => (i.zero, i.size, i.bytes)) = some (some (.agg #[.int .i64 0, .int .i64 0, .int .u64 0]), 3, 24) := by kernel_rfl
theorem one3 (a b : Int) (c : Int) : ∀ u ∈ ([.int .i64 a, .int .i64 b, .int .u64 c] : List Value), u.oneCell' = true := by
  intro u hu
  simp at hu
  rcases hu with rfl | rfl | rfl <;> rfl
def BlkAt (w wr : World) (l : List Bx) (v : Value) : Prop := Gr w wr ∧ wr.ownsRow w.heap.size 219 3 v l.length (flatK l)
theorem BlkAt.rd {w w1 : World} {l : List Bx} {v : Value} (h : BlkAt w w1 l v) : Rd3 w1 v l := Rd3.own h.2
theorem BlkAt.more {w w1 w2 : World} {l : List Bx} {v : Value} (g : Gr w w1) (h : BlkAt w1 w2 l v) : BlkAt w w2 l v := by
  refine ⟨g.trans h.1, h.2.1, ?_⟩
  rcases h.2.2 with ⟨a, b⟩ | ⟨g', cap, cur, a, b, c⟩
  · exact .inl ⟨a, b⟩
  · exact .inr ⟨g', cap, cur, a, Nat.le_trans g.le b, c⟩
set_option maxHeartbeats 1000000 in
set_option maxRecDepth 100000 in
theorem blocks_any (T : Nat → Nat) (w : World) :
    Calls Tryz.prog 168 #[.agg (tArr T)] w fun e w' => ∃ u, e = .returned u ∧ BlkAt w w' (blkT T 16) u := by
  obtain ⟨i0, hi0, hz0, hz1, hz2⟩ := info_parts block_info
  have HS : Hid ((Tryz.prog.info? 196).map (·.size) = some (tArr T).size) := by rw [tArr_size]; exact table_info
  go_enter Tryz.func168, Tryz.ntmps168
  go_wp2_with (refine wpList_load_row rfl 196 _ rfl w.heap.size rfl 196 (tArr T) (0, 0) _ (heap_alloc_new _ _) Tryz.underlying196 rfl HS.out ?_)
  go_loopw [3, 7] (fun v i wr => ∃ n : Nat, n ≤ 16 ∧ i = .int .i64 n ∧ BlkAt w wr (blkT T n) v) (fun _ i _ => 16 - (intOf i).toNat)
  case atStart => exact ⟨0, by omega, rfl, (Gr.refl _).alloc _, World.ownsRow_nil _ _ _ _⟩
  case round =>
    obtain ⟨n, hn, rfl, hg, hown⟩ := hrel
    have hlen := blkT_len T n
    by_cases hlt : n < 16
    · have hix := fun wx => index_table T n hlt wx
      have hn16 : (n : Int) < 16 := by omega
      by_cases h0 : T n = 0
      · have HL := Lib.hid (blkT_no h0)
        have HO := Lib.hid hown
        rw [h0] at hix
        clear hown h0
        go_wp2_with fail
        go_roundw
        case rel => exact ⟨n + 1, by omega, by go_num, hg, by rw [HL.out]; exact HO.out⟩
        case measure => simp [intOf]; omega
      · obtain ⟨a, c, rfl, hc⟩ := own_form hown
        have HO := Lib.hid hown
        have HP : Hid (flatK (blkT T (n + 1)) = flatK (blkT T n) ++ [.int .i64 (n : Int), .int .i64 ((15 - n : Nat) : Int), .int .u64 (T n : Nat)] ∧ (blkT T (n + 1)).length = (blkT T n).length + 1) := by
          rw [blkT_yes h0]
          exact ⟨by rw [flatK_app]; rfl, by simp⟩
        have hne : (((T n : Nat) : Int) != 0) = true := by simp; omega
        have h15 := not15 n hlt
        clear hown hc h0
        generalize (blkT T n).length = len at *
        generalize (15 - n) = nn at *
        go_wp2_with (at_builtin; refine wpList_append_own _ rfl (.tmp 13) (.tmp 20) 215 rfl w.heap.size 219 i0 _ 3 24 Tryz.underlying215 hi0 hz0 hz1 hz2 rfl (by omega) _ _ _ rfl (HO.out.alloc _) ⟨wr.heap.size, 0, none⟩ 1 1 [.int .i64 (n : Int), .int .i64 (nn : Int), .int .u64 (T n : Nat)] rfl rfl (new3 _ _ _ _ _) (one3 _ _ _) (by simp only [maxLen]; omega) (by omega) (by have := hg.le; simp; omega) ?_; intro v1 w1 hown hg1 _)
        go_roundw
        case rel => exact ⟨n + 1, by omega, by go_num, (hg.alloc _).grown hg1 (fun k hk => (HO.out.lt k hk).1), by rw [HP.out.1, HP.out.2]; exact hown⟩
        case measure => simp [intOf]; omega
    · obtain rfl : n = 16 := by omega
      have HO := Lib.hid hown
      clear hown
      go_wp2_with fail
      go_ret
      exact ⟨_, rfl, hg, HO.out⟩
end Go.Proofs.YtbpkfkljeibjoaaGreat
/- The contract of slices.Index over blocks. -/
namespace Go.Proofs.YtbpkfkljeibjoaaGreat
open Go.RowKit Rm
def IdxAt (l : List Bx) (b : Bx) (w : World) (e : Ending) (w' : World) : Prop :=
  ((∃ i : Nat, l[i]? = some b ∧ e = .returned (.int .i64 (i : Int))) ∨ (b ∉ l ∧ e = .returned (.int .i64 (-1)))) ∧ Gr w w'
theorem not_mem_of {l : List Bx} {b : Bx} (h : ∀ j, j < l.length → l[j]? ≠ some b) : b ∉ l := by
  intro hb
  obtain ⟨j, hj⟩ := List.mem_iff_getElem?.1 hb
  exact h j (List.getElem?_eq_some_iff.1 hj).1 hj
set_option maxHeartbeats 1000000 in
set_option maxRecDepth 100000 in
theorem index_any (v : Value) (l : List Bx) (y n m : Nat) (w : World) (hr : Rd3 w v l) (hl : l.length ≤ 16) :
    Calls Tryz.prog 188 #[v, .agg #[.int .i64 (y : Int), .int .i64 (n : Int), .int .u64 (m : Int)]] w (IdxAt l ((y, n), m) w) := by
  obtain ⟨a, cp, rfl, hcp, hx⟩ := hr
  have HX := Lib.hid hx
  have hlen' : (l.length : Int) ≤ 16 := by omega
  clear hx
  go_enter Tryz.func188, Tryz.ntmps188
  go_wp2
  go_loopw [8] (fun i wr => ∃ k : Nat, k ≤ l.length ∧ i = .int .i64 k ∧ Hid (∀ j, j < k → l[j]? ≠ some ((y, n), m)) ∧ Gr (w.alloc (.cells #[.int .i64 (y : Int), .int .i64 (n : Int), .int .u64 (m : Int)] 219)) wr) (fun i _ => l.length - (intOf i).toNat)
  case atStart => exact ⟨0, by omega, rfl, fun j hj => by omega, Gr.refl _⟩
  case round =>
    obtain ⟨k, hk, rfl, hno, hg⟩ := hrel
    have d1 : wr.cell? ⟨w.heap.size, 0, none⟩ = some (.int .i64 (y : Int)) := by rw [hg.cells.1 _ _ (by simp)]; simp [go_sem]
    have d2 : wr.cell? ⟨w.heap.size, 1, none⟩ = some (.int .i64 (n : Int)) := by rw [hg.cells.1 _ _ (by simp)]; simp [go_sem]
    have d3 : wr.cell? ⟨w.heap.size, 2, none⟩ = some (.int .u64 (m : Int)) := by rw [hg.cells.1 _ _ (by simp)]; simp [go_sem]
    have G1 := ((Gr.refl w).alloc _).trans hg
    have HG := Lib.hid hg
    clear hg
    by_cases hlt : k < l.length
    · obtain ⟨⟨⟨y', n'⟩, m'⟩, hp⟩ : ∃ p, l[k]? = some p := ⟨_, List.getElem?_eq_getElem hlt⟩
      obtain ⟨b, off, rfl, hb, hcell⟩ := HX.out (by intro e; rw [e] at hlt; simp at hlt)
      obtain ⟨c1, c2, c3⟩ := hcell k _ hp
      rw [← G1.cells.1 b _ hb] at c1 c2 c3
      simp only at c1 c2 c3
      have hbr : b < wr.heap.size := Nat.lt_of_lt_of_le hb G1.le
      have hk16 : (k : Int) < 16 := by omega
      have HP := Lib.hid hp
      clear hcell hp
      by_cases heq : ((y', n'), m') = ((y, n), m)
      · simp only [Prod.mk.injEq] at heq
        obtain ⟨⟨rfl, rfl⟩, rfl⟩ := heq
        go_wp2
        go_quiet (fail)
        go_wp2
        go_ret
        exact ⟨.inl ⟨k, HP.out, rfl⟩, G1.drewN _⟩
      · have HN : Hid (∀ j, j < k + 1 → l[j]? ≠ some ((y, n), m)) := by
          intro j hj
          rcases Nat.lt_or_ge j k with c | c
          · exact hno.out j c
          · obtain rfl : j = k := by omega
            rw [HP.out]
            intro e
            exact heq (Option.some.inj e)
        cases h1 : ((y : Int) == (y' : Int))
        · go_wp2
          go_quiet (fail)
          go_wp2
          go_roundw
          case rel => exact ⟨k + 1, by omega, by go_num, HN, HG.out.drewN _⟩
          case measure => simp [intOf]; omega
        · cases h2 : ((n : Int) == (n' : Int))
          · go_wp2
            go_quiet (fail)
            go_wp2
            go_roundw
            case rel => exact ⟨k + 1, by omega, by go_num, HN, HG.out.drewN _⟩
            case measure => simp [intOf]; omega
          · have h3 : ((m : Int) == (m' : Int)) = false := by
              simp at h1 h2 ⊢
              intro e
              exact heq (by simp; omega)
            go_wp2
            go_quiet (fail)
            go_wp2
            go_roundw
            case rel => exact ⟨k + 1, by omega, by go_num, HN, HG.out.drewN _⟩
            case measure => simp [intOf]; omega
    · obtain rfl : k = l.length := by omega
      go_wp2
      go_ret
      exact ⟨.inr ⟨not_mem_of hno.out, rfl⟩, G1⟩
end Go.Proofs.YtbpkfkljeibjoaaGreat
/- The contract of package filter's merge. -/
namespace Rm
open Go Go.RowKit
theorem pow16 : ∀ i < 4, 2 ^ i < 16 := by decide
theorem OkF.snoc {M : List Bx} {b : Bx} (h : OkF M) (hb : OkB b) : OkF (M ++ [b]) := by
  intro c hc
  rcases List.mem_append.1 hc with hc | hc
  · exact h c hc
  · obtain rfl : c = b := by simpa using hc
    exact hb
end Rm
namespace Go.Proofs.YtbpkfkljeibjoaaGreat
open Go.RowKit Rm
def MergAt (l : List Bx) (k : Nat) (M : List Bx) : Prop := OkF M ∧ M.length ≤ k ∧ ∀ t, t < 16 → tabF M t = tabF (l.take k) t
theorem own_gr {w w' : World} {base : Nat} {e : TypeId} {size : Nat} {v : Value} {n : Nat} {xs : List Value} (h : w.ownsRow base e size v n xs) (g : Gr w w') : w'.ownsRow base e size v n xs := by
  refine h.kept (row := none) ⟨g.os, g.tape, g.output, g.size, fun k hk _ => Below.block g k hk⟩ ?_
  cases v.ownBlock with
  | none => exact .inl rfl
  | some k => exact .inr (by simp)
theorem mergAt_start (l : List Bx) : MergAt l 0 [] := ⟨(fun b hb => by cases hb), by simp, fun t _ => by simp⟩
theorem MergAt.set {l M : List Bx} {k g j : Nat} {b : Bx} (h : MergAt l k M) (hk : l[k]? = some b) (hj : M[j]? = some (twin g b)) (hb : OkB b) (ht : OkF (M.set j (both g b)) ∧ ∀ t, t < 16 → tabF (M.set j (both g b)) t = addB t (tabF M t) b) : MergAt l (k + 1) (M.set j (both g b)) :=
  ⟨ht.1, by rw [List.length_set]; have := h.2.1; omega, fun t h16 => by rw [ht.2 t h16, h.2.2 t h16, tabF_take hk]⟩
theorem MergAt.snoc {l M : List Bx} {k : Nat} {b : Bx} (h : MergAt l k M) (hk : l[k]? = some b) (hb : OkB b) : MergAt l (k + 1) (M ++ [b]) :=
  ⟨h.1.snoc hb, by have := h.2.1; simp; omega, fun t h16 => by rw [tabF_snoc, h.2.2 t h16, tabF_take hk]⟩
set_option maxHeartbeats 2000000 in
set_option maxRecDepth 100000 in
theorem merge_any (v : Value) (l : List Bx) (i : Nat) (w : World) (hr : Rd3 w v l) (hl : l.length ≤ 16) (hok : OkF l) (hi : i < 4) :
    Calls Tryz.prog 169 #[v, .int .i64 ((2 ^ i : Nat) : Int)] w fun e w' => ∃ u M, e = .returned u ∧ BlkAt w w' M u ∧ MergAt l l.length M := by
  obtain ⟨i0, hi0, hz0, hz1, hz2⟩ := info_parts block_info
  obtain ⟨a, cp, rfl, hcp, hx⟩ := hr
  have HX := Lib.hid hx
  have HK := Lib.hid hok
  have hlen' : (l.length : Int) ≤ 16 := by omega
  have hg16 := pow16 i hi
  have HTS := Lib.hid (fun (M : List Bx) (b : Bx) (j : Nat) => tab_set (M := M) (b := b) (j := j) hi)
  have HTW := Lib.hid (fun (b : Bx) => show twin (2 ^ i) b = ((b.1.1 ^^^ 2 ^ i, b.1.2 ^^^ 2 ^ i), b.2) from rfl)
  have HTB := Lib.hid (fun (b : Bx) => show both (2 ^ i) b = ((b.1.1 &&& (15 - 2 ^ i), b.1.2 &&& (15 - 2 ^ i)), b.2) from rfl)
  clear hx hok
  generalize 2 ^ i = g at *
  clear hi
  have hgi : (g : Int) < 16 := by omega
  go_enter Tryz.func169, Tryz.ntmps169
  go_wp2
  go_loopw [5, 12] (fun u kk wr => ∃ (k : Nat) (M : List Bx), k ≤ l.length ∧ kk = .int .i64 k ∧ BlkAt w wr M u ∧ MergAt l k M) (fun _ kk _ => l.length - (intOf kk).toNat)
  case atStart => exact ⟨0, [], by omega, rfl, ⟨Gr.refl _, World.ownsRow_nil _ _ _ _⟩, mergAt_start l⟩
  case round =>
    obtain ⟨k, M, hk, rfl, ⟨hg, hown⟩, hMA⟩ := hrel
    generalize wr = wo at *
    have hMl := hMA.2.1
    have HMA := Lib.hid hMA
    have HO := Lib.hid hown
    clear hMA
    by_cases hlt : k < l.length
    · obtain ⟨⟨⟨y, n⟩, m⟩, hp⟩ : ∃ p, l[k]? = some p := ⟨_, List.getElem?_eq_getElem hlt⟩
      obtain ⟨b, off, rfl, hb, hcell⟩ := HX.out (by intro e; rw [e] at hlt; simp at hlt)
      obtain ⟨c1, c2, c3⟩ := hcell k _ hp
      rw [← hg.cells.1 b _ hb] at c1 c2 c3
      simp only at c1 c2 c3
      have hbr : b < wo.heap.size := Nat.lt_of_lt_of_le hb hg.le
      have hk16 : (k : Int) < 16 := by omega
      have hB : OkB ((y, n), m) := HK.out _ (List.mem_of_getElem? hp)
      have HB := Lib.hid hB
      have HP := Lib.hid hp
      have x1 := xor16 y hB.1.1 g hg16
      have x2 := xor16 n hB.1.2.1 g hg16
      have a1 := andNot16' y hB.1.1 g hg16
      have a2 := andNot16' n hB.1.2.1 g hg16
      obtain ⟨ua, uc, rfl, huc⟩ := own_form hown
      clear hcell hp hB hown
      go_wp2_with fail
      have R1 := Lib.hid ((Rd3.own HO.out).gr (((Gr.refl wo).alloc (.cells #[.int .i64 (y : Int), .int .i64 (n : Int), .int .u64 (m : Int)] 219)).alloc (.cells #[.int .i64 ((y ^^^ g : Nat) : Int), .int .i64 ((n ^^^ g : Nat) : Int), .int .u64 (m : Int)] 219)))
      refine (index_any _ M (y ^^^ g) (n ^^^ g) m _ R1.out (by omega)).mono ?_
      rintro e w1 ⟨hcase, g1⟩
      have T1 := Lib.hid ((Three.new wo y n (.int .u64 (m : Int)) 219).gr (((Gr.refl _).alloc (.cells #[.int .i64 ((y ^^^ g : Nat) : Int), .int .i64 ((n ^^^ g : Nat) : Int), .int .u64 (m : Int)] 219)).trans g1))
      have G1 := Lib.hid (((hg.alloc (.cells #[.int .i64 (y : Int), .int .i64 (n : Int), .int .u64 (m : Int)] 219)).alloc (.cells #[.int .i64 ((y ^^^ g : Nat) : Int), .int .i64 ((n ^^^ g : Nat) : Int), .int .u64 (m : Int)] 219)).trans g1)
      have O1 := Lib.hid (own_gr HO.out (((Gr.refl wo).alloc (.cells #[.int .i64 (y : Int), .int .i64 (n : Int), .int .u64 (m : Int)] 219)).alloc (.cells #[.int .i64 ((y ^^^ g : Nat) : Int), .int .i64 ((n ^^^ g : Nat) : Int), .int .u64 (m : Int)] 219)))
      have O2 := Lib.hid (own_gr O1.out g1)
      clear O1 R1 HO g1 c1 c2 c3 x1 x2
      have hws := hg.le
      generalize wo.heap.size = BB at *
      obtain ⟨t1, t2, t3, t4⟩ := T1.out
      have hMl16 : (M.length : Int) < 16 := by omega
      rcases hcase with ⟨j, hj, rfl⟩ | ⟨hnot, rfl⟩
      · have hjl : j < M.length := (List.getElem?_eq_some_iff.1 hj).1
        have hjl' : (j : Int) < (M.length : Int) := by omega
        obtain ⟨g0, cap0, e0, hb0, hl0, hc0⟩ := own_pos O2.out (by omega)
        obtain ⟨rfl, -, rfl⟩ : ua = some ⟨g0, 0, none⟩ ∧ M.length = M.length ∧ uc = cap0 := by simpa using e0
        have f0 := flatK_at M j _ hj
        have q1 : w1.cell? ⟨g0, j * 3, none⟩ = some (.int .i64 ((y ^^^ g : Nat) : Int)) := by rw [O2.out.cellAt _ (by omega)]; exact f0.1
        have q2 : w1.cell? ⟨g0, j * 3 + 1, none⟩ = some (.int .i64 ((n ^^^ g : Nat) : Int)) := by rw [O2.out.cellAt _ (by omega)]; exact f0.2.1
        have z1 := O2.out.frozenAt (j * 3)
        have z2 := O2.out.frozenAt (j * 3 + 1)
        have HJ : Hid (M[j]? = some (twin g ((y, n), m))) := by rw [HTW.out]; exact hj
        have HFS := Lib.hid (flatK_set M j _ ((y &&& (15 - g), n &&& (15 - g)), m) hj rfl)
        have HNEW := Lib.hid (HMA.out.set HP.out HJ.out HB.out (HTS.out M ((y, n), m) j HMA.out.1 HB.out HJ.out))
        have HLS : Hid ((M.set j (both g ((y, n), m))).length = M.length) := List.length_set
        have HBB := HTB.out ((y, n), m)
        simp only at HBB
        have HBB2 := Lib.hid HBB
        clear hj f0 e0 HBB
        go_wp2_with fail
        go_roundw
        case rel =>
          refine ⟨k + 1, M.set j (both g ((y, n), m)), by omega, by go_num, ⟨(G1.out.setCell hb0 _).setCell hb0 _, ?_⟩, HNEW.out⟩
          rw [HLS.out, HBB2.out, ← HFS.out]
          exact ((O2.out.stored _ _).1.stored _ _).1
        case measure => simp [intOf]; omega
      · clear hnot
        have HNEW := Lib.hid (HMA.out.snoc HP.out HB.out)
        have HFA : Hid (flatK (M ++ [((y, n), m)]) = flatK M ++ [.int .i64 (y : Int), .int .i64 (n : Int), .int .u64 (m : Int)] ∧ (M ++ [((y, n), m)]).length = M.length + 1) := ⟨by rw [flatK_app]; rfl, by simp⟩
        go_wp2_with (at_builtin; refine wpList_append_own _ rfl (.tmp 50) (.tmp 52) 215 rfl w.heap.size 219 i0 _ 3 24 Tryz.underlying215 hi0 hz0 hz1 hz2 rfl (by omega) _ _ _ rfl (O2.out.alloc _) ⟨w1.heap.size, 0, none⟩ 1 1 [.int .i64 (y : Int), .int .i64 (n : Int), .int .u64 (m : Int)] rfl rfl (new3 _ _ _ _ _) (one3 _ _ _) (by simp only [maxLen]; omega) (by omega) (by have := G1.out.le; simp; omega) ?_; intro v1 w2 hown hg1 _)
        go_roundw
        case rel => exact ⟨k + 1, M ++ [((y, n), m)], by omega, by go_num, ⟨(G1.out.alloc _).grown hg1 (fun k hk => (O2.out.lt k hk).1), by rw [HFA.out.1, HFA.out.2]; exact hown⟩, HNEW.out⟩
        case measure => simp [intOf]; omega
    · obtain rfl : k = l.length := by omega
      go_wp2_with fail
      go_ret
      exact ⟨_, M, rfl, ⟨hg, HO.out⟩, HMA.out⟩
end Go.Proofs.YtbpkfkljeibjoaaGreat
/- The contract of package filter's boxes. -/
namespace Rm
open Go Go.RowKit
def flatO (l : List (Bx × Value)) : List Value := l.flatMap fun b => [.int .i64 (b.1.1.1 : Nat), .int .i64 (b.1.1.2 : Nat), b.2]
theorem flatO_cons (p : Bx × Value) (l : List (Bx × Value)) : flatO (p :: l) = .int .i64 (p.1.1.1 : Nat) :: .int .i64 (p.1.1.2 : Nat) :: p.2 :: flatO l := rfl
theorem flatO_app (l r : List (Bx × Value)) : flatO (l ++ r) = flatO l ++ flatO r := by simp [flatO]
theorem flatO_at (l : List (Bx × Value)) (i : Nat) (p : Bx × Value) (h : l[i]? = some p) : (flatO l)[i * 3]? = some (.int .i64 (p.1.1.1 : Nat)) ∧ (flatO l)[i * 3 + 1]? = some (.int .i64 (p.1.1.2 : Nat)) ∧ (flatO l)[i * 3 + 2]? = some p.2 := by
  induction l generalizing i with
  | nil => simp at h
  | cons q l ih =>
    rw [flatO_cons]
    cases i with
    | zero => simp at h; subst h; simp
    | succ i =>
      have e : (i + 1) * 3 = i * 3 + 1 + 1 + 1 := by omega
      rw [e]
      simpa using ih i (by simpa using h)
end Rm
namespace Go.Proofs.YtbpkfkljeibjoaaGreat
open Go.RowKit Rm
attribute [local go_sem ↓] Go.wp_at_zero Go.wp_at_succ
theorem box_info : (Tryz.prog.info? 92).map (fun i => (i.zero, i.size, i.bytes)) = some (some (.agg #[.int .i64 0, .int .i64 0, .slice none 0 0]), 3, 40) := by kernel_rfl
def OutAt (w wr : World) (O : List (Bx × Value)) (u : Value) : Prop :=
  Gr w wr ∧ wr.ownsRow w.heap.size 92 3 u O.length (flatO O) ∧
  ∀ p ∈ O, wr.ownsRow w.heap.size 87 2 p.2 (pairs (canon p.1.2)).length (flat (pairs (canon p.1.2))) ∧ (p.2.ownBlock = none ∨ p.2.ownBlock ≠ u.ownBlock)
theorem OutAt.snoc {w wo w1 w2 w3 : World} {O : List (Bx × Value)} {u sv : Value} {b : Bx} {g cap : Nat} {o : Obj} (h : OutAt w wo O u) (g1 : Gr wo w1) (hl : ListAt w1 w2 (canon b.2) sv)
    (hown : w3.ownsRow w.heap.size 92 3 (.slice (some ⟨g, 0, none⟩) (O.length + 1) cap) (O.length + 1) (flatO O ++ [.int .i64 (b.1.1 : Nat), .int .i64 (b.1.2 : Nat), sv]))
    (hgrow : (w2.alloc o).grownBy w3 u.ownBlock) (hat : u.ownBlock = some g ∨ g = w2.heap.size + 1) : OutAt w w3 (O ++ [(b, sv)]) (.slice (some ⟨g, 0, none⟩) (O.length + 1) cap) := by
  obtain ⟨hg, ho, hs⟩ := h
  have hlt : ∀ k, u.ownBlock = some k → k < wo.heap.size := fun k hk => (ho.lt k hk).2
  have g2 := (g1.trans hl.1).alloc o
  refine ⟨Gr.grown (hg.trans g2) hgrow (fun k hk => (ho.lt k hk).1), ?_, ?_⟩
  · have e0 : (O ++ [(b, sv)]).length = O.length + 1 := by simp
    rw [e0, flatO_app]
    exact hown
  · intro p hp
    have far : ∀ {z : Value} {bb : Nat} {e : TypeId} {sz nn : Nat} {xs : List Value}, (w2.alloc o).ownsRow bb e sz z nn xs → (z.ownBlock = none ∨ z.ownBlock ≠ u.ownBlock) → (∀ k, z.ownBlock = some k → k < w2.heap.size + 1) →
        w3.ownsRow bb e sz z nn xs ∧ (z.ownBlock = none ∨ z.ownBlock ≠ some g) := by
      intro z bb e sz nn xs hz hne hk
      refine ⟨hz.kept hgrow hne, ?_⟩
      rcases hne with h0 | hne
      · exact .inl h0
      · refine .inr fun e0 => ?_
        rcases hat with h1 | h1
        · exact hne (e0.trans h1.symm)
        · have := hk _ e0; omega
    rcases List.mem_append.1 hp with hp | hp
    · obtain ⟨k1, k2⟩ := hs p hp
      refine far (own_gr k1 g2) k2 (fun k hk => ?_)
      have := (k1.lt k hk).2
      have := g1.le
      have := hl.1.le
      omega
    · obtain rfl : p = (b, sv) := by simpa using hp
      have hb : ∀ k, sv.ownBlock = some k → w1.heap.size ≤ k ∧ k < w2.heap.size := fun k hk => hl.2.lt k hk
      have hbase : (w2.alloc o).ownsRow w.heap.size 87 2 sv (pairs (canon b.2)).length (flat (pairs (canon b.2))) := (ListAt.more (hg.trans g1) hl).2.alloc o
      refine far hbase ?_ (fun k hk => by have := (hb k hk).2; omega)
      cases hsv : sv.ownBlock with
      | none => exact .inl rfl
      | some k =>
        refine .inr fun e0 => ?_
        have h1 := (hb k hsv).1
        have h2 := hlt k e0.symm
        have := g1.le
        omega
theorem rd_own {wr : World} {base : Nat} {O : List (Bx × Value)} {u : Value} (h : wr.ownsRow base 92 3 u O.length (flatO O)) (hs : ∀ p ∈ O, wr.ownsRow base 87 2 p.2 (pairs (canon p.1.2)).length (flat (pairs (canon p.1.2)))) : RdF wr u ((O.map (·.1)).map boxI) := by
  obtain ⟨hl, h⟩ := h
  rcases h with ⟨rfl, h0⟩ | ⟨g, cap, cur, rfl, _, hg, hn, _, hz, ht⟩
  · have : O = [] := List.eq_nil_of_length_eq_zero h0
    subst this
    exact RdF.nil _
  · refine ⟨some ⟨g, 0, none⟩, cap, by simp, by simpa using hn, fun hne => ⟨g, 0, rfl, Blk_lt hg, fun i p hp => ?_⟩⟩
    simp only [List.map_map, List.getElem?_map, Option.map_eq_some_iff] at hp
    obtain ⟨q, hq, rfl⟩ := hp
    have hi : i < O.length := (List.getElem?_eq_some_iff.1 hq).1
    have hf := flatO_at O i q hq
    rw [← ht] at hf
    have key : ∀ j, j < O.length * 3 → wr.cell? ⟨g, 0 + j, none⟩ = (cur.toList.take (O.length * 3))[j]? := by
      intro j hj
      rw [List.getElem?_take_of_lt hj]
      simp [World.cell?, hg]
    have k2 := key (i * 3 + 1) (by omega)
    have k3 := key (i * 3 + 2) (by omega)
    rw [← Nat.add_assoc] at k2 k3
    exact ⟨q.2, (key (i * 3) (by omega)).trans hf.1, k2.trans hf.2.1, k3.trans hf.2.2, Rd2.own (hs q (List.mem_of_getElem? hq))⟩
theorem OutAt.rd {w wr : World} {O : List (Bx × Value)} {u : Value} (h : OutAt w wr O u) : RdF wr u ((O.map (·.1)).map boxI) := rd_own h.2.1 (fun p hp => (h.2.2 p hp).1)
theorem outAt_nil (w : World) : OutAt w w [] (.slice none 0 0) := ⟨Gr.refl _, World.ownsRow_nil _ _ _ _, fun p hp => by cases hp⟩
theorem fspans_at (B : Nat) (y n : Int) (m : Nat) (w : World) (hm : m < 2 ^ 32) (h : Three w B y n (.int .u64 (m : Int))) :
    Calls Tryz.prog 170 #[.int .u64 m] w fun e w' => ∃ a c, e = .returned (.slice a (pairs (canon m)).length c) ∧ ListAt w w' (canon m) (.slice a (pairs (canon m)).length c) ∧ B < w'.heap.size ∧
      w'.cell? ⟨B, 0, none⟩ = some (.int .i64 y) ∧ w'.cell? ⟨B, 1, none⟩ = some (.int .i64 n) ∧ w'.cell? ⟨B, 2, none⟩ = some (.int .u64 (m : Int)) :=
  (fspans_any m w hm).mono fun e w' ⟨u, he, hu⟩ => by
    obtain ⟨a, c, rfl, _⟩ := own_form hu.2
    exact ⟨a, c, he, hu, h.gr hu.1⟩
set_option maxHeartbeats 2000000 in
set_option maxRecDepth 100000 in
theorem boxes_any (T : Nat → Nat) (w : World) (hT : ∀ t, t < 16 → T t < 2 ^ 32) :
    Calls Tryz.prog 143 #[.agg (tArr T)] w fun e w' => ∃ u O, e = .returned u ∧ Gr w w' ∧ (∃ wl, Gr w wl ∧ OutAt wl w' O u) ∧ OkF (O.map (·.1)) ∧ O.length ≤ (blkT T 16).length ∧ ∀ t, t < 16 → tabF (O.map (·.1)) t = T t := by
  obtain ⟨i0, hi0, hz0, hz1, hz2⟩ := info_parts box_info
  have HS : Hid ((Tryz.prog.info? 196).map (·.size) = some (tArr T).size) := by rw [tArr_size]; exact table_info
  have HT := Lib.hid hT
  clear hT
  go_enter Tryz.func143, Tryz.ntmps143
  go_wp2_with (refine wpList_load_row rfl 196 _ rfl w.heap.size rfl 196 (tArr T) (0, 0) _ (heap_alloc_new _ _) Tryz.underlying196 rfl HS.out ?_)
  refine (blocks_any T _).mono ?_
  rintro e w1 ⟨u, rfl, hu⟩
  have R1 := Lib.hid hu.rd
  have G1 := ((Gr.refl w).alloc _).trans hu.1
  clear hu
  go_wp2_with fail
  go_loopw [3, 10] (fun v ii wr => ∃ (i : Nat) (M : List Bx), i ≤ 4 ∧ ii = .int .i64 i ∧ Gr w wr ∧ Rd3 wr v M ∧ OkF M ∧ M.length ≤ (blkT T 16).length ∧ (∀ t, t < 16 → tabF M t = T t)) (fun _ ii _ => 4 - (intOf ii).toNat)
  case atStart => exact ⟨0, blkT T 16, by omega, rfl, G1, R1.out, blkT_ok HT.out (by omega), Nat.le_refl _, fun t ht => by rw [tab_blkT T ht 16 (by omega), if_pos ht]⟩
  case round =>
    clear G1 R1
    obtain ⟨i, M, hi, rfl, hg, hrd, hM, hMl, hMt⟩ := hrel
    have hb16 := blkT_len T 16
    have HM := Lib.hid hM
    have HMt := Lib.hid hMt
    have HR := Lib.hid hrd
    clear hM hMt
    by_cases hlt : i < 4
    · have hp : wrap64 (2 ^ i) = ((2 ^ i : Nat) : Int) := by
        have h1 := pow16 i hlt
        have h2 : ((2 ^ i : Nat) : Int) = (2 : Int) ^ i := by simp
        rw [← h2]
        generalize 2 ^ i = x at *
        unfold wrap64
        omega
      have hi4 : (i : Int) < 4 := by omega
      clear hrd
      go_wp2_with fail
      rw [hp]
      refine (merge_any _ M i _ HR.out (by omega) HM.out hlt).mono ?_
      rintro e w2 ⟨u2, M2, rfl, hb2, hm2⟩
      have R2 := Lib.hid hb2.rd
      have G2 := hg.trans hb2.1
      have H2 := Lib.hid hm2
      clear hb2 hm2 hp
      go_wp2_with fail
      go_roundw
      case rel => exact ⟨i + 1, M2, by omega, by go_num, G2, R2.out, H2.out.1, by have := H2.out.2.1; omega, fun t ht => by rw [H2.out.2.2 t ht, List.take_length]; exact HMt.out t ht⟩
      case measure => simp [intOf]; omega
    · obtain rfl : i = 4 := by omega
      obtain ⟨a, cp, rfl, hcp, hx⟩ := hrd
      have HX := Lib.hid hx
      have hlen' : (M.length : Int) ≤ 16 := by omega
      clear hx
      generalize wr = wl at *
      go_wp2_with fail
      go_loopw [5, 20] (fun v kk wr => ∃ (k : Nat) (O : List (Bx × Value)), k ≤ M.length ∧ kk = .int .i64 k ∧ O.map (·.1) = M.take k ∧ OutAt wl wr O v) (fun _ kk _ => M.length - (intOf kk).toNat)
      case atStart => exact ⟨0, [], by omega, rfl, rfl, outAt_nil _⟩
      case round =>
        obtain ⟨k, O, hk, rfl, hO, hat⟩ := hrel
        have hOl : k = O.length := by have := congrArg List.length hO; simp at this; omega
        subst hOl
        have HO := Lib.hid hO
        have HA := Lib.hid hat
        clear hO
        generalize wr = wo at *
        by_cases hlt : O.length < M.length
        · obtain ⟨⟨⟨y, n⟩, m⟩, hp⟩ : ∃ p, M[O.length]? = some p := ⟨_, List.getElem?_eq_getElem hlt⟩
          obtain ⟨b, off, rfl, hb, hcell⟩ := HX.out (by intro e; rw [e] at hlt; simp at hlt)
          obtain ⟨c1, c2, c3⟩ := hcell O.length _ hp
          have hgl := hat.1
          rw [← hgl.cells.1 b _ hb] at c1 c2 c3
          simp only at c1 c2 c3
          have hbr : b < wo.heap.size := Nat.lt_of_lt_of_le hb hgl.le
          have hm32 := Lib.hid (HM.out _ (List.mem_of_getElem? hp)).2
          have hk16 : (O.length : Int) < 16 := by omega
          have HP := Lib.hid hp
          obtain ⟨ua, uc, rfl, huc⟩ := own_form hat.2.1
          clear hcell hp hat
          go_wp2_with fail
          have T1 := Lib.hid (Three.new wo y n (.int .u64 (m : Int)) 219)
          have HA1 := Lib.hid (HA.out.2.1.alloc (.cells #[.int .i64 (y : Int), .int .i64 (n : Int), .int .u64 (m : Int)] 219)).drew
          have GA : Hid (Gr wo (wo.alloc (.cells #[.int .i64 (y : Int), .int .i64 (n : Int), .int .u64 (m : Int)] 219)).drew) := ((Gr.refl wo).alloc _).drew
          have HBN : Hid (∀ kk, (Value.slice ua O.length uc).ownBlock = some kk → kk < wo.heap.size) := fun kk hkk => (HA.out.2.1.lt kk hkk).2
          have hbase := HA.out.1.le
          clear c1 c2 c3
          generalize wo.alloc (.cells #[.int .i64 (y : Int), .int .i64 (n : Int), .int .u64 (m : Int)] 219) = W1 at *
          generalize hBB : wo.heap.size = BB at *
          have hag : (Value.slice ua O.length uc).ownBlock ≠ some BB := fun e => by have := HBN.out _ e; omega
          clear hBB
          have T1d : Hid (Three W1.drew BB y n (.int .u64 (m : Int))) := T1.out.gr ((Gr.refl _).drew)
          obtain ⟨t1, t2, t3, t4⟩ := T1.out
          go_region_held3 (fun x => x.cell? ⟨BB, 0, none⟩ = some (.int .i64 (y : Int)) ∧ x.cell? ⟨BB, 1, none⟩ = some (.int .i64 (n : Int)) ∧ x.cell? ⟨BB, 2, none⟩ = some (.int .u64 (m : Int)))
            (first
              | go_keep
              | (go_split_ands
                 refine ⟨?_, ?_, ?_⟩
                 · (rw [hgrow.cell_far _ (by simp; omega) (Ne.symm hag)]; simp [go_sem, *])
                 · (rw [hgrow.cell_far _ (by simp; omega) (Ne.symm hag)]; simp [go_sem, *])
                 · (rw [hgrow.cell_far _ (by simp; omega) (Ne.symm hag)]; simp [go_sem, *])))
            (first
              | (go_at_call 170; refine (fspans_at BB _ _ m _ hm32.out T1d.out).mono ?_; rintro e w2 ⟨sa, sc, rfl, hls, hBl, k1, k2, k3⟩)
              | (refine step_append_lies _ (by rfl) _ _ _ (by rfl) wl.heap.size 92 i0 _ 3 40 Tryz.underlying23 hi0 hz0 hz1 hz2 rfl (by omega) (.slice ua O.length uc) O.length (flatO O) (by rfl) ((own_gr HA1.out hls.1).alloc _)
                  ⟨w2.heap.size, 0, none⟩ 1 1 [.int .i64 (y : Int), .int .i64 (n : Int), .slice sa (pairs (canon m)).length sc] (by rfl) (by rfl) (new3 _ _ _ _ _) (by simp [Value.oneCell'])
                  (by omega) (by simp only [maxLen]; omega) (by omega) (by simp; omega) (w2.heap.size + 1) (by simp) ?_; intro gg cap w3 hown1 hgrow hat hlt3))
          have HNEW := Lib.hid (HA.out.snoc (b := ((y, n), m)) GA.out hls hown1 hgrow hat)
          have HOM : Hid ((O ++ [(((y, n), m), Value.slice sa (pairs (canon m)).length sc)]).map (·.1) = M.take (O.length + 1)) := by
            have h1 := HP.out
            obtain ⟨hk1, e1⟩ := List.getElem?_eq_some_iff.1 h1
            unfold Hid
            rw [List.map_append, HO.out, List.take_succ_eq_append_getElem hk1, e1]
            rfl
          clear hls hown1 hgrow hat k1 k2 k3
          go_wp2_with fail
          go_roundw
          case rel =>
            (repeat apply Exists.intro)
            refine ⟨?_, rfl⟩
            exact ⟨O.length + 1, _, by omega, by go_num, HOM.out, HNEW.out⟩
          case measure => simp [intOf]; omega
        · have hkM : O.length = M.length := by omega
          rw [hkM] at HO
          have HG := Lib.hid (hg.trans hat.1)
          have HG2 := Lib.hid hg
          rw [List.take_length] at HO
          clear hat hg
          go_wp2_with fail
          go_ret
          exact ⟨_, O, rfl, HG.out, ⟨wl, HG2.out, HA.out⟩, by rw [HO.out]; exact HM.out, by omega, fun t ht => by rw [HO.out]; exact HMt.out t ht⟩
end Go.Proofs.YtbpkfkljeibjoaaGreat
/- Joined: FilDJoin, FilDMeet, FilDLess. -/
/- The contract of package filter's combine, as Join calls it. -/
namespace Go.Proofs.YtbpkfkljeibjoaaGreat
open Go.RowKit Rm
end Go.Proofs.YtbpkfkljeibjoaaGreat
/- The contract of package filter's combine, as Meet calls it. -/
namespace Go.Proofs.YtbpkfkljeibjoaaGreat
open Go.RowKit Rm
set_option maxHeartbeats 1000000 in
set_option maxRecDepth 100000 in
theorem fcombine_meet (v v' : Value) (F G : List Bx) (w : World) (hl : RdF w v (F.map boxI)) (hr : RdF w v' (G.map boxI)) (hF : OkF F) (hG : OkF G) (hlF : F.length ≤ 40) (hlG : G.length ≤ 40) :
    Calls Tryz.prog 141 #[v, v', .func (.func 142) #[] #[]] w fun e w' => e = .returned (.tuple #[.agg (tArr fun t => tabF F t &&& tabF G t), .int .i64 0]) ∧ Gr w w' := by
  have HS : ∀ T, Hid ((Tryz.prog.info? 196).map (·.size) = some (tArr T).size) := fun T => by unfold Hid; rw [tArr_size]; exact table_info
  have hc1 := chkF_of hF hlF
  have hc2 := chkF_of hG hlG
  have HL := Lib.hid hl
  have HR := Lib.hid hr
  have HF := Lib.hid hF
  have HG := Lib.hid hG
  have HOP := Lib.hid uop_meet
  obtain ⟨g, hge⟩ : ∃ g : Nat → Nat → Nat, g = (fun a b => a &&& b) := ⟨_, rfl⟩
  have HOPg : Hid (OpU 142 g) := by rw [hge]; exact HOP.out
  have HGE := Lib.hid hge
  clear hge HOP
  have HSZ := Lib.hid (fun (T U : Nat → Nat) => show (tArr T).size = (tArr U).size by rw [tArr_size, tArr_size])
  have H1 := Lib.hid tArr_one
  have HTF := Lib.hid (fun t => tabF_lt hF t)
  have HTG := Lib.hid (fun t => tabF_lt hG t)
  clear hl hr hF hG
  go_enter Tryz.func141, Tryz.ntmps141
  go_wp2_with fail
  refine (fcheck_any _ _ _ (HL.out.alloc _)).mono ?_
  rw [hc1]
  rintro e w1 ⟨rfl, g1⟩
  have HB1 : Hid (w1.heap[w.heap.size]? = some (.cells (tArr fun _ => 0) 196 (0, 0))) := (Below.block g1 _ (by simp)).trans (heap_alloc_new _ _)
  have G1 := ((Gr.refl w).alloc _).trans g1
  clear g1
  go_wp2_with fail
  refine (fcheck_any _ _ _ (HR.out.gr G1)).mono ?_
  rw [hc2]
  rintro e w2 ⟨rfl, g2⟩
  have HB2 : Hid (w2.heap[w.heap.size]? = some (.cells (tArr fun _ => 0) 196 (0, 0))) := (Below.block g2 _ (Blk_lt HB1.out)).trans HB1.out
  have G2 := G1.trans g2
  clear g2 HB1 G1
  go_wp2_with fail
  refine (tableOf_any _ _ _ (HL.out.gr G2) HF.out hlF).mono ?_
  rintro e w3 ⟨rfl, g3⟩
  have HB3 : Hid (w3.heap[w.heap.size]? = some (.cells (tArr fun _ => 0) 196 (0, 0))) := (Below.block g3 _ (Blk_lt HB2.out)).trans HB2.out
  have G3 := G2.trans g3
  clear g3 HB2 G2
  go_wp2_with fail
  refine (tableOf_any _ _ _ (HR.out.gr G3) HG.out hlG).mono ?_
  rintro e w4 ⟨rfl, g4⟩
  have HB4 : Hid (w4.heap[w.heap.size]? = some (.cells (tArr fun _ => 0) 196 (0, 0))) := (Below.block g4 _ (Blk_lt HB3.out)).trans HB3.out
  have G4 := G3.trans g4
  clear g4 HB3 G3
  have HLT := Lib.hid (Blk_lt HB4.out)
  go_wp2_with (first
    | (refine wpList_store_row rfl 196 (.tmp 10) (.tmp 26) rfl w4.heap.size _ rfl rfl 196 _ (heap_alloc2_old _ _ _) (HS _).out (HSZ.out (fun _ => 0) _) (H1.out _) ?_)
    | (refine wpList_store_row rfl 196 (.tmp 11) (.tmp 28) rfl (w4.heap.size + 1) _ rfl rfl 196 _ ((setRow_other _ _ _ _ (by omega)).trans (heap_alloc2_new _ _ _)) (HS _).out (HSZ.out (fun _ => 0) _) (H1.out _) ?_))
  have A0 := Lib.hid (combAt_start (T := tabF F) (U := tabF G) (A := tArr fun _ => 0) (B := tArr fun _ => 0) G4 HLT.out HB4.out)
  go_loopw [29] (fun jj wi => ∃ j : Nat, j ≤ 16 ∧ jj = .int .i64 j ∧ CombAt w wi w4.heap.size (midC g (tabF F) (tabF G) j) (tabF G)) (fun jj _ => 16 - (intOf jj).toNat)
  case atStart => exact ⟨0, by omega, rfl, A0.out.ext (fun i _ => by simp [midC])⟩
  case round =>
    clear A0
    obtain ⟨j, hj, rfl, hat⟩ := hrel
    generalize w4.heap.size = BB at *
    have HA := Lib.hid hat
    by_cases hjt : j < 16
    · have hj16 : (j : Int) < 16 := by omega
      have c1 : wr.cell? ⟨BB, j, none⟩ = some (.int .u64 (tabF F j : Nat)) := by
        rw [cell_of_row _ _ _ _ _ _ hat.2.2.2.1, tArr_at _ j hjt]
        simp [midC]
      have c2 : wr.cell? ⟨BB + 1, j, none⟩ = some (.int .u64 (tabF G j : Nat)) := by
        rw [cell_of_row _ _ _ _ _ _ hat.2.2.2.2, tArr_at _ j hjt]
      have hfz := frozen_of_row _ _ j _ _ hat.2.2.2.1
      have E : Hid (∀ i, i < 16 → (if i = j then g (tabF F j) (tabF G j) else midC g (tabF F) (tabF G) j i) = midC g (tabF F) (tabF G) (j + 1) i) := by
        intro i hi
        unfold midC
        by_cases e1 : i < j
        · rw [if_neg (by omega), if_pos e1, if_pos (by omega)]
        · by_cases e2 : i < j + 1
          · obtain rfl : i = j := by omega
            rw [if_pos rfl, if_pos e2]
          · rw [if_neg (by omega), if_neg e1, if_neg e2]
      clear hat
      go_wp2_with fail
      go_still_tail 10, (by kernel_rfl)
      still_call (HOPg.out _ _ (HTF.out j) (HTG.out j) _)
      repeat still_step
      refine wpStill_nil ?_
      change wpList _ _ _ _ _ wr.drew
      go_wp2_with fail
      go_roundw
      case rel => exact ⟨j + 1, by omega, by go_num, (HA.out.set j _ hjt).ext E.out⟩
      case measure => simp [intOf]; omega
    · obtain rfl : j = 16 := by omega
      have HA2 := Lib.hid (hat.ext (fun i hi => show midC g (tabF F) (tabF G) 16 i = g (tabF F i) (tabF G i) by simp [midC, hi]))
      have hg := hat.1
      clear hat HA
      go_wp2_with (first | (refine wpList_load_row rfl 196 _ rfl BB rfl 196 _ (0, 0) _ HA2.out.2.2.2.1 Tryz.underlying196 rfl (HS _).out ?_) | (refine wpList_store_row rfl 196 _ _ rfl w.heap.size _ rfl rfl 196 _ HA2.out.2.2.1 (HS _).out (HSZ.out (fun _ => 0) _) (H1.out _) ?_))
      refine bodyPost_ret (v := .tuple #[.agg (tArr fun t => g (tabF F t) (tabF G t)), .int .i64 0]) (results_row_tmp Tryz.results141 _ _ w.heap.size 196 _ (0, 0) _ _ rfl rfl (setRow_heap _ _ _ _ _ _ HA2.out.2.2.1) Tryz.underlying196 rfl (HS _).out) rfl ⟨by rw [HGE.out], ?_⟩
      exact hg.setRow (Nat.le_refl _) _
end Go.Proofs.YtbpkfkljeibjoaaGreat
/- The contract of package filter's combine, as Less calls it. -/
namespace Go.Proofs.YtbpkfkljeibjoaaGreat
open Go.RowKit Rm
end Go.Proofs.YtbpkfkljeibjoaaGreat
/- Joined: FilO, FilK. -/
/- The contract of math/bits.OnesCount64 over words of 32 bits. -/
namespace Rm
open Go Go.RowKit
theorem and_split (a b c d : Nat) (ha : a < 256) (hc : c < 256) : (a + 256 * b) &&& (c + 256 * d) = (a &&& c) + 256 * (b &&& d) := by
  have hac : a &&& c < 256 := Nat.lt_of_le_of_lt Nat.and_le_left ha
  have key : ∀ x y, x < 256 → (x + 256 * y) = 2 ^ 8 * y + x := fun x y _ => by omega
  rw [key a b ha, key c d hc, key (a &&& c) (b &&& d) hac]
  apply Nat.eq_of_testBit_eq
  intro i
  rw [Nat.testBit_and, Nat.testBit_two_pow_mul_add _ (by omega), Nat.testBit_two_pow_mul_add _ (by omega), Nat.testBit_two_pow_mul_add _ (by omega)]
  by_cases h : i < 8
  · simp [h]
  · simp [h]
def s1 (a : Nat) : Nat := ((a / 2) &&& 85) + (a &&& 85)
def s2 (a : Nat) : Nat := ((a / 4) &&& 51) + (a &&& 51)
def s3 (a : Nat) : Nat := (a / 16 + a) &&& 15
def stTab : Bool := (List.range 256).all fun a => (List.range 16).all fun r =>
  ((a / 2 + 128 * (r % 2)) &&& 85 == (a / 2) &&& 85) && (((a / 4 + 64 * (r % 4)) &&& 51) == (a / 4) &&& 51) && decide (s1 a < 256) && decide (s2 a < 256) &&
  (!(decide (r ≤ 4)) || ((s2 (s1 a) / 16 + 16 * r + s2 (s1 a)) &&& 15 == s3 (s2 (s1 a)))) && decide (s2 (s1 a) % 16 ≤ 4) && decide (s2 (s1 a) / 16 ≤ 4) && (s3 (s2 (s1 a)) == popTo a 8) && decide (s2 (s1 a) / 16 + 16 * 4 + s2 (s1 a) < 256)
theorem stTab_true : stTab = true := by decide +kernel
theorem stTab_at (a r : Nat) (ha : a < 256) (hr : r < 16) : ((a / 2 + 128 * (r % 2)) &&& 85 = (a / 2) &&& 85) ∧ (((a / 4 + 64 * (r % 4)) &&& 51) = (a / 4) &&& 51) ∧ s1 a < 256 ∧ s2 a < 256 ∧
    (r ≤ 4 → (s2 (s1 a) / 16 + 16 * r + s2 (s1 a)) &&& 15 = s3 (s2 (s1 a))) ∧ s2 (s1 a) % 16 ≤ 4 ∧ s2 (s1 a) / 16 ≤ 4 ∧ s3 (s2 (s1 a)) = popTo a 8 ∧ s2 (s1 a) / 16 + 16 * 4 + s2 (s1 a) < 256 := by
  have H := stTab_true
  unfold stTab at H
  rw [List.all_eq_true] at H
  have H1 := H a (List.mem_range.2 ha)
  rw [List.all_eq_true] at H1
  have H2 := H1 r (List.mem_range.2 hr)
  simp only [Bool.and_eq_true, beq_iff_eq, decide_eq_true_eq, Bool.or_eq_true, Bool.not_eq_true', decide_eq_false_iff_not] at H2
  obtain ⟨⟨⟨⟨⟨⟨⟨⟨h1, h2⟩, h3⟩, h4⟩, h5⟩, h6⟩, h7⟩, h8⟩, h9⟩ := H2
  exact ⟨h1, h2, h3, h4, fun hr => by rcases h5 with h | h; · exact absurd hr h
                                      · exact h, h6, h7, h8, h9⟩
def by4 (a b c d : Nat) : Nat := a + 256 * (b + 256 * (c + 256 * d))
theorem by4_of (x : Nat) (h : x < 2 ^ 32) : x = by4 (x % 256) (x / 256 % 256) (x / 65536 % 256) (x / 16777216 % 256) := by unfold by4; omega
theorem and4 (a b c d m r : Nat) (ha : a < 256) (hb : b < 256) (hc : c < 256) (hd : d < 256) (hm : m < 256) : by4 a b c d &&& (m + 256 * (m + 256 * (m + 256 * (m + 256 * r)))) = by4 (a &&& m) (b &&& m) (c &&& m) (d &&& m) := by
  unfold by4
  rw [and_split _ _ _ _ ha hm, and_split _ _ _ _ hb hm, and_split _ _ _ _ hc hm]
  have := and_split d 0 m r hd hm
  simp only [Nat.mul_zero, Nat.add_zero, Nat.zero_and] at this
  rw [this]
theorem half4 (a b c d : Nat) (ha : a < 256) (hb : b < 256) (hc : c < 256) (hd : d < 256) : by4 a b c d / 2 = by4 (a / 2 + 128 * (b % 2)) (b / 2 + 128 * (c % 2)) (c / 2 + 128 * (d % 2)) (d / 2) := by unfold by4; omega
theorem quar4 (a b c d : Nat) (ha : a < 256) (hb : b < 256) (hc : c < 256) (hd : d < 256) : by4 a b c d / 4 = by4 (a / 4 + 64 * (b % 4)) (b / 4 + 64 * (c % 4)) (c / 4 + 64 * (d % 4)) (d / 4) := by unfold by4; omega
theorem add4 (a b c d a' b' c' d' : Nat) : by4 a b c d + by4 a' b' c' d' = by4 (a + a') (b + b') (c + c') (d + d') := by unfold by4; omega
theorem six4 (a b c d : Nat) (ha : a < 256) (hb : b < 256) (hc : c < 256) (hd : d < 256) : by4 a b c d / 16 = by4 (a / 16 + 16 * (b % 16)) (b / 16 + 16 * (c % 16)) (c / 16 + 16 * (d % 16)) (d / 16) := by unfold by4; omega
theorem step1 (a b c d : Nat) (ha : a < 256) (hb : b < 256) (hc : c < 256) (hd : d < 256) : (by4 a b c d / 2 &&& 6148914691236517205) + (by4 a b c d &&& 6148914691236517205) = by4 (s1 a) (s1 b) (s1 c) (s1 d) := by
  have e : (6148914691236517205 : Nat) = 85 + 256 * (85 + 256 * (85 + 256 * (85 + 256 * 1431655765))) := by decide
  rw [e, half4 a b c d ha hb hc hd, and4 _ _ _ _ 85 _ (by omega) (by omega) (by omega) (by omega) (by omega), and4 a b c d 85 _ ha hb hc hd (by omega), add4]
  have ta := (stTab_at a (b % 16) ha (by omega)).1
  have tb := (stTab_at b (c % 16) hb (by omega)).1
  have tc := (stTab_at c (d % 16) hc (by omega)).1
  rw [show b % 16 % 2 = b % 2 by omega] at ta
  rw [show c % 16 % 2 = c % 2 by omega] at tb
  rw [show d % 16 % 2 = d % 2 by omega] at tc
  rw [ta, tb, tc]
  rfl
theorem step2 (a b c d : Nat) (ha : a < 256) (hb : b < 256) (hc : c < 256) (hd : d < 256) : (by4 a b c d / 4 &&& 3689348814741910323) + (by4 a b c d &&& 3689348814741910323) = by4 (s2 a) (s2 b) (s2 c) (s2 d) := by
  have e : (3689348814741910323 : Nat) = 51 + 256 * (51 + 256 * (51 + 256 * (51 + 256 * 858993459))) := by decide
  rw [e, quar4 a b c d ha hb hc hd, and4 _ _ _ _ 51 _ (by omega) (by omega) (by omega) (by omega) (by omega), and4 a b c d 51 _ ha hb hc hd (by omega), add4]
  have ta := (stTab_at a (b % 16) ha (by omega)).2.1
  have tb := (stTab_at b (c % 16) hb (by omega)).2.1
  have tc := (stTab_at c (d % 16) hc (by omega)).2.1
  rw [show b % 16 % 4 = b % 4 by omega] at ta
  rw [show c % 16 % 4 = c % 4 by omega] at tb
  rw [show d % 16 % 4 = d % 4 by omega] at tc
  rw [ta, tb, tc]
  rfl
theorem step3 (a b c d : Nat) (ha : a < 256) (hb : b < 256) (hc : c < 256) (hd : d < 256) :
    ((by4 (s2 (s1 a)) (s2 (s1 b)) (s2 (s1 c)) (s2 (s1 d)) / 16 + by4 (s2 (s1 a)) (s2 (s1 b)) (s2 (s1 c)) (s2 (s1 d))) &&& 1085102592571150095) = by4 (popTo a 8) (popTo b 8) (popTo c 8) (popTo d 8) := by
  have e : (1085102592571150095 : Nat) = 15 + 256 * (15 + 256 * (15 + 256 * (15 + 256 * 252645135))) := by decide
  obtain ⟨_, _, _, _, _, ma, qa, pa, za⟩ := stTab_at a 0 ha (by omega)
  obtain ⟨_, _, _, _, _, mb, qb, pb, zb⟩ := stTab_at b 0 hb (by omega)
  obtain ⟨_, _, _, _, _, mc, qc, pc, zc⟩ := stTab_at c 0 hc (by omega)
  obtain ⟨_, _, _, _, r0, md, qd, pd, zd⟩ := stTab_at d 0 hd (by omega)
  have ra := (stTab_at a (s2 (s1 b) % 16) ha (by omega)).2.2.2.2.1 mb
  have rb := (stTab_at b (s2 (s1 c) % 16) hb (by omega)).2.2.2.2.1 mc
  have rc := (stTab_at c (s2 (s1 d) % 16) hc (by omega)).2.2.2.2.1 md
  have rd := r0 (by omega)
  rw [e, six4 _ _ _ _ (by omega) (by omega) (by omega) (by omega), add4, and4 _ _ _ _ 15 _ (by omega) (by omega) (by omega) (by omega) (by omega), ra, rb, rc, pa, pb, pc]
  rw [Nat.mul_zero, Nat.add_zero] at rd
  rw [rd, pd]
theorem pop_end (p q r s : Nat) (hp : p ≤ 8) (hq : q ≤ 8) (hr : r ≤ 8) (hs : s ≤ 8) : ∀ x y z, x = by4 p q r s + by4 p q r s / 256 → y = x + x / 65536 → z = y + y / 4294967296 → z % 128 = p + q + r + s := by
  intro x y z hx hy hz
  have d1 : by4 p q r s / 256 = q + 256 * (r + 256 * s) := by unfold by4; omega
  rw [d1] at hx
  unfold by4 at hx
  have d2 : x / 65536 = r + s + 256 * s := by omega
  rw [d2] at hy
  have d3 : y / 4294967296 = 0 := by omega
  rw [d3] at hz
  omega
end Rm
namespace Go.Proofs.YtbpkfkljeibjoaaGreat
open Go.RowKit Rm
theorem u64_small (n : Nat) (h : n < 18446744073709551616) : IntKind.u64.wrap (n : Int) = (n : Int) := by rw [IntKind.wrap_u64]; omega
theorem ones_eqs (x : Nat) (hx : x < 2 ^ 32) : ∃ y1 y2 y3 y4 y5 y6 : Nat,
    IntKind.u64.wrap (bits .and .u64 ((x : Int) / 2) 6148914691236517205 + bits .and .u64 (x : Int) 6148914691236517205) = (y1 : Int) ∧
    IntKind.u64.wrap (bits .and .u64 ((y1 : Int) / 4) 3689348814741910323 + bits .and .u64 (y1 : Int) 3689348814741910323) = (y2 : Int) ∧
    bits .and .u64 (IntKind.u64.wrap ((y2 : Int) / 16 + (y2 : Int))) 1085102592571150095 = (y3 : Int) ∧
    IntKind.u64.wrap ((y3 : Int) + (y3 : Int) / 256) = (y4 : Int) ∧ IntKind.u64.wrap ((y4 : Int) + (y4 : Int) / 65536) = (y5 : Int) ∧ IntKind.u64.wrap ((y5 : Int) + (y5 : Int) / 4294967296) = (y6 : Int) ∧
    (y6 : Int) < 17179869184 ∧ bits .and .i64 (y6 : Int) 127 = ((popc x : Nat) : Int) := by
  have ha : x % 256 < 256 := by omega
  have hb : x / 256 % 256 < 256 := by omega
  have hc : x / 65536 % 256 < 256 := by omega
  have hd : x / 16777216 % 256 < 256 := by omega
  have hp := popc_bytes x
  have q1 := step1 _ _ _ _ ha hb hc hd
  rw [← by4_of x hx] at q1
  have la := (stTab_at _ 0 ha (by omega))
  have lb := (stTab_at _ 0 hb (by omega))
  have lc := (stTab_at _ 0 hc (by omega))
  have ld := (stTab_at _ 0 hd (by omega))
  have q2 := step2 _ _ _ _ la.2.2.1 lb.2.2.1 lc.2.2.1 ld.2.2.1
  have q3 := step3 _ _ _ _ ha hb hc hd
  generalize x % 256 = a at *
  generalize x / 256 % 256 = b at *
  generalize x / 65536 % 256 = c at *
  generalize x / 16777216 % 256 = d at *
  have pa := popTo_le a 8
  have pb := popTo_le b 8
  have pc := popTo_le c 8
  have pd := popTo_le d 8
  have z1 : by4 (s1 a) (s1 b) (s1 c) (s1 d) < 4294967296 := by have := la.2.2.1; have := lb.2.2.1; have := lc.2.2.1; have := ld.2.2.1; unfold by4; omega
  have z2 : by4 (s2 (s1 a)) (s2 (s1 b)) (s2 (s1 c)) (s2 (s1 d)) < 4294967296 := by
    have := la.2.2.2.2.2.2.2.2; have := lb.2.2.2.2.2.2.2.2; have := lc.2.2.2.2.2.2.2.2; have := ld.2.2.2.2.2.2.2.2
    unfold by4; omega
  have z3 : by4 (popTo a 8) (popTo b 8) (popTo c 8) (popTo d 8) < 4294967296 := by unfold by4; omega
  have hfin := pop_end _ _ _ _ pa pb pc pd _ _ _ rfl rfl rfl
  clear la lb lc ld
  generalize by4 (s1 a) (s1 b) (s1 c) (s1 d) = y1 at *
  generalize by4 (s2 (s1 a)) (s2 (s1 b)) (s2 (s1 c)) (s2 (s1 d)) = y2 at *
  generalize by4 (popTo a 8) (popTo b 8) (popTo c 8) (popTo d 8) = y3 at *
  have l1 : x / 2 &&& 6148914691236517205 ≤ x / 2 := Nat.and_le_left
  have l2 : x &&& 6148914691236517205 ≤ x := Nat.and_le_left
  have l3 : y1 / 4 &&& 3689348814741910323 ≤ y1 / 4 := Nat.and_le_left
  have l4 : y1 &&& 3689348814741910323 ≤ y1 := Nat.and_le_left
  have h32 : x < 4294967296 := hx
  refine ⟨y1, y2, y3, y3 + y3 / 256, y3 + y3 / 256 + (y3 + y3 / 256) / 65536,
    y3 + y3 / 256 + (y3 + y3 / 256) / 65536 + (y3 + y3 / 256 + (y3 + y3 / 256) / 65536) / 4294967296, ?_, ?_, ?_, ?_, ?_, ?_, ?_, ?_⟩
  · have e1 := u64_and_nat (x / 2) 6148914691236517205 (by omega) (by omega)
    have e2 := u64_and_nat x 6148914691236517205 (by omega) (by omega)
    rw [show ((x / 2 : Nat) : Int) = (x : Int) / 2 by omega] at e1
    rw [show (((6148914691236517205 : Nat)) : Int) = 6148914691236517205 from rfl] at e1 e2
    rw [e1, e2, ← Int.natCast_add, q1]
    exact u64_small _ (by omega)
  · have e1 := u64_and_nat (y1 / 4) 3689348814741910323 (by omega) (by omega)
    have e2 := u64_and_nat y1 3689348814741910323 (by omega) (by omega)
    rw [show ((y1 / 4 : Nat) : Int) = (y1 : Int) / 4 by omega] at e1
    rw [show (((3689348814741910323 : Nat)) : Int) = 3689348814741910323 from rfl] at e1 e2
    rw [e1, e2, ← Int.natCast_add, q2]
    exact u64_small _ (by omega)
  · rw [show (y2 : Int) / 16 + (y2 : Int) = ((y2 / 16 + y2 : Nat) : Int) by omega, u64_small _ (by omega)]
    have e1 := u64_and_nat (y2 / 16 + y2) 1085102592571150095 (by omega) (by omega)
    rw [q3] at e1
    exact e1
  · rw [show (y3 : Int) + (y3 : Int) / 256 = ((y3 + y3 / 256 : Nat) : Int) by omega]
    exact u64_small _ (by omega)
  · have z4 : y3 + y3 / 256 < 8589934592 := by omega
    generalize y3 + y3 / 256 = y4 at *
    rw [show (y4 : Int) + (y4 : Int) / 65536 = ((y4 + y4 / 65536 : Nat) : Int) by omega]
    exact u64_small _ (by omega)
  · have z5 : y3 + y3 / 256 + (y3 + y3 / 256) / 65536 < 17179869184 := by omega
    generalize y3 + y3 / 256 + (y3 + y3 / 256) / 65536 = y5 at *
    rw [show (y5 : Int) + (y5 : Int) / 4294967296 = ((y5 + y5 / 4294967296 : Nat) : Int) by omega]
    exact u64_small _ (by omega)
  · omega
  · rw [i64_and127, hp, ← hfin]
    omega
set_option maxHeartbeats 1000000 in
set_option maxRecDepth 100000 in
theorem ones64_mask (x : Nat) (w : World) (hx : x < 2 ^ 32) :
    Calls Tryz.prog 167 #[.int .u64 x] w fun e w' => e = .returned (.int .i64 (popc x : Nat)) ∧ w = w' := by
  obtain ⟨y1, y2, y3, y4, y5, y6, e1, e2, e3, e4, e5, e6, e7, e8⟩ := ones_eqs x hx
  have hx' : (x : Int) < 4294967296 := by omega
  clear hx
  go_enter Tryz.func167, Tryz.ntmps167
  go_wp2
  go_ret
  exact ⟨rfl, rfl⟩
end Go.Proofs.YtbpkfkljeibjoaaGreat
/- Package filter by tables: what each function does to filters that are told by the numbers of each combination of tags. -/
namespace Rm
open Go Go.RowKit
def eqT (T U : Nat → Nat) : Bool := (List.range 16).all fun i => ((T i : Nat) : Int) == ((U i : Nat) : Int)
def allT (P : Nat → Bool) : Bool := (List.range 16).all P
theorem allT_iff {P : Nat → Bool} : allT P = true ↔ ∀ t, t < 16 → P t = true := by simp [allT]
theorem allT_congr {P Q : Nat → Bool} (h : ∀ t, t < 16 → P t = Q t) : allT P = allT Q := by
  rw [Bool.eq_iff_iff, allT_iff, allT_iff]
  exact ⟨fun a t ht => by rw [← h t ht]; exact a t ht, fun a t ht => by rw [h t ht]; exact a t ht⟩
def withinT (T U : Nat → Nat) : Bool := allT fun t => lessM (T t) (U t) == 0
theorem eqT_zero (T : Nat → Nat) : eqT T (fun _ => 0) = allT fun t => T t == 0 := by
  refine allT_congr fun t _ => ?_
  rw [Bool.eq_iff_iff]
  simp
end Rm
namespace Go.Proofs.YtbpkfkljeibjoaaGreat
open Go.RowKit Rm
theorem eqItems_tArr (d : Nat) (T U : Nat → Nat) (w : World) : ∀ is : List Nat, (∀ i ∈ is, i < 16) → (Op.eqItems (d + 1) 194 1 (tArr T) (tArr U) is).run Tryz.prog w = .ok (is.all fun i => ((T i : Nat) : Int) == ((U i : Nat) : Int)) w
  | [], _ => by simp [Op.eqItems]
  | i :: is, h => by
    have hi : i < 16 := h i (List.mem_cons_self ..)
    have ih := eqItems_tArr d T U w is (fun j hj => h j (List.mem_cons_of_mem _ hj))
    have ha : (isAgg 194).run Tryz.prog w = .ok false w := by
      unfold isAgg
      rw [Sem.run_bind, run_underlying Tryz.underlying194 w]
      rfl
    have p1 : (part 194 (tArr T) (i * 1)).run Tryz.prog w = .ok (.int .u64 (T i : Nat)) w := by
      unfold part
      rw [Sem.run_bind, ha]
      simp [tArr_at T i hi]
    have p2 : (part 194 (tArr U) (i * 1)).run Tryz.prog w = .ok (.int .u64 (U i : Nat)) w := by
      unfold part
      rw [Sem.run_bind, ha]
      simp [tArr_at U i hi]
    have p3 : (Op.equalIn (d + 1) 194 (.int .u64 (T i : Nat)) (.int .u64 (U i : Nat))).run Tryz.prog w = .ok (((T i : Nat) : Int) == ((U i : Nat) : Int)) w := by
      simp [Op.equalIn, Sem.run_bind, run_underlying Tryz.underlying194]
    simp only [Op.eqItems, Sem.run_bind, p1, p2, p3, Result.andThen_ok]
    cases hc : (((T i : Nat) : Int) == ((U i : Nat) : Int))
    · simp [hc]
    · simp [hc, ih]
theorem set_cells : Tryz.prog.cellsOf 194 = 1 := by kernel_rfl
theorem eq_tables (T U : Nat → Nat) (w : World) : (Op.equalIn 10000 196 (.agg (tArr T)) (.agg (tArr U))).run Tryz.prog w = .ok (eqT T U) w := by
  obtain ⟨i, hi⟩ : ∃ i, Tryz.prog.info? 194 = some i := by
    cases hq : Tryz.prog.info? 194 with
    | none => have := set_info; rw [hq] at this; simp at this
    | some i => exact ⟨i, rfl⟩
  rw [run_equalIn_array (P := Tryz.prog) w 9999 (tArr T) (tArr U) Tryz.underlying196 hi, set_cells]
  exact eqItems_tArr 9998 T U w (List.range 16) (fun i hi => List.mem_range.1 hi)
def FSn (n : Nat) (w : World) (v : Value) (T : Nat → Nat) : Prop := ∃ F, RdF w v (F.map boxI) ∧ OkF F ∧ F.length ≤ n ∧ ∀ t, t < 16 → tabF F t = T t
abbrev FS (w : World) (v : Value) (T : Nat → Nat) : Prop := FSn 40 w v T
theorem FSn.gr {n : Nat} {w w' : World} {v : Value} {T : Nat → Nat} (h : FSn n w v T) (g : Gr w w') : FSn n w' v T := by
  obtain ⟨F, h1, h2⟩ := h
  exact ⟨F, h1.gr g, h2⟩
theorem FSn.alloc {n : Nat} {w : World} {v : Value} {T : Nat → Nat} (h : FSn n w v T) (o : Obj) : FSn n (w.alloc o) v T := h.gr ((Gr.refl w).alloc o)
theorem FSn.le {n m : Nat} {w : World} {v : Value} {T : Nat → Nat} (h : FSn n w v T) (hn : n ≤ m) : FSn m w v T := by
  obtain ⟨F, h1, h2, h3, h4⟩ := h
  exact ⟨F, h1, h2, by omega, h4⟩
theorem FSn.lt {n : Nat} {w : World} {v : Value} {T : Nat → Nat} (h : FSn n w v T) (t : Nat) (ht : t < 16) : T t < 2 ^ 32 := by
  obtain ⟨F, h1, h2, h3, h4⟩ := h
  rw [← h4 t ht]
  exact tabF_lt h2 t
theorem FSn.ext {n : Nat} {w : World} {v : Value} {T U : Nat → Nat} (h : FSn n w v T) (e : ∀ t, t < 16 → T t = U t) : FSn n w v U := by
  obtain ⟨F, h1, h2, h3, h4⟩ := h
  exact ⟨F, h1, h2, h3, fun t ht => (h4 t ht).trans (e t ht)⟩
def FO (base n : Nat) (w : World) (v : Value) (T : Nat → Nat) : Prop :=
  ∃ O : List (Bx × Value), w.ownsRow base 92 3 v O.length (flatO O) ∧ (∀ p ∈ O, w.ownsRow base 87 2 p.2 (pairs (canon p.1.2)).length (flat (pairs (canon p.1.2)))) ∧ OkF (O.map (·.1)) ∧ O.length ≤ n ∧ ∀ t, t < 16 → tabF (O.map (·.1)) t = T t
theorem own_base {w : World} {base base' : Nat} {e : TypeId} {size : Nat} {v : Value} {n : Nat} {xs : List Value} (h : w.ownsRow base e size v n xs) (hb : base' ≤ base) : w.ownsRow base' e size v n xs := by
  refine ⟨h.1, ?_⟩
  rcases h.2 with ⟨a, b⟩ | ⟨g, cap, cur, a, b, c⟩
  · exact .inl ⟨a, b⟩
  · exact .inr ⟨g, cap, cur, a, Nat.le_trans hb b, c⟩
theorem FO.gr {base n : Nat} {w w' : World} {v : Value} {T : Nat → Nat} (h : FO base n w v T) (g : Gr w w') : FO base n w' v T := by
  obtain ⟨O, h1, h2, h3⟩ := h
  exact ⟨O, own_gr h1 g, fun p hp => own_gr (h2 p hp) g, h3⟩
theorem FO.base {base base' n : Nat} {w : World} {v : Value} {T : Nat → Nat} (h : FO base n w v T) (hb : base' ≤ base) : FO base' n w v T := by
  obtain ⟨O, h1, h2, h3⟩ := h
  exact ⟨O, own_base h1 hb, fun p hp => own_base (h2 p hp) hb, h3⟩
theorem FO.le {base n m : Nat} {w : World} {v : Value} {T : Nat → Nat} (h : FO base n w v T) (hn : n ≤ m) : FO base m w v T := by
  obtain ⟨O, h1, h2, h3, h4, h5⟩ := h
  exact ⟨O, h1, h2, h3, by omega, h5⟩
theorem FO.ext {base n : Nat} {w : World} {v : Value} {T U : Nat → Nat} (h : FO base n w v T) (e : ∀ t, t < 16 → T t = U t) : FO base n w v U := by
  obtain ⟨O, h1, h2, h3, h4, h5⟩ := h
  exact ⟨O, h1, h2, h3, h4, fun t ht => (h5 t ht).trans (e t ht)⟩
theorem FO.fs {base n : Nat} {w : World} {v : Value} {T : Nat → Nat} (h : FO base n w v T) : FSn n w v T := by
  obtain ⟨O, h1, h2, h3, h4, h5⟩ := h
  exact ⟨O.map (·.1), rd_own h1 h2, h3, by simpa using h4, h5⟩
theorem boxes_own {T : Nat → Nat} {w : World} (hT : ∀ t, t < 16 → T t < 2 ^ 32) : Calls Tryz.prog 143 #[.agg (tArr T)] w fun e w' => ∃ u, e = .returned u ∧ FO w.heap.size 16 w' u T ∧ Gr w w' :=
  (boxes_any T w hT).mono fun e w' ⟨u, O, he, hg, ⟨wl, hl1, ho⟩, hok, hl, ht⟩ => ⟨u, he, ⟨O, own_base ho.2.1 hl1.le, fun p hp => own_base (ho.2.2 p hp).1 hl1.le, hok, by have := blkT_len T 16; omega, ht⟩, hg⟩
set_option maxHeartbeats 1000000 in
set_option maxRecDepth 100000 in
theorem fmeet_own {v v' : Value} {T U : Nat → Nat} {w : World} (h : FS w v T) (h' : FS w v' U) :
    Calls Tryz.prog 103 #[v, v'] w fun e w' => ∃ u, e = .returned (.tuple #[u, .int .i64 0]) ∧ FO w.heap.size 16 w' u (fun t => T t &&& U t) ∧ Gr w w' := by
  obtain ⟨F, h1, hF, hl1, t1⟩ := h
  obtain ⟨G, h2, hG, hl2, t2⟩ := h'
  obtain ⟨R, hR⟩ : ∃ R : Nat → Nat, R = fun t => tabF F t &&& tabF G t := ⟨_, rfl⟩
  have HS : Hid ((Tryz.prog.info? 196).map (·.size) = some (tArr R).size) := by rw [tArr_size]; exact table_info
  have HSZ : Hid ((tArr fun _ => 0).size = (tArr R).size) := by rw [tArr_size, tArr_size]; rfl
  have H1 := Lib.hid (tArr_one R)
  have HLT : Hid (∀ t, t < 16 → R t < 2 ^ 32) := fun t _ => by rw [hR]; exact Nat.lt_of_le_of_lt Nat.and_le_left (tabF_lt hF t)
  have HT : Hid (∀ t, t < 16 → R t = T t &&& U t) := fun t ht => by rw [hR]; simp only; rw [t1 t ht, t2 t ht]
  have HCC := Lib.hid (fcombine_meet v v' F G w h1 h2 hF hG hl1 hl2)
  rw [← hR] at HCC
  clear h1 h2 hF hG hl1 hl2 t1 t2 hR
  go_enter Tryz.func103, Tryz.ntmps103
  go_wp2_with fail
  refine HCC.out.mono ?_
  rintro e w1 ⟨rfl, g1⟩
  go_wp2_with (first
    | (refine wpList_store_row rfl 196 (.tmp 6) (.tmp 12) rfl w1.heap.size (tArr R) rfl rfl 196 _ (heap_alloc_new _ _) HS.out HSZ.out H1.out ?_)
    | (refine wpList_load_row rfl 196 _ rfl w1.heap.size rfl 196 (tArr R) (0, 0) _ (setRow_heap _ _ _ _ _ _ (heap_alloc_new _ _)) Tryz.underlying196 rfl HS.out ?_))
  refine (boxes_own HLT.out).mono ?_
  rintro e w2 ⟨u, rfl, hu, g2⟩
  go_wp2_with fail
  go_ret2
  exact ⟨u, rfl, (hu.ext HT.out).base ((g1.alloc _).setRow g1.le _).le, ((g1.alloc _).setRow g1.le _).trans g2⟩
end Go.Proofs.YtbpkfkljeibjoaaGreat
/- Joined: FilDWithin, FilDSame. -/
/- The contract of package filter's combine, as Within calls it. -/
namespace Go.Proofs.YtbpkfkljeibjoaaGreat
open Go.RowKit Rm
set_option maxHeartbeats 1000000 in
set_option maxRecDepth 100000 in
theorem fcombine_within (v v' : Value) (F G : List Bx) (w : World) (hl : RdF w v (F.map boxI)) (hr : RdF w v' (G.map boxI)) (hF : OkF F) (hG : OkF G) (hlF : F.length ≤ 40) (hlG : G.length ≤ 40) :
    Calls Tryz.prog 141 #[v, v', .func (.func 165) #[] #[]] w fun e w' => e = .returned (.tuple #[.agg (tArr fun t => lessM (tabF F t) (tabF G t)), .int .i64 0]) ∧ Gr w w' := by
  have HS : ∀ T, Hid ((Tryz.prog.info? 196).map (·.size) = some (tArr T).size) := fun T => by unfold Hid; rw [tArr_size]; exact table_info
  have hc1 := chkF_of hF hlF
  have hc2 := chkF_of hG hlG
  have HL := Lib.hid hl
  have HR := Lib.hid hr
  have HF := Lib.hid hF
  have HG := Lib.hid hG
  have HOP := Lib.hid uop_within
  obtain ⟨g, hge⟩ : ∃ g : Nat → Nat → Nat, g = (fun a b => lessM a b) := ⟨_, rfl⟩
  have HOPg : Hid (OpU 165 g) := by rw [hge]; exact HOP.out
  have HGE := Lib.hid hge
  clear hge HOP
  have HSZ := Lib.hid (fun (T U : Nat → Nat) => show (tArr T).size = (tArr U).size by rw [tArr_size, tArr_size])
  have H1 := Lib.hid tArr_one
  have HTF := Lib.hid (fun t => tabF_lt hF t)
  have HTG := Lib.hid (fun t => tabF_lt hG t)
  clear hl hr hF hG
  go_enter Tryz.func141, Tryz.ntmps141
  go_wp2_with fail
  refine (fcheck_any _ _ _ (HL.out.alloc _)).mono ?_
  rw [hc1]
  rintro e w1 ⟨rfl, g1⟩
  have HB1 : Hid (w1.heap[w.heap.size]? = some (.cells (tArr fun _ => 0) 196 (0, 0))) := (Below.block g1 _ (by simp)).trans (heap_alloc_new _ _)
  have G1 := ((Gr.refl w).alloc _).trans g1
  clear g1
  go_wp2_with fail
  refine (fcheck_any _ _ _ (HR.out.gr G1)).mono ?_
  rw [hc2]
  rintro e w2 ⟨rfl, g2⟩
  have HB2 : Hid (w2.heap[w.heap.size]? = some (.cells (tArr fun _ => 0) 196 (0, 0))) := (Below.block g2 _ (Blk_lt HB1.out)).trans HB1.out
  have G2 := G1.trans g2
  clear g2 HB1 G1
  go_wp2_with fail
  refine (tableOf_any _ _ _ (HL.out.gr G2) HF.out hlF).mono ?_
  rintro e w3 ⟨rfl, g3⟩
  have HB3 : Hid (w3.heap[w.heap.size]? = some (.cells (tArr fun _ => 0) 196 (0, 0))) := (Below.block g3 _ (Blk_lt HB2.out)).trans HB2.out
  have G3 := G2.trans g3
  clear g3 HB2 G2
  go_wp2_with fail
  refine (tableOf_any _ _ _ (HR.out.gr G3) HG.out hlG).mono ?_
  rintro e w4 ⟨rfl, g4⟩
  have HB4 : Hid (w4.heap[w.heap.size]? = some (.cells (tArr fun _ => 0) 196 (0, 0))) := (Below.block g4 _ (Blk_lt HB3.out)).trans HB3.out
  have G4 := G3.trans g4
  clear g4 HB3 G3
  have HLT := Lib.hid (Blk_lt HB4.out)
  go_wp2_with (first
    | (refine wpList_store_row rfl 196 (.tmp 10) (.tmp 26) rfl w4.heap.size _ rfl rfl 196 _ (heap_alloc2_old _ _ _) (HS _).out (HSZ.out (fun _ => 0) _) (H1.out _) ?_)
    | (refine wpList_store_row rfl 196 (.tmp 11) (.tmp 28) rfl (w4.heap.size + 1) _ rfl rfl 196 _ ((setRow_other _ _ _ _ (by omega)).trans (heap_alloc2_new _ _ _)) (HS _).out (HSZ.out (fun _ => 0) _) (H1.out _) ?_))
  have A0 := Lib.hid (combAt_start (T := tabF F) (U := tabF G) (A := tArr fun _ => 0) (B := tArr fun _ => 0) G4 HLT.out HB4.out)
  go_loopw [29] (fun jj wi => ∃ j : Nat, j ≤ 16 ∧ jj = .int .i64 j ∧ CombAt w wi w4.heap.size (midC g (tabF F) (tabF G) j) (tabF G)) (fun jj _ => 16 - (intOf jj).toNat)
  case atStart => exact ⟨0, by omega, rfl, A0.out.ext (fun i _ => by simp [midC])⟩
  case round =>
    clear A0
    obtain ⟨j, hj, rfl, hat⟩ := hrel
    generalize w4.heap.size = BB at *
    have HA := Lib.hid hat
    by_cases hjt : j < 16
    · have hj16 : (j : Int) < 16 := by omega
      have c1 : wr.cell? ⟨BB, j, none⟩ = some (.int .u64 (tabF F j : Nat)) := by
        rw [cell_of_row _ _ _ _ _ _ hat.2.2.2.1, tArr_at _ j hjt]
        simp [midC]
      have c2 : wr.cell? ⟨BB + 1, j, none⟩ = some (.int .u64 (tabF G j : Nat)) := by
        rw [cell_of_row _ _ _ _ _ _ hat.2.2.2.2, tArr_at _ j hjt]
      have hfz := frozen_of_row _ _ j _ _ hat.2.2.2.1
      have E : Hid (∀ i, i < 16 → (if i = j then g (tabF F j) (tabF G j) else midC g (tabF F) (tabF G) j i) = midC g (tabF F) (tabF G) (j + 1) i) := by
        intro i hi
        unfold midC
        by_cases e1 : i < j
        · rw [if_neg (by omega), if_pos e1, if_pos (by omega)]
        · by_cases e2 : i < j + 1
          · obtain rfl : i = j := by omega
            rw [if_pos rfl, if_pos e2]
          · rw [if_neg (by omega), if_neg e1, if_neg e2]
      clear hat
      go_wp2_with fail
      go_still_tail 10, (by kernel_rfl)
      still_call (HOPg.out _ _ (HTF.out j) (HTG.out j) _)
      repeat still_step
      refine wpStill_nil ?_
      change wpList _ _ _ _ _ wr.drew
      go_wp2_with fail
      go_roundw
      case rel => exact ⟨j + 1, by omega, by go_num, (HA.out.set j _ hjt).ext E.out⟩
      case measure => simp [intOf]; omega
    · obtain rfl : j = 16 := by omega
      have HA2 := Lib.hid (hat.ext (fun i hi => show midC g (tabF F) (tabF G) 16 i = g (tabF F i) (tabF G i) by simp [midC, hi]))
      have hg := hat.1
      clear hat HA
      go_wp2_with (first | (refine wpList_load_row rfl 196 _ rfl BB rfl 196 _ (0, 0) _ HA2.out.2.2.2.1 Tryz.underlying196 rfl (HS _).out ?_) | (refine wpList_store_row rfl 196 _ _ rfl w.heap.size _ rfl rfl 196 _ HA2.out.2.2.1 (HS _).out (HSZ.out (fun _ => 0) _) (H1.out _) ?_))
      refine bodyPost_ret (v := .tuple #[.agg (tArr fun t => g (tabF F t) (tabF G t)), .int .i64 0]) (results_row_tmp Tryz.results141 _ _ w.heap.size 196 _ (0, 0) _ _ rfl rfl (setRow_heap _ _ _ _ _ _ HA2.out.2.2.1) Tryz.underlying196 rfl (HS _).out) rfl ⟨by rw [HGE.out], ?_⟩
      exact hg.setRow (Nat.le_refl _) _
end Go.Proofs.YtbpkfkljeibjoaaGreat
/- The contract of package filter's combine, as Same calls it. -/
namespace Go.Proofs.YtbpkfkljeibjoaaGreat
open Go.RowKit Rm
end Go.Proofs.YtbpkfkljeibjoaaGreat
/- Joined: FilL, FilN, FilQ, FilR. -/
/- Package filter by tables: Join, Meet, Less where Check refuses; Within and Same. -/
namespace Rm
open Go
theorem wpList_load_row_g {P : Program} {ops : Array Oper} {rest : List Oper} {o : Oper} {a : Act} {w : World} {Q : Exit → Act → World → Prop} (hw : Region.wanted o (yielded ops a.tmps) = true) (ty : TypeId) (x : Operand) (ho : o.op = .load ty x)
    (g : Nat) (hx : a.eval x = .pointer (some ⟨g, 0, none⟩)) (t : TypeId) (cs : Array Value) (fr : Nat × Nat) (d : TypeDesc) (hg : w.heap[g]? = some (.cells cs t fr))
    (hu : P.underlying ty = some d) (hd : (match d with | .struct _ | .array _ _ => true | _ => false) = true) (hi : (P.info? ty).map (·.size) = some cs.size)
    (h : wpList P ops Q rest (a.put o.dst (.agg cs)) w) : wpList P ops Q (o :: rest) a w :=
  wpList_step fun K hK => by rw [if_pos hw]; exact wp_load_row ty x ho g hx t cs fr d hg hu hd hi (hK _ _ h)
end Rm
namespace Go.Proofs.YtbpkfkljeibjoaaGreat
open Go.RowKit Rm
set_option maxHeartbeats 1000000 in
set_option maxRecDepth 100000 in
theorem fwithin_ok {v v' : Value} {T U : Nat → Nat} {w : World} (h : FS w v T) (h' : FS w v' U) :
    Calls Tryz.prog 137 #[v, v'] w fun e w' => e = .returned (.tuple #[.bool (withinT T U), .int .i64 0]) ∧ Gr w w' := by
  obtain ⟨F, h1, hF, hl1, t1⟩ := h
  obtain ⟨G, h2, hG, hl2, t2⟩ := h'
  obtain ⟨R, hR0⟩ : ∃ R : Nat → Nat, R = fun t => lessM (tabF F t) (tabF G t) := ⟨_, rfl⟩
  have hR : ∀ t, R t = lessM (tabF F t) (tabF G t) := fun t => by rw [hR0]
  have HS : Hid ((Tryz.prog.info? 196).map (·.size) = some (tArr R).size) := by rw [tArr_size]; exact table_info
  have HSZ : Hid ((tArr fun _ => 0).size = (tArr R).size) := by rw [tArr_size, tArr_size]; rfl
  have H1 := Lib.hid (tArr_one R)
  have HE : eqT R (fun _ => 0) = withinT T U := by
    rw [eqT_zero]
    exact allT_congr fun t ht => by rw [hR, t1 t ht, t2 t ht]
  have hq : ∀ wx : World, (Op.equalIn 10000 196 (.agg (tArr R)) (.agg #[.int .u64 0, .int .u64 0, .int .u64 0, .int .u64 0, .int .u64 0, .int .u64 0, .int .u64 0, .int .u64 0, .int .u64 0, .int .u64 0, .int .u64 0, .int .u64 0, .int .u64 0, .int .u64 0, .int .u64 0, .int .u64 0])).run Tryz.prog wx = .ok (withinT T U) wx := fun wx => by
    rw [← HE]
    exact eq_tables R (fun _ => 0) wx
  have HCC := Lib.hid (fcombine_within v v' F G w h1 h2 hF hG hl1 hl2)
  rw [← hR0] at HCC
  clear h1 h2 hF hG hl1 hl2 t1 t2 hR hR0 HE
  go_enter Tryz.func137, Tryz.ntmps137
  go_wp2_with fail
  refine HCC.out.mono ?_
  rintro e w1 ⟨rfl, g1⟩
  go_wp2_with (first
    | (refine wpList_store_row rfl 196 (.tmp 6) (.tmp 12) rfl w1.heap.size (tArr R) rfl rfl 196 _ (heap_alloc_new _ _) HS.out HSZ.out H1.out ?_)
    | (refine wpList_load_row_g rfl 196 (.tmp 6) rfl w1.heap.size rfl 196 (tArr R) (0, 0) _ (setRow_heap _ _ _ _ _ _ (heap_alloc_new _ _)) Tryz.underlying196 rfl HS.out ?_))
  go_ret2
  exact ⟨rfl, (g1.alloc _).setRow g1.le _⟩
end Go.Proofs.YtbpkfkljeibjoaaGreat
/- Package filter by tables: Point, Has, Count, Every; the statements' same and filterBegun. -/
namespace Rm
open Go Go.RowKit
def pointB (t n : Int) : Bool := decide (0 ≤ t) && decide (t < 16) && (decide (0 ≤ n) && decide (n < 32))
def cntTo (T : Nat → Nat) : Nat → Nat
  | 0 => 0
  | k + 1 => cntTo T k + popc (T k)
def cntT (T : Nat → Nat) : Nat := cntTo T 16
theorem cntTo_le (T : Nat → Nat) : ∀ k, cntTo T k ≤ 32 * k
  | 0 => Nat.le_refl _
  | k + 1 => by have := cntTo_le T k; have := popc_le (T k); simp only [cntTo]; omega
theorem cntTo_congr {T U : Nat → Nat} : ∀ k, (∀ t, t < k → T t = U t) → cntTo T k = cntTo U k
  | 0, _ => rfl
  | k + 1, h => by simp only [cntTo]; rw [cntTo_congr k (fun t ht => h t (by omega)), h k (by omega)]
end Rm
namespace Go.Proofs.YtbpkfkljeibjoaaGreat
open Go.RowKit Rm
attribute [local go_sem ↓] Go.wp_at_zero Go.wp_at_succ
set_option maxHeartbeats 1000000 in
set_option maxRecDepth 100000 in
theorem fcount_ok {v : Value} {T : Nat → Nat} {w : World} (h : FS w v T) :
    Calls Tryz.prog 138 #[v] w fun e w' => e = .returned (.tuple #[.int .i64 (cntT T : Nat), .int .i64 0]) ∧ Gr w w' := by
  obtain ⟨F, h1, hF, hl1, t1⟩ := h
  have hc := chkF_of hF hl1
  have HL := Lib.hid h1
  have HF := Lib.hid hF
  have HT : Hid (cntT T = cntTo (tabF F) 16) := (cntTo_congr 16 t1).symm
  clear h1 hF t1
  go_enter Tryz.func138, Tryz.ntmps138
  go_wp2_with fail
  refine (fcheck_any _ _ _ HL.out).mono ?_
  rw [hc]
  rintro e w1 ⟨rfl, g1⟩
  go_wp2_with fail
  refine (tableOf_any _ _ _ (HL.out.gr g1) HF.out hl1).mono ?_
  rintro e w2 ⟨rfl, g2⟩
  have G2 := g1.trans g2
  clear g1 g2
  go_wp2_with fail
  go_loop [5, 15] (fun a i => ∃ k : Nat, k ≤ 16 ∧ i = .int .i64 k ∧ a = .int .i64 (cntTo (tabF F) k : Nat)) (fun _ i => 16 - (intOf i).toNat)
  case atStart => exact ⟨0, by omega, rfl, rfl⟩
  case round =>
    obtain ⟨k, hk, rfl, rfl⟩ := hrel
    by_cases hlt : k < 16
    · have hix := fun wx => index_table (tabF F) k hlt wx
      have hk16 : (k : Int) < 16 := by omega
      have hcl : ((cntTo (tabF F) k : Nat) : Int) ≤ 512 := by have := cntTo_le (tabF F) k; omega
      have hpl : ((popc (tabF F k) : Nat) : Int) ≤ 32 := by have := popc_le (tabF F k); omega
      have HS : Hid (((cntTo (tabF F) (k + 1) : Nat) : Int) = ((cntTo (tabF F) k : Nat) : Int) + ((popc (tabF F k) : Nat) : Int)) := by simp only [cntTo]; unfold Hid; omega
      have HLT := Lib.hid (tabF_lt HF.out k)
      generalize cntTo (tabF F) k = cc at *
      generalize tabF F k = tk at *
      go_wp2_with fail
      refine (ones64_mask tk _ HLT.out).mono ?_
      rintro e w3 ⟨rfl, rfl⟩
      go_wp2_with fail
      go_round
      case rel => exact ⟨k + 1, by omega, by go_num, by rw [HS.out]⟩
      case measure => simp [intOf]; omega
    · obtain rfl : k = 16 := by omega
      go_wp2_with fail
      go_ret2
      exact ⟨by rw [HT.out]; rfl, G2⟩
end Go.Proofs.YtbpkfkljeibjoaaGreat
/- Package filter's Every; the statements' same and filterBegun; filters that are written out. -/
namespace Go.Proofs.YtbpkfkljeibjoaaGreat
open Go.RowKit Rm
theorem vld00 : Vld 0 0 := by refine ⟨?_, ?_, ?_⟩ <;> decide
theorem canonFull : canon 4294967295 = [(0, 32)] := by decide +kernel
theorem tabFull : ∀ t < 16, tabF [((0, 0), 4294967295)] t = 4294967295 := by decide +kernel
def fullT : Nat → Nat := fun _ => 4294967295
theorem lit_own (w : World) (y n f t : Nat) (m : Nat) (hc : canon m = [(f, t)]) (hm : m < 2 ^ 32) (hv : Vld y n) :
    FO w.heap.size 1 ((w.alloc (.cells #[.int .i64 f, .int .i64 t] 87)).alloc (.cells #[.int .i64 y, .int .i64 n, .slice (some ⟨w.heap.size, 0, none⟩) 1 1] 92)) (.slice (some ⟨w.heap.size + 1, 0, none⟩) 1 1) (tabF [((y, n), m)]) := by
  refine ⟨[(((y, n), m), .slice (some ⟨w.heap.size, 0, none⟩) 1 1)], ?_, ?_, ?_, by simp, fun _ _ => rfl⟩
  · have h := World.ownsRow_lit (base := w.heap.size) (e := 92) (size := 3) (w.alloc (.cells #[.int .i64 f, .int .i64 t] 87)) #[.int .i64 y, .int .i64 n, .slice (some ⟨w.heap.size, 0, none⟩) 1 1] 1 (by simp) (by simp [maxLen]) rfl
    simpa [flatO] using h
  · intro p hp
    obtain rfl : p = (((y, n), m), .slice (some ⟨w.heap.size, 0, none⟩) 1 1) := by simpa using hp
    simp only
    rw [hc]
    have h := World.ownsRow_lit (base := w.heap.size) (e := 87) (size := 2) w #[.int .i64 f, .int .i64 t] 1 (Nat.le_refl _) (by simp [maxLen]) rfl
    exact h.alloc _
  · intro b hb
    obtain rfl : b = ((y, n), m) := by simpa using hb
    exact ⟨hv, hm⟩
set_option maxHeartbeats 400000 in
set_option maxRecDepth 100000 in
theorem fevery_own (w : World) : Calls Tryz.prog 9 #[] w fun e w' => ∃ v, e = .returned v ∧ FO w.heap.size 1 w' v fullT ∧ Gr w w' := by
  have HB := Lib.hid ((lit_own w 0 0 0 32 4294967295 canonFull (by decide) vld00).ext tabFull)
  go_enter Tryz.func9, Tryz.ntmps9
  go_wp2
  go_ret
  exact ⟨_, rfl, HB.out, ((Gr.refl _).alloc _).alloc _⟩
theorem fevery (w : World) : Calls Tryz.prog 9 #[] w fun e w' => ∃ v, e = .returned v ∧ FSn 1 w' v fullT ∧ Gr w w' :=
  (fevery_own w).mono fun e w' ⟨v, he, hv, g⟩ => ⟨v, he, hv.fs, g⟩
end Go.Proofs.YtbpkfkljeibjoaaGreat
/- The plain mathematics of tables: what the statements on filters say of them. -/
namespace Rm
open Go Go.RowKit
theorem withinT_iff {T U : Nat → Nat} : withinT T U = true ↔ ∀ t, t < 16 → lessM (T t) (U t) = 0 := by
  unfold withinT
  rw [allT_iff]
  simp
def OkT (T : Nat → Nat) : Prop := ∀ t, t < 16 → T t < 2 ^ 32
theorem popTo_zero : ∀ k, popTo 0 k = 0
  | 0 => rfl
  | k + 1 => by simp [popTo, popTo_zero k]
theorem cntTo_zero {T : Nat → Nat} : ∀ k, (∀ t, t < k → T t = 0) → cntTo T k = 0
  | 0, _ => rfl
  | k + 1, h => by simp only [cntTo]; rw [cntTo_zero k (fun t ht => h t (by omega)), h k (by omega)]; simp [popc, popTo_zero]
theorem popTo_none {m : Nat} : ∀ k, popTo m k = 0 → ∀ i, i < k → m.testBit i = false
  | 0, _, i, hi => by omega
  | k + 1, h, i, hi => by
    simp only [popTo] at h
    rcases Nat.lt_or_ge i k with c | c
    · exact popTo_none k (by omega) i c
    · obtain rfl : i = k := by omega
      cases hb : m.testBit i
      · rfl
      · rw [hb] at h; simp at h
open Go.Proofs.YtbpkfkljeibjoaaGreat in
theorem popc_none {m : Nat} (hm : m < 2 ^ 32) (h : popc m = 0) : m = 0 :=
  mask_ext hm (by decide) fun i hi => by rw [popTo_none 32 h i hi, Nat.zero_testBit]
theorem cntTo_none {T : Nat → Nat} (hT : OkT T) : ∀ k, k ≤ 16 → cntTo T k = 0 → ∀ t, t < k → T t = 0
  | 0, _, _, t, ht => by omega
  | k + 1, hk, h, t, ht => by
    simp only [cntTo] at h
    rcases Nat.lt_or_ge t k with c | c
    · exact cntTo_none hT k (by omega) (by omega) t c
    · obtain rfl : t = k := by omega
      exact popc_none (hT t (by omega)) (by omega)
open Go.Proofs.YtbpkfkljeibjoaaGreat in
theorem within_of {T U : Nat → Nat} (hT : OkT T) (hU : OkT U) (h : ∀ t, t < 16 → ∀ i, i < 32 → (T t).testBit i = true → (U t).testBit i = true) : withinT T U = true := by
  rw [withinT_iff]
  intro t ht
  have := (sub_iff (hT t ht) (hU t ht)).2 (h t ht)
  simpa [subM] using this
open Go.Proofs.YtbpkfkljeibjoaaGreat in
theorem within_bit {T U : Nat → Nat} (hT : OkT T) (hU : OkT U) (h : withinT T U = true) {t i : Nat} (ht : t < 16) (hi : i < 32) (hb : (T t).testBit i = true) : (U t).testBit i = true := by
  rw [withinT_iff] at h
  exact (sub_iff (hT t ht) (hU t ht)).1 (by simpa [subM] using h t ht) i hi hb
theorem okT_and {T U : Nat → Nat} (hT : OkT T) : OkT (fun t => T t &&& U t) := fun t ht => Nat.lt_of_le_of_lt Nat.and_le_left (hT t ht)
end Rm
namespace Go.Proofs.YtbpkfkljeibjoaaGreat
open Go.RowKit Rm
theorem fs_of {w : World} {v : Value} {l : List BoxI} (hl : RdF w v l) (h : (chkF l == 0) = true) : ∃ T, FS w v T ∧ OkT T := by
  obtain ⟨F, rfl, hF, hn⟩ := okF_of (by simpa using h)
  exact ⟨tabF F, ⟨F, hl, hF, hn, fun _ _ => rfl⟩, fun t _ => tabF_lt hF t⟩
set_option maxHeartbeats 400000 in
set_option maxRecDepth 100000 in
theorem fcheck_ok {w : World} {v : Value} {T : Nat → Nat} (h : FS w v T) : Calls Tryz.prog 40 #[v] w fun e w' => e = .returned (.int .i64 0) ∧ Gr w w' := by
  obtain ⟨F, h1, hF, hl, _⟩ := h
  have := fcheck_any v _ w h1
  rw [chkF_of hF hl] at this
  exact this
end Go.Proofs.YtbpkfkljeibjoaaGreat
/- The plain mathematics of filters of one box. -/
namespace Rm
open Go Go.RowKit
end Rm
namespace Go.Proofs.YtbpkfkljeibjoaaGreat
open Go.RowKit Rm
theorem Three.alloc {w : World} {b : Nat} {y n : Int} {s : Value} (h : Three w b y n s) (o : Obj) : Three (w.alloc o) b y n s := h.gr ((Gr.refl w).alloc o)
theorem Three.new2 (w : World) (o : Obj) (y n : Int) (s : Value) (t : TypeId) : Three ((w.alloc o).alloc (.cells #[.int .i64 y, .int .i64 n, s] t)) (w.heap.size + 1) y n s := by
  have h := Three.new (w.alloc o) y n s t
  rw [World.size_alloc] at h
  exact h
theorem MS.form {w : World} {v : Value} {a : Nat} (h : MS w v a) : ∃ x c, v = .slice x (pairs (canon a)).length c := rd2_form h.1
end Go.Proofs.YtbpkfkljeibjoaaGreat
/- What parts say: the meaning of a part, of lists of parts. -/
namespace Rm
open Go Go.RowKit Gx
def PtX.f (x : PtX) : Value := .slice x.fa x.fn x.fc
def PtX.k (x : PtX) : Value := .agg #[.slice x.va x.vn x.vc, .slice x.ma x.mn x.mc]
def emptyP (x : PtX) : Bool := cntT x.T == 0 || cntD (memB (formV x.D) (formM x.D)) == 0
def underP (x y : PtX) : Bool := wS x.D y.D && withinT x.T y.T
def hasP (K : List PtX) (t n a b : Nat) : Bool := K.any fun x => (x.T t).testBit n && x.D a b
def stepP (K : List PtX) (x : PtX) : List PtX := if !emptyP x && !K.any (fun y => underP x y) then K.filter (fun y => !underP y x) ++ [x] else K
def fewP (L : List PtX) : List PtX := L.foldl stepP []
theorem fewP_take {L : List PtX} {i : Nat} {x : PtX} (h : L[i]? = some x) : fewP (L.take (i + 1)) = stepP (fewP (L.take i)) x := by
  unfold fewP
  rw [List.take_add_one, h, List.foldl_append]
  rfl
theorem stepP_len (K : List PtX) (x : PtX) : (stepP K x).length ≤ K.length + 1 := by
  unfold stepP
  split
  · rw [List.length_append, List.length_singleton]
    have := List.length_filter_le (fun y => !underP y x) K
    omega
  · omega
theorem fewP_len (L : List PtX) : (fewP L).length ≤ L.length := by
  have key : ∀ (L K : List PtX), (L.foldl stepP K).length ≤ K.length + L.length := by
    intro L
    induction L with
    | nil => intro K; simp
    | cons a L ih =>
      intro K
      rw [List.foldl_cons]
      have h1 := ih (stepP K a)
      have h2 := stepP_len K a
      rw [List.length_cons]
      omega
  have := key L []
  unfold fewP
  simpa using this
theorem stepP_mem {K : List PtX} {x y : PtX} (h : y ∈ stepP K x) : y ∈ K ∨ y = x := by
  unfold stepP at h
  split at h
  · rcases List.mem_append.1 h with h | h
    · exact .inl (List.mem_filter.1 h).1
    · exact .inr (List.mem_singleton.1 h)
  · exact .inl h
theorem fewP_mem {L : List PtX} {y : PtX} (h : y ∈ fewP L) : y ∈ L := by
  have key : ∀ (L K : List PtX), y ∈ L.foldl stepP K → y ∈ K ∨ y ∈ L := by
    intro L
    induction L with
    | nil => intro K h; exact .inl h
    | cons a L ih =>
      intro K h
      rcases ih _ h with h | h
      · rcases stepP_mem h with h | rfl
        · exact .inl h
        · exact .inr (List.mem_cons_self ..)
      · exact .inr (List.mem_cons_of_mem _ h)
  rcases key L [] h with h | h
  · cases h
  · exact h
end Rm
namespace Go.Proofs.YtbpkfkljeibjoaaGreat
open Go.RowKit Rm Gx
structure MeanP (w : World) (x : PtX) : Prop where
  fs : FS w x.f x.T
  kn : KnD w x.k x.D
  few : (formM x.D).length ≤ 60
theorem MeanP.gr {w w' : World} {x : PtX} (h : MeanP w x) (g : Gr w w') : MeanP w' x := ⟨h.fs.gr g, h.kn.gr g, h.few⟩
def MeansP (w : World) (K : List PtX) : Prop := ∀ x ∈ K, MeanP w x
theorem MeansP.gr {w w' : World} {K : List PtX} (h : MeansP w K) (g : Gr w w') : MeansP w' K := fun x hx => (h x hx).gr g
theorem kcount (k : Value) (D : DS) (w : World) (hk : KnD w k D) (hl : (formM D).length ≤ 60) :
    Calls Tryz.prog 139 #[k] w fun e w' => e = .returned (.tuple #[.int .i64 ((cntD (memB (formV D) (formM D)) : Nat) : Int), .int .i64 0]) ∧ Gr w w' := by
  have h := count_ok k _ _ w hk (form_ok D) hl
  rw [← (form_ok D).count] at h
  exact h
theorem kwithin (k k' : Value) (D E : DS) (w : World) (hk : KnD w k D) (hk' : KnD w k' E) (hl : (formM D).length ≤ 60) (hl' : (formM E).length ≤ 60) :
    Calls Tryz.prog 136 #[k, k'] w fun e w' => e = .returned (.tuple #[.bool (wS D E), .int .i64 0]) ∧ Gr w w' :=
  within_ok k k' _ _ _ _ w hk hk' (form_ok D) (form_ok E) hl hl'
end Go.Proofs.YtbpkfkljeibjoaaGreat
/- package part: what it does with single parts. -/
namespace Go.Proofs.YtbpkfkljeibjoaaGreat
open Go.RowKit Rm Gx
theorem emptyP_eq (x : PtX) : emptyP x = (decide (((cntT x.T : Nat) : Int) = 0) || decide (((cntD (memB (formV x.D) (formM x.D)) : Nat) : Int) = 0)) := by
  unfold emptyP
  rw [Bool.eq_iff_iff]
  simp
set_option maxHeartbeats 8000000 in
set_option maxRecDepth 100000 in
theorem empty_any (x : PtX) (w : World) (hx : MeanP w x) :
  Calls Tryz.prog 100 #[.agg #[.slice x.fa x.fn x.fc, .slice x.va x.vn x.vc, .slice x.ma x.mn x.mc]] w fun e w' => e = .returned (.bool (emptyP x)) ∧ Gr w w' := by
 refine enter (N := 25) Tryz.func100 rfl rfl rfl (fun a0 ok0 h0 => ?_)
 have e0_0 : a0.eval (.tmp 0) = .agg #[.slice x.fa x.fn x.fc, .slice x.va x.vn x.vc, .slice x.ma x.mn x.mc] := h0 0 _ rfl
 clear h0
 have G0 := Gr.refl w
 refine wp_seq_k (fun K1 hK1 => ?_)
 refine wp_region_lit ?_
 refine sal (cs := #[.slice x.fa x.fn x.fc, .slice x.va x.vn x.vc, .slice x.ma x.mn x.mc]) ok0 rfl (wn _ rfl) rfl (o_box e0_0) (fun an2 w4 b3 W5 n2 => ?_)
 have G7 := G0.trans W5.gr
 refine sv n2.ok rfl (wn _ rfl) rfl (o_as ev_const) (fun an8 n8 => ?_)
 refine wpList_nil ?_
 refine th_n (hK1 _ _ ?_)
 refine wp_seq_k (fun K9 hK9 => ?_)
 refine wp_region_lit ?_
 refine sv n8.ok rfl (wn _ rfl) rfl (o_fa (z := 1) (n8.ne rfl n2.at_) Tryz.underlying35 rfl (by kernel_rfl) rfl rfl) (fun an10 n10 => ?_)
 refine sv n10.ok rfl (wn _ rfl) rfl (o_ld n10.at_ (Tryz.isAgg23 _) (W5.bk.cell _ rfl)) (fun an11 n11 => ?_)
 refine sc n11.ok rfl (wn _ rfl) rfl (o_f1 Tryz.func138 rfl rfl rfl n11.at_) (fcount_ok (T := x.T) (hx.gr G7).fs) ?_
 rintro _ w13 ⟨rfl, g14⟩
 refine ⟨_, rfl, fun an12 n12 => ?_⟩
 have G15 := G7.trans g14
 have B16 := W5.bk.gr g14
 refine sv n12.ok rfl (wn _ rfl) rfl (o_mv n12.at_) (fun an17 n17 => ?_)
 refine sv n17.ok rfl (wn _ rfl) rfl (o_ex n17.at_ rfl) (fun an18 n18 => ?_)
 refine sv n18.ok rfl (wn _ rfl) rfl (o_ex (n18.ne rfl n17.at_) rfl) (fun an19 n19 => ?_)
 refine sv n19.ok rfl (wn _ rfl) rfl (o_as (n19.ne rfl n18.at_)) (fun an20 n20 => ?_)
 refine sv n20.ok rfl (wn _ rfl) rfl (o_as (n20.ne rfl n19.at_)) (fun an21 n21 => ?_)
 refine wpList_nil ?_
 refine th_n (hK9 _ _ ?_)
 refine wp_seq_k (fun K22 hK22 => ?_)
 refine wp_region_lit ?_
 have e23 := n21.ne rfl (n20.ne rfl (n19.ne rfl (n18.ne rfl (n17.ne rfl (n12.ne rfl (n11.ne rfl (n10.ne rfl (n8.ne rfl n2.at_))))))))
 refine sv n21.ok rfl (wn _ rfl) rfl (o_fa (z := 2) e23 Tryz.underlying35 rfl (by kernel_rfl) rfl rfl) (fun an24 n24 => ?_)
 refine sv n24.ok rfl (wn _ rfl) rfl (o_ldA (k := 1) (cs := [.slice x.va x.vn x.vc, .slice x.ma x.mn x.mc]) n24.at_ (bk_part B16 rfl) Tryz.underlying33 rfl (by kernel_rfl)) (fun an25 n25 => ?_)
 refine sc n25.ok rfl (wn _ rfl) rfl (o_f1 Tryz.func139 rfl rfl rfl n25.at_) (kcount _ x.D w13 (hx.gr G15).kn hx.few) ?_
 rintro _ w27 ⟨rfl, g28⟩
 refine ⟨_, rfl, fun an26 n26 => ?_⟩
 have G29 := G15.trans g28
 refine sv n26.ok rfl (wn _ rfl) rfl (o_mv n26.at_) (fun an31 n31 => ?_)
 refine sv n31.ok rfl (wn _ rfl) rfl (o_ex n31.at_ rfl) (fun an32 n32 => ?_)
 refine sv n32.ok rfl (wn _ rfl) rfl (o_ex (n32.ne rfl n31.at_) rfl) (fun an33 n33 => ?_)
 refine sv n33.ok rfl (wn _ rfl) rfl (o_as (n33.ne rfl n32.at_)) (fun an34 n34 => ?_)
 refine sv n34.ok rfl (wn _ rfl) rfl (o_as (n34.ne rfl n33.at_)) (fun an35 n35 => ?_)
 refine wpList_nil ?_
 refine th_n (hK22 _ _ ?_)
 refine wp_seq_k (fun K36 hK36 => ?_)
 refine wp_region_lit ?_
 have e37 := n35.ne rfl (n34.ne rfl (n33.ne rfl (n32.ne rfl (n31.ne rfl (n26.ne rfl (n25.ne rfl (n24.ne rfl (n21.ne rfl n20.at_))))))))
 refine sv n35.ok rfl (wn _ rfl) rfl (o_mv e37) (fun an38 n38 => ?_)
 refine sv n38.ok rfl (wn _ rfl) rfl (o_eqI n38.at_ ev_const) (fun an39 n39 => ?_)
 refine sv n39.ok rfl (wn _ rfl) rfl (o_mv n39.at_) (fun an40 n40 => ?_)
 by_cases c41 : ((cntT x.T : Nat) : Int) = 0
 ·have e42 := (n40.at_).trans (congrArg Value.bool (decide_eq_true c41))
  refine sn n40.ok rfl (wgF rfl (yl 2 true rfl e42) rfl) rfl (fun an44 n44 => ?_)
  refine sn n44.ok rfl (wgF rfl (yl 2 true rfl (n44.ne rfl e42)) rfl) rfl (fun an45 n45 => ?_)
  refine sv n45.ok rfl (wn _ rfl) rfl (o_pkT (n45.ne rfl (n44.ne rfl e42)) ev_const) (fun an46 n46 => ?_)
  refine sv n46.ok rfl (wn _ rfl) rfl (o_as n46.at_) (fun an47 n47 => ?_)
  refine wpList_nil ?_
  refine th_n (hK36 _ _ ?_)
  refine wp_ret ?_
  exact ret1 n47.ok rfl (n47.at_) ⟨congrArg (fun b => Ending.returned (Value.bool b)) (by rw [emptyP_eq, decide_eq_true c41, Bool.true_or]), G29⟩
 ·have e48 := (n40.at_).trans (congrArg Value.bool (decide_eq_false c41))
  have e50 := n40.ne rfl (n39.ne rfl (n38.ne rfl (n35.ne rfl n34.at_)))
  refine sv n40.ok rfl (wgT rfl (yl 2 false rfl e48) rfl) rfl (o_mv e50) (fun an51 n51 => ?_)
  refine sv n51.ok rfl (wgT rfl (yl 2 false rfl (n51.ne rfl e48)) rfl) rfl (o_eqI n51.at_ ev_const) (fun an52 n52 => ?_)
  refine sv n52.ok rfl (wn _ rfl) rfl (o_pkF (n52.ne rfl (n51.ne rfl e48)) n52.at_) (fun an53 n53 => ?_)
  refine sv n53.ok rfl (wn _ rfl) rfl (o_as n53.at_) (fun an54 n54 => ?_)
  refine wpList_nil ?_
  refine th_n (hK36 _ _ ?_)
  refine wp_ret ?_
  exact ret1 n54.ok rfl (n54.at_) ⟨congrArg (fun b => Ending.returned (Value.bool b)) (by rw [emptyP_eq, decide_eq_false c41, Bool.false_or]), G29⟩
set_option maxHeartbeats 8000000 in
set_option maxRecDepth 100000 in
theorem impliedBy1_any (y x : PtX) (b : Nat) (w : World) (hy : MeanP w y) (hx : MeanP w x) (hb : Bk w b #[.slice x.fa x.fn x.fc, .slice x.va x.vn x.vc, .slice x.ma x.mn x.mc] 35) :
  Calls Tryz.prog 135 #[.agg #[.slice y.fa y.fn y.fc, .slice y.va y.vn y.vc, .slice y.ma y.mn y.mc], .pointer (some ⟨b, 0, none⟩)] w fun e w' => e = .returned (.bool (underP y x)) ∧ Gr w w' := by
 refine enter (N := 28) Tryz.func135 rfl rfl rfl (fun a0 ok0 h0 => ?_)
 have e0_0 : a0.eval (.tmp 0) = .agg #[.slice y.fa y.fn y.fc, .slice y.va y.vn y.vc, .slice y.ma y.mn y.mc] := h0 0 _ rfl
 have e0_1 : a0.eval (.tmp 1) = .pointer (some ⟨b, 0, none⟩) := h0 1 _ rfl
 clear h0
 have G0 := Gr.refl w
 refine wp_seq_k (fun K1 hK1 => ?_)
 refine wp_region_lit ?_
 refine sal (cs := #[.slice y.fa y.fn y.fc, .slice y.va y.vn y.vc, .slice y.ma y.mn y.mc]) ok0 rfl (wn _ rfl) rfl (o_box e0_0) (fun an2 w4 b3 W5 n2 => ?_)
 have G8 := G0.trans W5.gr
 have B9 := hb.gr W5.gr
 refine sv n2.ok rfl (wn _ rfl) rfl (o_as ev_const) (fun an10 n10 => ?_)
 refine wpList_nil ?_
 refine th_n (hK1 _ _ ?_)
 refine wp_seq_k (fun K11 hK11 => ?_)
 refine wp_region_lit ?_
 refine sv n10.ok rfl (wn _ rfl) rfl (o_fa (z := 2) (n10.ne rfl n2.at_) Tryz.underlying35 rfl (by kernel_rfl) rfl rfl) (fun an12 n12 => ?_)
 refine sv n12.ok rfl (wn _ rfl) rfl (o_ldA (k := 1) (cs := [.slice y.va y.vn y.vc, .slice y.ma y.mn y.mc]) n12.at_ (bk_part W5.bk rfl) Tryz.underlying33 rfl (by kernel_rfl)) (fun an13 n13 => ?_)
 have e14 := n13.ne rfl (n12.ne rfl (n10.ne rfl (n2.ne rfl e0_1)))
 refine sv n13.ok rfl (wn _ rfl) rfl (o_fa (z := 2) e14 Tryz.underlying35 rfl (by kernel_rfl) rfl rfl) (fun an15 n15 => ?_)
 refine sv n15.ok rfl (wn _ rfl) rfl (o_ldA (k := 1) (cs := [.slice x.va x.vn x.vc, .slice x.ma x.mn x.mc]) n15.at_ (bk_part B9 rfl) Tryz.underlying33 rfl (by kernel_rfl)) (fun an16 n16 => ?_)
 refine sc n16.ok rfl (wn _ rfl) rfl (o_f2 Tryz.func136 rfl rfl rfl (n16.ne rfl (n15.ne rfl n13.at_)) n16.at_) (kwithin _ _ y.D x.D w4 (hy.gr G8).kn (hx.gr G8).kn hy.few hx.few) ?_
 rintro _ w18 ⟨rfl, g19⟩
 refine ⟨_, rfl, fun an17 n17 => ?_⟩
 have G20 := G8.trans g19
 have B21 := B9.gr g19
 have B22 := W5.bk.gr g19
 refine sv n17.ok rfl (wn _ rfl) rfl (o_mv n17.at_) (fun an23 n23 => ?_)
 refine sv n23.ok rfl (wn _ rfl) rfl (o_ex n23.at_ rfl) (fun an24 n24 => ?_)
 refine sv n24.ok rfl (wn _ rfl) rfl (o_ex (n24.ne rfl n23.at_) rfl) (fun an25 n25 => ?_)
 refine sv n25.ok rfl (wn _ rfl) rfl (o_as (n25.ne rfl n24.at_)) (fun an26 n26 => ?_)
 refine sv n26.ok rfl (wn _ rfl) rfl (o_as (n26.ne rfl n25.at_)) (fun an27 n27 => ?_)
 refine wpList_nil ?_
 refine th_n (hK11 _ _ ?_)
 refine wp_seq_k (fun K28 hK28 => ?_)
 refine wp_region_lit ?_
 have e29 := n27.ne rfl (n26.ne rfl (n25.ne rfl (n24.ne rfl (n23.ne rfl (n17.ne rfl (n16.ne rfl (n15.ne rfl (n13.ne rfl (n12.ne rfl (n10.ne rfl n2.at_))))))))))
 refine sv n27.ok rfl (wn _ rfl) rfl (o_fa (z := 1) e29 Tryz.underlying35 rfl (by kernel_rfl) rfl rfl) (fun an30 n30 => ?_)
 refine sv n30.ok rfl (wn _ rfl) rfl (o_ld n30.at_ (Tryz.isAgg23 _) (B22.cell _ rfl)) (fun an31 n31 => ?_)
 have e32 := n31.ne rfl (n30.ne rfl (n27.ne rfl (n26.ne rfl (n25.ne rfl (n24.ne rfl (n23.ne rfl (n17.ne rfl (n16.ne rfl (n15.ne rfl e14)))))))))
 refine sv n31.ok rfl (wn _ rfl) rfl (o_fa (z := 1) e32 Tryz.underlying35 rfl (by kernel_rfl) rfl rfl) (fun an33 n33 => ?_)
 refine sv n33.ok rfl (wn _ rfl) rfl (o_ld n33.at_ (Tryz.isAgg23 _) (B21.cell _ rfl)) (fun an34 n34 => ?_)
 refine sc n34.ok rfl (wn _ rfl) rfl (o_f2 Tryz.func137 rfl rfl rfl (n34.ne rfl (n33.ne rfl n31.at_)) n34.at_) (fwithin_ok (T := y.T) (U := x.T) (hy.gr G20).fs (hx.gr G20).fs) ?_
 rintro _ w36 ⟨rfl, g37⟩
 refine ⟨_, rfl, fun an35 n35 => ?_⟩
 have G38 := G20.trans g37
 refine sv n35.ok rfl (wn _ rfl) rfl (o_mv n35.at_) (fun an41 n41 => ?_)
 refine sv n41.ok rfl (wn _ rfl) rfl (o_ex n41.at_ rfl) (fun an42 n42 => ?_)
 refine sv n42.ok rfl (wn _ rfl) rfl (o_ex (n42.ne rfl n41.at_) rfl) (fun an43 n43 => ?_)
 refine sv n43.ok rfl (wn _ rfl) rfl (o_as (n43.ne rfl n42.at_)) (fun an44 n44 => ?_)
 refine sv n44.ok rfl (wn _ rfl) rfl (o_as (n44.ne rfl n43.at_)) (fun an45 n45 => ?_)
 refine wpList_nil ?_
 refine th_n (hK28 _ _ ?_)
 refine wp_seq_k (fun K46 hK46 => ?_)
 refine wp_region_lit ?_
 have e47 := n45.ne rfl (n44.ne rfl (n43.ne rfl (n42.ne rfl (n41.ne rfl (n35.ne rfl (n34.ne rfl (n33.ne rfl (n31.ne rfl (n30.ne rfl (n27.ne rfl n26.at_))))))))))
 refine sv n45.ok rfl (wn _ rfl) rfl (o_mv e47) (fun an48 n48 => ?_)
 refine sv n48.ok rfl (wn _ rfl) rfl (o_mv n48.at_) (fun an49 n49 => ?_)
 cases c50 : (wS y.D x.D)
 ·have e51 := (n49.at_).trans (congrArg Value.bool (c50))
  refine sn n49.ok rfl (wgF rfl (yl 1 false rfl e51) rfl) rfl (fun an56 n56 => ?_)
  refine sv n56.ok rfl (wn _ rfl) rfl (o_pkF (n56.ne rfl e51) ev_const) (fun an57 n57 => ?_)
  refine sv n57.ok rfl (wn _ rfl) rfl (o_as n57.at_) (fun an58 n58 => ?_)
  refine wpList_nil ?_
  refine th_n (hK46 _ _ ?_)
  refine wp_ret ?_
  exact ret1 n58.ok rfl (n58.at_) ⟨congrArg (fun b => Ending.returned (Value.bool b)) (by simp [underP, c50]), G38⟩
 ·have e59 := (n49.at_).trans (congrArg Value.bool (c50))
  have e64 := n49.ne rfl (n48.ne rfl (n45.ne rfl n44.at_))
  refine sv n49.ok rfl (wgT rfl (yl 1 true rfl e59) rfl) rfl (o_mv e64) (fun an65 n65 => ?_)
  refine sv n65.ok rfl (wn _ rfl) rfl (o_pkT (n65.ne rfl e59) n65.at_) (fun an66 n66 => ?_)
  refine sv n66.ok rfl (wn _ rfl) rfl (o_as n66.at_) (fun an67 n67 => ?_)
  refine wpList_nil ?_
  refine th_n (hK46 _ _ ?_)
  refine wp_ret ?_
  exact ret1 n67.ok rfl (n67.at_) ⟨congrArg (fun b => Ending.returned (Value.bool b)) (by simp [underP, c50]), G38⟩
set_option maxHeartbeats 8000000 in
set_option maxRecDepth 100000 in
theorem impliedBy_any (x : PtX) (w : World) :
  Calls Tryz.prog 99 #[.agg #[.slice x.fa x.fn x.fc, .slice x.va x.vn x.vc, .slice x.ma x.mn x.mc]] w fun e w' => ∃ b : Nat, e = .returned (.func (.func 135) #[] #[.pointer (some ⟨b, 0, none⟩)]) ∧ w.heap.size ≤ b ∧ Bk w' b #[.slice x.fa x.fn x.fc, .slice x.va x.vn x.vc, .slice x.ma x.mn x.mc] 35 ∧ Gr w w' := by
 refine enter (N := 4) Tryz.func99 rfl rfl rfl (fun a0 ok0 h0 => ?_)
 have e0_0 : a0.eval (.tmp 0) = .agg #[.slice x.fa x.fn x.fc, .slice x.va x.vn x.vc, .slice x.ma x.mn x.mc] := h0 0 _ rfl
 clear h0
 have G0 := Gr.refl w
 refine wp_seq_k (fun K1 hK1 => ?_)
 refine wp_region_lit ?_
 refine sal (cs := #[.slice x.fa x.fn x.fc, .slice x.va x.vn x.vc, .slice x.ma x.mn x.mc]) ok0 rfl (wn _ rfl) rfl (o_box e0_0) (fun an2 w4 b3 W5 n2 => ?_)
 have l6 : w.heap.size ≤ b3 := by rw [W5.eq]; exact G0.size
 have G7 := G0.trans W5.gr
 refine sv n2.ok rfl (wn _ rfl) rfl (o_as ev_const) (fun an8 n8 => ?_)
 refine wpList_nil ?_
 refine th_n (hK1 _ _ ?_)
 refine wp_seq_k (fun K9 hK9 => ?_)
 refine wp_region_lit ?_
 refine sv n8.ok rfl (wn _ rfl) rfl (o_mf (fs := []) (cs := [.pointer (some ⟨b3, 0, none⟩)]) (by simp) (by simp [(n8.ne rfl n2.at_)])) (fun an10 n10 => ?_)
 refine sv n10.ok rfl (wn _ rfl) rfl (o_as n10.at_) (fun an11 n11 => ?_)
 refine wpList_nil ?_
 refine th_n (hK9 _ _ ?_)
 refine wp_ret ?_
 exact ret1 n11.ok rfl (n11.at_) ⟨b3, rfl, l6, W5.bk, G7⟩
set_option maxHeartbeats 8000000 in
set_option maxRecDepth 100000 in
theorem reduce1_any (y x : PtX) (b : Nat) (w : World) (hy : MeanP w y) (hx : MeanP w x) (hb : Bk w b #[.slice x.fa x.fn x.fc, .slice x.va x.vn x.vc, .slice x.ma x.mn x.mc] 35) :
  Calls Tryz.prog 98 #[.agg #[.slice y.fa y.fn y.fc, .slice y.va y.vn y.vc, .slice y.ma y.mn y.mc], .pointer (some ⟨b, 0, none⟩)] w fun e w' => e = .returned (.bool (underP x y)) ∧ Gr w w' := by
 refine enter (N := 8) Tryz.func98 rfl rfl rfl (fun a0 ok0 h0 => ?_)
 have e0_0 : a0.eval (.tmp 0) = .agg #[.slice y.fa y.fn y.fc, .slice y.va y.vn y.vc, .slice y.ma y.mn y.mc] := h0 0 _ rfl
 have e0_1 : a0.eval (.tmp 1) = .pointer (some ⟨b, 0, none⟩) := h0 1 _ rfl
 clear h0
 have G0 := Gr.refl w
 refine wp_seq_k (fun K1 hK1 => ?_)
 refine wp_region_lit ?_
 refine sal (cs := #[.slice y.fa y.fn y.fc, .slice y.va y.vn y.vc, .slice y.ma y.mn y.mc]) ok0 rfl (wn _ rfl) rfl (o_box e0_0) (fun an2 w4 b3 W5 n2 => ?_)
 have G8 := G0.trans W5.gr
 have B9 := hb.gr W5.gr
 refine sv n2.ok rfl (wn _ rfl) rfl (o_as ev_const) (fun an10 n10 => ?_)
 refine wpList_nil ?_
 refine th_n (hK1 _ _ ?_)
 refine wp_seq_k (fun K11 hK11 => ?_)
 refine reg_start (N := 8) (m := 5) (by kernel_rfl) (fun R120 => ?_)
 have R121 := R120.snoc (n' := 1) rfl (fun vJ _ => vJ = .agg #[.slice y.fa y.fn y.fc, .slice y.va y.vn y.vc, .slice y.ma y.mn y.mc]) rfl (fun _ _ _ _ h => h) (fun aS wS pS => by
   exact Does.val (wn _ rfl) (o_ldR ((pS.old 2 rfl).trans (n10.ne rfl n2.at_)) (Bk.gr W5.bk (gr_drew pS.gr)) Tryz.underlying35 rfl (by kernel_rfl)) (Gr.refl _) rfl rfl)
 have R122 := R121.snoc (n' := 2) rfl (fun vJ wJ => ∃ (c2 : Nat), vJ = .func (.func 135) #[] #[.pointer (some ⟨c2, 0, none⟩)] ∧ (Bk wJ c2 #[.slice y.fa y.fn y.fc, .slice y.va y.vn y.vc, .slice y.ma y.mn y.mc] 35)) rfl (fun _ _ _ g ⟨c2, h, q0⟩ => ⟨c2, h, q0.gr g⟩) (fun aS wS pS => by
   have eR12_0 : aS.eval (.tmp 4) = .agg #[.slice y.fa y.fn y.fc, .slice y.va y.vn y.vc, .slice y.ma y.mn y.mc] := pS.pre 0 rfl
   exact Does.call (wn _ rfl) (o_f1 Tryz.func99 rfl rfl rfl (eR12_0)) (impliedBy_any y wS) (by rintro _ w2 ⟨c2, rfl, -, hbk2, g⟩; exact ⟨_, rfl, g, ⟨c2, rfl, hbk2⟩⟩) rfl)
 have R123 := R122.snoc (n' := 3) rfl (fun vJ _ => vJ = .agg #[.slice x.fa x.fn x.fc, .slice x.va x.vn x.vc, .slice x.ma x.mn x.mc]) rfl (fun _ _ _ _ h => h) (fun aS wS pS => by
   exact Does.val (wn _ rfl) (o_ldR ((pS.old 1 rfl).trans (n10.ne rfl (n2.ne rfl e0_1))) (Bk.gr B9 (gr_drew pS.gr)) Tryz.underlying35 rfl (by kernel_rfl)) (Gr.refl _) rfl rfl)
 have R124 := R123.snoc (n' := 4) rfl (fun vJ _ => vJ = .bool (underP x y)) rfl (fun _ _ _ _ h => h) (fun aS wS pS => by
   obtain ⟨c2, eR12_1, hbk2⟩ := pS.pre 1 rfl
   have eR12_1 : aS.eval (.tmp 5) = .func (.func 135) #[] #[.pointer (some ⟨c2, 0, none⟩)] := eR12_1
   have eR12_2 : aS.eval (.tmp 6) = .agg #[.slice x.fa x.fn x.fc, .slice x.va x.vn x.vc, .slice x.ma x.mn x.mc] := pS.pre 2 rfl
   exact Does.call (wn _ rfl) (o_fv1 (caps := [.pointer (some ⟨c2, 0, none⟩)]) ⟨_, Tryz.func135, rfl, rfl⟩ (eR12_1) (eR12_2)) (impliedBy1_any x y c2 wS (hx.gr (G8.trans (gr_drew pS.gr))) (hy.gr (G8.trans (gr_drew pS.gr))) hbk2) (by rintro _ w2 ⟨rfl, g⟩; exact ⟨_, rfl, g, rfl⟩) rfl)
 have R125 := R124.snoc (n' := 5) rfl (fun vJ _ => vJ = .bool (underP x y)) rfl (fun _ _ _ _ h => h) (fun aS wS pS => by
   have eR12_3 : aS.eval (.tmp 7) = .bool (underP x y) := pS.pre 3 rfl
   exact Does.val (wn _ rfl) (o_as (eR12_3)) (Gr.refl _) rfl rfl)
 refine R125.run (k := 0) (L := #[true, true, true, true, true]) (by kernel_rfl) (by kernel_rfl) (by kernel_rfl) n10.ok (by kernel_rfl) (by kernel_rfl) (fun ap14 w15 p14 => ?_)
 have g16 := gr_drew p14.gr
 have G17 := G8.trans g16
 obtain ⟨c2, ep14_1, hbk2⟩ := p14.js 1 rfl
 have ep14_1 : ap14.eval (.tmp 5) = .func (.func 135) #[] #[.pointer (some ⟨c2, 0, none⟩)] := ep14_1
 refine wpAny_done (by kernel_rfl) ?_ _
 refine th_n (hK11 _ _ ?_)
 refine wp_ret ?_
 have ep14_4 : ap14.eval (.tmp 3) = .bool (underP x y) := p14.js 4 rfl
 exact ret1 p14.ok rfl (ep14_4) ⟨rfl, G17⟩
end Go.Proofs.YtbpkfkljeibjoaaGreat
/- part.Check, checkBoth, Has. -/
namespace Rm
open Go Go.RowKit Gx
structure PtI where
  fa : Option Addr
  fn : Nat
  fc : Nat
  va : Option Addr
  vn : Nat
  vc : Nat
  ma : Option Addr
  mn : Nat
  mc : Nat
  l : List BoxI
  V : List Int
  M : List (Int × Int)
def encR (x : PtI) : List Value := [.slice x.fa x.fn x.fc, .slice x.va x.vn x.vc, .slice x.ma x.mn x.mc]
def PtI.f (x : PtI) : Value := .slice x.fa x.fn x.fc
def PtI.k (x : PtI) : Value := .agg #[.slice x.va x.vn x.vc, .slice x.ma x.mn x.mc]
def chkI (x : PtI) : Int := if chkF x.l = 0 then chkK x.V x.M else chkF x.l
def chkPGo : List PtI → Int
  | [] => 0
  | x :: r => if chkI x = 0 then chkPGo r else chkI x
def chkP (K : List PtI) : Int := if 30 < K.length then 2 else chkPGo K
theorem chkPGo_at {K : List PtI} {i : Nat} {x : PtI} (h : K[i]? = some x) : chkPGo (K.drop i) = if chkI x = 0 then chkPGo (K.drop (i + 1)) else chkI x := by
  obtain ⟨hi, e⟩ := List.getElem?_eq_some_iff.1 h
  rw [List.drop_eq_getElem_cons hi, e]
  rfl
theorem chkPGo_zero {K : List PtI} : chkPGo K = 0 ↔ ∀ x ∈ K, chkI x = 0 := by
  induction K with
  | nil => simp [chkPGo]
  | cons a K ih =>
    unfold chkPGo
    by_cases h : chkI a = 0
    · rw [if_pos h, ih]
      simp [h]
    · rw [if_neg h]
      simp [h]
end Rm
namespace Go.Proofs.YtbpkfkljeibjoaaGreat
open Go.RowKit Rm Gx
structure MeanI (w : World) (x : PtI) : Prop where
  fs : RdF w x.f x.l
  kn : KnR w x.k x.V x.M
theorem MeanI.gr {w w' : World} {x : PtI} (h : MeanI w x) (g : Gr w w') : MeanI w' x := ⟨h.fs.gr g, h.kn.gr g⟩
def MeansI (w : World) (K : List PtI) : Prop := ∀ x ∈ K, MeanI w x
theorem MeansI.gr {w w' : World} {K : List PtI} (h : MeansI w K) (g : Gr w w') : MeansI w' K := fun x hx => (h x hx).gr g
theorem MeanI.x {w : World} {x : PtI} (h : MeanI w x) (hc : chkI x = 0) : ∃ y : PtX, encP y = encR x ∧ MeanP w y := by
  unfold chkI at hc
  by_cases h0 : chkF x.l = 0
  · rw [if_pos h0] at hc
    obtain ⟨F, h1, h2, h3⟩ := okF_of h0
    obtain ⟨v, m, h4, h5, h6, h7⟩ := chkK_zero hc
    obtain ⟨q1, q2⟩ := form_self h6
    refine ⟨⟨x.fa, x.fn, x.fc, x.va, x.vn, x.vc, x.ma, x.mn, x.mc, tabF F, memB v m⟩, rfl, ⟨F, h1 ▸ h.fs, h2, h3, fun _ _ => rfl⟩, ?_, ?_⟩
    · show KnR w _ (ints (formV (memB v m))) (pairs (formM (memB v m)))
      rw [q1, q2, ← h4, ← h5]
      exact h.kn
    · show (formM (memB v m)).length ≤ 60
      rw [q2]; exact h7
  · rw [if_neg h0] at hc
    exact absurd hc h0
theorem MeanP.i {w : World} {y : PtX} (h : MeanP w y) : ∃ x : PtI, encR x = encP y ∧ MeanI w x ∧ chkI x = 0 := by
  obtain ⟨F, h1, h2, h3, h4⟩ := h.fs
  have h5 : KnR w y.k (ints (formV y.D)) (pairs (formM y.D)) := h.kn
  have h6 : chkK (ints (formV y.D)) (pairs (formM y.D)) = 0 := (form_ok y.D).chk h.few
  generalize ints (formV y.D) = V at h5 h6
  generalize pairs (formM y.D) = M at h5 h6
  refine ⟨⟨y.fa, y.fn, y.fc, y.va, y.vn, y.vc, y.ma, y.mn, y.mc, F.map boxI, V, M⟩, rfl, ⟨h1, h5⟩, ?_⟩
  unfold chkI
  rw [if_pos (chkF_of h2 h3)]
  exact h6
theorem MeansI.xs {w : World} {K : List PtI} (h : MeansI w K) (hc : ∀ x ∈ K, chkI x = 0) : ∃ L : List PtX, L.map encP = K.map encR ∧ MeansP w L := by
  induction K with
  | nil => exact ⟨[], rfl, fun x hx => by cases hx⟩
  | cons a K ih =>
    obtain ⟨y, h1, h2⟩ := (h a (List.mem_cons_self ..)).x (hc a (List.mem_cons_self ..))
    obtain ⟨L, h3, h4⟩ := ih (fun x hx => h x (List.mem_cons_of_mem _ hx)) (fun x hx => hc x (List.mem_cons_of_mem _ hx))
    refine ⟨y :: L, by simp [h1, h3], fun x hx => ?_⟩
    rcases List.mem_cons.1 hx with rfl | hx
    · exact h2
    · exact h4 x hx
theorem MeansP.is {w : World} {L : List PtX} (h : MeansP w L) : ∃ K : List PtI, K.map encR = L.map encP ∧ MeansI w K ∧ ∀ x ∈ K, chkI x = 0 := by
  induction L with
  | nil => exact ⟨[], rfl, (fun x hx => by cases hx), fun x hx => by cases hx⟩
  | cons a L ih =>
    obtain ⟨y, h1, h2, h3⟩ := (h a (List.mem_cons_self ..)).i
    obtain ⟨K, h4, h5, h6⟩ := ih (fun x hx => h x (List.mem_cons_of_mem _ hx))
    refine ⟨y :: K, by simp [h1, h4], fun x hx => ?_, fun x hx => ?_⟩
    · rcases List.mem_cons.1 hx with rfl | hx
      · exact h2
      · exact h5 x hx
    · rcases List.mem_cons.1 hx with rfl | hx
      · exact h3
      · exact h6 x hx
theorem rd_map {E F : Type} {enc : E → List Value} {enc' : F → List Value} {s : Nat} {w : World} {a : Option Addr} {K : List E} {L : List F} (h : RdA enc s w a K) (e : L.map enc' = K.map enc) : RdA enc' s w a L := by
  intro hn
  have hl : L.length = K.length := by simpa using congrArg List.length e
  obtain ⟨b, off, h1, h2, h3⟩ := h (by intro q; rw [q] at hl; exact hn (List.eq_nil_of_length_eq_zero (by simpa using hl)))
  refine ⟨b, off, h1, h2, fun i y hy j u hu => ?_⟩
  have hi : i < K.length := by rw [← hl]; exact (List.getElem?_eq_some_iff.1 hy).1
  have e2 : (L.map enc')[i]? = (K.map enc)[i]? := by rw [e]
  rw [List.getElem?_map, List.getElem?_map, hy, List.getElem?_eq_getElem hi] at e2
  simp only [Option.map_some, Option.some.injEq] at e2
  rw [e2] at hu
  exact h3 i _ (List.getElem?_eq_getElem hi) j u hu
set_option maxHeartbeats 8000000 in
set_option maxRecDepth 100000 in
theorem pcheck_any (K : List PtI) (va : Option Addr) (vc : Nat) (w : World) (hl : K.length ≤ 9223372036854775807) (hv : RdA encR 3 w va K) (hm : MeansI w K) :
  Calls Tryz.prog 39 #[.slice va K.length vc] w fun e w' => e = .returned (.int .i64 (chkP K)) ∧ Gr w w' := by
 refine enter (N := 29) Tryz.func39 rfl rfl rfl (fun a0 ok0 h0 => ?_)
 have e0_0 : a0.eval (.tmp 0) = .slice va K.length vc := h0 0 _ rfl
 clear h0
 have G0 := Gr.refl w
 refine wp_seq_k (fun K1 hK1 => ?_)
 refine wp_region_lit ?_
 refine sv ok0 rfl (wn _ rfl) rfl (o_as ev_const) (fun an2 n2 => ?_)
 refine wpList_nil ?_
 refine th_n (hK1 _ _ ?_)
 refine wp_seq_k (fun K3 hK3 => ?_)
 refine wp_seq_k (fun K4 hK4 => ?_)
 refine wp_region_lit ?_
 refine sv n2.ok rfl (wn _ rfl) rfl (o_mv (n2.ne rfl e0_0)) (fun an5 n5 => ?_)
 refine sv n5.ok rfl (wn _ rfl) rfl (o_len n5.at_ Tryz.underlying22) (fun an6 n6 => ?_)
 refine sv n6.ok rfl (wn _ rfl) rfl (o_gtI n6.at_ ev_const) (fun an7 n7 => ?_)
 refine wpList_nil ?_
 refine th_n (hK4 _ _ ?_)
 by_cases c8 : (30 : Int) < ((K.length : Nat) : Int)
 ·refine wp_cond_true ((n7.at_).trans (congrArg Value.bool (decide_eq_true c8))) ?_
  refine wp_seq_k (fun K9 hK9 => ?_)
  refine wp_region_lit ?_
  refine sv n7.ok rfl (wn _ rfl) rfl (o_as ev_const) (fun an10 n10 => ?_)
  refine wpList_nil ?_
  refine th_n (hK9 _ _ ?_)
  refine wp_ret ?_
  refine th_r ?_
  exact ret1 n10.ok rfl (n10.at_) ⟨congrArg (fun n => Ending.returned (Value.int .i64 n)) (by unfold chkP; rw [if_pos (by omega)]), G0⟩
 ·refine wp_cond_false ((n7.at_).trans (congrArg Value.bool (decide_eq_false c8))) ?_
  refine wp_skip ?_
  refine th_n (hK3 _ _ ?_)
  refine wp_seq_k (fun K11 hK11 => ?_)
  refine wp_seq_k (fun K12 hK12 => ?_)
  refine wp_region_lit ?_
  have e13 := n7.ne rfl (n6.ne rfl (n5.ne rfl (n2.ne rfl e0_0)))
  refine sv n7.ok rfl (wn _ rfl) rfl (o_mv e13) (fun an14 n14 => ?_)
  refine sv n14.ok rfl (wn _ rfl) rfl (o_len n14.at_ Tryz.underlying22) (fun an15 n15 => ?_)
  refine sv n15.ok rfl (wn _ rfl) rfl (o_mv ev_const) (fun an16 n16 => ?_)
  refine wpList_nil ?_
  refine th_n (hK12 _ _ ?_)
  refine wp_block ?_
  have e18 := n16.ne rfl (n15.ne rfl (n14.ne rfl (n7.ne rfl (n6.ne rfl (n5.ne rfl n2.at_)))))
  refine lp (fun (nL : Nat) (aL : Act) (wL : World) => ∃ i : Nat, nL = K.length - i ∧ Ok 29 aL ∧ Gr w wL ∧ (aL.eval (.tmp 2) = .int .i64 0) ∧ (aL.eval (.tmp 10) = .slice va K.length vc) ∧ (aL.eval (.tmp 11) = .int .i64 ((K.length : Nat) : Int)) ∧ (aL.eval (.tmp 12) = .int .i64 (i : Int)) ∧ (i ≤ K.length) ∧ (chkPGo K = chkPGo (K.drop i))) _ ⟨0, rfl, n16.ok, G0, e18, (n16.ne rfl (n15.ne rfl n14.at_)), (n16.ne rfl n15.at_), n16.at_, by omega, rfl⟩ ?_
  rintro m19 aI17 w21 ⟨i, hmI17, okI17, GI17, s2I17, s10I17, s11I17, s12I17, hiI17, hgI17⟩ KI17 hKI17
  refine wp_seq_k (fun K22 hK22 => ?_)
  refine wp_region_lit ?_
  refine sv okI17 rfl (wn _ rfl) rfl (o_ltI s12I17 s11I17) (fun an23 n23 => ?_)
  refine wpList_nil ?_
  refine th_n (hK22 _ _ ?_)
  refine wp_seq_k (fun K24 hK24 => ?_)
  by_cases c25 : (i : Int) < ((K.length : Nat) : Int)
  ·refine wp_cond_true ((n23.at_).trans (congrArg Value.bool (decide_eq_true c25))) ?_
   refine wp_skip ?_
   refine th_n (hK24 _ _ ?_)
   refine wp_seq_k (fun K26 hK26 => ?_)
   refine wp_block ?_
   refine wp_seq_k (fun K27 hK27 => ?_)
   refine wp_region_lit ?_
   have h28l : i < List.length K := by omega
   obtain ⟨bh28, fh28, h28a, h28b, h28c⟩ := hv (ne_nil_of_lt h28l)
   obtain ⟨xh28, h28x⟩ : ∃ x, (K)[i]? = some x := ⟨_, List.getElem?_eq_getElem h28l⟩
   refine sv n23.ok rfl (wn _ rfl) rfl (o_iaV (i := i) (s := 3) h28a (n23.ne rfl s10I17) (n23.ne rfl s12I17) Tryz.underlying22 (by kernel_rfl) h28l) (fun an29 n29 => ?_)
   refine sv n29.ok rfl (wn _ rfl) rfl (o_ldA (k := fh28 + i * 3) n29.at_ (cs := [.slice xh28.fa xh28.fn xh28.fc, .slice xh28.va xh28.vn xh28.vc, .slice xh28.ma xh28.mn xh28.mc]) (fun j v hv => (Below.cell GI17 h28b).trans (h28c _ _ h28x j v hv)) Tryz.underlying35 rfl (by kernel_rfl)) (fun an30 n30 => ?_)
   refine sal (cs := #[.slice none 0 0, .slice none 0 0, .slice none 0 0]) n30.ok rfl (wn _ rfl) rfl (o_al (z := .agg #[.slice none 0 0, .slice none 0 0, .slice none 0 0]) (by kernel_rfl)) (fun an31 w33 b32 W34 n31 => ?_)
   have l35 : w.heap.size ≤ b32 := by rw [W34.eq]; exact GI17.size
   have G36 := GI17.trans W34.gr
   refine ssR rfl (wn _ rfl) (o_stR n31.at_ (n31.ne rfl n30.at_) W34.bk (by kernel_rfl) rfl (by simp [Value.oneCell'])) W34.bk (fun w37 u38 u38b => ?_)
   have G39 : Gr w w37 := Below.upd G36 l35 u38
   refine wpList_nil ?_
   refine th_n (hK27 _ _ ?_)
   refine wp_seq_k (fun K40 hK40 => ?_)
   refine wp_seq_k (fun K41 hK41 => ?_)
   refine wp_region_lit ?_
   refine sv n31.ok rfl (wn _ rfl) rfl (o_fa (z := 1) n31.at_ Tryz.underlying35 rfl (by kernel_rfl) rfl rfl) (fun an42 n42 => ?_)
   refine sv n42.ok rfl (wn _ rfl) rfl (o_ld n42.at_ (Tryz.isAgg23 _) (u38b.cell _ rfl)) (fun an43 n43 => ?_)
   refine sc n43.ok rfl (wn _ rfl) rfl (o_f1 Tryz.func40 rfl rfl rfl n43.at_) (fcheck_any _ _ w37 ((hm _ (List.mem_of_getElem? h28x)).gr G39).fs) ?_
   rintro _ w45 ⟨rfl, g46⟩
   refine ⟨_, rfl, fun an44 n44 => ?_⟩
   have G47 := G39.trans g46
   have B48 := u38b.gr g46
   refine sv n44.ok rfl (wn _ rfl) rfl (o_as n44.at_) (fun an49 n49 => ?_)
   refine wpList_nil ?_
   refine th_n (hK41 _ _ ?_)
   refine wp_seq_k (fun K50 hK50 => ?_)
   refine wp_region_lit ?_
   refine sv n49.ok rfl (wn _ rfl) rfl (o_mv n49.at_) (fun an51 n51 => ?_)
   refine sv n51.ok rfl (wn _ rfl) rfl (o_neI n51.at_ ev_const) (fun an52 n52 => ?_)
   refine wpList_nil ?_
   refine th_n (hK50 _ _ ?_)
   by_cases c53 : ¬ (chkF xh28.l) = 0
   ·refine wp_cond_true ((n52.at_).trans (congrArg Value.bool (decide_eq_true c53))) ?_
    refine wp_seq_k (fun K54 hK54 => ?_)
    refine wp_region_lit ?_
    refine sv n52.ok rfl (wn _ rfl) rfl (o_mv (n52.ne rfl (n51.ne rfl n49.at_))) (fun an55 n55 => ?_)
    refine sv n55.ok rfl (wn _ rfl) rfl (o_as n55.at_) (fun an56 n56 => ?_)
    refine wpList_nil ?_
    refine th_n (hK54 _ _ ?_)
    refine wp_ret ?_
    refine th_r ?_
    refine ib_r ?_
    refine th_r ?_
    refine th_r ?_
    refine ib_r ?_
    refine th_r ?_
    exact ret1 n56.ok rfl (n56.at_) ⟨congrArg (fun n => Ending.returned (Value.int .i64 n)) (by unfold chkP; rw [if_neg (by omega), hgI17, chkPGo_at h28x]; unfold chkI; rw [if_neg c53, if_neg c53]), G47⟩
   ·refine wp_cond_false ((n52.at_).trans (congrArg Value.bool (decide_eq_false c53))) ?_
    refine wp_skip ?_
    refine th_n (hK40 _ _ ?_)
    refine wp_seq_k (fun K57 hK57 => ?_)
    refine wp_region_lit ?_
    have e58 := n52.ne rfl (n51.ne rfl (n49.ne rfl (n44.ne rfl (n43.ne rfl (n42.ne rfl n31.at_)))))
    refine sv n52.ok rfl (wn _ rfl) rfl (o_fa (z := 2) e58 Tryz.underlying35 rfl (by kernel_rfl) rfl rfl) (fun an59 n59 => ?_)
    refine sv n59.ok rfl (wn _ rfl) rfl (o_ldA (k := 1) (cs := [.slice xh28.va xh28.vn xh28.vc, .slice xh28.ma xh28.mn xh28.mc]) n59.at_ (bk_part B48 rfl) Tryz.underlying33 rfl (by kernel_rfl)) (fun an60 n60 => ?_)
    refine sc n60.ok rfl (wn _ rfl) rfl (o_f1 Tryz.func65 rfl rfl rfl n60.at_) (kcheck_any _ _ _ w45 ((hm _ (List.mem_of_getElem? h28x)).gr G47).kn) ?_
    rintro _ w62 ⟨rfl, g63⟩
    refine ⟨_, rfl, fun an61 n61 => ?_⟩
    have G64 := G47.trans g63
    refine sv n61.ok rfl (wn _ rfl) rfl (o_as n61.at_) (fun an66 n66 => ?_)
    refine wpList_nil ?_
    refine th_n (hK57 _ _ ?_)
    refine wp_seq_k (fun K67 hK67 => ?_)
    refine wp_region_lit ?_
    refine sv n66.ok rfl (wn _ rfl) rfl (o_mv n66.at_) (fun an68 n68 => ?_)
    refine sv n68.ok rfl (wn _ rfl) rfl (o_neI n68.at_ ev_const) (fun an69 n69 => ?_)
    refine wpList_nil ?_
    refine th_n (hK67 _ _ ?_)
    by_cases c70 : ¬ (chkK xh28.V xh28.M) = 0
    ·refine wp_cond_true ((n69.at_).trans (congrArg Value.bool (decide_eq_true c70))) ?_
     refine wp_seq_k (fun K71 hK71 => ?_)
     refine wp_region_lit ?_
     refine sv n69.ok rfl (wn _ rfl) rfl (o_mv (n69.ne rfl (n68.ne rfl n66.at_))) (fun an72 n72 => ?_)
     refine sv n72.ok rfl (wn _ rfl) rfl (o_as n72.at_) (fun an73 n73 => ?_)
     refine wpList_nil ?_
     refine th_n (hK71 _ _ ?_)
     refine wp_ret ?_
     refine ib_r ?_
     refine th_r ?_
     refine th_r ?_
     refine ib_r ?_
     refine th_r ?_
     exact ret1 n73.ok rfl (n73.at_) ⟨congrArg (fun n => Ending.returned (Value.int .i64 n)) (by unfold chkP; rw [if_neg (by omega), hgI17, chkPGo_at h28x]; unfold chkI; rw [if_pos (Decidable.of_not_not c53), if_neg c70]), G64⟩
    ·refine wp_cond_false ((n69.at_).trans (congrArg Value.bool (decide_eq_false c70))) ?_
     refine wp_skip ?_
     refine ib_n ?_
     refine th_n (hK26 _ _ ?_)
     refine wp_region_lit ?_
     have e74 := n69.ne rfl (n68.ne rfl (n66.ne rfl (n61.ne rfl (n60.ne rfl (n59.ne rfl (n52.ne rfl (n51.ne rfl (n49.ne rfl (n44.ne rfl (n43.ne rfl (n42.ne rfl (n31.ne rfl (n30.ne rfl (n29.ne rfl (n23.ne rfl s12I17)))))))))))))))
     refine sv n69.ok rfl (wn _ rfl) rfl (o_add (r := ((i + 1 : Nat) : Int)) e74 ev_const (by omega) (by omega)) (fun an75 n75 => ?_)
     refine sv n75.ok rfl (wn _ rfl) rfl (o_mv n75.at_) (fun an76 n76 => ?_)
     refine wpList_nil ?_
     have e77 := n76.ne rfl (n75.ne rfl (n69.ne rfl (n68.ne rfl (n66.ne rfl (n61.ne rfl (n60.ne rfl (n59.ne rfl (n52.ne rfl (n51.ne rfl (n49.ne rfl (n44.ne rfl (n43.ne rfl (n42.ne rfl (n31.ne rfl (n30.ne rfl (n29.ne rfl (n23.ne rfl s2I17)))))))))))))))))
     have e78 := n76.ne rfl (n75.ne rfl (n69.ne rfl (n68.ne rfl (n66.ne rfl (n61.ne rfl (n60.ne rfl (n59.ne rfl (n52.ne rfl (n51.ne rfl (n49.ne rfl (n44.ne rfl (n43.ne rfl (n42.ne rfl (n31.ne rfl (n30.ne rfl (n29.ne rfl (n23.ne rfl s10I17)))))))))))))))))
     have e79 := n76.ne rfl (n75.ne rfl (n69.ne rfl (n68.ne rfl (n66.ne rfl (n61.ne rfl (n60.ne rfl (n59.ne rfl (n52.ne rfl (n51.ne rfl (n49.ne rfl (n44.ne rfl (n43.ne rfl (n42.ne rfl (n31.ne rfl (n30.ne rfl (n29.ne rfl (n23.ne rfl s11I17)))))))))))))))))
     exact th_n (hKI17 _ _ _ (by omega) ⟨i + 1, rfl, n76.ok, G64, e77, e78, e79, n76.at_, by omega, by rw [hgI17, chkPGo_at h28x, if_pos]; unfold chkI; rw [if_pos (Decidable.of_not_not c53)]; exact Decidable.of_not_not c70⟩)
  ·refine wp_cond_false ((n23.at_).trans (congrArg Value.bool (decide_eq_false c25))) ?_
   refine wp_exit ?_
   refine th_x ?_
   refine th_x ?_
   refine ib_x ?_
   refine th_n (hK11 _ _ ?_)
   refine wp_seq_k (fun K80 hK80 => ?_)
   refine wp_region_lit ?_
   refine sv n23.ok rfl (wn _ rfl) rfl (o_as ev_const) (fun an81 n81 => ?_)
   refine wpList_nil ?_
   refine th_n (hK80 _ _ ?_)
   refine wp_ret ?_
   exact ret1 n81.ok rfl (n81.at_) ⟨congrArg (fun n => Ending.returned (Value.int .i64 n)) (by unfold chkP; rw [if_neg (by omega), hgI17, List.drop_eq_nil_of_le (by omega)]; rfl), GI17⟩
theorem pcheck_ok (L : List PtX) (va : Option Addr) (vc : Nat) (w : World) (hl : L.length ≤ 30) (hv : RdA encP 3 w va L) (hm : MeansP w L) : Calls Tryz.prog 39 #[.slice va L.length vc] w fun e w' => e = .returned (.int .i64 0) ∧ Gr w w' := by
  obtain ⟨K, h1, h2, h3⟩ := hm.is
  have hlen : K.length = L.length := by simpa using congrArg List.length h1
  have h := pcheck_any K va vc w (by omega) (rd_map hv h1) h2
  have e : chkP K = 0 := by unfold chkP; rw [if_neg (by omega)]; exact chkPGo_zero.2 h3
  rw [e, hlen] at h
  exact h
def chkP2 (K L : List PtI) : Int := if chkP K = 0 then chkP L else chkP K
set_option maxHeartbeats 8000000 in
set_option maxRecDepth 100000 in
theorem pcheckBoth_any (K L : List PtI) (va vb : Option Addr) (vc vd : Nat) (w : World) (hl1 : K.length ≤ 9223372036854775807) (hl2 : L.length ≤ 9223372036854775807) (h1 : RdA encR 3 w va K) (h2 : RdA encR 3 w vb L) (hm1 : MeansI w K) (hm2 : MeansI w L) :
  Calls Tryz.prog 36 #[.slice va K.length vc, .slice vb L.length vd] w fun e w' => e = .returned (.int .i64 (chkP2 K L)) ∧ Gr w w' := by
 refine enter (N := 13) Tryz.func36 rfl rfl rfl (fun a0 ok0 h0 => ?_)
 have e0_0 : a0.eval (.tmp 0) = .slice va K.length vc := h0 0 _ rfl
 have e0_1 : a0.eval (.tmp 1) = .slice vb L.length vd := h0 1 _ rfl
 clear h0
 have G0 := Gr.refl w
 refine wp_seq_k (fun K1 hK1 => ?_)
 refine wp_region_lit ?_
 refine sv ok0 rfl (wn _ rfl) rfl (o_as ev_const) (fun an2 n2 => ?_)
 refine wpList_nil ?_
 refine th_n (hK1 _ _ ?_)
 refine wp_seq_k (fun K3 hK3 => ?_)
 refine wp_seq_k (fun K4 hK4 => ?_)
 refine wp_region_lit ?_
 refine sv n2.ok rfl (wn _ rfl) rfl (o_mv (n2.ne rfl e0_0)) (fun an5 n5 => ?_)
 refine sc n5.ok rfl (wn _ rfl) rfl (o_f1 Tryz.func39 rfl rfl rfl n5.at_) (pcheck_any K va vc w hl1 (h1.gr G0) (hm1.gr G0)) ?_
 rintro _ w7 ⟨rfl, g8⟩
 refine ⟨_, rfl, fun an6 n6 => ?_⟩
 have G9 := G0.trans g8
 refine sv n6.ok rfl (wn _ rfl) rfl (o_as n6.at_) (fun an10 n10 => ?_)
 refine wpList_nil ?_
 refine th_n (hK4 _ _ ?_)
 refine wp_seq_k (fun K11 hK11 => ?_)
 refine wp_region_lit ?_
 refine sv n10.ok rfl (wn _ rfl) rfl (o_mv n10.at_) (fun an12 n12 => ?_)
 refine sv n12.ok rfl (wn _ rfl) rfl (o_neI n12.at_ ev_const) (fun an13 n13 => ?_)
 refine wpList_nil ?_
 refine th_n (hK11 _ _ ?_)
 by_cases c14 : ¬ (chkP K) = 0
 ·refine wp_cond_true ((n13.at_).trans (congrArg Value.bool (decide_eq_true c14))) ?_
  refine wp_seq_k (fun K15 hK15 => ?_)
  refine wp_region_lit ?_
  refine sv n13.ok rfl (wn _ rfl) rfl (o_mv (n13.ne rfl (n12.ne rfl n10.at_))) (fun an16 n16 => ?_)
  refine sv n16.ok rfl (wn _ rfl) rfl (o_as n16.at_) (fun an17 n17 => ?_)
  refine wpList_nil ?_
  refine th_n (hK15 _ _ ?_)
  refine wp_ret ?_
  refine th_r ?_
  exact ret1 n17.ok rfl (n17.at_) ⟨congrArg (fun n => Ending.returned (Value.int .i64 n)) (by unfold chkP2; rw [if_neg c14]), G9⟩
 ·refine wp_cond_false ((n13.at_).trans (congrArg Value.bool (decide_eq_false c14))) ?_
  refine wp_skip ?_
  refine th_n (hK3 _ _ ?_)
  refine wp_seq_k (fun K18 hK18 => ?_)
  refine wp_region_lit ?_
  have e19 := n13.ne rfl (n12.ne rfl (n10.ne rfl (n6.ne rfl (n5.ne rfl (n2.ne rfl e0_1)))))
  refine sv n13.ok rfl (wn _ rfl) rfl (o_mv e19) (fun an20 n20 => ?_)
  refine sc n20.ok rfl (wn _ rfl) rfl (o_f1 Tryz.func39 rfl rfl rfl n20.at_) (pcheck_any L vb vd w7 hl2 (h2.gr G9) (hm2.gr G9)) ?_
  rintro _ w22 ⟨rfl, g23⟩
  refine ⟨_, rfl, fun an21 n21 => ?_⟩
  have G24 := G9.trans g23
  refine sv n21.ok rfl (wn _ rfl) rfl (o_as n21.at_) (fun an25 n25 => ?_)
  refine wpList_nil ?_
  refine th_n (hK18 _ _ ?_)
  refine wp_ret ?_
  exact ret1 n25.ok rfl (n25.at_) ⟨congrArg (fun n => Ending.returned (Value.int .i64 n)) (by unfold chkP2; rw [if_pos (Decidable.of_not_not c14)]), G24⟩
theorem pcheckBoth_ok (K L : List PtX) (va vb : Option Addr) (vc vd : Nat) (w : World) (hl : K.length ≤ 30) (hl' : L.length ≤ 30) (hv : RdA encP 3 w va K) (hv' : RdA encP 3 w vb L) (hm : MeansP w K) (hm' : MeansP w L) : Calls Tryz.prog 36 #[.slice va K.length vc, .slice vb L.length vd] w fun e w' => e = .returned (.int .i64 0) ∧ Gr w w' := by
  obtain ⟨K', h1, h2, h3⟩ := hm.is
  obtain ⟨L', h4, h5, h6⟩ := hm'.is
  have hlen : K'.length = K.length := by simpa using congrArg List.length h1
  have hlen' : L'.length = L.length := by simpa using congrArg List.length h4
  have h := pcheckBoth_any K' L' va vb vc vd w (by omega) (by omega) (rd_map hv h1) (rd_map hv' h4) h2 h5
  have e : chkP K' = 0 := by unfold chkP; rw [if_neg (by omega)]; exact chkPGo_zero.2 h3
  have e' : chkP L' = 0 := by unfold chkP; rw [if_neg (by omega)]; exact chkPGo_zero.2 h6
  have e2 : chkP2 K' L' = 0 := by unfold chkP2; rw [if_pos e, e']
  rw [e2, hlen, hlen'] at h
  exact h
def hasE (t n a c : Int) : Int := if (pointB t n && dotB (a, c)) = true then 0 else 1
end Go.Proofs.YtbpkfkljeibjoaaGreat
/- Is a combination in a cube? -/
namespace Rm
open Go Go.RowKit
def in16 (y n t : Nat) : Bool := (Nat.land y t == y) && (Nat.land n t == 0)
end Rm
/- The contracts of the document's own within, Cube and In. -/
namespace Rm
open Go Go.RowKit
def inToD (y n t : Nat) : Nat → Bool
  | 0 => true
  | k + 1 => inToD y n t k && !(y.testBit k && !t.testBit k || n.testBit k && t.testBit k)
theorem inTo_all : ∀ y < 16, ∀ n < 16, ∀ t < 16, inToD y n t 4 = in16 y n t := by decide +kernel
theorem inTo_false {y n t : Nat} : ∀ {k j : Nat}, k ≤ j → inToD y n t k = false → inToD y n t j = false
  | k, 0, h, e => by
    have : k = 0 := by omega
    subst this
    exact e
  | k, j + 1, h, e => by
    rcases Nat.lt_or_ge k (j + 1) with c | c
    · simp only [inToD, inTo_false (show k ≤ j by omega) e, Bool.false_and]
    · have : k = j + 1 := by omega
      subst this
      exact e
theorem shr_bit : ∀ a < 16, ∀ i < 4, ((((a : Nat) : Int) / 2 ^ i).tmod 2 == 1) = a.testBit i := by decide +kernel
end Rm
namespace Go.Proofs.YtbpkfkljeibjoaaGreat
open Go.RowKit Rm
set_option maxHeartbeats 400000 in
set_option maxRecDepth 100000 in
theorem rwithin_d (x : Int) (w : World) :
    Calls Tryz.prog 106 #[.int .i64 x, .int .i64 0, .int .i64 15] w fun e w' => e = .returned (.bool (tagsB x)) ∧ w = w' := by
  by_cases h0 : 0 ≤ x
  · by_cases h1 : x ≤ 15
    · have ht : tagsB x = true := by simp [tagsB, h0, h1]
      rw [ht]
      go_enter Tryz.func106, Tryz.ntmps106
      go_wp2
      go_ret
      exact ⟨rfl, rfl⟩
    · have ht : tagsB x = false := by simp [tagsB, h1]
      rw [ht]
      go_enter Tryz.func106, Tryz.ntmps106
      go_wp2
      go_ret
      exact ⟨rfl, rfl⟩
  · have ht : tagsB x = false := by simp [tagsB, h0]
    rw [ht]
    go_enter Tryz.func106, Tryz.ntmps106
    go_wp2
    go_ret
    exact ⟨rfl, rfl⟩
set_option maxHeartbeats 400000 in
set_option maxRecDepth 100000 in
theorem rcube_any (y n : Int) (w : World) :
    Calls Tryz.prog 42 #[.agg #[.int .i64 y, .int .i64 n]] w fun e w' => e = .returned (.int .i64 (chk y n)) ∧ Gr w w' := by
  cases hy : tagsB y
  · have hc : chk y n = 1 := by simp [chk, hy]
    rw [hc]
    go_enter Tryz.func42, Tryz.ntmps42
    go_wp2_with (go_at_call 106; refine (rwithin_d _ _).mono ?_; rintro e w' ⟨rfl, rfl⟩)
    go_ret
    exact ⟨rfl, (Gr.refl _).alloc _⟩
  cases hn : tagsB n
  · have hc : chk y n = 1 := by simp [chk, hn]
    rw [hc]
    go_enter Tryz.func42, Tryz.ntmps42
    go_wp2_with (go_at_call 106; refine (rwithin_d _ _).mono ?_; rintro e w' ⟨rfl, rfl⟩)
    go_ret
    exact ⟨rfl, (Gr.refl _).alloc _⟩
  obtain ⟨a, ha, rfl⟩ := of_tags hy
  obtain ⟨b, hb, rfl⟩ := of_tags hn
  have h0 : 0 ≤ bits .and .i64 (a : Int) (b : Int) := by rw [and16 a ha b hb]; omega
  by_cases hz : bits .and .i64 (a : Int) (b : Int) = 0
  · have hc : chk a b = 0 := by simp [chk, hy, hn, hz]
    rw [hc]
    have hb' : ¬ (0 : Int) < bits .and .i64 (a : Int) (b : Int) := by omega
    have HZ := Lib.hid hz
    clear hz
    go_enter Tryz.func42, Tryz.ntmps42
    go_wp2_with (go_at_call 106; refine (rwithin_d _ _).mono ?_; rintro e w' ⟨rfl, rfl⟩)
    go_ret
    exact ⟨rfl, (Gr.refl _).alloc _⟩
  · have hc : chk a b = 3 := by simp [chk, hy, hn, hz]
    rw [hc]
    have hb' : (0 : Int) < bits .and .i64 (a : Int) (b : Int) := by omega
    go_enter Tryz.func42, Tryz.ntmps42
    go_wp2_with (go_at_call 106; refine (rwithin_d _ _).mono ?_; rintro e w' ⟨rfl, rfl⟩)
    go_ret
    exact ⟨rfl, (Gr.refl _).alloc _⟩
set_option maxHeartbeats 1000000 in
set_option maxRecDepth 100000 in
theorem rin_any (y n t : Nat) (w : World) (h : Vld y n) (ht : t < 16) :
    Calls Tryz.prog 50 #[.agg #[.int .i64 y, .int .i64 n], .int .i64 t] w fun e w' => e = .returned (.bool (in16 y n t)) ∧ Gr w w' := by
  have HI := Lib.hid (inTo_all y h.1 n h.2.1 t ht)
  have h15 : (t : Int) ≤ 15 := by omega
  have y15 : (y : Int) ≤ 15 := by have := h.1; omega
  have n15 : (n : Int) ≤ 15 := by have := h.2.1; omega
  go_enter Tryz.func50, Tryz.ntmps50
  go_wp2
  go_loop [7] (fun i => ∃ k : Nat, k ≤ 4 ∧ i = .int .i64 k ∧ Hid (inToD y n t k = true)) (fun i => 4 - (intOf i).toNat)
  case atStart => exact ⟨0, by omega, rfl, rfl⟩
  case round =>
    obtain ⟨k, hk, rfl, hh⟩ := hrel
    by_cases hlt : k < 4
    · have bt := shr_bit t ht k hlt
      have by_ := shr_bit y h.1 k hlt
      have bn := shr_bit n h.2.1 k hlt
      have hk' : (k : Int) < 4 := by omega
      have hst : inToD y n t (k + 1) = !(y.testBit k && !t.testBit k || n.testBit k && t.testBit k) := by simp [inToD, hh.out]
      have HST := Lib.hid hst
      have fin : ∀ b, inToD y n t (k + 1) = false → b = false → b = in16 y n t := by
        intro b hf hb
        rw [← HI.out, inTo_false (show k + 1 ≤ 4 by omega) hf, hb]
      have HFI := Lib.hid fin
      clear hst fin hh
      cases ct : t.testBit k <;> cases cy : y.testBit k <;> cases cn : n.testBit k
      all_goals
        rw [ct] at bt
        rw [cy] at by_
        rw [cn] at bn
        have hs := HST.out
        rw [ct, cy, cn] at hs
        have HS := Lib.hid hs
        clear hs ct cy cn HST
        go_wp2
        first
          | (go_round
             case rel => exact ⟨k + 1, by omega, by go_num, HS.out⟩
             case measure => simp [intOf]; omega)
          | (go_ret
             exact ⟨by rw [← HFI.out false HS.out rfl]; rfl, (Gr.refl _).alloc _⟩)
    · obtain rfl : k = 4 := by omega
      have e := hh.out
      rw [HI.out] at e
      have HE := Lib.hid e
      clear e hh
      go_wp2
      go_ret
      exact ⟨by rw [HE.out]; rfl, (Gr.refl _).alloc _⟩
end Go.Proofs.YtbpkfkljeibjoaaGreat
/- Where the loop of SpanSets stands. -/
namespace Go.Proofs.YtbpkfkljeibjoaaGreat
open Go.RowKit Rm
theorem MS.of {w : World} {v : Value} {L : List (Nat × Nat)} (h : Rd2 w v (pairs L)) (hv : VF 0 L) : MS w v (maskL L) := ⟨by rw [canon_maskL hv]; exact h, maskL_lt hv.le⟩
end Go.Proofs.YtbpkfkljeibjoaaGreat
/- What SpanSays' loops reckon. -/
namespace Rm
open Go Go.RowKit
end Rm
namespace Go.Proofs.YtbpkfkljeibjoaaGreat
open Go.RowKit Rm
theorem bool_info : (Tryz.prog.info? 4).map (·.size) = some 1 := by kernel_rfl
end Go.Proofs.YtbpkfkljeibjoaaGreat
/- The contracts of the document's own filters: Filter, Point, At, Many, and the set of all points as an array. -/
namespace Rm
open Go Go.RowKit
def gArr (n : Nat) (s : Nat → Bool) : Array Value := ((List.range n).map fun i => Value.bool (s i)).toArray
theorem gArr_size (n : Nat) (s : Nat → Bool) : (gArr n s).size = n := by simp [gArr]
theorem gArr_at (n : Nat) (s : Nat → Bool) (i : Nat) (h : i < n) : (gArr n s)[i]? = some (.bool (s i)) := by simp [gArr, h]
theorem gArr_ext {n : Nat} {s t : Nat → Bool} (h : ∀ i, i < n → s i = t i) : gArr n s = gArr n t := by
  unfold gArr
  congr 1
  apply List.map_congr_left
  intro i hi
  rw [h i (List.mem_range.1 hi)]
theorem gArr_set (n : Nat) (s : Nat → Bool) (k : Nat) (b : Bool) : (gArr n s).setIfInBounds k (.bool b) = gArr n (fun i => if i = k then b else s i) := by
  apply Array.ext
  · simp [gArr]
  · intro i h1 h2
    simp [gArr] at h1 h2 ⊢
    by_cases e : i = k
    · subst e; simp
    · have : ¬ k = i := fun h => e h.symm
      simp [this, e]
theorem gArr_one (n : Nat) (s : Nat → Bool) : (gArr n s).all (·.oneCell') = true := by
  simp only [gArr, List.all_toArray, List.all_map, List.all_eq_true]
  intro i _
  rfl
def pArr (s : Nat → Bool) : Array Value := gArr 512 s
theorem pArr_size (s : Nat → Bool) : (pArr s).size = 512 := gArr_size 512 s
theorem pArr_at (s : Nat → Bool) (i : Nat) (h : i < 512) : (pArr s)[i]? = some (.bool (s i)) := gArr_at 512 s i h
theorem pArr_ext {s t : Nat → Bool} (h : ∀ i, i < 512 → s i = t i) : pArr s = pArr t := gArr_ext h
theorem pArr_set (s : Nat → Bool) (k : Nat) (b : Bool) : (pArr s).setIfInBounds k (.bool b) = pArr (fun i => if i = k then b else s i) := gArr_set 512 s k b
theorem pArr_one (s : Nat → Bool) : (pArr s).all (·.oneCell') = true := gArr_one 512 s
end Rm
namespace Go.Proofs.YtbpkfkljeibjoaaGreat
open Go.RowKit Rm
theorem points_info : (Tryz.prog.info? 42).map (·.size) = some 512 := by kernel_rfl
theorem pinfo (s : Nat → Bool) : (Tryz.prog.info? 42).map (·.size) = some (pArr s).size := by rw [pArr_size]; exact points_info
set_option maxHeartbeats 1000000 in
set_option maxRecDepth 100000 in
theorem rfilter_any (v : Value) (l : List BoxI) (w : World) (hr : RdF w v l) :
    Calls Tryz.prog 10 #[v] w fun e w' => e = .returned (.int .i64 (chkF l)) ∧ Gr w w' := by
  obtain ⟨a, cp, rfl, hcp, hx⟩ := hr
  by_cases h40 : 40 < l.length
  · have e : chkF l = 2 := by simp [chkF, h40]
    rw [e]
    have hz : (40 : Int) < (l.length : Int) := by omega
    clear hx
    go_enter Tryz.func10, Tryz.ntmps10
    go_wp2
    go_ret
    exact ⟨rfl, Gr.refl _⟩
  · have e : chkF l = chkFGo l := by simp [chkF, h40]
    rw [e]
    clear e
    have hz : ¬ (40 : Int) < (l.length : Int) := by omega
    have HX := Lib.hid hx
    clear hx
    go_enter Tryz.func10, Tryz.ntmps10
    go_wp2
    go_loopw [12] (fun i wr => ∃ k : Nat, k ≤ l.length ∧ i = .int .i64 k ∧ Hid (chkFGo l = chkFGo (l.drop k)) ∧ Gr w wr) (fun i _ => l.length - (intOf i).toNat)
    case atStart => exact ⟨0, by omega, rfl, rfl, Gr.refl _⟩
    case round =>
      obtain ⟨k, hk, rfl, hh, hg⟩ := hrel
      generalize wr = wo at *
      by_cases hlt : k < l.length
      · obtain ⟨⟨⟨y, n⟩, s⟩, hp⟩ : ∃ p, l[k]? = some p := ⟨_, List.getElem?_eq_getElem hlt⟩
        obtain ⟨b, off, rfl, hb, hcell⟩ := HX.out (by intro e; rw [e] at hlt; simp at hlt)
        obtain ⟨sv, c1, c2, c3, hs⟩ := hcell k _ hp
        rw [← hg.cells.1 b _ hb] at c1 c2 c3
        simp only at c1 c2 c3 hs
        obtain ⟨sa, sc, rfl⟩ := rd2_form hs
        have hs1 := Lib.hid (hs.gr hg)
        have hbr : b < wo.heap.size := Nat.lt_of_lt_of_le hb hg.le
        have HH : Hid (chkFGo l = if chkB ((y, n), s) == 0 then chkFGo (l.drop (k + 1)) else chkB ((y, n), s)) := by
          rw [hh.out, fdrop_at hp]; rfl
        clear hh hcell hs hp
        have hk16 : (k : Int) ≤ 40 := by omega
        cases hc : (chk y n == 0)
        · have hc' := bne_of' hc
          have E1 : Hid (chkFGo l = chk y n) := by
            have := HH.out
            simp only [chkB, hc, Bool.false_eq_true, if_false] at this
            exact this
          clear HH
          go_wp2_with fail
          refine (rcube_any _ _ _).mono ?_
          rintro e w1 ⟨rfl, g1⟩
          go_wp2_with fail
          go_ret
          exact ⟨by rw [E1.out]; rfl, (hg.alloc _).trans g1⟩
        · have hc' := bne_of hc
          cases hd : (chkS s == 0)
          · have hd' := sbne_of' hd
            have E1 : Hid (chkFGo l = chkS s) := by
              have := HH.out
              simp only [chkB, hc, if_true, hd, Bool.false_eq_true, if_false] at this
              exact this
            clear HH
            go_wp2_with fail
            refine (rcube_any _ _ _).mono ?_
            rintro e w1 ⟨rfl, g1⟩
            obtain ⟨k1, k2⟩ := g1.cells
            go_wp2_with fail
            refine (rspans_any _ _ _ ((hs1.out.alloc _).gr g1)).mono ?_
            rintro e w2 ⟨rfl, g2⟩
            go_wp2_with fail
            go_ret
            exact ⟨by rw [E1.out]; rfl, ((hg.alloc _).trans g1).trans g2⟩
          · have hd' := sbne_of hd
            have E1 : Hid (chkFGo l = chkFGo (l.drop (k + 1))) := by
              have := HH.out
              simp only [chkB, hc, if_true, hd] at this
              exact this
            clear HH
            go_wp2_with fail
            refine (rcube_any _ _ _).mono ?_
            rintro e w1 ⟨rfl, g1⟩
            obtain ⟨k1, k2⟩ := g1.cells
            go_wp2_with fail
            refine (rspans_any _ _ _ ((hs1.out.alloc _).gr g1)).mono ?_
            rintro e w2 ⟨rfl, g2⟩
            go_wp2_with fail
            go_roundw
            case rel => exact ⟨k + 1, by omega, by go_num, E1, ((hg.alloc _).trans g1).trans g2⟩
            case measure => simp [intOf]; omega
      · obtain rfl : k = l.length := by omega
        have E1 : Hid (chkFGo l = 0) := by rw [hh.out, List.drop_length]; rfl
        clear hh
        go_wp2
        go_ret
        exact ⟨by rw [E1.out]; rfl, hg⟩
end Go.Proofs.YtbpkfkljeibjoaaGreat
/- The contract of the document's own Of: the points of a filter. -/
namespace Rm
open Go Go.RowKit
def ptF (T : Nat → Nat) (i : Nat) : Bool := (T (i / 32)).testBit (i % 32)
theorem in16_hasR : ∀ y < 16, ∀ n < 16, ∀ t < 16, in16 y n t = hasR (y : Nat) (n : Nat) (t : Nat) := by decide +kernel
def midP (f : Nat → Bool) (b : Bx) (j i : Nat) : Bool := f i || (decide (i < j) && (b.2.testBit (i % 32) && inC b (i / 32)))
theorem midP_zero (f : Nat → Bool) (b : Bx) (i : Nat) : midP f b 0 i = f i := by simp [midP]
theorem midP_no {f : Nat → Bool} {b : Bx} {j : Nat} (h : (b.2.testBit (j % 32) && inC b (j / 32)) = false) (i : Nat) : midP f b j i = midP f b (j + 1) i := by
  unfold midP
  by_cases e : i = j
  · subst e; rw [h]; simp
  · have : (i < j + 1) ↔ i < j := by omega
    simp [this]
theorem midP_yes {f : Nat → Bool} {b : Bx} {j : Nat} (h : (b.2.testBit (j % 32) && inC b (j / 32)) = true) (i : Nat) : (if i = j then true else midP f b j i) = midP f b (j + 1) i := by
  unfold midP
  by_cases e : i = j
  · subst e; rw [h]; simp
  · have : (i < j + 1) ↔ i < j := by omega
    simp [this, e]
theorem midP_all (F : List Bx) (k : Nat) (b : Bx) (h : F[k]? = some b) (i : Nat) (hi : i < 512) : midP (ptF (tabF (F.take k))) b 512 i = ptF (tabF (F.take (k + 1))) i := by
  unfold midP ptF
  rw [tabF_take h]
  unfold addB
  cases hc : inC b (i / 32)
  · simp
  · simp [hi, Nat.testBit_or]
theorem rem32 (i : Nat) : (i : Int).tmod 32 = ((i % 32 : Nat) : Int) := rfl
theorem quo32 (i : Nat) : (i : Int).tdiv 32 = ((i / 32 : Nat) : Int) := rfl
end Rm
namespace Go.Proofs.YtbpkfkljeibjoaaGreat
open Go.RowKit Rm
theorem points_zero : (Tryz.prog.info? 42).bind (·.zero) = some (.agg (pArr fun _ => false)) := by kernel_rfl
theorem nums_zero : (Tryz.prog.info? 102).bind (·.zero) = some (.agg (bArr fun _ => false)) := by kernel_rfl
theorem run_alloc_zero {t : TypeId} {cs : Array Value} (hz : (Tryz.prog.info? t).bind (·.zero) = some (.agg cs)) (ev : Operand → Value) (o : Oper) (ho : o.op = .alloc t) (w : World) :
    (execOp ev o).run Tryz.prog w = .ok (.value (.pointer (some ⟨w.heap.size, 0, none⟩))) (w.alloc (.cells cs t)) := by
  cases hq : Tryz.prog.info? t with
  | none => rw [hq] at hz; simp at hz
  | some i =>
    rw [hq] at hz
    simp only [Option.bind_some] at hz
    unfold execOp
    simp [ho, Instr.alloc, Sem.run_bind, zeroValue, typeInfo, hq, hz, newVar, newRow, Value.cells]
theorem mset2 {b : Bx} {v : Value} {w : World} (h : Rd2 w v (pairs (canon b.2))) (hb : OkB b) : Calls Tryz.prog 49 #[v] w fun e w' => e = .returned (.agg (bArr b.2.testBit)) ∧ Gr w w' := by
  have := set_any v _ w h (canon_VF b.2)
  rw [maskL_canon hb.2] at this
  exact this
def OfAt (w wi : World) (f : Nat → Bool) : Prop :=
  Gr w wi ∧ wi.heap[w.heap.size]? = some (.cells (pArr fun _ => false) 42 (0, 0)) ∧ wi.heap[w.heap.size + 1]? = some (.cells (pArr f) 42 (0, 0))
theorem OfAt.gr {w wi w' : World} {f : Nat → Bool} (h : OfAt w wi f) (g : Gr wi w') : OfAt w w' f :=
  ⟨h.1.trans g, (Below.block g _ (Blk_lt h.2.1)).trans h.2.1, (Below.block g _ (Blk_lt h.2.2)).trans h.2.2⟩
theorem OfAt.ext {w wi : World} {f f' : Nat → Bool} (h : OfAt w wi f) (e : ∀ i, i < 512 → f i = f' i) : OfAt w wi f' := by rw [OfAt, ← pArr_ext e]; exact h
theorem OfAt.set {w wi : World} {f : Nat → Bool} (h : OfAt w wi f) (k : Nat) (b : Bool) : OfAt w (wi.setCell ⟨w.heap.size + 1, k, none⟩ (.bool b)) (fun i => if i = k then b else f i) := by
  obtain ⟨g, h0, h1⟩ := h
  refine ⟨g.setCell (by simp) _, ?_, ?_⟩
  · rw [heap_setCell_other _ _ _ _ (by simp)]; exact h0
  · rw [heap_setCell_same _ _ _ _ _ _ h1, pArr_set]
theorem OfAt.setRow {w wi : World} {f : Nat → Bool} (h : OfAt w wi f) (g : Nat) (cs : Array Value) (hg : w.heap.size + 1 < g) : OfAt w (wi.setRow g cs) f := by
  obtain ⟨gr, h0, h1⟩ := h
  refine ⟨gr.setRow (by omega) _, ?_, ?_⟩
  · rw [setRow_other _ _ _ _ (by omega)]; exact h0
  · rw [setRow_other _ _ _ _ (by omega)]; exact h1
def BesideAt (wi : World) (BB NN : Nat) (y n : Nat) (sv : Value) (m : Nat) : Prop :=
  wi.heap[BB]? = some (.cells #[.int .i64 (y : Int), .int .i64 (n : Int), sv] 92 (0, 0)) ∧ wi.heap[NN]? = some (.cells (bArr m.testBit) 102 (0, 0))
theorem BesideAt.gr {wi w' : World} {BB NN y n m : Nat} {sv : Value} (h : BesideAt wi BB NN y n sv m) (g : Gr wi w') : BesideAt w' BB NN y n sv m :=
  ⟨(Below.block g _ (Blk_lt h.1)).trans h.1, (Below.block g _ (Blk_lt h.2)).trans h.2⟩
theorem BesideAt.far {wi : World} {BB NN y n m : Nat} {sv : Value} (h : BesideAt wi BB NN y n sv m) (g k : Nat) (v : Value) (h1 : BB ≠ g) (h2 : NN ≠ g) : BesideAt (wi.setCell ⟨g, k, none⟩ v) BB NN y n sv m :=
  ⟨(heap_setCell_other _ _ _ _ h1).trans h.1, (heap_setCell_other _ _ _ _ h2).trans h.2⟩
set_option maxHeartbeats 2000000 in
set_option maxRecDepth 100000 in
theorem of_pts (v : Value) (F : List Bx) (w : World) (hr : RdF w v (F.map boxI)) (hF : OkF F) (hl : F.length ≤ 40) :
    Calls Tryz.prog 14 #[v] w fun e w' => e = .returned (.agg (pArr (ptF (tabF F)))) ∧ Gr w w' := by
  obtain ⟨a, cp, rfl, hcp, hx⟩ := hr
  rw [List.length_map] at hcp
  rw [List.length_map]
  have HX := Lib.hid hx
  have HF := Lib.hid hF
  have hlen' : (F.length : Int) ≤ 40 := by omega
  have HS := Lib.hid pinfo
  have HSN : ∀ m : Nat, Hid ((Tryz.prog.info? 102).map (·.size) = some (bArr m.testBit).size) := fun m => by unfold Hid; rw [bArr_size]; exact nums_info
  have HZ := Lib.hid (fun m : Nat => show (bArr fun _ => false).size = (bArr m.testBit).size by rw [bArr_size, bArr_size])
  have HPZ := Lib.hid (fun f : Nat → Bool => show (pArr fun _ => false).size = (pArr f).size by rw [pArr_size, pArr_size])
  have H1 := Lib.hid bArr_one
  have HP1 := Lib.hid pArr_one
  have PZ := Lib.hid (fun (ev : Operand → Value) (o : Oper) (ho : o.op = .alloc 42) (wx : World) => run_alloc_zero points_zero ev o ho wx)
  have NZ := Lib.hid (fun (ev : Operand → Value) (o : Oper) (ho : o.op = .alloc 102) (wx : World) => run_alloc_zero nums_zero ev o ho wx)
  clear hx hF
  go_enter Tryz.func14, Tryz.ntmps14
  go_wp2_with (refine Go.Great.wpList_allocTo rfl _ rfl _ _ (PZ.out _ _ rfl _) ?_)
  have A0 : OfAt w ((w.alloc (.cells (pArr fun _ => false) 42)).alloc (.cells (pArr fun _ => false) 42)) (ptF (tabF (F.take 0))) := by
    refine ⟨((Gr.refl _).alloc _).alloc _, heap_alloc2_old _ _ _, ?_⟩
    rw [heap_alloc2_new, show pArr (ptF (tabF (F.take 0))) = pArr (fun _ => false) from pArr_ext (fun i _ => by simp [ptF, tabF_nil])]
  go_loopw [10] (fun i wr => ∃ k : Nat, k ≤ F.length ∧ i = .int .i64 k ∧ OfAt w wr (ptF (tabF (F.take k)))) (fun i _ => F.length - (intOf i).toNat)
  case atStart => exact ⟨0, by omega, rfl, A0⟩
  case round =>
    clear A0
    obtain ⟨k, hk, rfl, hat⟩ := hrel
    generalize wr = wo at *
    have HA := Lib.hid hat
    by_cases hlt : k < F.length
    · obtain ⟨⟨⟨y, n⟩, m⟩, hp⟩ : ∃ p, F[k]? = some p := ⟨_, List.getElem?_eq_getElem hlt⟩
      obtain ⟨b, off, rfl, hb, hcell⟩ := HX.out (by intro e; simp at e; rw [e] at hlt; simp at hlt)
      obtain ⟨sv, c1, c2, c3, hs⟩ := hcell k (boxI ((y, n), m)) (by rw [List.getElem?_map, hp]; rfl)
      have hB : OkB ((y, n), m) := HF.out _ (List.mem_of_getElem? hp)
      rw [← hat.1.cells.1 b _ hb] at c1 c2 c3
      simp only [boxI] at c1 c2 c3 hs
      obtain ⟨sa, sc, rfl⟩ := rd2_form hs
      have hs1 := Lib.hid (hs.gr hat.1)
      have hbr : b < wo.heap.size := Nat.lt_of_lt_of_le hb hat.1.le
      have hk40 : (k : Int) ≤ 40 := by omega
      have HB := Lib.hid hB
      have HM := Lib.hid (fun i hi => midP_all F k ((y, n), m) hp i hi)
      have hlo := Blk_lt hat.2.2
      clear hcell hs hp hat
      generalize hsl : (pairs (canon m)).length = sl at *
      go_wp2_with fail
      refine (mset2 (b := ((y, n), m)) (hs1.out.alloc _) HB.out).mono ?_
      rintro e w1 ⟨rfl, g1⟩
      have A1 := Lib.hid ((HA.out.gr ((((Gr.refl wo).alloc (.cells #[.int .i64 (y : Int), .int .i64 (n : Int), .slice sa sl sc] 92)).trans g1).alloc (.cells (bArr fun _ => false) 102))).setRow w1.heap.size (bArr m.testBit) (by have := g1.le; simp at this; omega))
      have hbx : w1.heap[wo.heap.size]? = some (.cells #[.int .i64 (y : Int), .int .i64 (n : Int), .slice sa sl sc] 92 (0, 0)) := (Below.block g1 _ (by simp)).trans (heap_alloc_new _ _)
      have hbl := Blk_lt hbx
      have B1 : Hid (BesideAt ((w1.alloc (.cells (bArr fun _ => false) 102)).setRow w1.heap.size (bArr m.testBit)) wo.heap.size w1.heap.size y n (.slice sa sl sc) m) := by
        refine ⟨?_, setRow_heap _ _ _ _ _ _ (heap_alloc_new _ _)⟩
        rw [setRow_other _ _ _ _ (by omega), Below.heap_alloc _ _ _ hbl]
        exact hbx
      have HN := Lib.hid (heap_alloc_new w1 (.cells (bArr fun _ => false) 102))
      have hw1 : w.heap.size + 1 < w1.heap.size := by omega
      have HW1 := Lib.hid hw1
      have HWB := Lib.hid hlo
      clear hs1 g1 hbx c1 c2 c3 HA hw1 hlo hbl
      go_wp2_with (first
        | (refine Go.Great.wpList_allocTo rfl _ rfl _ _ (NZ.out _ _ rfl _) ?_)
        | (refine wpList_store_row rfl 102 _ _ rfl w1.heap.size _ rfl rfl 102 _ HN.out (HSN m).out (HZ.out m) (H1.out _) ?_))
      generalize hBB : wo.heap.size = BB at *
      generalize hNN : w1.heap.size = NN at *
      clear HN
      generalize (w1.alloc (.cells (bArr fun _ => false) 102)).setRow NN (bArr m.testBit) = W3 at *
      have HBB := Lib.hid hBB
      clear hBB hNN hbr
      generalize hfk : ptF (tabF (F.take k)) = fk at *
      go_loopw [17] (fun jj wi => ∃ j : Nat, j ≤ 512 ∧ jj = .int .i64 j ∧ OfAt w wi (midP fk ((y, n), m) j) ∧ BesideAt wi BB NN y n (.slice sa sl sc) m) (fun jj _ => 512 - (intOf jj).toNat)
      case atStart => exact ⟨0, by omega, rfl, A1.out.ext (fun i _ => (midP_zero _ _ _).symm), B1.out⟩
      case round =>
        clear A1 B1
        obtain ⟨j, hj, rfl, hat, hbs⟩ := hrel
        have HA := Lib.hid hat
        have HBS := Lib.hid hbs
        by_cases hjt : j < 512
        · have hj' : (j : Int) < 512 := by omega
          have r32 := rem32 j
          have q32 := quo32 j
          have hr32 : ((j % 32 : Nat) : Int) < 32 := by omega
          have d1 : wr.cell? ⟨NN, j % 32, none⟩ = some (.bool (m.testBit (j % 32))) := by rw [cell_of_row _ _ _ _ _ _ hbs.2, bArr_at _ _ (by omega)]
          have d2 : wr.cell? ⟨BB, 0, none⟩ = some (.int .i64 (y : Int)) := by rw [cell_of_row _ _ _ _ _ _ hbs.1]; rfl
          have d3 : wr.cell? ⟨BB, 1, none⟩ = some (.int .i64 (n : Int)) := by rw [cell_of_row _ _ _ _ _ _ hbs.1]; rfl
          have HNO := Lib.hid (midP_no (f := fk) (b := ((y, n), m)) (j := j))
          have HYES := Lib.hid (midP_yes (f := fk) (b := ((y, n), m)) (j := j))
          have hq16 : j / 32 < 16 := by omega
          have HIN : Hid (in16 y n (j / 32) = inC ((y, n), m) (j / 32)) := in16_hasR y HB.out.1.1 n HB.out.1.2.1 _ hq16
          clear hat hbs
          generalize j % 32 = jr at *
          generalize j / 32 = jq at *
          cases hbit : m.testBit jr
          · rw [hbit] at d1
            have hno : (m.testBit jr && inC ((y, n), m) jq) = false := by rw [hbit]; rfl
            have HN2 := Lib.hid (HA.out.ext (fun i _ => HNO.out hno i))
            clear hno HNO HYES
            go_wp2_with fail
            go_roundw
            case rel => exact ⟨j + 1, by omega, by go_num, HN2.out, HBS.out⟩
            case measure => simp [intOf]; omega
          · rw [hbit] at d1
            go_wp2_with fail
            refine (rin_any y n jq _ HB.out.1 hq16).mono ?_
            rintro e w5 ⟨rfl, g5⟩
            rw [HIN.out]
            have A5 := Lib.hid (HA.out.gr g5)
            have B5 := Lib.hid (HBS.out.gr g5)
            clear d1 d2 d3
            cases hin : inC ((y, n), m) jq
            · have hno : (m.testBit jr && inC ((y, n), m) jq) = false := by rw [hin]; simp
              have HN2 := Lib.hid (A5.out.ext (fun i _ => HNO.out hno i))
              clear hno HNO HYES g5
              go_wp2_with fail
              go_roundw
              case rel => exact ⟨j + 1, by omega, by go_num, HN2.out, B5.out⟩
              case measure => simp [intOf]; omega
            · have hyes : (m.testBit jr && inC ((y, n), m) jq) = true := by rw [hin, hbit]; rfl
              have HN2 := Lib.hid ((A5.out.set j true).ext (fun i _ => HYES.out hyes i))
              have BF := Lib.hid (B5.out.far (w.heap.size + 1) j (.bool true) (by have := HBB.out; have := HWB.out; omega) (by have := HW1.out; omega))
              have d4 : w5.cell? ⟨w.heap.size + 1, j, none⟩ = some (.bool (midP fk ((y, n), m) j j)) := by rw [cell_of_row _ _ _ _ _ _ A5.out.2.2, pArr_at _ _ hjt]
              have d5 := frozen_of_row _ _ j _ _ A5.out.2.2
              clear hyes HNO HYES g5
              go_wp2_with fail
              go_roundw
              case rel => exact ⟨j + 1, by omega, by go_num, HN2.out, BF.out⟩
              case measure => simp [intOf]; omega
        · obtain rfl : j = 512 := by omega
          clear hat hbs
          go_wp2_with fail
          go_roundw
          case rel => exact ⟨k + 1, by omega, by go_num, HA.out.ext HM.out⟩
          case measure => simp [intOf]; omega
    · obtain rfl : k = F.length := by omega
      rw [List.take_length] at hat
      have HR := Lib.hid hat.2.1
      have HB := Lib.hid hat.2.2
      have HG := Lib.hid hat.1
      clear hat HA
      go_wp2_with (first
        | (refine wpList_load_row rfl 42 _ rfl (w.heap.size + 1) rfl 42 _ (0, 0) _ HB.out Tryz.underlying42 rfl (HS.out _) ?_)
        | (refine wpList_store_row rfl 42 _ _ rfl w.heap.size _ rfl rfl 42 _ HR.out (HS.out _) (HPZ.out _) (HP1.out _) ?_))
      refine bodyPost_ret (v := .agg (pArr (ptF (tabF F)))) (results_cell_row Tryz.results14 _ _ w.heap.size 42 _ (0, 0) _ rfl (setRow_heap _ _ _ _ _ _ HR.out) Tryz.underlying42 rfl (HS.out _)) rfl ⟨rfl, ?_⟩
      exact HG.out.setRow (Nat.le_refl _) _
end Go.Proofs.YtbpkfkljeibjoaaGreat
/- The contract of the document's own Each, one for each closure. -/
namespace Rm
open Go Go.RowKit
def midE (g : Bool → Bool → Bool) (f u : Nat → Bool) (j i : Nat) : Bool := if i < j then g (f i) (u i) else f i
theorem midE_step (g : Bool → Bool → Bool) (f u : Nat → Bool) (j i : Nat) : (if i = j then g (f j) (u j) else midE g f u j i) = midE g f u (j + 1) i := by
  unfold midE
  by_cases e1 : i < j
  · rw [if_neg (by omega), if_pos e1, if_pos (by omega)]
  · by_cases e2 : i < j + 1
    · obtain rfl : i = j := by omega
      rw [if_pos rfl, if_pos e2]
    · rw [if_neg (by omega), if_neg e1, if_neg e2]
end Rm
namespace Go.Proofs.YtbpkfkljeibjoaaGreat
open Go.RowKit Rm
def OpB (f : Nat) (g : Bool → Bool → Bool) : Prop := ∀ (a b : Bool) (w : World), Calls Tryz.prog f #[.bool a, .bool b] w fun e w' => e = .returned (.bool (g a b)) ∧ w' = w
def EachAt (w wr : World) (f u : Nat → Bool) : Prop :=
  Gr w wr ∧ wr.heap[w.heap.size]? = some (.cells (pArr f) 42 (0, 0)) ∧ wr.heap[w.heap.size + 1]? = some (.cells (pArr u) 42 (0, 0)) ∧ wr.heap[w.heap.size + 1 + 1]? = some (.cells (pArr fun _ => false) 42 (0, 0))
theorem EachAt.set {w wr : World} {f u : Nat → Bool} (h : EachAt w wr f u) (k : Nat) (b : Bool) : EachAt w ((wr.setCell ⟨w.heap.size, k, none⟩ (.bool b)).drew) (fun i => if i = k then b else f i) u := by
  obtain ⟨g, h0, h1, h2⟩ := h
  refine ⟨(g.setCell (by simp) _).drew, ?_, ?_, ?_⟩
  · show (wr.setCell _ _).heap[_]? = _
    rw [heap_setCell_same _ _ _ _ _ _ h0, pArr_set]
  · show (wr.setCell _ _).heap[_]? = _
    rw [heap_setCell_other _ _ _ _ (by simp)]; exact h1
  · show (wr.setCell _ _).heap[_]? = _
    rw [heap_setCell_other _ _ _ _ (by show w.heap.size + 1 + 1 ≠ w.heap.size; omega)]; exact h2
theorem EachAt.ext {w wr : World} {f f' u : Nat → Bool} (h : EachAt w wr f u) (e : ∀ i, i < 512 → f i = f' i) : EachAt w wr f' u := by rw [EachAt, ← pArr_ext e]; exact h
theorem eachAt_start (w : World) (f u : Nat → Bool) : EachAt w (((w.alloc (.cells (pArr f) 42)).alloc (.cells (pArr u) 42)).alloc (.cells (pArr fun _ => false) 42)) f u := by
  refine ⟨(((Gr.refl w).alloc _).alloc _).alloc _, ?_, ?_, ?_⟩
  · rw [Below.heap_alloc _ _ _ (by simp; omega)]; exact heap_alloc2_old _ _ _
  · rw [Below.heap_alloc _ _ _ (by simp)]; exact heap_alloc2_new _ _ _
  · have := heap_alloc_new ((w.alloc (.cells (pArr f) 42)).alloc (.cells (pArr u) 42)) (.cells (pArr fun _ => false) 42)
    rwa [World.size_alloc, World.size_alloc] at this
end Go.Proofs.YtbpkfkljeibjoaaGreat
/- The contract of the document's own Means. -/
namespace Rm
open Go Go.RowKit
def eqP (f g : Nat → Bool) : Bool := (List.range 512).all fun i => f i == g i
theorem eqP_iff {f g : Nat → Bool} : eqP f g = true ↔ ∀ i, i < 512 → f i = g i := by simp [eqP]
end Rm
namespace Go.Proofs.YtbpkfkljeibjoaaGreat
open Go.RowKit Rm
theorem eqItems_pArr (d : Nat) (f g : Nat → Bool) (w : World) : ∀ is : List Nat, (∀ i ∈ is, i < 512) → (Op.eqItems (d + 1) 4 1 (pArr f) (pArr g) is).run Tryz.prog w = .ok (is.all fun i => f i == g i) w
  | [], _ => by simp [Op.eqItems]
  | i :: is, h => by
    have hi : i < 512 := h i (List.mem_cons_self ..)
    have ih := eqItems_pArr d f g w is (fun j hj => h j (List.mem_cons_of_mem _ hj))
    have ha : (isAgg 4).run Tryz.prog w = .ok false w := by
      unfold isAgg
      rw [Sem.run_bind, run_underlying Tryz.underlying4 w]
      rfl
    have p1 : (part 4 (pArr f) (i * 1)).run Tryz.prog w = .ok (.bool (f i)) w := by
      unfold part
      rw [Sem.run_bind, ha]
      simp [pArr_at f i hi]
    have p2 : (part 4 (pArr g) (i * 1)).run Tryz.prog w = .ok (.bool (g i)) w := by
      unfold part
      rw [Sem.run_bind, ha]
      simp [pArr_at g i hi]
    have p3 : (Op.equalIn (d + 1) 4 (.bool (f i)) (.bool (g i))).run Tryz.prog w = .ok (f i == g i) w := by
      simp [Op.equalIn, Sem.run_bind, run_underlying Tryz.underlying4]
    simp only [Op.eqItems, Sem.run_bind, p1, p2, p3, Result.andThen_ok]
    cases hc : (f i == g i)
    · simp [hc]
    · simp [hc, ih]
theorem bool_cells : Tryz.prog.cellsOf 4 = 1 := by kernel_rfl
theorem eq_points (f g : Nat → Bool) (w : World) : (Op.equalIn 10000 42 (.agg (pArr f)) (.agg (pArr g))).run Tryz.prog w = .ok (eqP f g) w := by
  obtain ⟨i, hi⟩ : ∃ i, Tryz.prog.info? 4 = some i := by
    cases hq : Tryz.prog.info? 4 with
    | none => have := bool_info; rw [hq] at this; simp at this
    | some i => exact ⟨i, rfl⟩
  rw [run_equalIn_array (P := Tryz.prog) w 9999 (pArr f) (pArr g) Tryz.underlying42 hi, bool_cells]
  exact eqItems_pArr 9998 f g w (List.range 512) (fun i hi => List.mem_range.1 hi)
theorem me_ne (a : Act) (d : Nat) (v : Value) (t : Nat) (h : t ≠ d) : (a.put (some d) v).eval (.tmp t) = a.eval (.tmp t) := by
  simp only [Act.put, Act.eval, Array.getD_eq_getD_getElem?]
  rw [Array.getElem?_setIfInBounds_ne (Ne.symm h)]
theorem me_eq (a : Act) (d : Nat) (v : Value) (h : d < a.tmps.size) : (a.put (some d) v).eval (.tmp d) = v := by
  simp only [Act.put, Act.eval, Array.getD_eq_getD_getElem?]
  rw [Array.getElem?_setIfInBounds_self_of_lt h]
  rfl
theorem me_size (a : Act) (d : Nat) (v : Value) : (a.put (some d) v).tmps.size = a.tmps.size := by
  simp [Act.put]
theorem me_const (a : Act) (v : Value) : a.eval (.const v) = v := rfl
section
variable {ops : Array Oper} {Q : Exit → Act → World → Prop} {S : World → Prop}
theorem me_yld (a : Act) (j d : Nat) (b : Bool) (h : (ops[j]?).bind (·.dst) = some d) (hv : a.eval (.tmp d) = .bool b) : yielded ops a.tmps j = some b := by
  unfold yielded
  rw [h]
  simp only [Act.eval, Array.getD_eq_getD_getElem?] at hv
  simp only [Option.bind_some]
  cases hc : a.tmps[d]? with
  | none => rw [hc] at hv; cases hv
  | some u => rw [hc] at hv; simp only [Option.getD_some] at hv; subst hv; rfl
theorem me_none {o : Oper} (f : Nat → Option Bool) (h : o.guard = none) : Region.wanted o f = true := by
  unfold Region.wanted; rw [h]
theorem me_some {o : Oper} (f : Nat → Option Bool) (j : Nat) (w b : Bool) (h : o.guard = some (j, w)) (hf : f j = some b) : Region.wanted o f = (b == w) := by
  unfold Region.wanted; rw [h]; simp only [hf]; cases b <;> cases w <;> rfl
theorem me_tk {i : Nat} {oi : Oper} {v : Value} {fuel : Nat} {listed : Array Bool} {a : Act} {w : World} {d : Nat} (hQ : ∀ c a d v w, Q (.panic c) (Act.put a (some d) v) w → Q (.panic c) a w)
    (hi : ops[i]? = some oi) (hd : oi.dst = some d) (hf : Region.free .any ops listed i = true) (hr : (Region.ready .any ops listed).contains i = true)
    (hs : Region.noSelect ops = true) (hy : YieldsIf Tryz.prog ops S oi v a) (hS : S w)
    (h : wpAnyH Tryz.prog .any ops Q S fuel (listed.setIfInBounds i true) (a.put (some d) v) w) : wpAnyH Tryz.prog .any ops Q S (fuel + 1) listed a w :=
  wpAnyH_take hi hs hf hr (fun c a w h => hQ c a d v w (hd ▸ h)) hy hS (hd ▸ h)
theorem me_call {i : Nat} {oi : Oper} {f : Nat} {args : Array Value} {v : Value} {fuel : Nat} {listed : Array Bool} {a : Act} {w : World} {d : Nat} {R : World → Prop}
    (hr : Region.ready .any ops listed = [i]) (hi : ops[i]? = some oi) (hd : oi.dst = some d) (hw : Region.wanted oi (yielded ops a.tmps) = true)
    (hrun : (execOp a.eval oi).run Tryz.prog w = .ok (.enter f args) w) (hc : Calls Tryz.prog f args w fun e w' => e = .returned v ∧ R w')
    (h : ∀ w', R w' → S w' ∧ wpAnyH Tryz.prog .any ops Q S fuel (listed.setIfInBounds i true) (a.put (some d) v) w') : wpAnyH Tryz.prog .any ops Q S (fuel + 1) listed a w := by
  refine wpAnyH_ready (rs := [i]) hr (by simp) (AllReadyH.cons hi (fun K hK => ?_) AllReadyH.nil)
  rw [if_pos hw]
  unfold Oper.wp
  rw [hrun, Oper.upon_enter]
  refine hc.mono ?_
  rintro e w' ⟨rfl, hR⟩
  obtain ⟨h1, h2⟩ := h w' hR
  rw [hd]
  exact hK.out _ _ h1 (fun _ => h2)
end
section
variable (ev : Operand → Value) (d : Option Tmp) (ty : TypeId) (p : String) (af : Array Edge) (g : Option (Nat × Bool)) (w : World)
theorem mr_move (x : Operand) (v : Value) (h : ev x = v) : (execOp ev (Oper.mk d (.move x) ty p af g)).run Tryz.prog w = .ok (.value v) w := by
  subst h; rfl
theorem mr_assign (x : Operand) (v : Value) (h : ev x = v) : (execOp ev (Oper.mk d (.assign x) ty p af g)).run Tryz.prog w = .ok (.value v) w := by
  subst h; rfl
theorem mr_pick (c x y : Operand) (b : Bool) (v : Value) (hc : ev c = .bool b) (h : (if b then ev x else ev y) = v) : (execOp ev (Oper.mk d (.pick c x y) ty p af g)).run Tryz.prog w = .ok (.value v) w := by
  subst h; cases b <;> go_simp
theorem mr_len (x : Operand) (sa : Option Addr) (sl sc : Nat) (h : ev x = .slice sa sl sc) : (execOp ev (Oper.mk d (.call (Call.mk (.builtin .len) #[x] #[23])) ty p af g)).run Tryz.prog w = .ok (.value (.int .i64 (sl : Int))) w := by
  go_simp
theorem mr_leq (x : Operand) (sl : Nat) (h : ev x = .int .i64 (sl : Int)) (h2 : (sl : Int) ≤ 16) (hc : ev (.const (.int .i64 16)) = .int .i64 16) : (execOp ev (Oper.mk d (.binOp .leq 3 x (.const (.int .i64 16)) 3) ty p af g)).run Tryz.prog w = .ok (.value (.bool true)) w := by
  go_simp
theorem mr_zero (x : Operand) (h : ev x = .int .i64 0) (hc : ev (.const (.int .i64 0)) = .int .i64 0) : (execOp ev (Oper.mk d (.binOp .eql 24 x (.const (.int .i64 0)) 24) ty p af g)).run Tryz.prog w = .ok (.value (.bool true)) w := by
  go_simp
theorem mr_same (x y : Operand) (f u : Nat → Bool) (h : ev x = .agg (pArr f)) (h2 : ev y = .agg (pArr u)) : (execOp ev (Oper.mk d (.binOp .eql 42 x y 42) ty p af g)).run Tryz.prog w = .ok (.value (.bool (eqP f u))) w := by
  have heq := fun wx => eq_points f u wx
  go_simp
theorem mr_load (x : Operand) (B : Nat) (f : Nat → Bool) (h : ev x = .pointer (some ⟨B, 0, none⟩)) (hc : w.heap[B]? = some (.cells (pArr f) 42 (0, 0))) : (execOp ev (Oper.mk d (.load 42 x) ty p af g)).run Tryz.prog w = .ok (.value (.agg (pArr f))) w := by
  unfold execOp
  simp only [h, Instr.loadAt, Instr.sureAddr, Sem.run_bind, Sem.run_pure, Result.andThen_ok, run_loadVar_row w B 42 42 (pArr f) (0, 0) _ hc Tryz.underlying42 rfl (pinfo f)]
theorem run_enter {f : FuncId} {fn : Func} (hf : Tryz.prog.funcs[f]? = some fn) (hname : (fn.name == "runtime.NumGoroutine") = false) (hb : fn.body.isNone = false) (args : Array Value) (w : World) : (callFunc f args).run Tryz.prog w = .ok (.enter f args) w := by
  have h1 : ¬ fn.name = "runtime.NumGoroutine" := by simpa using hname
  have h2 : ¬ fn.body = none := by intro e; rw [e] at hb; cases hb
  simp [callFunc, Sem.run_bind, hf, h1, h2]
theorem mr_enter (f : Nat) (x : Operand) (v : Value) (ts : Array TypeId) (h : ev x = v) (hf : ev (.func f) = .func (.func f) #[] #[]) (hcf : (callFunc f #[v]).run Tryz.prog w = .ok (.enter f #[v]) w) : (execOp ev (Oper.mk d (.call (Call.mk (.value (.func f)) #[x] ts)) ty p af g)).run Tryz.prog w = .ok (.enter f #[v]) w := by
  go_simp
end
def mop0 : Oper := Oper.mk (some 5) (Op.move (Operand.tmp 0)) 23 "low.go:142" #[] none
def mop1 : Oper := Oper.mk (some 6) (Op.call (Call.mk (Callee.builtin Builtin.len) #[Operand.tmp 5] #[23])) 3 "low.go:142" #[Edge.mk 0 Ground.data] none
def mop2 : Oper := Oper.mk (some 7) (Op.binOp BinOp.leq 3 (Operand.tmp 6) (Operand.const (Value.int IntKind.i64 16)) 3) 4 "low.go:142" #[Edge.mk 1 Ground.data] none
def mop3 : Oper := Oper.mk (some 8) (Op.move (Operand.tmp 7)) 4 "low.go:142" #[Edge.mk 2 Ground.data] none
def mop4 : Oper := Oper.mk (some 9) (Op.move (Operand.tmp 0)) 23 "low.go:142" #[Edge.mk 3 Ground.guard] (some (3, true))
def mop5 : Oper := Oper.mk (some 10) (Op.call (Call.mk (Callee.value (Operand.func 10)) #[Operand.tmp 9] #[23])) 24 "low.go:142" #[Edge.mk 4 Ground.data, Edge.mk 3 Ground.chain, Edge.mk 3 Ground.guard] (some (3, true))
def mop6 : Oper := Oper.mk (some 11) (Op.binOp BinOp.eql 24 (Operand.tmp 10) (Operand.const (Value.int IntKind.i64 0)) 24) 4 "low.go:142" #[Edge.mk 5 Ground.data, Edge.mk 3 Ground.guard] (some (3, true))
def mop7 : Oper := Oper.mk (some 12) (Op.pick (Operand.tmp 8) (Operand.tmp 11) (Operand.const (Value.bool false))) 4 "low.go:142" #[Edge.mk 3 Ground.data, Edge.mk 6 Ground.data] none
def mop8 : Oper := Oper.mk (some 13) (Op.move (Operand.tmp 12)) 4 "low.go:142" #[Edge.mk 7 Ground.data, Edge.mk 5 Ground.chain] none
def mop9 : Oper := Oper.mk (some 14) (Op.move (Operand.tmp 0)) 23 "low.go:142" #[Edge.mk 8 Ground.guard] (some (8, true))
def mop10 : Oper := Oper.mk (some 15) (Op.call (Call.mk (Callee.value (Operand.func 14)) #[Operand.tmp 14] #[23])) 42 "low.go:142" #[Edge.mk 9 Ground.data, Edge.mk 8 Ground.chain, Edge.mk 8 Ground.guard] (some (8, true))
def mop11 : Oper := Oper.mk (some 16) (Op.load 42 (Operand.tmp 3)) 42 "low.go:142" #[Edge.mk 8 Ground.guard] (some (8, true))
def mop12 : Oper := Oper.mk (some 17) (Op.binOp BinOp.eql 42 (Operand.tmp 15) (Operand.tmp 16) 42) 4 "low.go:142" #[Edge.mk 10 Ground.data, Edge.mk 11 Ground.data, Edge.mk 8 Ground.guard] (some (8, true))
def mop13 : Oper := Oper.mk (some 18) (Op.pick (Operand.tmp 13) (Operand.tmp 17) (Operand.const (Value.bool false))) 4 "low.go:142" #[Edge.mk 8 Ground.data, Edge.mk 12 Ground.data] none
def mop14 : Oper := Oper.mk (some 4) (Op.assign (Operand.tmp 18)) 4 "low.go:142" #[Edge.mk 13 Ground.data, Edge.mk 10 Ground.chain, Edge.mk 0 Ground.phase, Edge.mk 1 Ground.phase, Edge.mk 2 Ground.phase, Edge.mk 3 Ground.phase, Edge.mk 4 Ground.phase, Edge.mk 5 Ground.phase, Edge.mk 6 Ground.phase, Edge.mk 7 Ground.phase, Edge.mk 8 Ground.phase, Edge.mk 9 Ground.phase, Edge.mk 10 Ground.phase, Edge.mk 11 Ground.phase, Edge.mk 12 Ground.phase, Edge.mk 13 Ground.phase] none
def meOps : Array Oper := #[mop0, mop1, mop2, mop3, mop4, mop5, mop6, mop7, mop8, mop9, mop10, mop11, mop12, mop13, mop14]
set_option maxHeartbeats 4000000 in
set_option maxRecDepth 100000 in
theorem means_reg (Q : Exit → Act → World → Prop) (hQ : ∀ c a d v w, Q (.panic c) (Act.put a (some d) v) w → Q (.panic c) a w) (a : Act) (w : World) (B : Nat) (sa : Option Addr) (sl sc : Nat) (f u : Nat → Bool) (hsz : a.tmps.size = 19)
    (h0 : a.eval (.tmp 0) = .slice sa sl sc) (h3 : a.eval (.tmp 3) = .pointer (some ⟨B, 0, none⟩)) (hl16 : (sl : Int) ≤ 16) (hB : w.heap[B]? = some (.cells (pArr u) 42 (0, 0)))
    (hfil : ∀ w1, Gr w w1 → Calls Tryz.prog 10 #[.slice sa sl sc] w1 fun e w' => e = .returned (.int .i64 0) ∧ Gr w1 w') (hof : ∀ w1, Gr w w1 → Calls Tryz.prog 14 #[.slice sa sl sc] w1 fun e w' => e = .returned (.agg (pArr f)) ∧ Gr w1 w')
    (h : ∀ w', Gr w w' → Q .normal (Act.put (Act.put (Act.put (Act.put (Act.put (Act.put (Act.put (Act.put (Act.put (Act.put (Act.put (Act.put (Act.put (Act.put (Act.put a (some 5) (.slice sa sl sc)) (some 6) (.int .i64 (sl : Int))) (some 7) (.bool true)) (some 8) (.bool true)) (some 9) (.slice sa sl sc)) (some 10) (.int .i64 0)) (some 11) (.bool true)) (some 12) (.bool true)) (some 13) (.bool true)) (some 14) (.slice sa sl sc)) (some 16) (.agg (pArr u))) (some 15) (.agg (pArr f))) (some 17) (.bool (eqP f u))) (some 18) (.bool (eqP f u))) (some 4) (.bool (eqP f u))) w') : (Code.region 1 meOps true).wp Tryz.prog Q a w := by
  refine wp_region_held_drew (S := fun x => x.heap[B]? = some (.cells (pArr u) 42 (0, 0))) (by kernel_rfl) hB (fun hHeld => ?_)
  show wpAnyH Tryz.prog .any meOps Q _ 15 (Array.replicate 15 false) a w.drew
  refine me_tk (i := 0) (oi := mop0) (v := .slice sa sl sc) (d := 5) hQ rfl rfl (by kernel_rfl) (by kernel_rfl) (by kernel_rfl) (Or.inl ⟨me_none _ rfl, fun wx hS => mr_move _ _ _ _ _ _ _ _ _ (by simp [me_ne, me_eq, me_size, me_const, hsz, h0, h3])⟩) hHeld ?_
  refine me_tk (i := 1) (oi := mop1) (v := .int .i64 (sl : Int)) (d := 6) hQ rfl rfl (by kernel_rfl) (by kernel_rfl) (by kernel_rfl) (Or.inl ⟨me_none _ rfl, fun wx hS => mr_len _ _ _ _ _ _ _ _ sa sl sc (by simp [me_ne, me_eq, me_size, me_const, hsz, h0, h3])⟩) hHeld ?_
  refine me_tk (i := 2) (oi := mop2) (v := .bool true) (d := 7) hQ rfl rfl (by kernel_rfl) (by kernel_rfl) (by kernel_rfl) (Or.inl ⟨me_none _ rfl, fun wx hS => mr_leq _ _ _ _ _ _ _ _ sl (by simp [me_ne, me_eq, me_size, me_const, hsz, h0, h3]) hl16 rfl⟩) hHeld ?_
  refine me_tk (i := 3) (oi := mop3) (v := .bool true) (d := 8) hQ rfl rfl (by kernel_rfl) (by kernel_rfl) (by kernel_rfl) (Or.inl ⟨me_none _ rfl, fun wx hS => mr_move _ _ _ _ _ _ _ _ _ (by simp [me_ne, me_eq, me_size, me_const, hsz, h0, h3])⟩) hHeld ?_
  refine me_tk (i := 4) (oi := mop4) (v := .slice sa sl sc) (d := 9) hQ rfl rfl (by kernel_rfl) (by kernel_rfl) (by kernel_rfl) (Or.inl ⟨(me_some _ 3 true true rfl (me_yld _ 3 8 true rfl (by simp [me_ne, me_eq, me_size, me_const, hsz, h0, h3]))).trans rfl, fun wx hS => mr_move _ _ _ _ _ _ _ _ _ (by simp [me_ne, me_eq, me_size, me_const, hsz, h0, h3])⟩) hHeld ?_
  refine me_call (i := 5) (oi := mop5) (v := .int .i64 0) (d := 10) (R := Gr _) (by kernel_rfl) rfl rfl ((me_some _ 3 true true rfl (me_yld _ 3 8 true rfl (by simp [me_ne, me_eq, me_size, me_const, hsz, h0, h3]))).trans rfl) (mr_enter _ _ _ _ _ _ _ 10 _ _ _ (by simp [me_ne, me_eq, me_size, me_const, hsz, h0, h3]) rfl (run_enter Tryz.func10 (by kernel_rfl) (by kernel_rfl) _ _)) (hfil _ ((Gr.refl w).drew)) (fun w1 g1 => ?_)
  replace hHeld := (Below.block g1 _ (Blk_lt hHeld)).trans hHeld
  refine ⟨hHeld, ?_⟩
  refine me_tk (i := 6) (oi := mop6) (v := .bool true) (d := 11) hQ rfl rfl (by kernel_rfl) (by kernel_rfl) (by kernel_rfl) (Or.inl ⟨(me_some _ 3 true true rfl (me_yld _ 3 8 true rfl (by simp [me_ne, me_eq, me_size, me_const, hsz, h0, h3]))).trans rfl, fun wx hS => mr_zero _ _ _ _ _ _ _ _ (by simp [me_ne, me_eq, me_size, me_const, hsz, h0, h3]) rfl⟩) hHeld ?_
  refine me_tk (i := 7) (oi := mop7) (v := .bool true) (d := 12) hQ rfl rfl (by kernel_rfl) (by kernel_rfl) (by kernel_rfl) (Or.inl ⟨me_none _ rfl, fun wx hS => mr_pick _ _ _ _ _ _ _ _ _ _ true _ (by simp [me_ne, me_eq, me_size, me_const, hsz, h0, h3]) (by simp [me_ne, me_eq, me_size, me_const, hsz, h0, h3])⟩) hHeld ?_
  refine me_tk (i := 8) (oi := mop8) (v := .bool true) (d := 13) hQ rfl rfl (by kernel_rfl) (by kernel_rfl) (by kernel_rfl) (Or.inl ⟨me_none _ rfl, fun wx hS => mr_move _ _ _ _ _ _ _ _ _ (by simp [me_ne, me_eq, me_size, me_const, hsz, h0, h3])⟩) hHeld ?_
  refine me_tk (i := 9) (oi := mop9) (v := .slice sa sl sc) (d := 14) hQ rfl rfl (by kernel_rfl) (by kernel_rfl) (by kernel_rfl) (Or.inl ⟨(me_some _ 8 true true rfl (me_yld _ 8 13 true rfl (by simp [me_ne, me_eq, me_size, me_const, hsz, h0, h3]))).trans rfl, fun wx hS => mr_move _ _ _ _ _ _ _ _ _ (by simp [me_ne, me_eq, me_size, me_const, hsz, h0, h3])⟩) hHeld ?_
  refine me_tk (i := 11) (oi := mop11) (v := .agg (pArr u)) (d := 16) hQ rfl rfl (by kernel_rfl) (by kernel_rfl) (by kernel_rfl) (Or.inl ⟨(me_some _ 8 true true rfl (me_yld _ 8 13 true rfl (by simp [me_ne, me_eq, me_size, me_const, hsz, h0, h3]))).trans rfl, fun wx hS => mr_load _ _ _ _ _ _ _ _ B u (by simp [me_ne, me_eq, me_size, me_const, hsz, h0, h3]) hS⟩) hHeld ?_
  refine me_call (i := 10) (oi := mop10) (v := .agg (pArr f)) (d := 15) (R := Gr _) (by kernel_rfl) rfl rfl ((me_some _ 8 true true rfl (me_yld _ 8 13 true rfl (by simp [me_ne, me_eq, me_size, me_const, hsz, h0, h3]))).trans rfl) (mr_enter _ _ _ _ _ _ _ 14 _ _ _ (by simp [me_ne, me_eq, me_size, me_const, hsz, h0, h3]) rfl (run_enter Tryz.func14 (by kernel_rfl) (by kernel_rfl) _ _)) (hof _ (((Gr.refl w).drew).trans g1)) (fun w2 g2 => ?_)
  replace hHeld := (Below.block g2 _ (Blk_lt hHeld)).trans hHeld
  refine ⟨hHeld, ?_⟩
  refine me_tk (i := 12) (oi := mop12) (v := .bool (eqP f u)) (d := 17) hQ rfl rfl (by kernel_rfl) (by kernel_rfl) (by kernel_rfl) (Or.inl ⟨(me_some _ 8 true true rfl (me_yld _ 8 13 true rfl (by simp [me_ne, me_eq, me_size, me_const, hsz, h0, h3]))).trans rfl, fun wx hS => mr_same _ _ _ _ _ _ _ _ _ f u (by simp [me_ne, me_eq, me_size, me_const, hsz, h0, h3]) (by simp [me_ne, me_eq, me_size, me_const, hsz, h0, h3])⟩) hHeld ?_
  refine me_tk (i := 13) (oi := mop13) (v := .bool (eqP f u)) (d := 18) hQ rfl rfl (by kernel_rfl) (by kernel_rfl) (by kernel_rfl) (Or.inl ⟨me_none _ rfl, fun wx hS => mr_pick _ _ _ _ _ _ _ _ _ _ true _ (by simp [me_ne, me_eq, me_size, me_const, hsz, h0, h3]) (by simp [me_ne, me_eq, me_size, me_const, hsz, h0, h3])⟩) hHeld ?_
  refine me_tk (i := 14) (oi := mop14) (v := .bool (eqP f u)) (d := 4) hQ rfl rfl (by kernel_rfl) (by kernel_rfl) (by kernel_rfl) (Or.inl ⟨me_none _ rfl, fun wx hS => mr_assign _ _ _ _ _ _ _ _ _ (by simp [me_ne, me_eq, me_size, me_const, hsz, h0, h3])⟩) hHeld ?_
  exact wpAnyH_done (by kernel_rfl) (h _ ((((Gr.refl w).drew).trans g1).trans g2)) _
set_option maxHeartbeats 1000000 in
set_option maxRecDepth 100000 in
theorem means_any {v : Value} {T : Nat → Nat} {w : World} (h : FSn 16 w v T) (u : Nat → Bool) :
    Calls Tryz.prog 44 #[v, .agg (pArr u)] w fun e w' => e = .returned (.bool (eqP (ptF T) u)) ∧ Gr w w' := by
  obtain ⟨F, hr, hF, hl, hT⟩ := h
  have hTT : eqP (ptF (tabF F)) u = eqP (ptF T) u := by
    unfold eqP
    rw [Bool.eq_iff_iff]
    simp only [List.all_eq_true, List.mem_range]
    constructor <;> intro hh i hi <;> have := hh i hi <;> simp only [ptF] at this ⊢
    · rw [← hT _ (by omega)]; exact this
    · rw [hT _ (by omega)]; exact this
  rw [← hTT]
  clear hTT hT
  obtain ⟨sa, sc, rfl, hsc, hx⟩ := id hr
  rw [List.length_map] at hr
  rw [List.length_map]
  have hl16 : (F.length : Int) ≤ 16 := by omega
  have hfil : ∀ w1, Gr (w.alloc (.cells (pArr u) 42)) w1 → Calls Tryz.prog 10 #[.slice sa F.length sc] w1 fun e w' => e = .returned (.int .i64 0) ∧ Gr w1 w' := fun w1 g => by
    have := rfilter_any _ _ w1 ((hr.alloc _).gr g)
    rwa [chkF_of hF (by omega)] at this
  have hof : ∀ w1, Gr (w.alloc (.cells (pArr u) 42)) w1 → Calls Tryz.prog 14 #[.slice sa F.length sc] w1 fun e w' => e = .returned (.agg (pArr (ptF (tabF F)))) ∧ Gr w1 w' := fun w1 g =>
    of_pts _ F w1 ((hr.alloc _).gr g) hF (by omega)
  have HFI := Lib.hid hfil
  have HOF := Lib.hid hof
  have HB := Lib.hid (heap_alloc_new w (.cells (pArr u) 42))
  clear hfil hof hr hF hx hsc
  go_enter Tryz.func44, Tryz.ntmps44
  go_wp2_with fail
  refine means_reg _ (fun _ _ _ _ _ h => h) _ _ w.heap.size sa F.length sc (ptF (tabF F)) u rfl rfl rfl hl16 HB.out HFI.out HOF.out (fun w' g => ?_)
  simp only [Act.put, List.setIfInBounds_toArray, List.set_cons_zero, List.set_cons_succ]
  go_wp2_with fail
  go_ret
  exact ⟨rfl, ((Gr.refl w).alloc _).trans g⟩
end Go.Proofs.YtbpkfkljeibjoaaGreat
/- The document's own filters, over filters that may be. -/
namespace Rm
open Go Go.RowKit
end Rm
namespace Go.Proofs.YtbpkfkljeibjoaaGreat
open Go.RowKit Rm
theorem rfilter_ok {w : World} {v : Value} {T : Nat → Nat} {n : Nat} (hn : n ≤ 40) (h : FSn n w v T) : Calls Tryz.prog 10 #[v] w fun e w' => e = .returned (.int .i64 0) ∧ Gr w w' := by
  obtain ⟨F, h1, hF, hl, _⟩ := h
  have := rfilter_any v _ w h1
  rw [chkF_of hF (by omega)] at this
  exact this
theorem of_fs {w : World} {v : Value} {T : Nat → Nat} {n : Nat} (hn : n ≤ 40) (h : FSn n w v T) : Calls Tryz.prog 14 #[v] w fun e w' => e = .returned (.agg (pArr (ptF T))) ∧ Gr w w' := by
  obtain ⟨F, h1, hF, hl, hT⟩ := h
  have := of_pts v F w h1 hF (by omega)
  rw [show pArr (ptF (tabF F)) = pArr (ptF T) from pArr_ext (fun i hi => by unfold ptF; rw [hT _ (by omega)])] at this
  exact this
end Go.Proofs.YtbpkfkljeibjoaaGreat
/- reedref.Parts. -/
namespace Go.Proofs.YtbpkfkljeibjoaaGreat
open Go.RowKit Rm Gx
set_option maxHeartbeats 8000000 in
set_option maxRecDepth 100000 in
theorem rparts_any (K : List PtI) (va : Option Addr) (vc : Nat) (w : World) (hl : K.length ≤ 9223372036854775807) (hv : RdA encR 3 w va K) (hm : MeansI w K) :
  Calls Tryz.prog 8 #[.slice va K.length vc] w fun e w' => e = .returned (.int .i64 (chkP K)) ∧ Gr w w' := by
 refine enter (N := 29) Tryz.func8 rfl rfl rfl (fun a0 ok0 h0 => ?_)
 have e0_0 : a0.eval (.tmp 0) = .slice va K.length vc := h0 0 _ rfl
 clear h0
 have G0 := Gr.refl w
 refine wp_seq_k (fun K1 hK1 => ?_)
 refine wp_region_lit ?_
 refine sv ok0 rfl (wn _ rfl) rfl (o_as ev_const) (fun an2 n2 => ?_)
 refine wpList_nil ?_
 refine th_n (hK1 _ _ ?_)
 refine wp_seq_k (fun K3 hK3 => ?_)
 refine wp_seq_k (fun K4 hK4 => ?_)
 refine wp_region_lit ?_
 refine sv n2.ok rfl (wn _ rfl) rfl (o_mv (n2.ne rfl e0_0)) (fun an5 n5 => ?_)
 refine sv n5.ok rfl (wn _ rfl) rfl (o_len n5.at_ Tryz.underlying22) (fun an6 n6 => ?_)
 refine sv n6.ok rfl (wn _ rfl) rfl (o_gtI n6.at_ ev_const) (fun an7 n7 => ?_)
 refine wpList_nil ?_
 refine th_n (hK4 _ _ ?_)
 by_cases c8 : (30 : Int) < ((K.length : Nat) : Int)
 ·refine wp_cond_true ((n7.at_).trans (congrArg Value.bool (decide_eq_true c8))) ?_
  refine wp_seq_k (fun K9 hK9 => ?_)
  refine wp_region_lit ?_
  refine sv n7.ok rfl (wn _ rfl) rfl (o_as ev_const) (fun an10 n10 => ?_)
  refine wpList_nil ?_
  refine th_n (hK9 _ _ ?_)
  refine wp_ret ?_
  refine th_r ?_
  exact ret1 n10.ok rfl (n10.at_) ⟨congrArg (fun n => Ending.returned (Value.int .i64 n)) (by unfold chkP; rw [if_pos (by omega)]), G0⟩
 ·refine wp_cond_false ((n7.at_).trans (congrArg Value.bool (decide_eq_false c8))) ?_
  refine wp_skip ?_
  refine th_n (hK3 _ _ ?_)
  refine wp_seq_k (fun K11 hK11 => ?_)
  refine wp_seq_k (fun K12 hK12 => ?_)
  refine wp_region_lit ?_
  have e13 := n7.ne rfl (n6.ne rfl (n5.ne rfl (n2.ne rfl e0_0)))
  refine sv n7.ok rfl (wn _ rfl) rfl (o_mv e13) (fun an14 n14 => ?_)
  refine sv n14.ok rfl (wn _ rfl) rfl (o_len n14.at_ Tryz.underlying22) (fun an15 n15 => ?_)
  refine sv n15.ok rfl (wn _ rfl) rfl (o_mv ev_const) (fun an16 n16 => ?_)
  refine wpList_nil ?_
  refine th_n (hK12 _ _ ?_)
  refine wp_block ?_
  have e18 := n16.ne rfl (n15.ne rfl (n14.ne rfl (n7.ne rfl (n6.ne rfl (n5.ne rfl n2.at_)))))
  refine lp (fun (nL : Nat) (aL : Act) (wL : World) => ∃ i : Nat, nL = K.length - i ∧ Ok 29 aL ∧ Gr w wL ∧ (aL.eval (.tmp 2) = .int .i64 0) ∧ (aL.eval (.tmp 10) = .slice va K.length vc) ∧ (aL.eval (.tmp 11) = .int .i64 ((K.length : Nat) : Int)) ∧ (aL.eval (.tmp 12) = .int .i64 (i : Int)) ∧ (i ≤ K.length) ∧ (chkPGo K = chkPGo (K.drop i))) _ ⟨0, rfl, n16.ok, G0, e18, (n16.ne rfl (n15.ne rfl n14.at_)), (n16.ne rfl n15.at_), n16.at_, by omega, rfl⟩ ?_
  rintro m19 aI17 w21 ⟨i, hmI17, okI17, GI17, s2I17, s10I17, s11I17, s12I17, hiI17, hgI17⟩ KI17 hKI17
  refine wp_seq_k (fun K22 hK22 => ?_)
  refine wp_region_lit ?_
  refine sv okI17 rfl (wn _ rfl) rfl (o_ltI s12I17 s11I17) (fun an23 n23 => ?_)
  refine wpList_nil ?_
  refine th_n (hK22 _ _ ?_)
  refine wp_seq_k (fun K24 hK24 => ?_)
  by_cases c25 : (i : Int) < ((K.length : Nat) : Int)
  ·refine wp_cond_true ((n23.at_).trans (congrArg Value.bool (decide_eq_true c25))) ?_
   refine wp_skip ?_
   refine th_n (hK24 _ _ ?_)
   refine wp_seq_k (fun K26 hK26 => ?_)
   refine wp_block ?_
   refine wp_seq_k (fun K27 hK27 => ?_)
   refine wp_region_lit ?_
   have h28l : i < List.length K := by omega
   obtain ⟨bh28, fh28, h28a, h28b, h28c⟩ := hv (ne_nil_of_lt h28l)
   obtain ⟨xh28, h28x⟩ : ∃ x, (K)[i]? = some x := ⟨_, List.getElem?_eq_getElem h28l⟩
   refine sv n23.ok rfl (wn _ rfl) rfl (o_iaV (i := i) (s := 3) h28a (n23.ne rfl s10I17) (n23.ne rfl s12I17) Tryz.underlying22 (by kernel_rfl) h28l) (fun an29 n29 => ?_)
   refine sv n29.ok rfl (wn _ rfl) rfl (o_ldA (k := fh28 + i * 3) n29.at_ (cs := [.slice xh28.fa xh28.fn xh28.fc, .slice xh28.va xh28.vn xh28.vc, .slice xh28.ma xh28.mn xh28.mc]) (fun j v hv => (Below.cell GI17 h28b).trans (h28c _ _ h28x j v hv)) Tryz.underlying35 rfl (by kernel_rfl)) (fun an30 n30 => ?_)
   refine sal (cs := #[.slice none 0 0, .slice none 0 0, .slice none 0 0]) n30.ok rfl (wn _ rfl) rfl (o_al (z := .agg #[.slice none 0 0, .slice none 0 0, .slice none 0 0]) (by kernel_rfl)) (fun an31 w33 b32 W34 n31 => ?_)
   have l35 : w.heap.size ≤ b32 := by rw [W34.eq]; exact GI17.size
   have G36 := GI17.trans W34.gr
   refine ssR rfl (wn _ rfl) (o_stR n31.at_ (n31.ne rfl n30.at_) W34.bk (by kernel_rfl) rfl (by simp [Value.oneCell'])) W34.bk (fun w37 u38 u38b => ?_)
   have G39 : Gr w w37 := Below.upd G36 l35 u38
   refine wpList_nil ?_
   refine th_n (hK27 _ _ ?_)
   refine wp_seq_k (fun K40 hK40 => ?_)
   refine wp_seq_k (fun K41 hK41 => ?_)
   refine wp_region_lit ?_
   refine sv n31.ok rfl (wn _ rfl) rfl (o_fa (z := 1) n31.at_ Tryz.underlying35 rfl (by kernel_rfl) rfl rfl) (fun an42 n42 => ?_)
   refine sv n42.ok rfl (wn _ rfl) rfl (o_ld n42.at_ (Tryz.isAgg23 _) (u38b.cell _ rfl)) (fun an43 n43 => ?_)
   refine sc n43.ok rfl (wn _ rfl) rfl (o_f1 Tryz.func10 rfl rfl rfl n43.at_) (rfilter_any _ _ w37 ((hm _ (List.mem_of_getElem? h28x)).gr G39).fs) ?_
   rintro _ w45 ⟨rfl, g46⟩
   refine ⟨_, rfl, fun an44 n44 => ?_⟩
   have G47 := G39.trans g46
   have B48 := u38b.gr g46
   refine sv n44.ok rfl (wn _ rfl) rfl (o_as n44.at_) (fun an49 n49 => ?_)
   refine wpList_nil ?_
   refine th_n (hK41 _ _ ?_)
   refine wp_seq_k (fun K50 hK50 => ?_)
   refine wp_region_lit ?_
   refine sv n49.ok rfl (wn _ rfl) rfl (o_mv n49.at_) (fun an51 n51 => ?_)
   refine sv n51.ok rfl (wn _ rfl) rfl (o_neI n51.at_ ev_const) (fun an52 n52 => ?_)
   refine wpList_nil ?_
   refine th_n (hK50 _ _ ?_)
   by_cases c53 : ¬ (chkF xh28.l) = 0
   ·refine wp_cond_true ((n52.at_).trans (congrArg Value.bool (decide_eq_true c53))) ?_
    refine wp_seq_k (fun K54 hK54 => ?_)
    refine wp_region_lit ?_
    refine sv n52.ok rfl (wn _ rfl) rfl (o_mv (n52.ne rfl (n51.ne rfl n49.at_))) (fun an55 n55 => ?_)
    refine sv n55.ok rfl (wn _ rfl) rfl (o_as n55.at_) (fun an56 n56 => ?_)
    refine wpList_nil ?_
    refine th_n (hK54 _ _ ?_)
    refine wp_ret ?_
    refine th_r ?_
    refine ib_r ?_
    refine th_r ?_
    refine th_r ?_
    refine ib_r ?_
    refine th_r ?_
    exact ret1 n56.ok rfl (n56.at_) ⟨congrArg (fun n => Ending.returned (Value.int .i64 n)) (by unfold chkP; rw [if_neg (by omega), hgI17, chkPGo_at h28x]; unfold chkI; rw [if_neg c53, if_neg c53]), G47⟩
   ·refine wp_cond_false ((n52.at_).trans (congrArg Value.bool (decide_eq_false c53))) ?_
    refine wp_skip ?_
    refine th_n (hK40 _ _ ?_)
    refine wp_seq_k (fun K57 hK57 => ?_)
    refine wp_region_lit ?_
    have e58 := n52.ne rfl (n51.ne rfl (n49.ne rfl (n44.ne rfl (n43.ne rfl (n42.ne rfl n31.at_)))))
    refine sv n52.ok rfl (wn _ rfl) rfl (o_fa (z := 2) e58 Tryz.underlying35 rfl (by kernel_rfl) rfl rfl) (fun an59 n59 => ?_)
    refine sv n59.ok rfl (wn _ rfl) rfl (o_ldA (k := 1) (cs := [.slice xh28.va xh28.vn xh28.vc, .slice xh28.ma xh28.mn xh28.mc]) n59.at_ (bk_part B48 rfl) Tryz.underlying33 rfl (by kernel_rfl)) (fun an60 n60 => ?_)
    refine sc n60.ok rfl (wn _ rfl) rfl (o_f1 Tryz.func41 rfl rfl rfl n60.at_) (rknow_any _ _ _ w45 ((hm _ (List.mem_of_getElem? h28x)).gr G47).kn) ?_
    rintro _ w62 ⟨rfl, g63⟩
    refine ⟨_, rfl, fun an61 n61 => ?_⟩
    have G64 := G47.trans g63
    refine sv n61.ok rfl (wn _ rfl) rfl (o_as n61.at_) (fun an66 n66 => ?_)
    refine wpList_nil ?_
    refine th_n (hK57 _ _ ?_)
    refine wp_seq_k (fun K67 hK67 => ?_)
    refine wp_region_lit ?_
    refine sv n66.ok rfl (wn _ rfl) rfl (o_mv n66.at_) (fun an68 n68 => ?_)
    refine sv n68.ok rfl (wn _ rfl) rfl (o_neI n68.at_ ev_const) (fun an69 n69 => ?_)
    refine wpList_nil ?_
    refine th_n (hK67 _ _ ?_)
    by_cases c70 : ¬ (chkK xh28.V xh28.M) = 0
    ·refine wp_cond_true ((n69.at_).trans (congrArg Value.bool (decide_eq_true c70))) ?_
     refine wp_seq_k (fun K71 hK71 => ?_)
     refine wp_region_lit ?_
     refine sv n69.ok rfl (wn _ rfl) rfl (o_mv (n69.ne rfl (n68.ne rfl n66.at_))) (fun an72 n72 => ?_)
     refine sv n72.ok rfl (wn _ rfl) rfl (o_as n72.at_) (fun an73 n73 => ?_)
     refine wpList_nil ?_
     refine th_n (hK71 _ _ ?_)
     refine wp_ret ?_
     refine ib_r ?_
     refine th_r ?_
     refine th_r ?_
     refine ib_r ?_
     refine th_r ?_
     exact ret1 n73.ok rfl (n73.at_) ⟨congrArg (fun n => Ending.returned (Value.int .i64 n)) (by unfold chkP; rw [if_neg (by omega), hgI17, chkPGo_at h28x]; unfold chkI; rw [if_pos (Decidable.of_not_not c53), if_neg c70]), G64⟩
    ·refine wp_cond_false ((n69.at_).trans (congrArg Value.bool (decide_eq_false c70))) ?_
     refine wp_skip ?_
     refine ib_n ?_
     refine th_n (hK26 _ _ ?_)
     refine wp_region_lit ?_
     have e74 := n69.ne rfl (n68.ne rfl (n66.ne rfl (n61.ne rfl (n60.ne rfl (n59.ne rfl (n52.ne rfl (n51.ne rfl (n49.ne rfl (n44.ne rfl (n43.ne rfl (n42.ne rfl (n31.ne rfl (n30.ne rfl (n29.ne rfl (n23.ne rfl s12I17)))))))))))))))
     refine sv n69.ok rfl (wn _ rfl) rfl (o_add (r := ((i + 1 : Nat) : Int)) e74 ev_const (by omega) (by omega)) (fun an75 n75 => ?_)
     refine sv n75.ok rfl (wn _ rfl) rfl (o_mv n75.at_) (fun an76 n76 => ?_)
     refine wpList_nil ?_
     have e77 := n76.ne rfl (n75.ne rfl (n69.ne rfl (n68.ne rfl (n66.ne rfl (n61.ne rfl (n60.ne rfl (n59.ne rfl (n52.ne rfl (n51.ne rfl (n49.ne rfl (n44.ne rfl (n43.ne rfl (n42.ne rfl (n31.ne rfl (n30.ne rfl (n29.ne rfl (n23.ne rfl s2I17)))))))))))))))))
     have e78 := n76.ne rfl (n75.ne rfl (n69.ne rfl (n68.ne rfl (n66.ne rfl (n61.ne rfl (n60.ne rfl (n59.ne rfl (n52.ne rfl (n51.ne rfl (n49.ne rfl (n44.ne rfl (n43.ne rfl (n42.ne rfl (n31.ne rfl (n30.ne rfl (n29.ne rfl (n23.ne rfl s10I17)))))))))))))))))
     have e79 := n76.ne rfl (n75.ne rfl (n69.ne rfl (n68.ne rfl (n66.ne rfl (n61.ne rfl (n60.ne rfl (n59.ne rfl (n52.ne rfl (n51.ne rfl (n49.ne rfl (n44.ne rfl (n43.ne rfl (n42.ne rfl (n31.ne rfl (n30.ne rfl (n29.ne rfl (n23.ne rfl s11I17)))))))))))))))))
     exact th_n (hKI17 _ _ _ (by omega) ⟨i + 1, rfl, n76.ok, G64, e77, e78, e79, n76.at_, by omega, by rw [hgI17, chkPGo_at h28x, if_pos]; unfold chkI; rw [if_pos (Decidable.of_not_not c53)]; exact Decidable.of_not_not c70⟩)
  ·refine wp_cond_false ((n23.at_).trans (congrArg Value.bool (decide_eq_false c25))) ?_
   refine wp_exit ?_
   refine th_x ?_
   refine th_x ?_
   refine ib_x ?_
   refine th_n (hK11 _ _ ?_)
   refine wp_seq_k (fun K80 hK80 => ?_)
   refine wp_region_lit ?_
   refine sv n23.ok rfl (wn _ rfl) rfl (o_as ev_const) (fun an81 n81 => ?_)
   refine wpList_nil ?_
   refine th_n (hK80 _ _ ?_)
   refine wp_ret ?_
   exact ret1 n81.ok rfl (n81.at_) ⟨congrArg (fun n => Ending.returned (Value.int .i64 n)) (by unfold chkP; rw [if_neg (by omega), hgI17, List.drop_eq_nil_of_le (by omega)]; rfl), GI17⟩
theorem rparts_ok (L : List PtX) (va : Option Addr) (vc : Nat) (w : World) (hl : L.length ≤ 30) (hv : RdA encP 3 w va L) (hm : MeansP w L) : Calls Tryz.prog 8 #[.slice va L.length vc] w fun e w' => e = .returned (.int .i64 0) ∧ Gr w w' := by
  obtain ⟨K, h1, h2, h3⟩ := hm.is
  have hlen : K.length = L.length := by simpa using congrArg List.length h1
  have h := rparts_any K va vc w (by omega) (rd_map hv h1) h2
  have e : chkP K = 0 := by unfold chkP; rw [if_neg (by omega)]; exact chkPGo_zero.2 h3
  rw [e, hlen] at h
  exact h
end Go.Proofs.YtbpkfkljeibjoaaGreat
/- the document's parts: as they lie in memory; reedref.Knows. -/
namespace Rm
open Go Go.RowKit Gx
structure PtM where
  s : Nat → Bool
  X : Nat → Nat
def m0 : PtM := ⟨fun _ => false, fun _ => 0⟩
def encDoc (x : PtM) : List Value := (pArr x.s).toList ++ (wArr x.X).toList
theorem encDoc_len (x : PtM) : (encDoc x).length = 592 := by
  unfold encDoc
  rw [List.length_append, Array.length_toList, Array.length_toList, pArr_size, wArr_size]
theorem encDoc_sz (x : PtM) : (encDoc x).toArray.size = 592 := by rw [List.size_toArray, encDoc_len]
theorem encDoc_one (x : PtM) : (encDoc x).toArray.all (·.oneCell') = true := by
  have h1 := pArr_one x.s
  have h2 := wArr_one x.X
  rw [← Array.all_toList] at h1 h2
  rw [List.all_toArray]
  unfold encDoc
  rw [List.all_append, h1, h2]
  rfl
theorem encDoc_ok : EncOk encDoc 592 := ⟨encDoc_len, fun x u hu => by
  have h := encDoc_one x
  rw [List.all_toArray, List.all_eq_true] at h
  exact h u hu⟩
theorem encDoc_lo (x : PtM) (i : Nat) (v : Value) (h : (pArr x.s).toList[i]? = some v) : (encDoc x).toArray[i]? = some v := by
  rw [List.getElem?_toArray]
  unfold encDoc
  rw [List.getElem?_append_left (List.getElem?_eq_some_iff.1 h).1]
  exact h
theorem encDoc_hi (x : PtM) (i : Nat) (v : Value) (h : (wArr x.X).toList[i]? = some v) : (encDoc x).toArray[512 + i]? = some v := by
  have hl : (pArr x.s).toList.length = 512 := by rw [Array.length_toList, pArr_size]
  rw [List.getElem?_toArray]
  unfold encDoc
  rw [List.getElem?_append_right (by omega), hl, show 512 + i - 512 = i by omega]
  exact h
end Rm
namespace Go.Proofs.YtbpkfkljeibjoaaGreat
open Go.RowKit Rm Gx
theorem partM_zero : (Tryz.prog.info? 51).bind (·.zero) = some (.agg (encDoc m0).toArray) := by kernel_rfl
theorem partM_size : (Tryz.prog.info? 51).map (·.size) = some 592 := by kernel_rfl
theorem encDoc_info (x : PtM) : (Tryz.prog.info? 51).map (·.size) = some (encDoc x).toArray.size := by rw [encDoc_sz]; exact partM_size
section
variable {ev : Operand → Value} {w : World} {d : Option Nat} {ty : TypeId} {p : String} {af : Array Edge} {g : Option (Nat × Bool)}
theorem o_ldM0 {x : Operand} {b : Nat} {y : PtM} {t' : TypeId} (hx : ev x = .pointer (some ⟨b, 0, none⟩)) (hb : Bk w b (encDoc y).toArray t') : (execOp ev (Oper.mk d (.load 42 x) ty p af g)).run Tryz.prog w = .ok (.value (.agg (pArr y.s))) w := by
  have h := o_ldA (P := Tryz.prog) (ev := ev) (w := w) (d := d) (ty := ty) (p := p) (af := af) (g := g) (k := 0) (cs := (pArr y.s).toList) hx (fun j v hv => by rw [Nat.zero_add]; exact hb.cell _ (encDoc_lo y j v hv)) Tryz.underlying42 rfl (by rw [Array.length_toList]; exact pinfo y.s)
  rw [Array.toArray_toList] at h
  exact h
theorem o_ldM1 {x : Operand} {b : Nat} {y : PtM} {t' : TypeId} (hx : ev x = .pointer (some ⟨b, 512, none⟩)) (hb : Bk w b (encDoc y).toArray t') : (execOp ev (Oper.mk d (.load 49 x) ty p af g)).run Tryz.prog w = .ok (.value (.agg (wArr y.X))) w := by
  have h := o_ldA (P := Tryz.prog) (ev := ev) (w := w) (d := d) (ty := ty) (p := p) (af := af) (g := g) (k := 512) (cs := (wArr y.X).toList) hx (fun j v hv => hb.cell _ (encDoc_hi y j v hv)) Tryz.underlying49 rfl (by rw [Array.length_toList]; exact dots_sz y.X)
  rw [Array.toArray_toList] at h
  exact h
end
end Go.Proofs.YtbpkfkljeibjoaaGreat
/- The words of a set of dots. -/
namespace Rm
open Go Go.RowKit Gx
def bitsN (f : Nat → Bool) : Nat → Nat
  | 0 => 0
  | k + 1 => bitsN f k ||| (if f k then 2 ^ k else 0)
theorem bitsN_at (f : Nat → Bool) : ∀ n k, (bitsN f n).testBit k = (decide (k < n) && f k) := by
  intro n
  induction n with
  | zero => intro k; simp [bitsN]
  | succ n ih =>
    intro k
    unfold bitsN
    rw [Nat.testBit_or, ih]
    by_cases hk : k = n
    · subst hk
      cases h : f k <;> simp [h]
    · have h1 : decide (k < n + 1) = decide (k < n) := by rw [decide_eq_decide]; omega
      rw [h1]
      cases h : f n
      · simp
      · have h2 : (2 ^ n).testBit k = false := by rw [Nat.testBit_two_pow]; simp; omega
        simp [h2]
theorem bitsN_lt (f : Nat → Bool) (n : Nat) : bitsN f n < 2 ^ n := Nat.lt_pow_two_of_testBit _ fun i hi => by
  rw [bitsN_at]
  simp
  omega
def xOf (D : DS) : Nat → Nat := fun i => bitsN (fun k => D (i / 16) (64 * (i % 16) + k)) 64
theorem xOf_ok (D : DS) : OkX (xOf D) := fun i => bitsN_lt _ 64
theorem xOf_ds (D : DS) (s c : Nat) (hc : c < 1024) : dsX (xOf D) s c = D s c := by
  unfold dsX xOf
  rw [bitsN_at, show (s * 16 + c / 64) / 16 = s by omega, show 64 * ((s * 16 + c / 64) % 16) + c % 64 = c by omega, decide_eq_true (show c % 64 < 64 by omega)]
  rfl
theorem xOf_eq {X : Nat → Nat} {D : DS} (hX : OkX X) (h : ∀ s q, s < 5 → q < 1024 → dsX X s q = D s q) : wArr X = wArr (xOf D) := wArr_ext fun i hi => Nat.eq_of_testBit_eq fun k => by
  unfold xOf
  rw [bitsN_at]
  by_cases hk : k < 64
  · have h1 := h (i / 16) (64 * (i % 16) + k) (by omega) (by omega)
    unfold dsX at h1
    rw [show i / 16 * 16 + (64 * (i % 16) + k) / 64 = i by omega, show (64 * (i % 16) + k) % 64 = k by omega] at h1
    rw [h1, decide_eq_true hk]
    rfl
  · rw [decide_eq_false hk]
    exact Nat.testBit_lt_two_pow (Nat.lt_of_lt_of_le (hX i) (Nat.pow_le_pow_right (by omega) (by omega)))
end Rm
/- the document's parts: how one is put together; the one set of words that All answers. By hand. -/
namespace Rm
open Go Go.RowKit Gx
def PtX.d (x : PtX) : PtM := ⟨ptF x.T, xOf (memB (formV x.D) (formM x.D))⟩
theorem PtX.d_ok (x : PtX) : OkX x.d.X := xOf_ok _
end Rm
namespace Go.Proofs.YtbpkfkljeibjoaaGreat
open Go.RowKit Rm Gx
theorem rall_can (k : Value) (D : DS) (w : World) (hk : KnD w k D) (hl : (formM D).length ≤ 60) : Calls Tryz.prog 48 #[k] w fun e w' => e = .returned (.agg (wArr (xOf (memB (formV D) (formM D))))) ∧ Gr w w' := by
  refine (rall_any k (formV D) (formM D) w hk (form_ok D) hl).mono ?_
  rintro e w' ⟨X, rfl, hX, hD, g⟩
  rw [xOf_eq hX hD]
  exact ⟨rfl, g⟩
theorem put_list : ∀ (l : List Value) (k : Nat) (cs : Array Value), k + l.length ≤ cs.size → (l.zipIdx k).foldl (fun (cs : Array Value) (x : Value × Nat) => cs.setIfInBounds (0 + x.2) x.1) cs = (cs.toList.take k ++ (l ++ cs.toList.drop (k + l.length))).toArray := by
  intro l
  induction l with
  | nil =>
    intro k cs h
    simp
  | cons a l ih =>
    intro k cs h
    rw [List.length_cons] at h
    rw [List.zipIdx_cons, List.foldl_cons, ih (k + 1) _ (by simp; omega)]
    congr 1
    have hk : k < cs.toList.length := by simp; omega
    simp only [Nat.zero_add, Array.toList_setIfInBounds]
    rw [List.take_add_one, List.take_set, List.drop_set, if_pos (by omega), List.set_eq_of_length_le (by rw [List.length_take]; omega), List.getElem?_set, if_pos rfl, if_pos hk, List.length_cons, show k + (l.length + 1) = k + 1 + l.length by omega]
    simp
theorem fill_one {n : Nat} {v : Value} {base cs : Array Value} (hv : v.cells = cs) (hn : cs.size = n) (hb : base.size = n) : Instr.fill (fun i => some (i * n, n)) base [(0, v)] = some cs := by
  unfold Instr.fill
  simp only [hv, Nat.zero_mul]
  rw [if_neg (by simp [hn, hb])]
  unfold Instr.fill
  congr 1
  rw [← Array.foldl_toList, Array.toList_zipIdx]
  have h := put_list cs.toList 0 base (by simp [hn, hb])
  rw [h]
  rw [List.drop_eq_nil_of_le (by simp [hn, hb])]
  simp
theorem builtM (s : Nat → Bool) (X : Nat → Nat) : Tryz.prog.built 51 [(0, .agg (pArr s)), (1, .agg (wArr X))] = some (encDoc ⟨s, X⟩).toArray := by kernel_rfl
end Go.Proofs.YtbpkfkljeibjoaaGreat
