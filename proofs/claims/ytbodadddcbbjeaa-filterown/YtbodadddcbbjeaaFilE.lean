/- Joined: FilE, FilF, FilG, FilH, FilI, FilJ. -/
import Derived.Test.YtbodadddcbbjeaaFilA
import Derived.Test.YtbodadddcbbjeaaSpanD
import Derived.Deep.RegionHeld3
import Derived.Deep.AppendLies
import Derived.Deep.DrawnRows
/- The contract of package filter's spans; the plain mathematics of blocks and merge. -/
namespace Rm
open Go Go.RowKit
/-- the numbers of a mask, below k -/
def bitsL (m : Nat) : Nat → List Int
  | 0 => []
  | k + 1 => if m.testBit k then bitsL m k ++ [(k : Int)] else bitsL m k
theorem bitsL_yes {m k : Nat} (h : m.testBit k = true) : bitsL m (k + 1) = bitsL m k ++ [(k : Int)] := by simp [bitsL, h]
theorem bitsL_no {m k : Nat} (h : m.testBit k = false) : bitsL m (k + 1) = bitsL m k := by simp [bitsL, h]
theorem bitsL_len (m : Nat) : ∀ k, (bitsL m k).length ≤ k
  | 0 => Nat.le_refl _
  | k + 1 => by
    have := bitsL_len m k
    unfold bitsL
    split
    · simp; omega
    · omega
theorem bitsL_mem (m : Nat) (x : Int) : ∀ k, x ∈ bitsL m k ↔ ∃ i : Nat, i < k ∧ x = i ∧ m.testBit i = true
  | 0 => by simp [bitsL]
  | k + 1 => by
    unfold bitsL
    split
    · rename_i h
      rw [List.mem_append, bitsL_mem m x k]
      constructor
      · rintro (⟨i, a, b, c⟩ | hx)
        · exact ⟨i, by omega, b, c⟩
        · exact ⟨k, by omega, by simpa using hx, h⟩
      · rintro ⟨i, a, b, c⟩
        rcases Nat.lt_or_ge i k with d | d
        · exact .inl ⟨i, d, b, c⟩
        · obtain rfl : i = k := by omega
          exact .inr (by simp [b])
    · rename_i h
      rw [bitsL_mem m x k]
      constructor
      · rintro ⟨i, a, b, c⟩; exact ⟨i, by omega, b, c⟩
      · rintro ⟨i, a, b, c⟩
        refine ⟨i, ?_, b, c⟩
        rcases Nat.lt_or_ge i k with d | d
        · exact d
        · obtain rfl : i = k := by omega
          exact absurd c h
theorem bitsL_num (m : Nat) : (bitsL m 32).all numB = true := by
  rw [List.all_eq_true]
  intro x hx
  obtain ⟨i, a, rfl, _⟩ := (bitsL_mem m x 32).1 hx
  simp [numB]
  omega
theorem foldI_bit (l : List Int) (m i : Nat) : (l.foldl (fun m x => m ||| 2 ^ x.toNat) m).testBit i = true ↔ m.testBit i = true ∨ ∃ x ∈ l, x.toNat = i := by
  induction l generalizing m with
  | nil => simp
  | cons x l ih =>
    rw [List.foldl_cons, ih, Nat.testBit_or, Nat.testBit_two_pow]
    simp [or_assoc]
theorem maskI_bit (l : List Int) (i : Nat) : (maskI l).testBit i = true ↔ ∃ x ∈ l, x.toNat = i := by
  unfold maskI
  rw [foldI_bit]
  simp
theorem maskI_bitsL {m : Nat} (h : m < 2 ^ 32) : maskI (bitsL m 32) = m := by
  apply Nat.eq_of_testBit_eq
  intro i
  rw [Bool.eq_iff_iff, maskI_bit]
  constructor
  · rintro ⟨x, hx, rfl⟩
    obtain ⟨j, _, rfl, hj⟩ := (bitsL_mem m x 32).1 hx
    simpa using hj
  · intro hi
    refine ⟨(i : Int), (bitsL_mem m i 32).2 ⟨i, ?_, rfl, hi⟩, by simp⟩
    rcases Nat.lt_or_ge i 32 with c | c
    · exact c
    · have := Nat.testBit_lt_two_pow (Nat.lt_of_lt_of_le h (Nat.pow_le_pow_right (by omega) c))
      rw [this] at hi; cases hi
/-- the cells of a list of integers -/
def flat1 (l : List Int) : List Value := l.map fun x => .int .i64 x
theorem new1 (w : World) (v : Value) (t : TypeId) : ∀ j u, ([v] : List Value)[j]? = some u → (w.alloc (.cells #[v] t)).cell? ((⟨w.heap.size, 0, none⟩ : Addr).add j) = some u := by
  intro j u hu
  match j with
  | 0 => simp at hu; subst hu; simp [go_sem, Addr.add]
  | j + 1 => simp at hu
end Rm
namespace Go.Proofs.Ytbodadddcbbjeaa
open Go.RowKit Rm
set_option linter.unusedVariables false
theorem int_info : (Try.prog.info? 3).map (fun i => (i.zero, i.size, i.bytes)) = some (some (.int .i64 0), 1, 8) := by kernel_rfl
theorem Rd1.own {w : World} {base : Nat} {e : TypeId} {v : Value} {l : List Int} (h : w.ownsRow base e 1 v l.length (flat1 l)) : Rd1 w v l := by
  obtain ⟨hl, h⟩ := h
  rcases h with ⟨rfl, h0⟩ | ⟨g, cap, cur, rfl, _, hg, hn, _, hs, ht⟩
  · have : l = [] := List.eq_nil_of_length_eq_zero h0
    subst this
    exact ⟨none, 0, rfl, Nat.le_refl _, fun h => absurd rfl h⟩
  · refine ⟨_, _, rfl, hn, fun hne => ?_⟩
    refine ⟨g, 0, rfl, Blk_lt hg, fun i x hp => ?_⟩
    have hi : i < l.length := (List.getElem?_eq_some_iff.1 hp).1
    have hf : (flat1 l)[i]? = some (.int .i64 x) := by simp [flat1, hp]
    rw [← ht] at hf
    rw [List.getElem?_take_of_lt (by omega)] at hf
    simpa [World.cell?, hg] using hf

set_option maxHeartbeats 1000000 in
set_option maxRecDepth 100000 in
theorem fspans_any (m : Nat) (w : World) (hm : m < 2 ^ 32) :
    Calls Try.prog 61 #[.int .u64 m] w fun e w' => ∃ u, e = .returned u ∧ ListAt w w' (canon m) u := by
  obtain ⟨i0, hi0, hz0, hz1, hz2⟩ := info_parts int_info
  have HM := Lib.hid hm
  clear hm
  go_enter Try.func61, Try.ntmps61
  go_wp2
  go_loopw [3, 7] (fun v i wr => ∃ n : Nat, n ≤ 32 ∧ i = .int .i64 n ∧ Gr w wr ∧ wr.ownsRow w.heap.size 3 1 v (bitsL m n).length (flat1 (bitsL m n))) (fun _ i _ => 32 - (intOf i).toNat)
  case atStart => exact ⟨0, by omega, rfl, Gr.refl _, World.ownsRow_nil _ _ _ _⟩
  case round =>
    obtain ⟨n, hn, rfl, hg, hown⟩ := hrel
    have hlen := bitsL_len m n
    by_cases hlt : n < 32
    · cases hbit : m.testBit n
      · have HL := Lib.hid (bitsL_no hbit)
        have HO := Lib.hid hown
        clear hown
        go_wp2_with fail
        refine (fhas_any m n _ HM.out hlt).mono ?_
        rw [hbit]
        rintro e w1 ⟨rfl, rfl⟩
        go_wp2_with fail
        go_roundw
        case rel => exact ⟨n + 1, by omega, by go_num, hg, by rw [HL.out]; exact HO.out⟩
        case measure => simp [intOf]; omega
      · obtain ⟨a, c, rfl, hc⟩ := own_form hown
        have HO := Lib.hid hown
        have HP : Hid (flat1 (bitsL m (n + 1)) = flat1 (bitsL m n) ++ [.int .i64 (n : Int)] ∧ (bitsL m (n + 1)).length = (bitsL m n).length + 1) := by
          rw [bitsL_yes hbit]
          exact ⟨by simp [flat1], by simp⟩
        clear hown hc
        generalize (bitsL m n).length = len at *
        go_wp2_with fail
        refine (fhas_any m n _ HM.out hlt).mono ?_
        rw [hbit]
        rintro e w1 ⟨rfl, rfl⟩
        go_wp2_with (at_builtin; refine wpList_append_own _ rfl (.tmp 13) (.tmp 15) 34 rfl w.heap.size 3 i0 _ 1 8 Try.underlying34 hi0 hz0 hz1 hz2 rfl (by omega) _ _ _ rfl (HO.out.alloc _) ⟨wr.heap.size, 0, none⟩ 1 1 [.int .i64 (n : Int)] rfl rfl (new1 _ _ _) (by simp [Value.oneCell']) (by simp only [maxLen]; omega) (by omega) (by have := hg.le; simp; omega) ?_; intro v1 w1 hown hg1 _)
        go_roundw
        case rel => exact ⟨n + 1, by omega, by go_num, (hg.alloc _).grown hg1 (fun k hk => (HO.out.lt k hk).1), by rw [HP.out.1, HP.out.2]; exact hown⟩
        case measure => simp [intOf]; omega
    · obtain rfl : n = 32 := by omega
      have HO := Lib.hid (Rd1.own hown)
      clear hown
      go_wp2_with fail
      refine (of_any _ _ _ HO.out (by omega)).mono ?_
      rintro e w1 (⟨h0, _⟩ | ⟨h0, u, rfl, hu, _⟩)
      · exact absurd (bitsL_num m) (by rw [h0]; simp)
      · rw [maskI_bitsL HM.out] at hu
        clear h0
        go_wp2_with fail
        go_ret
        exact ⟨u, rfl, hu.more hg⟩
end Go.Proofs.Ytbodadddcbbjeaa
/- The plain mathematics of blocks and merge. -/
namespace Rm
open Go Go.RowKit
theorem xor16 : ∀ a < 16, ∀ b < 16, bits .xor .i64 ((a : Nat) : Int) ((b : Nat) : Int) = ((a ^^^ b : Nat) : Int) := by decide +kernel
theorem andNot16' : ∀ a < 16, ∀ b < 16, bits .andNot .i64 ((a : Nat) : Int) ((b : Nat) : Int) = ((a &&& (15 - b) : Nat) : Int) := by decide +kernel
theorem xor16_lt : ∀ a < 16, ∀ b < 16, a ^^^ b < 16 := by decide +kernel
theorem andNot16_lt (a b : Nat) (h : a < 16) : a &&& (15 - b) < 16 := Nat.lt_of_le_of_lt Nat.and_le_left h
/-- the block of one combination of tags -/
def blk1 (T : Nat → Nat) (k : Nat) : Bx := ((k, 15 - k), T k)
theorem not15 : ∀ k < 16, bits .andNot .i64 15 ((k : Nat) : Int) = ((15 - k : Nat) : Int) := by decide +kernel
def blkT (T : Nat → Nat) : Nat → List Bx
  | 0 => []
  | k + 1 => if T k = 0 then blkT T k else blkT T k ++ [blk1 T k]
theorem blkT_no {T : Nat → Nat} {k : Nat} (h : T k = 0) : blkT T (k + 1) = blkT T k := by simp [blkT, h]
theorem blkT_yes {T : Nat → Nat} {k : Nat} (h : ¬ T k = 0) : blkT T (k + 1) = blkT T k ++ [blk1 T k] := by simp [blkT, h]
theorem blkT_len (T : Nat → Nat) : ∀ k, (blkT T k).length ≤ k
  | 0 => Nat.le_refl _
  | k + 1 => by
    have := blkT_len T k
    unfold blkT
    split
    · omega
    · simp; omega
theorem blkT_mem (T : Nat → Nat) (b : Bx) : ∀ k, b ∈ blkT T k → ∃ i, i < k ∧ b = blk1 T i
  | 0, h => by cases h
  | k + 1, h => by
    unfold blkT at h
    split at h
    · obtain ⟨i, a, b⟩ := blkT_mem T b k h; exact ⟨i, by omega, b⟩
    · rcases List.mem_append.1 h with h | h
      · obtain ⟨i, a, b⟩ := blkT_mem T b k h; exact ⟨i, by omega, b⟩
      · exact ⟨k, by omega, by simpa using h⟩
theorem vld15 : ∀ k < 16, Nat.land k (15 - k) = 0 := by decide
theorem blkT_ok {T : Nat → Nat} (hT : ∀ t, t < 16 → T t < 2 ^ 32) {k : Nat} (hk : k ≤ 16) : OkF (blkT T k) := by
  intro b hb
  obtain ⟨i, hi, rfl⟩ := blkT_mem T b k hb
  exact ⟨⟨by simp [blk1]; omega, by simp [blk1]; omega, vld15 i (by omega)⟩, hT i (by omega)⟩
def inTab : Bool := (List.range 16).all fun k => (List.range 16).all fun t => hasR ((k : Nat) : Int) ((15 - k : Nat) : Int) ((t : Nat) : Int) == decide (k = t)
theorem inTab_true : inTab = true := by decide +kernel
theorem in_blk1 (T : Nat → Nat) {k t : Nat} (hk : k < 16) (ht : t < 16) : inC (blk1 T k) t = decide (k = t) := by
  have H := inTab_true
  unfold inTab at H
  rw [List.all_eq_true] at H
  have := H k (List.mem_range.2 hk)
  rw [List.all_eq_true] at this
  have h2 := this t (List.mem_range.2 ht)
  rw [beq_iff_eq] at h2
  exact h2
theorem tab_blkT (T : Nat → Nat) {t : Nat} (ht : t < 16) : ∀ k, k ≤ 16 → tabF (blkT T k) t = if t < k then T t else 0
  | 0, _ => by simp [blkT, tabF]
  | k + 1, hk => by
    have ih := tab_blkT T ht k (by omega)
    unfold blkT
    split
    · rename_i h
      rw [ih]
      by_cases e : t = k
      · subst e; rw [if_neg (by omega), if_pos (by omega), h]
      · have : (t < k) ↔ (t < k + 1) := by omega
        simp only [this]
    · rw [tabF_snoc, ih, addB, in_blk1 T (by omega) ht]
      by_cases e : k = t
      · subst e
        rw [if_pos (by simp), if_neg (by omega), if_pos (by omega)]
        simp [blk1]
      · have : (t < k) ↔ (t < k + 1) := by omega
        rw [if_neg (by simpa using e)]
        simp only [this]

/-- what merge looks for, and what it makes of two -/
def twin (g : Nat) (b : Bx) : Bx := ((b.1.1 ^^^ g, b.1.2 ^^^ g), b.2)
def both (g : Nat) (b : Bx) : Bx := ((b.1.1 &&& (15 - g), b.1.2 &&& (15 - g)), b.2)
def twinTab (i : Nat) : Bool := (List.range 16).all fun y => (List.range 16).all fun n => (List.range 16).all fun t =>
  !(Nat.land y n == 0 && Nat.land (y ^^^ 2 ^ i) (n ^^^ 2 ^ i) == 0) ||
  ((hasR ((y &&& (15 - 2 ^ i) : Nat) : Int) ((n &&& (15 - 2 ^ i) : Nat) : Int) ((t : Nat) : Int) == (hasR ((y ^^^ 2 ^ i : Nat) : Int) ((n ^^^ 2 ^ i : Nat) : Int) ((t : Nat) : Int) || hasR ((y : Nat) : Int) ((n : Nat) : Int) ((t : Nat) : Int))) && (Nat.land (y &&& (15 - 2 ^ i)) (n &&& (15 - 2 ^ i)) == 0))
theorem twinTab0 : twinTab 0 = true := by decide +kernel
theorem twinTab1 : twinTab 1 = true := by decide +kernel
theorem twinTab2 : twinTab 2 = true := by decide +kernel
theorem twinTab3 : twinTab 3 = true := by decide +kernel
theorem twinTab_all (i : Nat) (h : i < 4) : twinTab i = true := by
  match i, h with
  | 0, _ => exact twinTab0
  | 1, _ => exact twinTab1
  | 2, _ => exact twinTab2
  | 3, _ => exact twinTab3
theorem twin_both {i : Nat} (hi : i < 4) {b : Bx} (h : OkB b) (h' : OkB (twin (2 ^ i) b)) : OkB (both (2 ^ i) b) ∧ ∀ t, t < 16 → inC (both (2 ^ i) b) t = (inC (twin (2 ^ i) b) t || inC b t) := by
  obtain ⟨⟨y, n⟩, m⟩ := b
  obtain ⟨⟨h1, h2, h3⟩, h4⟩ := h
  obtain ⟨⟨_, _, h5⟩, _⟩ := h'
  simp only [twin] at h1 h2 h3 h4 h5
  have key : ∀ t, t < 16 → _ := fun t ht => by
    have H := twinTab_all i hi
    unfold twinTab at H
    rw [List.all_eq_true] at H
    have H1 := H y (List.mem_range.2 h1)
    rw [List.all_eq_true] at H1
    have H2 := H1 n (List.mem_range.2 h2)
    rw [List.all_eq_true] at H2
    have H3 := H2 t (List.mem_range.2 ht)
    rw [h3, h5] at H3
    simp only [beq_self_eq_true, Bool.and_self, Bool.not_true, Bool.false_or, Bool.and_eq_true, beq_iff_eq] at H3
    exact H3
  refine ⟨⟨⟨andNot16_lt _ _ h1, andNot16_lt _ _ h2, (key 0 (by omega)).2⟩, h4⟩, fun t ht => (key t ht).1⟩
/-- a block put to those that were merged -/
theorem tab_set {M : List Bx} {b : Bx} {i j : Nat} (hi : i < 4) (hM : OkF M) (hb : OkB b) (hj : M[j]? = some (twin (2 ^ i) b)) : OkF (M.set j (both (2 ^ i) b)) ∧ ∀ t, t < 16 → tabF (M.set j (both (2 ^ i) b)) t = addB t (tabF M t) b := by
  have hjl : j < M.length := (List.getElem?_eq_some_iff.1 hj).1
  obtain ⟨k1, k2⟩ := twin_both hi hb (hM _ (List.mem_of_getElem? hj))
  have hmem : ∀ c, c ∈ M.set j (both (2 ^ i) b) ↔ c = both (2 ^ i) b ∨ ∃ l, l ≠ j ∧ M[l]? = some c := by
    intro c
    rw [List.mem_iff_getElem?]
    constructor
    · rintro ⟨l, hl⟩
      by_cases e : l = j
      · subst e
        rw [List.getElem?_set_self hjl] at hl
        exact .inl (by simpa using hl.symm)
      · rw [List.getElem?_set_ne (fun h => e h.symm)] at hl
        exact .inr ⟨l, e, hl⟩
    · rintro (rfl | ⟨l, e, hl⟩)
      · exact ⟨j, List.getElem?_set_self hjl⟩
      · exact ⟨l, by rw [List.getElem?_set_ne (fun h => e h.symm)]; exact hl⟩
  refine ⟨fun c hc => ?_, fun t ht => ?_⟩
  · rcases (hmem c).1 hc with rfl | ⟨l, _, hl⟩
    · exact k1
    · exact hM c (List.mem_of_getElem? hl)
  · apply Nat.eq_of_testBit_eq
    intro n
    rw [Bool.eq_iff_iff, tabF_bit]
    have e1 : (addB t (tabF M t) b).testBit n = true ↔ (tabF M t).testBit n = true ∨ (inC b t = true ∧ b.2.testBit n = true) := by
      unfold addB
      split
      · rename_i h; simp [h]
      · rename_i h; simp [h]
    rw [e1, tabF_bit]
    constructor
    · rintro ⟨c, hc, h1, h2⟩
      rcases (hmem c).1 hc with rfl | ⟨l, _, hl⟩
      · rw [k2 t ht, Bool.or_eq_true] at h1
        rcases h1 with h1 | h1
        · exact .inl ⟨_, List.mem_of_getElem? hj, h1, h2⟩
        · exact .inr ⟨h1, h2⟩
      · exact .inl ⟨c, List.mem_of_getElem? hl, h1, h2⟩
    · rintro (⟨c, hc, h1, h2⟩ | ⟨h1, h2⟩)
      · obtain ⟨l, hl⟩ := List.mem_iff_getElem?.1 hc
        by_cases e : l = j
        · subst e
          rw [hj] at hl
          obtain rfl := Option.some.inj hl
          exact ⟨both (2 ^ i) b, (hmem _).2 (.inl rfl), by rw [k2 t ht, h1]; rfl, h2⟩
        · exact ⟨c, (hmem c).2 (.inr ⟨l, e, hl⟩), h1, h2⟩
      · exact ⟨both (2 ^ i) b, (hmem _).2 (.inl rfl), by rw [k2 t ht, h1]; simp, h2⟩

/-- the cells of a list of blocks -/
def flatK (l : List Bx) : List Value := l.flatMap fun b => [.int .i64 (b.1.1 : Nat), .int .i64 (b.1.2 : Nat), .int .u64 (b.2 : Nat)]
theorem flatK_cons (p : Bx) (l : List Bx) : flatK (p :: l) = .int .i64 (p.1.1 : Nat) :: .int .i64 (p.1.2 : Nat) :: .int .u64 (p.2 : Nat) :: flatK l := rfl
theorem flatK_app (l r : List Bx) : flatK (l ++ r) = flatK l ++ flatK r := by simp [flatK]
theorem flatK_len (l : List Bx) : (flatK l).length = l.length * 3 := by
  induction l with
  | nil => rfl
  | cons p l ih => rw [flatK_cons]; simp [ih]; omega
theorem flatK_at (l : List Bx) (i : Nat) (p : Bx) (h : l[i]? = some p) : (flatK l)[i * 3]? = some (.int .i64 (p.1.1 : Nat)) ∧ (flatK l)[i * 3 + 1]? = some (.int .i64 (p.1.2 : Nat)) ∧ (flatK l)[i * 3 + 2]? = some (.int .u64 (p.2 : Nat)) := by
  induction l generalizing i with
  | nil => simp at h
  | cons q l ih =>
    rw [flatK_cons]
    cases i with
    | zero => simp at h; subst h; simp
    | succ i =>
      have e : (i + 1) * 3 = i * 3 + 1 + 1 + 1 := by omega
      rw [e]
      simpa using ih i (by simpa using h)
theorem flatK_set (l : List Bx) (i : Nat) (p q : Bx) (h : l[i]? = some p) (e : p.2 = q.2) : ((flatK l).set (i * 3) (.int .i64 (q.1.1 : Nat))).set (i * 3 + 1) (.int .i64 (q.1.2 : Nat)) = flatK (l.set i q) := by
  induction l generalizing i with
  | nil => simp at h
  | cons r l ih =>
    cases i with
    | zero => simp at h; subst h; simp [flatK_cons, e]
    | succ i =>
      have e : (i + 1) * 3 = i * 3 + 1 + 1 + 1 := by omega
      have e2 : (r :: l).set (i + 1) q = r :: l.set i q := rfl
      rw [e, e2, flatK_cons, flatK_cons]
      simpa using ih i (by simpa using h)
end Rm
/- The contracts of package filter's blocks and of slices.Index over blocks. -/
namespace Go.Proofs.Ytbodadddcbbjeaa
open Go.RowKit Rm
set_option linter.unusedVariables false

theorem set_info : (Try.prog.info? 62).map (·.size) = some 1 := by kernel_rfl
theorem index_table (T : Nat → Nat) (k : Nat) (hk : k < 16) (w : World) : (Instr.index 64 (.agg (tArr T)) (.int .i64 (k : Int))).run Try.prog w = .ok (.int .u64 (T k : Nat)) w := by
  have hz : (sizeOf 62).run Try.prog w = .ok 1 w := by
    cases hq : Try.prog.info? 62 with
    | none => have := set_info; rw [hq] at this; simp at this
    | some i =>
      have hs : i.size = 1 := by have := set_info; rw [hq] at this; simpa using this
      simp [sizeOf, typeInfo, hq, hs]
  have hc := tArr_at T k hk
  simp [Instr.index, Sem.run_bind, run_underlying Try.underlying64, asIntOf, part, hz, hc]
  intro h
  omega

/-- a slice of blocks reads as a list -/
def Rd3 (w : World) (v : Value) (l : List Bx) : Prop :=
  ∃ a c, v = .slice a l.length c ∧ l.length ≤ c ∧ (l ≠ [] → ∃ b off, a = some ⟨b, off, none⟩ ∧ b < w.heap.size ∧
    ∀ i p, l[i]? = some p → w.cell? ⟨b, off + i * 3, none⟩ = some (.int .i64 (p.1.1 : Nat)) ∧ w.cell? ⟨b, off + i * 3 + 1, none⟩ = some (.int .i64 (p.1.2 : Nat)) ∧ w.cell? ⟨b, off + i * 3 + 2, none⟩ = some (.int .u64 (p.2 : Nat)))
theorem Rd3.gr {w w' : World} {v : Value} {l : List Bx} (h : Rd3 w v l) (g : Gr w w') : Rd3 w' v l := by
  obtain ⟨a, c, e, hc, h⟩ := h
  refine ⟨a, c, e, hc, fun hl => ?_⟩
  obtain ⟨b, off, ea, hb, hx⟩ := h hl
  refine ⟨b, off, ea, Nat.lt_of_lt_of_le hb g.le, fun i p hp => ?_⟩
  obtain ⟨h1, h2, h3⟩ := hx i p hp
  exact ⟨(g.cells.1 b _ hb).trans h1, (g.cells.1 b _ hb).trans h2, (g.cells.1 b _ hb).trans h3⟩
theorem Rd3.own {w : World} {base : Nat} {e : TypeId} {v : Value} {l : List Bx} (h : w.ownsRow base e 3 v l.length (flatK l)) : Rd3 w v l := by
  obtain ⟨hl, h⟩ := h
  rcases h with ⟨rfl, h0⟩ | ⟨g, cap, cur, rfl, _, hg, hn, _, hs, ht⟩
  · have : l = [] := List.eq_nil_of_length_eq_zero h0
    subst this
    exact ⟨none, 0, rfl, Nat.le_refl _, fun h => absurd rfl h⟩
  · refine ⟨_, _, rfl, hn, fun hne => ?_⟩
    refine ⟨g, 0, rfl, Blk_lt hg, fun i p hp => ?_⟩
    have hi : i < l.length := (List.getElem?_eq_some_iff.1 hp).1
    have hf := flatK_at l i p hp
    rw [← ht] at hf
    have key : ∀ j, j < l.length * 3 → w.cell? ⟨g, 0 + j, none⟩ = (cur.toList.take (l.length * 3))[j]? := by
      intro j hj
      rw [List.getElem?_take_of_lt hj]
      simp [World.cell?, hg]
    have k2 := key (i * 3 + 1) (by omega)
    have k3 := key (i * 3 + 2) (by omega)
    rw [← Nat.add_assoc] at k2 k3
    exact ⟨(key (i * 3) (by omega)).trans hf.1, k2.trans hf.2.1, k3.trans hf.2.2⟩
theorem new3 (w : World) (a b c : Value) (t : TypeId) : ∀ j u, ([a, b, c] : List Value)[j]? = some u → (w.alloc (.cells #[a, b, c] t)).cell? ((⟨w.heap.size, 0, none⟩ : Addr).add j) = some u := by
  intro j u hu
  match j with
  | 0 => simp at hu; subst hu; simp [go_sem, Addr.add]
  | 1 => simp at hu; subst hu; simp [go_sem, Addr.add]
  | 2 => simp at hu; subst hu; simp [go_sem, Addr.add]
  | j + 3 => simp at hu
theorem block_info : (Try.prog.info? 103).map (fun i => (i.zero, i.size, i.bytes)) = some (some (.agg #[.int .i64 0, .int .i64 0, .int .u64 0]), 3, 24) := by kernel_rfl
theorem one3 (a b : Int) (c : Int) : ∀ u ∈ ([.int .i64 a, .int .i64 b, .int .u64 c] : List Value), u.oneCell' = true := by
  intro u hu
  simp at hu
  rcases hu with rfl | rfl | rfl <;> rfl
/-- new blocks -/
def BlkAt (w wr : World) (l : List Bx) (v : Value) : Prop := Gr w wr ∧ wr.ownsRow w.heap.size 103 3 v l.length (flatK l)
theorem BlkAt.rd {w w1 : World} {l : List Bx} {v : Value} (h : BlkAt w w1 l v) : Rd3 w1 v l := Rd3.own h.2
theorem BlkAt.more {w w1 w2 : World} {l : List Bx} {v : Value} (g : Gr w w1) (h : BlkAt w1 w2 l v) : BlkAt w w2 l v := by
  refine ⟨g.trans h.1, h.2.1, ?_⟩
  rcases h.2.2 with ⟨a, b⟩ | ⟨g', cap, cur, a, b, c⟩
  · exact .inl ⟨a, b⟩
  · exact .inr ⟨g', cap, cur, a, Nat.le_trans g.le b, c⟩

set_option maxHeartbeats 1000000 in
set_option maxRecDepth 100000 in
theorem blocks_any (T : Nat → Nat) (w : World) :
    Calls Try.prog 59 #[.agg (tArr T)] w fun e w' => ∃ u, e = .returned u ∧ BlkAt w w' (blkT T 16) u := by
  obtain ⟨i0, hi0, hz0, hz1, hz2⟩ := info_parts block_info
  have HS : Hid ((Try.prog.info? 64).map (·.size) = some (tArr T).size) := by rw [tArr_size]; exact table_info
  go_enter Try.func59, Try.ntmps59
  go_wp2_with (refine wpList_load_row rfl 64 _ rfl w.heap.size rfl 64 (tArr T) (0, 0) _ (heap_alloc_new _ _) Try.underlying64 rfl HS.out ?_)
  go_loopw [3, 7] (fun v i wr => ∃ n : Nat, n ≤ 16 ∧ i = .int .i64 n ∧ BlkAt w wr (blkT T n) v) (fun _ i _ => 16 - (intOf i).toNat)
  case atStart => exact ⟨0, by omega, rfl, (Gr.refl _).alloc _, World.ownsRow_nil _ _ _ _⟩
  case round =>
    obtain ⟨n, hn, rfl, hg, hown⟩ := hrel
    have hlen := blkT_len T n
    by_cases hlt : n < 16
    · have hix := fun wx => index_table T n hlt wx
      have hn16 : (n : Int) < 16 := by omega
      by_cases h0 : T n = 0
      · have HL := Lib.hid (blkT_no h0)
        have HO := Lib.hid hown
        rw [h0] at hix
        clear hown h0
        go_wp2_with fail
        go_roundw
        case rel => exact ⟨n + 1, by omega, by go_num, hg, by rw [HL.out]; exact HO.out⟩
        case measure => simp [intOf]; omega
      · obtain ⟨a, c, rfl, hc⟩ := own_form hown
        have HO := Lib.hid hown
        have HP : Hid (flatK (blkT T (n + 1)) = flatK (blkT T n) ++ [.int .i64 (n : Int), .int .i64 ((15 - n : Nat) : Int), .int .u64 (T n : Nat)] ∧ (blkT T (n + 1)).length = (blkT T n).length + 1) := by
          rw [blkT_yes h0]
          exact ⟨by rw [flatK_app]; rfl, by simp⟩
        have hne : (((T n : Nat) : Int) != 0) = true := by simp; omega
        have h15 := not15 n hlt
        clear hown hc h0
        generalize (blkT T n).length = len at *
        generalize (15 - n) = nn at *
        go_wp2_with (at_builtin; refine wpList_append_own _ rfl (.tmp 13) (.tmp 20) 99 rfl w.heap.size 103 i0 _ 3 24 Try.underlying99 hi0 hz0 hz1 hz2 rfl (by omega) _ _ _ rfl (HO.out.alloc _) ⟨wr.heap.size, 0, none⟩ 1 1 [.int .i64 (n : Int), .int .i64 (nn : Int), .int .u64 (T n : Nat)] rfl rfl (new3 _ _ _ _ _) (one3 _ _ _) (by simp only [maxLen]; omega) (by omega) (by have := hg.le; simp; omega) ?_; intro v1 w1 hown hg1 _)
        go_roundw
        case rel => exact ⟨n + 1, by omega, by go_num, (hg.alloc _).grown hg1 (fun k hk => (HO.out.lt k hk).1), by rw [HP.out.1, HP.out.2]; exact hown⟩
        case measure => simp [intOf]; omega
    · obtain rfl : n = 16 := by omega
      have HO := Lib.hid hown
      clear hown
      go_wp2_with fail
      go_ret
      exact ⟨_, rfl, hg, HO.out⟩
end Go.Proofs.Ytbodadddcbbjeaa
/- The contract of slices.Index over blocks. -/
namespace Go.Proofs.Ytbodadddcbbjeaa
open Go.RowKit Rm
set_option linter.unusedVariables false

/-- what Index answers -/
def IdxAt (l : List Bx) (b : Bx) (w : World) (e : Ending) (w' : World) : Prop :=
  ((∃ i : Nat, l[i]? = some b ∧ e = .returned (.int .i64 (i : Int))) ∨ (b ∉ l ∧ e = .returned (.int .i64 (-1)))) ∧ Gr w w'
theorem not_mem_of {l : List Bx} {b : Bx} (h : ∀ j, j < l.length → l[j]? ≠ some b) : b ∉ l := by
  intro hb
  obtain ⟨j, hj⟩ := List.mem_iff_getElem?.1 hb
  exact h j (List.getElem?_eq_some_iff.1 hj).1 hj

set_option maxHeartbeats 1000000 in
set_option maxRecDepth 100000 in
theorem index_any (v : Value) (l : List Bx) (y n m : Nat) (w : World) (hr : Rd3 w v l) (hl : l.length ≤ 16) :
    Calls Try.prog 75 #[v, .agg #[.int .i64 (y : Int), .int .i64 (n : Int), .int .u64 (m : Int)]] w (IdxAt l ((y, n), m) w) := by
  obtain ⟨a, cp, rfl, hcp, hx⟩ := hr
  have HX := Lib.hid hx
  have hlen' : (l.length : Int) ≤ 16 := by omega
  clear hx
  go_enter Try.func75, Try.ntmps75
  go_wp2
  go_loopw [8] (fun i wr => ∃ k : Nat, k ≤ l.length ∧ i = .int .i64 k ∧ Hid (∀ j, j < k → l[j]? ≠ some ((y, n), m)) ∧ Gr (w.alloc (.cells #[.int .i64 (y : Int), .int .i64 (n : Int), .int .u64 (m : Int)] 103)) wr) (fun i _ => l.length - (intOf i).toNat)
  case atStart => exact ⟨0, by omega, rfl, fun j hj => by omega, Gr.refl _⟩
  case round =>
    obtain ⟨k, hk, rfl, hno, hg⟩ := hrel
    have d1 : wr.cell? ⟨w.heap.size, 0, none⟩ = some (.int .i64 (y : Int)) := by rw [hg.cells.1 _ _ (by simp)]; simp [go_sem]
    have d2 : wr.cell? ⟨w.heap.size, 1, none⟩ = some (.int .i64 (n : Int)) := by rw [hg.cells.1 _ _ (by simp)]; simp [go_sem]
    have d3 : wr.cell? ⟨w.heap.size, 2, none⟩ = some (.int .u64 (m : Int)) := by rw [hg.cells.1 _ _ (by simp)]; simp [go_sem]
    have G1 := ((Gr.refl w).alloc _).trans hg
    have HG := Lib.hid hg
    clear hg
    by_cases hlt : k < l.length
    · obtain ⟨⟨⟨y', n'⟩, m'⟩, hp⟩ : ∃ p, l[k]? = some p := ⟨_, List.getElem?_eq_getElem hlt⟩
      obtain ⟨b, off, rfl, hb, hcell⟩ := HX.out (by intro e; rw [e] at hlt; simp at hlt)
      obtain ⟨c1, c2, c3⟩ := hcell k _ hp
      rw [← G1.cells.1 b _ hb] at c1 c2 c3
      simp only at c1 c2 c3
      have hbr : b < wr.heap.size := Nat.lt_of_lt_of_le hb G1.le
      have hk16 : (k : Int) < 16 := by omega
      have HP := Lib.hid hp
      clear hcell hp
      by_cases heq : ((y', n'), m') = ((y, n), m)
      · simp only [Prod.mk.injEq] at heq
        obtain ⟨⟨rfl, rfl⟩, rfl⟩ := heq
        go_wp2
        go_quiet (fail)
        go_wp2
        go_ret
        exact ⟨.inl ⟨k, HP.out, rfl⟩, G1.drewN _⟩
      · have HN : Hid (∀ j, j < k + 1 → l[j]? ≠ some ((y, n), m)) := by
          intro j hj
          rcases Nat.lt_or_ge j k with c | c
          · exact hno.out j c
          · obtain rfl : j = k := by omega
            rw [HP.out]
            intro e
            exact heq (Option.some.inj e)
        cases h1 : ((y : Int) == (y' : Int))
        · go_wp2
          go_quiet (fail)
          go_wp2
          go_roundw
          case rel => exact ⟨k + 1, by omega, by go_num, HN, HG.out.drewN _⟩
          case measure => simp [intOf]; omega
        · cases h2 : ((n : Int) == (n' : Int))
          · go_wp2
            go_quiet (fail)
            go_wp2
            go_roundw
            case rel => exact ⟨k + 1, by omega, by go_num, HN, HG.out.drewN _⟩
            case measure => simp [intOf]; omega
          · have h3 : ((m : Int) == (m' : Int)) = false := by
              simp at h1 h2 ⊢
              intro e
              exact heq (by simp; omega)
            go_wp2
            go_quiet (fail)
            go_wp2
            go_roundw
            case rel => exact ⟨k + 1, by omega, by go_num, HN, HG.out.drewN _⟩
            case measure => simp [intOf]; omega
    · obtain rfl : k = l.length := by omega
      go_wp2
      go_ret
      exact ⟨.inr ⟨not_mem_of hno.out, rfl⟩, G1⟩
end Go.Proofs.Ytbodadddcbbjeaa
/- The contract of package filter's merge. -/
namespace Rm
open Go Go.RowKit
theorem pow16 : ∀ i < 4, 2 ^ i < 16 := by decide
theorem OkF.snoc {M : List Bx} {b : Bx} (h : OkF M) (hb : OkB b) : OkF (M ++ [b]) := by
  intro c hc
  rcases List.mem_append.1 hc with hc | hc
  · exact h c hc
  · obtain rfl : c = b := by simpa using hc
    exact hb
end Rm
namespace Go.Proofs.Ytbodadddcbbjeaa
open Go.RowKit Rm
set_option linter.unusedVariables false

/-- where merge's loop stands: k blocks are in M -/
def MergAt (l : List Bx) (k : Nat) (M : List Bx) : Prop := OkF M ∧ M.length ≤ k ∧ ∀ t, t < 16 → tabF M t = tabF (l.take k) t
theorem own_gr {w w' : World} {base : Nat} {e : TypeId} {size : Nat} {v : Value} {n : Nat} {xs : List Value} (h : w.ownsRow base e size v n xs) (g : Gr w w') : w'.ownsRow base e size v n xs := by
  refine h.kept (row := none) ⟨g.os, g.tape, g.output, g.size, fun k hk _ => Below.block g k hk⟩ ?_
  cases v.ownBlock with
  | none => exact .inl rfl
  | some k => exact .inr (by simp)
theorem mergAt_start (l : List Bx) : MergAt l 0 [] := ⟨(fun b hb => by cases hb), by simp, fun t _ => by simp⟩
theorem MergAt.set {l M : List Bx} {k g j : Nat} {b : Bx} (h : MergAt l k M) (hk : l[k]? = some b) (hj : M[j]? = some (twin g b)) (hb : OkB b) (ht : OkF (M.set j (both g b)) ∧ ∀ t, t < 16 → tabF (M.set j (both g b)) t = addB t (tabF M t) b) : MergAt l (k + 1) (M.set j (both g b)) :=
  ⟨ht.1, by rw [List.length_set]; have := h.2.1; omega, fun t h16 => by rw [ht.2 t h16, h.2.2 t h16, tabF_take hk]⟩
theorem MergAt.snoc {l M : List Bx} {k : Nat} {b : Bx} (h : MergAt l k M) (hk : l[k]? = some b) (hb : OkB b) : MergAt l (k + 1) (M ++ [b]) :=
  ⟨h.1.snoc hb, by have := h.2.1; simp; omega, fun t h16 => by rw [tabF_snoc, h.2.2 t h16, tabF_take hk]⟩


set_option maxHeartbeats 2000000 in
set_option maxRecDepth 100000 in
theorem merge_any (v : Value) (l : List Bx) (i : Nat) (w : World) (hr : Rd3 w v l) (hl : l.length ≤ 16) (hok : OkF l) (hi : i < 4) :
    Calls Try.prog 60 #[v, .int .i64 ((2 ^ i : Nat) : Int)] w fun e w' => ∃ u M, e = .returned u ∧ BlkAt w w' M u ∧ MergAt l l.length M := by
  obtain ⟨i0, hi0, hz0, hz1, hz2⟩ := info_parts block_info
  obtain ⟨a, cp, rfl, hcp, hx⟩ := hr
  have HX := Lib.hid hx
  have HK := Lib.hid hok
  have hlen' : (l.length : Int) ≤ 16 := by omega
  have hg16 := pow16 i hi
  have HTS := Lib.hid (fun (M : List Bx) (b : Bx) (j : Nat) => tab_set (M := M) (b := b) (j := j) hi)
  have HTW := Lib.hid (fun (b : Bx) => show twin (2 ^ i) b = ((b.1.1 ^^^ 2 ^ i, b.1.2 ^^^ 2 ^ i), b.2) from rfl)
  have HTB := Lib.hid (fun (b : Bx) => show both (2 ^ i) b = ((b.1.1 &&& (15 - 2 ^ i), b.1.2 &&& (15 - 2 ^ i)), b.2) from rfl)
  clear hx hok
  generalize 2 ^ i = g at *
  clear hi
  have hgi : (g : Int) < 16 := by omega
  go_enter Try.func60, Try.ntmps60
  go_wp2
  go_loopw [5, 12] (fun u kk wr => ∃ (k : Nat) (M : List Bx), k ≤ l.length ∧ kk = .int .i64 k ∧ BlkAt w wr M u ∧ MergAt l k M) (fun _ kk _ => l.length - (intOf kk).toNat)
  case atStart => exact ⟨0, [], by omega, rfl, ⟨Gr.refl _, World.ownsRow_nil _ _ _ _⟩, mergAt_start l⟩
  case round =>
    obtain ⟨k, M, hk, rfl, ⟨hg, hown⟩, hMA⟩ := hrel
    generalize wr = wo at *
    have hMl := hMA.2.1
    have HMA := Lib.hid hMA
    have HO := Lib.hid hown
    clear hMA
    by_cases hlt : k < l.length
    · obtain ⟨⟨⟨y, n⟩, m⟩, hp⟩ : ∃ p, l[k]? = some p := ⟨_, List.getElem?_eq_getElem hlt⟩
      obtain ⟨b, off, rfl, hb, hcell⟩ := HX.out (by intro e; rw [e] at hlt; simp at hlt)
      obtain ⟨c1, c2, c3⟩ := hcell k _ hp
      rw [← hg.cells.1 b _ hb] at c1 c2 c3
      simp only at c1 c2 c3
      have hbr : b < wo.heap.size := Nat.lt_of_lt_of_le hb hg.le
      have hk16 : (k : Int) < 16 := by omega
      have hB : OkB ((y, n), m) := HK.out _ (List.mem_of_getElem? hp)
      have HB := Lib.hid hB
      have HP := Lib.hid hp
      have x1 := xor16 y hB.1.1 g hg16
      have x2 := xor16 n hB.1.2.1 g hg16
      have a1 := andNot16' y hB.1.1 g hg16
      have a2 := andNot16' n hB.1.2.1 g hg16
      obtain ⟨ua, uc, rfl, huc⟩ := own_form hown
      clear hcell hp hB hown
      go_wp2_with fail
      have R1 := Lib.hid ((Rd3.own HO.out).gr (((Gr.refl wo).alloc (.cells #[.int .i64 (y : Int), .int .i64 (n : Int), .int .u64 (m : Int)] 103)).alloc (.cells #[.int .i64 ((y ^^^ g : Nat) : Int), .int .i64 ((n ^^^ g : Nat) : Int), .int .u64 (m : Int)] 103)))
      refine (index_any _ M (y ^^^ g) (n ^^^ g) m _ R1.out (by omega)).mono ?_
      rintro e w1 ⟨hcase, g1⟩
      have T1 := Lib.hid ((Three.new wo y n (.int .u64 (m : Int)) 103).gr (((Gr.refl _).alloc (.cells #[.int .i64 ((y ^^^ g : Nat) : Int), .int .i64 ((n ^^^ g : Nat) : Int), .int .u64 (m : Int)] 103)).trans g1))
      have G1 := Lib.hid (((hg.alloc (.cells #[.int .i64 (y : Int), .int .i64 (n : Int), .int .u64 (m : Int)] 103)).alloc (.cells #[.int .i64 ((y ^^^ g : Nat) : Int), .int .i64 ((n ^^^ g : Nat) : Int), .int .u64 (m : Int)] 103)).trans g1)
      have O1 := Lib.hid (own_gr HO.out (((Gr.refl wo).alloc (.cells #[.int .i64 (y : Int), .int .i64 (n : Int), .int .u64 (m : Int)] 103)).alloc (.cells #[.int .i64 ((y ^^^ g : Nat) : Int), .int .i64 ((n ^^^ g : Nat) : Int), .int .u64 (m : Int)] 103)))
      have O2 := Lib.hid (own_gr O1.out g1)
      clear O1 R1 HO g1 c1 c2 c3 x1 x2
      have hws := hg.le
      generalize wo.heap.size = BB at *
      obtain ⟨t1, t2, t3, t4⟩ := T1.out
      have hMl16 : (M.length : Int) < 16 := by omega
      rcases hcase with ⟨j, hj, rfl⟩ | ⟨hnot, rfl⟩
      · have hjl : j < M.length := (List.getElem?_eq_some_iff.1 hj).1
        have hjl' : (j : Int) < (M.length : Int) := by omega
        obtain ⟨g0, cap0, e0, hb0, hl0, hc0⟩ := own_pos O2.out (by omega)
        obtain ⟨rfl, -, rfl⟩ : ua = some ⟨g0, 0, none⟩ ∧ M.length = M.length ∧ uc = cap0 := by simpa using e0
        have f0 := flatK_at M j _ hj
        have q1 : w1.cell? ⟨g0, j * 3, none⟩ = some (.int .i64 ((y ^^^ g : Nat) : Int)) := by rw [O2.out.cellAt _ (by omega)]; exact f0.1
        have q2 : w1.cell? ⟨g0, j * 3 + 1, none⟩ = some (.int .i64 ((n ^^^ g : Nat) : Int)) := by rw [O2.out.cellAt _ (by omega)]; exact f0.2.1
        have z1 := O2.out.frozenAt (j * 3)
        have z2 := O2.out.frozenAt (j * 3 + 1)
        have HJ : Hid (M[j]? = some (twin g ((y, n), m))) := by rw [HTW.out]; exact hj
        have HFS := Lib.hid (flatK_set M j _ ((y &&& (15 - g), n &&& (15 - g)), m) hj rfl)
        have HNEW := Lib.hid (HMA.out.set HP.out HJ.out HB.out (HTS.out M ((y, n), m) j HMA.out.1 HB.out HJ.out))
        have HLS : Hid ((M.set j (both g ((y, n), m))).length = M.length) := List.length_set
        have HBB := HTB.out ((y, n), m)
        simp only at HBB
        have HBB2 := Lib.hid HBB
        clear hj f0 e0 HBB
        go_wp2_with fail
        go_roundw
        case rel =>
          refine ⟨k + 1, M.set j (both g ((y, n), m)), by omega, by go_num, ⟨(G1.out.setCell hb0 _).setCell hb0 _, ?_⟩, HNEW.out⟩
          rw [HLS.out, HBB2.out, ← HFS.out]
          exact ((O2.out.stored _ _).1.stored _ _).1
        case measure => simp [intOf]; omega
      · clear hnot
        have HNEW := Lib.hid (HMA.out.snoc HP.out HB.out)
        have HFA : Hid (flatK (M ++ [((y, n), m)]) = flatK M ++ [.int .i64 (y : Int), .int .i64 (n : Int), .int .u64 (m : Int)] ∧ (M ++ [((y, n), m)]).length = M.length + 1) := ⟨by rw [flatK_app]; rfl, by simp⟩
        go_wp2_with (at_builtin; refine wpList_append_own _ rfl (.tmp 50) (.tmp 52) 99 rfl w.heap.size 103 i0 _ 3 24 Try.underlying99 hi0 hz0 hz1 hz2 rfl (by omega) _ _ _ rfl (O2.out.alloc _) ⟨w1.heap.size, 0, none⟩ 1 1 [.int .i64 (y : Int), .int .i64 (n : Int), .int .u64 (m : Int)] rfl rfl (new3 _ _ _ _ _) (one3 _ _ _) (by simp only [maxLen]; omega) (by omega) (by have := G1.out.le; simp; omega) ?_; intro v1 w2 hown hg1 _)
        go_roundw
        case rel => exact ⟨k + 1, M ++ [((y, n), m)], by omega, by go_num, ⟨(G1.out.alloc _).grown hg1 (fun k hk => (O2.out.lt k hk).1), by rw [HFA.out.1, HFA.out.2]; exact hown⟩, HNEW.out⟩
        case measure => simp [intOf]; omega
    · obtain rfl : k = l.length := by omega
      go_wp2_with fail
      go_ret
      exact ⟨_, M, rfl, ⟨hg, HO.out⟩, HMA.out⟩
end Go.Proofs.Ytbodadddcbbjeaa
/- The contract of package filter's boxes. -/
namespace Rm
open Go Go.RowKit
/-- the cells of boxes, each with the slice of its numbers -/
def flatO (l : List (Bx × Value)) : List Value := l.flatMap fun b => [.int .i64 (b.1.1.1 : Nat), .int .i64 (b.1.1.2 : Nat), b.2]
theorem flatO_cons (p : Bx × Value) (l : List (Bx × Value)) : flatO (p :: l) = .int .i64 (p.1.1.1 : Nat) :: .int .i64 (p.1.1.2 : Nat) :: p.2 :: flatO l := rfl
theorem flatO_app (l r : List (Bx × Value)) : flatO (l ++ r) = flatO l ++ flatO r := by simp [flatO]
theorem flatO_at (l : List (Bx × Value)) (i : Nat) (p : Bx × Value) (h : l[i]? = some p) : (flatO l)[i * 3]? = some (.int .i64 (p.1.1.1 : Nat)) ∧ (flatO l)[i * 3 + 1]? = some (.int .i64 (p.1.1.2 : Nat)) ∧ (flatO l)[i * 3 + 2]? = some p.2 := by
  induction l generalizing i with
  | nil => simp at h
  | cons q l ih =>
    rw [flatO_cons]
    cases i with
    | zero => simp at h; subst h; simp
    | succ i =>
      have e : (i + 1) * 3 = i * 3 + 1 + 1 + 1 := by omega
      rw [e]
      simpa using ih i (by simpa using h)
end Rm
namespace Go.Proofs.Ytbodadddcbbjeaa
open Go.RowKit Rm
set_option linter.unusedVariables false
attribute [local go_sem ↓] Go.wp_at_zero Go.wp_at_succ

theorem box_info : (Try.prog.info? 72).map (fun i => (i.zero, i.size, i.bytes)) = some (some (.agg #[.int .i64 0, .int .i64 0, .slice none 0 0]), 3, 40) := by kernel_rfl
/-- boxes in new memory -/
def OutAt (w wr : World) (O : List (Bx × Value)) (u : Value) : Prop :=
  Gr w wr ∧ wr.ownsRow w.heap.size 72 3 u O.length (flatO O) ∧
  ∀ p ∈ O, wr.ownsRow w.heap.size 53 2 p.2 (pairs (canon p.1.2)).length (flat (pairs (canon p.1.2))) ∧ (p.2.ownBlock = none ∨ p.2.ownBlock ≠ u.ownBlock)
theorem OutAt.snoc {w wo w1 w2 w3 : World} {O : List (Bx × Value)} {u sv : Value} {b : Bx} {g cap : Nat} {o : Obj} (h : OutAt w wo O u) (g1 : Gr wo w1) (hl : ListAt w1 w2 (canon b.2) sv)
    (hown : w3.ownsRow w.heap.size 72 3 (.slice (some ⟨g, 0, none⟩) (O.length + 1) cap) (O.length + 1) (flatO O ++ [.int .i64 (b.1.1 : Nat), .int .i64 (b.1.2 : Nat), sv]))
    (hgrow : (w2.alloc o).grownBy w3 u.ownBlock) (hat : u.ownBlock = some g ∨ g = w2.heap.size + 1) : OutAt w w3 (O ++ [(b, sv)]) (.slice (some ⟨g, 0, none⟩) (O.length + 1) cap) := by
  obtain ⟨hg, ho, hs⟩ := h
  have hlt : ∀ k, u.ownBlock = some k → k < wo.heap.size := fun k hk => (ho.lt k hk).2
  have g2 := (g1.trans hl.1).alloc o
  refine ⟨Gr.grown (hg.trans g2) hgrow (fun k hk => (ho.lt k hk).1), ?_, ?_⟩
  · have e0 : (O ++ [(b, sv)]).length = O.length + 1 := by simp
    rw [e0, flatO_app]
    exact hown
  · intro p hp
    have far : ∀ {z : Value} {bb : Nat} {e : TypeId} {sz nn : Nat} {xs : List Value}, (w2.alloc o).ownsRow bb e sz z nn xs → (z.ownBlock = none ∨ z.ownBlock ≠ u.ownBlock) → (∀ k, z.ownBlock = some k → k < w2.heap.size + 1) →
        w3.ownsRow bb e sz z nn xs ∧ (z.ownBlock = none ∨ z.ownBlock ≠ some g) := by
      intro z bb e sz nn xs hz hne hk
      refine ⟨hz.kept hgrow hne, ?_⟩
      rcases hne with h0 | hne
      · exact .inl h0
      · refine .inr fun e0 => ?_
        rcases hat with h1 | h1
        · exact hne (e0.trans h1.symm)
        · have := hk _ e0; omega
    rcases List.mem_append.1 hp with hp | hp
    · obtain ⟨k1, k2⟩ := hs p hp
      refine far (own_gr k1 g2) k2 (fun k hk => ?_)
      have := (k1.lt k hk).2
      have := g1.le
      have := hl.1.le
      omega
    · obtain rfl : p = (b, sv) := by simpa using hp
      have hb : ∀ k, sv.ownBlock = some k → w1.heap.size ≤ k ∧ k < w2.heap.size := fun k hk => hl.2.lt k hk
      have hbase : (w2.alloc o).ownsRow w.heap.size 53 2 sv (pairs (canon b.2)).length (flat (pairs (canon b.2))) := (ListAt.more (hg.trans g1) hl).2.alloc o
      refine far hbase ?_ (fun k hk => by have := (hb k hk).2; omega)
      cases hsv : sv.ownBlock with
      | none => exact .inl rfl
      | some k =>
        refine .inr fun e0 => ?_
        have h1 := (hb k hsv).1
        have h2 := hlt k e0.symm
        have := g1.le
        omega
theorem rd_own {wr : World} {base : Nat} {O : List (Bx × Value)} {u : Value} (h : wr.ownsRow base 72 3 u O.length (flatO O)) (hs : ∀ p ∈ O, wr.ownsRow base 53 2 p.2 (pairs (canon p.1.2)).length (flat (pairs (canon p.1.2)))) : RdF wr u ((O.map (·.1)).map boxI) := by
  obtain ⟨hl, h⟩ := h
  rcases h with ⟨rfl, h0⟩ | ⟨g, cap, cur, rfl, _, hg, hn, _, hz, ht⟩
  · have : O = [] := List.eq_nil_of_length_eq_zero h0
    subst this
    exact RdF.nil _
  · refine ⟨some ⟨g, 0, none⟩, cap, by simp, by simpa using hn, fun hne => ⟨g, 0, rfl, Blk_lt hg, fun i p hp => ?_⟩⟩
    simp only [List.map_map, List.getElem?_map, Option.map_eq_some_iff] at hp
    obtain ⟨q, hq, rfl⟩ := hp
    have hi : i < O.length := (List.getElem?_eq_some_iff.1 hq).1
    have hf := flatO_at O i q hq
    rw [← ht] at hf
    have key : ∀ j, j < O.length * 3 → wr.cell? ⟨g, 0 + j, none⟩ = (cur.toList.take (O.length * 3))[j]? := by
      intro j hj
      rw [List.getElem?_take_of_lt hj]
      simp [World.cell?, hg]
    have k2 := key (i * 3 + 1) (by omega)
    have k3 := key (i * 3 + 2) (by omega)
    rw [← Nat.add_assoc] at k2 k3
    exact ⟨q.2, (key (i * 3) (by omega)).trans hf.1, k2.trans hf.2.1, k3.trans hf.2.2, Rd2.own (hs q (List.mem_of_getElem? hq))⟩
theorem OutAt.rd {w wr : World} {O : List (Bx × Value)} {u : Value} (h : OutAt w wr O u) : RdF wr u ((O.map (·.1)).map boxI) := rd_own h.2.1 (fun p hp => (h.2.2 p hp).1)
theorem outAt_nil (w : World) : OutAt w w [] (.slice none 0 0) := ⟨Gr.refl _, World.ownsRow_nil _ _ _ _, fun p hp => by cases hp⟩

theorem fspans_at (B : Nat) (y n : Int) (m : Nat) (w : World) (hm : m < 2 ^ 32) (h : Three w B y n (.int .u64 (m : Int))) :
    Calls Try.prog 61 #[.int .u64 m] w fun e w' => ∃ a c, e = .returned (.slice a (pairs (canon m)).length c) ∧ ListAt w w' (canon m) (.slice a (pairs (canon m)).length c) ∧ B < w'.heap.size ∧
      w'.cell? ⟨B, 0, none⟩ = some (.int .i64 y) ∧ w'.cell? ⟨B, 1, none⟩ = some (.int .i64 n) ∧ w'.cell? ⟨B, 2, none⟩ = some (.int .u64 (m : Int)) :=
  (fspans_any m w hm).mono fun e w' ⟨u, he, hu⟩ => by
    obtain ⟨a, c, rfl, _⟩ := own_form hu.2
    exact ⟨a, c, he, hu, h.gr hu.1⟩

set_option maxHeartbeats 2000000 in
set_option maxRecDepth 100000 in
theorem boxes_any (T : Nat → Nat) (w : World) (hT : ∀ t, t < 16 → T t < 2 ^ 32) :
    Calls Try.prog 36 #[.agg (tArr T)] w fun e w' => ∃ u O, e = .returned u ∧ Gr w w' ∧ (∃ wl, Gr w wl ∧ OutAt wl w' O u) ∧ OkF (O.map (·.1)) ∧ O.length ≤ (blkT T 16).length ∧ ∀ t, t < 16 → tabF (O.map (·.1)) t = T t := by
  obtain ⟨i0, hi0, hz0, hz1, hz2⟩ := info_parts box_info
  have HS : Hid ((Try.prog.info? 64).map (·.size) = some (tArr T).size) := by rw [tArr_size]; exact table_info
  have HT := Lib.hid hT
  clear hT
  go_enter Try.func36, Try.ntmps36
  go_wp2_with (refine wpList_load_row rfl 64 _ rfl w.heap.size rfl 64 (tArr T) (0, 0) _ (heap_alloc_new _ _) Try.underlying64 rfl HS.out ?_)
  refine (blocks_any T _).mono ?_
  rintro e w1 ⟨u, rfl, hu⟩
  have R1 := Lib.hid hu.rd
  have G1 := ((Gr.refl w).alloc _).trans hu.1
  clear hu
  go_wp2_with fail
  go_loopw [3, 10] (fun v ii wr => ∃ (i : Nat) (M : List Bx), i ≤ 4 ∧ ii = .int .i64 i ∧ Gr w wr ∧ Rd3 wr v M ∧ OkF M ∧ M.length ≤ (blkT T 16).length ∧ (∀ t, t < 16 → tabF M t = T t)) (fun _ ii _ => 4 - (intOf ii).toNat)
  case atStart => exact ⟨0, blkT T 16, by omega, rfl, G1, R1.out, blkT_ok HT.out (by omega), Nat.le_refl _, fun t ht => by rw [tab_blkT T ht 16 (by omega), if_pos ht]⟩
  case round =>
    clear G1 R1
    obtain ⟨i, M, hi, rfl, hg, hrd, hM, hMl, hMt⟩ := hrel
    have hb16 := blkT_len T 16
    have HM := Lib.hid hM
    have HMt := Lib.hid hMt
    have HR := Lib.hid hrd
    clear hM hMt
    by_cases hlt : i < 4
    · have hp : wrap64 (2 ^ i) = ((2 ^ i : Nat) : Int) := by
        have h1 := pow16 i hlt
        have h2 : ((2 ^ i : Nat) : Int) = (2 : Int) ^ i := by simp
        rw [← h2]
        generalize 2 ^ i = x at *
        unfold wrap64
        omega
      have hi4 : (i : Int) < 4 := by omega
      clear hrd
      go_wp2_with fail
      rw [hp]
      refine (merge_any _ M i _ HR.out (by omega) HM.out hlt).mono ?_
      rintro e w2 ⟨u2, M2, rfl, hb2, hm2⟩
      have R2 := Lib.hid hb2.rd
      have G2 := hg.trans hb2.1
      have H2 := Lib.hid hm2
      clear hb2 hm2 hp
      go_wp2_with fail
      go_roundw
      case rel => exact ⟨i + 1, M2, by omega, by go_num, G2, R2.out, H2.out.1, by have := H2.out.2.1; omega, fun t ht => by rw [H2.out.2.2 t ht, List.take_length]; exact HMt.out t ht⟩
      case measure => simp [intOf]; omega
    · obtain rfl : i = 4 := by omega
      obtain ⟨a, cp, rfl, hcp, hx⟩ := hrd
      have HX := Lib.hid hx
      have hlen' : (M.length : Int) ≤ 16 := by omega
      clear hx
      generalize wr = wl at *
      go_wp2_with fail
      go_loopw [5, 20] (fun v kk wr => ∃ (k : Nat) (O : List (Bx × Value)), k ≤ M.length ∧ kk = .int .i64 k ∧ O.map (·.1) = M.take k ∧ OutAt wl wr O v) (fun _ kk _ => M.length - (intOf kk).toNat)
      case atStart => exact ⟨0, [], by omega, rfl, rfl, outAt_nil _⟩
      case round =>
        obtain ⟨k, O, hk, rfl, hO, hat⟩ := hrel
        have hOl : k = O.length := by have := congrArg List.length hO; simp at this; omega
        subst hOl
        have HO := Lib.hid hO
        have HA := Lib.hid hat
        clear hO
        generalize wr = wo at *
        by_cases hlt : O.length < M.length
        · obtain ⟨⟨⟨y, n⟩, m⟩, hp⟩ : ∃ p, M[O.length]? = some p := ⟨_, List.getElem?_eq_getElem hlt⟩
          obtain ⟨b, off, rfl, hb, hcell⟩ := HX.out (by intro e; rw [e] at hlt; simp at hlt)
          obtain ⟨c1, c2, c3⟩ := hcell O.length _ hp
          have hgl := hat.1
          rw [← hgl.cells.1 b _ hb] at c1 c2 c3
          simp only at c1 c2 c3
          have hbr : b < wo.heap.size := Nat.lt_of_lt_of_le hb hgl.le
          have hm32 := Lib.hid (HM.out _ (List.mem_of_getElem? hp)).2
          have hk16 : (O.length : Int) < 16 := by omega
          have HP := Lib.hid hp
          obtain ⟨ua, uc, rfl, huc⟩ := own_form hat.2.1
          clear hcell hp hat
          go_wp2_with fail
          have T1 := Lib.hid (Three.new wo y n (.int .u64 (m : Int)) 103)
          have HA1 := Lib.hid (HA.out.2.1.alloc (.cells #[.int .i64 (y : Int), .int .i64 (n : Int), .int .u64 (m : Int)] 103)).drew
          have GA : Hid (Gr wo (wo.alloc (.cells #[.int .i64 (y : Int), .int .i64 (n : Int), .int .u64 (m : Int)] 103)).drew) := ((Gr.refl wo).alloc _).drew
          have HBN : Hid (∀ kk, (Value.slice ua O.length uc).ownBlock = some kk → kk < wo.heap.size) := fun kk hkk => (HA.out.2.1.lt kk hkk).2
          have hbase := HA.out.1.le
          clear c1 c2 c3
          generalize wo.alloc (.cells #[.int .i64 (y : Int), .int .i64 (n : Int), .int .u64 (m : Int)] 103) = W1 at *
          generalize hBB : wo.heap.size = BB at *
          have hag : (Value.slice ua O.length uc).ownBlock ≠ some BB := fun e => by have := HBN.out _ e; omega
          clear hBB
          have T1d : Hid (Three W1.drew BB y n (.int .u64 (m : Int))) := T1.out.gr ((Gr.refl _).drew)
          obtain ⟨t1, t2, t3, t4⟩ := T1.out
          go_region_held3 (fun x => x.cell? ⟨BB, 0, none⟩ = some (.int .i64 (y : Int)) ∧ x.cell? ⟨BB, 1, none⟩ = some (.int .i64 (n : Int)) ∧ x.cell? ⟨BB, 2, none⟩ = some (.int .u64 (m : Int)))
            (first
              | go_keep
              | (go_split_ands
                 refine ⟨?_, ?_, ?_⟩
                 · (rw [hgrow.cell_far _ (by simp; omega) (Ne.symm hag)]; simp [go_sem, *])
                 · (rw [hgrow.cell_far _ (by simp; omega) (Ne.symm hag)]; simp [go_sem, *])
                 · (rw [hgrow.cell_far _ (by simp; omega) (Ne.symm hag)]; simp [go_sem, *])))
            (first
              | (go_at_call 61; refine (fspans_at BB _ _ m _ hm32.out T1d.out).mono ?_; rintro e w2 ⟨sa, sc, rfl, hls, hBl, k1, k2, k3⟩)
              | (refine step_append_lies _ (by rfl) _ _ _ (by rfl) wl.heap.size 72 i0 _ 3 40 Try.underlying27 hi0 hz0 hz1 hz2 rfl (by omega) (.slice ua O.length uc) O.length (flatO O) (by rfl) ((own_gr HA1.out hls.1).alloc _)
                  ⟨w2.heap.size, 0, none⟩ 1 1 [.int .i64 (y : Int), .int .i64 (n : Int), .slice sa (pairs (canon m)).length sc] (by rfl) (by rfl) (new3 _ _ _ _ _) (by simp [Value.oneCell'])
                  (by omega) (by simp only [maxLen]; omega) (by omega) (by simp; omega) (w2.heap.size + 1) (by simp) ?_; intro gg cap w3 hown1 hgrow hat hlt3))
          have HNEW := Lib.hid (HA.out.snoc (b := ((y, n), m)) GA.out hls hown1 hgrow hat)
          have HOM : Hid ((O ++ [(((y, n), m), Value.slice sa (pairs (canon m)).length sc)]).map (·.1) = M.take (O.length + 1)) := by
            have h1 := HP.out
            obtain ⟨hk1, e1⟩ := List.getElem?_eq_some_iff.1 h1
            unfold Hid
            rw [List.map_append, HO.out, List.take_succ_eq_append_getElem hk1, e1]
            rfl
          clear hls hown1 hgrow hat k1 k2 k3
          go_wp2_with fail
          go_roundw
          case rel =>
            (repeat apply Exists.intro)
            refine ⟨?_, rfl⟩
            exact ⟨O.length + 1, _, by omega, by go_num, HOM.out, HNEW.out⟩
          case measure => simp [intOf]; omega
        · have hkM : O.length = M.length := by omega
          rw [hkM] at HO
          have HG := Lib.hid (hg.trans hat.1)
          have HG2 := Lib.hid hg
          rw [List.take_length] at HO
          clear hat hg
          go_wp2_with fail
          go_ret
          exact ⟨_, O, rfl, HG.out, ⟨wl, HG2.out, HA.out⟩, by rw [HO.out]; exact HM.out, by omega, fun t ht => by rw [HO.out]; exact HMt.out t ht⟩
end Go.Proofs.Ytbodadddcbbjeaa
