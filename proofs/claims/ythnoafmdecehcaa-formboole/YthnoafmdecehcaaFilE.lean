/- The contract of package filter's spans; the plain mathematics of blocks and merge. -/
import Derived.Test.YthnoafmdecehcaaFilD
import Derived.Test.YthnoafmdecehcaaSpanO
namespace Rm
open Go Go.RowKit
/-- the numbers of a mask, below k -/
def bitsL (m : Nat) : Nat → List Int
  | 0 => []
  | k + 1 => if m.testBit k then bitsL m k ++ [(k : Int)] else bitsL m k
theorem bitsL_yes {m k : Nat} (h : m.testBit k = true) : bitsL m (k + 1) = bitsL m k ++ [(k : Int)] := by simp [bitsL, h]
theorem bitsL_no {m k : Nat} (h : m.testBit k = false) : bitsL m (k + 1) = bitsL m k := by simp [bitsL, h]
theorem bitsL_len (m : Nat) : ∀ k, (bitsL m k).length ≤ k
  | 0 => Nat.le_refl _
  | k + 1 => by
    have := bitsL_len m k
    unfold bitsL
    split
    · simp; omega
    · omega
theorem bitsL_mem (m : Nat) (x : Int) : ∀ k, x ∈ bitsL m k ↔ ∃ i : Nat, i < k ∧ x = i ∧ m.testBit i = true
  | 0 => by simp [bitsL]
  | k + 1 => by
    unfold bitsL
    split
    · rename_i h
      rw [List.mem_append, bitsL_mem m x k]
      constructor
      · rintro (⟨i, a, b, c⟩ | hx)
        · exact ⟨i, by omega, b, c⟩
        · exact ⟨k, by omega, by simpa using hx, h⟩
      · rintro ⟨i, a, b, c⟩
        rcases Nat.lt_or_ge i k with d | d
        · exact .inl ⟨i, d, b, c⟩
        · obtain rfl : i = k := by omega
          exact .inr (by simp [b])
    · rename_i h
      rw [bitsL_mem m x k]
      constructor
      · rintro ⟨i, a, b, c⟩; exact ⟨i, by omega, b, c⟩
      · rintro ⟨i, a, b, c⟩
        refine ⟨i, ?_, b, c⟩
        rcases Nat.lt_or_ge i k with d | d
        · exact d
        · obtain rfl : i = k := by omega
          exact absurd c h
theorem bitsL_num (m : Nat) : (bitsL m 32).all numB = true := by
  rw [List.all_eq_true]
  intro x hx
  obtain ⟨i, a, rfl, _⟩ := (bitsL_mem m x 32).1 hx
  simp [numB]
  omega
theorem foldI_bit (l : List Int) (m i : Nat) : (l.foldl (fun m x => m ||| 2 ^ x.toNat) m).testBit i = true ↔ m.testBit i = true ∨ ∃ x ∈ l, x.toNat = i := by
  induction l generalizing m with
  | nil => simp
  | cons x l ih =>
    rw [List.foldl_cons, ih, Nat.testBit_or, Nat.testBit_two_pow]
    simp [or_assoc]
theorem maskI_bit (l : List Int) (i : Nat) : (maskI l).testBit i = true ↔ ∃ x ∈ l, x.toNat = i := by
  unfold maskI
  rw [foldI_bit]
  simp
theorem maskI_bitsL {m : Nat} (h : m < 2 ^ 32) : maskI (bitsL m 32) = m := by
  apply Nat.eq_of_testBit_eq
  intro i
  rw [Bool.eq_iff_iff, maskI_bit]
  constructor
  · rintro ⟨x, hx, rfl⟩
    obtain ⟨j, _, rfl, hj⟩ := (bitsL_mem m x 32).1 hx
    simpa using hj
  · intro hi
    refine ⟨(i : Int), (bitsL_mem m i 32).2 ⟨i, ?_, rfl, hi⟩, by simp⟩
    rcases Nat.lt_or_ge i 32 with c | c
    · exact c
    · have := Nat.testBit_lt_two_pow (Nat.lt_of_lt_of_le h (Nat.pow_le_pow_right (by omega) c))
      rw [this] at hi; cases hi
/-- the cells of a list of integers -/
def flat1 (l : List Int) : List Value := l.map fun x => .int .i64 x
theorem new1 (w : World) (v : Value) (t : TypeId) : ∀ j u, ([v] : List Value)[j]? = some u → (w.alloc (.cells #[v] t)).cell? ((⟨w.heap.size, 0, none⟩ : Addr).add j) = some u := by
  intro j u hu
  match j with
  | 0 => simp at hu; subst hu; simp [go_sem, Addr.add]
  | j + 1 => simp at hu
end Rm
namespace Go.Proofs.Ythnoafmdecehcaa
open Go.RowKit Rm
set_option linter.unusedVariables false
theorem int_info : (Try.prog.info? 3).map (fun i => (i.zero, i.size, i.bytes)) = some (some (.int .i64 0), 1, 8) := by kernel_rfl
theorem Rd1.own {w : World} {base : Nat} {e : TypeId} {v : Value} {l : List Int} (h : w.ownsRow base e 1 v l.length (flat1 l)) : Rd1 w v l := by
  obtain ⟨hl, h⟩ := h
  rcases h with ⟨rfl, h0⟩ | ⟨g, cap, cur, rfl, _, hg, hn, _, hs, ht⟩
  · have : l = [] := List.eq_nil_of_length_eq_zero h0
    subst this
    exact ⟨none, 0, rfl, Nat.le_refl _, fun h => absurd rfl h⟩
  · refine ⟨_, _, rfl, hn, fun hne => ?_⟩
    refine ⟨g, 0, rfl, Blk_lt hg, fun i x hp => ?_⟩
    have hi : i < l.length := (List.getElem?_eq_some_iff.1 hp).1
    have hf : (flat1 l)[i]? = some (.int .i64 x) := by simp [flat1, hp]
    rw [← ht] at hf
    rw [List.getElem?_take_of_lt (by omega)] at hf
    simpa [World.cell?, hg] using hf

set_option maxHeartbeats 1000000 in
set_option maxRecDepth 100000 in
theorem fspans_any (m : Nat) (w : World) (hm : m < 2 ^ 32) :
    Calls Try.prog 91 #[.int .u64 m] w fun e w' => ∃ u, e = .returned u ∧ ListAt w w' (canon m) u := by
  obtain ⟨i0, hi0, hz0, hz1, hz2⟩ := info_parts int_info
  have HM := Lib.hid hm
  clear hm
  go_enter Try.func91, Try.ntmps91
  go_wp2
  go_loopw [3, 7] (fun v i wr => ∃ n : Nat, n ≤ 32 ∧ i = .int .i64 n ∧ Gr w wr ∧ wr.ownsRow w.heap.size 3 1 v (bitsL m n).length (flat1 (bitsL m n))) (fun _ i _ => 32 - (intOf i).toNat)
  case atStart => exact ⟨0, by omega, rfl, Gr.refl _, World.ownsRow_nil _ _ _ _⟩
  case round =>
    obtain ⟨n, hn, rfl, hg, hown⟩ := hrel
    have hlen := bitsL_len m n
    by_cases hlt : n < 32
    · cases hbit : m.testBit n
      · have HL := Lib.hid (bitsL_no hbit)
        have HO := Lib.hid hown
        clear hown
        go_wp2_with fail
        refine (fhas_any m n _ HM.out hlt).mono ?_
        rw [hbit]
        rintro e w1 ⟨rfl, rfl⟩
        go_wp2_with fail
        go_roundw
        case rel => exact ⟨n + 1, by omega, by go_num, hg, by rw [HL.out]; exact HO.out⟩
        case measure => simp [intOf]; omega
      · obtain ⟨a, c, rfl, hc⟩ := own_form hown
        have HO := Lib.hid hown
        have HP : Hid (flat1 (bitsL m (n + 1)) = flat1 (bitsL m n) ++ [.int .i64 (n : Int)] ∧ (bitsL m (n + 1)).length = (bitsL m n).length + 1) := by
          rw [bitsL_yes hbit]
          exact ⟨by simp [flat1], by simp⟩
        clear hown hc
        generalize (bitsL m n).length = len at *
        go_wp2_with fail
        refine (fhas_any m n _ HM.out hlt).mono ?_
        rw [hbit]
        rintro e w1 ⟨rfl, rfl⟩
        go_wp2_with (at_builtin; refine wpList_append_own _ rfl (.tmp 13) (.tmp 15) 61 rfl w.heap.size 3 i0 _ 1 8 Try.underlying61 hi0 hz0 hz1 hz2 rfl (by omega) _ _ _ rfl (HO.out.alloc _) ⟨wr.heap.size, 0, none⟩ 1 1 [.int .i64 (n : Int)] rfl rfl (new1 _ _ _) (by simp [Value.oneCell']) (by simp only [maxLen]; omega) (by omega) (by have := hg.le; simp; omega) ?_; intro v1 w1 hown hg1 _)
        go_roundw
        case rel => exact ⟨n + 1, by omega, by go_num, (hg.alloc _).grown hg1 (fun k hk => (HO.out.lt k hk).1), by rw [HP.out.1, HP.out.2]; exact hown⟩
        case measure => simp [intOf]; omega
    · obtain rfl : n = 32 := by omega
      have HO := Lib.hid (Rd1.own hown)
      clear hown
      go_wp2_with fail
      refine (of_any _ _ _ HO.out (by omega)).mono ?_
      rintro e w1 (⟨h0, _⟩ | ⟨h0, u, rfl, hu, _⟩)
      · exact absurd (bitsL_num m) (by rw [h0]; simp)
      · rw [maskI_bitsL HM.out] at hu
        clear h0
        go_wp2_with fail
        go_ret
        exact ⟨u, rfl, hu.more hg⟩
end Go.Proofs.Ythnoafmdecehcaa
