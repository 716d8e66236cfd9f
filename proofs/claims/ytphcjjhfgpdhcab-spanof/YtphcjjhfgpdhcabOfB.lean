/- The contracts of slices.Index and Contains over integers; what SpanOf reckons. -/
import Derived.Test.YtphcjjhfgpdhcabConcatI
import Derived.Test.YtphcjjhfgpdhcabKeepW
namespace Rm
open Go Go.RowKit
theorem foldI_bit (l : List Int) (m i : Nat) : (l.foldl (fun m x => m ||| 2 ^ x.toNat) m).testBit i = true ↔ m.testBit i = true ∨ ∃ x ∈ l, x.toNat = i := by
  induction l generalizing m with
  | nil => simp
  | cons x l ih =>
    rw [List.foldl_cons, ih, Nat.testBit_or, Nat.testBit_two_pow]
    simp [or_assoc]
theorem maskI_bit (l : List Int) (i : Nat) : (maskI l).testBit i = true ↔ ∃ x ∈ l, x.toNat = i := by
  unfold maskI
  rw [foldI_bit]
  simp
theorem maskI_same {l r : List Int} (h : ∀ x, x ∈ l ↔ x ∈ r) : maskI l = maskI r := by
  apply Nat.eq_of_testBit_eq
  intro i
  rw [Bool.eq_iff_iff, maskI_bit, maskI_bit]
  simp only [h]
theorem has_mem {l : List Int} (h : l.all numB = true) (n : Int) : Go.Proofs.Ytphcjjhfgpdhcab.bitB (maskI l) n = decide (n ∈ l) := by
  rw [Bool.eq_iff_iff]
  unfold Go.Proofs.Ytphcjjhfgpdhcab.bitB
  simp only [Bool.and_eq_true, decide_eq_true_eq, maskI_bit]
  rw [List.all_eq_true] at h
  constructor
  · rintro ⟨a, x, hx, e⟩
    have hb := h x hx
    simp [numB] at a hb
    have : x = n := by omega
    rw [← this]; exact hx
  · intro hn
    exact ⟨h n hn, n, hn, rfl⟩
/-- the numbers from 0 to 31 by numbers of any sort -/
def remL (l : List Int) : List Int := l.map fun x => Go.Proofs.Ytphcjjhfgpdhcab.remB x 32
theorem remL_num (l : List Int) : (remL l).all numB = true := by
  rw [List.all_eq_true]
  intro x hx
  simp only [remL, List.mem_map] at hx
  obtain ⟨y, _, rfl⟩ := hx
  have := Go.Proofs.Ytphcjjhfgpdhcab.rem_lt y 32 (by omega)
  simp [numB]
  omega
theorem remL_take {l : List Int} {k : Nat} {x : Int} (h : l[k]? = some x) : remL (l.take (k + 1)) = remL (l.take k) ++ [Go.Proofs.Ytphcjjhfgpdhcab.remB x 32] := by
  obtain ⟨hk, e⟩ := List.getElem?_eq_some_iff.1 h
  rw [List.take_succ_eq_append_getElem hk, e]
  simp [remL]
theorem remL_len (l : List Int) : (remL l).length = l.length := by simp [remL]
/-- the same list, turned -/
def turnL (R : List Int) (t : Nat) : Nat → List Int
  | 0 => []
  | k + 1 => turnL R t k ++ [R.getD ((k + t) % R.length) 0]
theorem turnL_len (R : List Int) (t : Nat) : ∀ k, (turnL R t k).length = k
  | 0 => rfl
  | k + 1 => by simp [turnL, turnL_len R t k]
theorem turnL_mem (R : List Int) (t : Nat) (h : 0 < R.length) : ∀ k, ∀ x ∈ turnL R t k, x ∈ R
  | 0, x, hx => by cases hx
  | k + 1, x, hx => by
    rcases List.mem_append.1 hx with hx | hx
    · exact turnL_mem R t h k x hx
    · have hlt : (k + t) % R.length < R.length := Nat.mod_lt _ h
      obtain rfl : x = R.getD ((k + t) % R.length) 0 := by simpa using hx
      simp only [List.getD, List.getElem?_eq_getElem hlt, Option.getD_some]
      exact List.getElem_mem hlt
theorem turn_mask (R : List Int) (t k : Nat) (h : 0 < R.length) : maskI (turnL R t k ++ R) = maskI R := maskI_same fun x => by
  rw [List.mem_append]
  exact ⟨fun a => a.elim (turnL_mem R t h k x) id, fun a => .inr a⟩
theorem turn_num (R : List Int) (t k : Nat) (h : 0 < R.length) (hR : R.all numB = true) : (turnL R t k ++ R).all numB = true := by
  rw [List.all_eq_true] at *
  intro x hx
  rcases List.mem_append.1 hx with hx | hx
  · exact hR x (turnL_mem R t h k x hx)
  · exact hR x hx
def flat1 (l : List Int) : List Value := l.map fun x => .int .i64 x
theorem new1 (w : World) (v : Value) (t : TypeId) : ∀ j u, ([v] : List Value)[j]? = some u → (w.alloc (.cells #[v] t)).cell? ((⟨w.heap.size, 0, none⟩ : Addr).add j) = some u := by
  intro j u hu
  match j with
  | 0 => simp at hu; subst hu; simp [go_sem, Addr.add]
  | j + 1 => simp at hu
end Rm
namespace Go.Proofs.Ytphcjjhfgpdhcab
open Go.RowKit Rm
set_option linter.unusedVariables false
theorem Blk_lt' {w : World} {g : Nat} {o : Obj} (h : w.heap[g]? = some o) : g < w.heap.size := by
  rcases Nat.lt_or_ge g w.heap.size with c | c
  · exact c
  · rw [Array.getElem?_eq_none c] at h; cases h
theorem Rd1.own {w : World} {base : Nat} {e : TypeId} {v : Value} {l : List Int} (h : w.ownsRow base e 1 v l.length (flat1 l)) : Rd1 w v l := by
  obtain ⟨hl, h⟩ := h
  rcases h with ⟨rfl, h0⟩ | ⟨g, cap, cur, rfl, _, hg, hn, _, hs, ht⟩
  · have : l = [] := List.eq_nil_of_length_eq_zero h0
    subst this
    exact ⟨none, 0, rfl, Nat.le_refl _, fun h => absurd rfl h⟩
  · refine ⟨_, _, rfl, hn, fun hne => ?_⟩
    refine ⟨g, 0, rfl, Blk_lt' hg, fun i x hp => ?_⟩
    have hi : i < l.length := (List.getElem?_eq_some_iff.1 hp).1
    have hf : (flat1 l)[i]? = some (.int .i64 x) := by simp [flat1, hp]
    rw [← ht] at hf
    rw [List.getElem?_take_of_lt (by omega)] at hf
    simpa [World.cell?, hg] using hf

/-- what Index answers -/
def IdxI (l : List Int) (n : Int) (w : World) (e : Ending) (w' : World) : Prop :=
  ((n ∈ l ∧ ∃ i : Nat, e = .returned (.int .i64 (i : Int))) ∨ (n ∉ l ∧ e = .returned (.int .i64 (-1)))) ∧ w = w'
set_option maxHeartbeats 1000000 in
set_option maxRecDepth 100000 in
theorem index_int (v : Value) (l : List Int) (n : Int) (w : World) (hr : Rd1 w v l) (hl : l.length ≤ 100) :
    Calls Try.prog 16 #[v, .int .i64 n] w (IdxI l n w) := by
  obtain ⟨a, cp, rfl, hcp, hx⟩ := hr
  have HX := Lib.hid hx
  have hl' : (l.length : Int) ≤ 100 := by omega
  clear hx
  go_enter Try.func16, Try.ntmps16
  go_wp2
  go_loop [8] (fun i => ∃ k : Nat, k ≤ l.length ∧ i = .int .i64 k ∧ Hid (∀ j, j < k → l[j]? ≠ some n)) (fun i => l.length - (intOf i).toNat)
  case atStart => exact ⟨0, by omega, rfl, fun j hj => by omega⟩
  case round =>
    obtain ⟨k, hk, rfl, hno⟩ := hrel
    by_cases hlt : k < l.length
    · obtain ⟨x, hp⟩ : ∃ p, l[k]? = some p := ⟨_, List.getElem?_eq_getElem hlt⟩
      obtain ⟨b, off, rfl, hb, hcell⟩ := HX.out (by intro e; rw [e] at hlt; simp at hlt)
      have c1 := hcell k x hp
      have hk16 : (k : Int) < 100 := by omega
      have HP := Lib.hid hp
      clear hcell hp
      cases he : (n == x)
      · have HN : Hid (∀ j, j < k + 1 → l[j]? ≠ some n) := by
          intro j hj
          rcases Nat.lt_or_ge j k with c | c
          · exact hno.out j c
          · obtain rfl : j = k := by omega
            rw [HP.out]
            intro e
            simp at he
            exact he (Option.some.inj e).symm
        go_wp2
        go_round
        case rel => exact ⟨k + 1, by omega, by go_num, HN⟩
        case measure => simp [intOf]; omega
      · go_wp2
        go_ret
        have hnx : n = x := by simpa using he
        exact ⟨.inl ⟨by rw [hnx]; exact List.mem_of_getElem? HP.out, k, rfl⟩, rfl⟩
    · obtain rfl : k = l.length := by omega
      go_wp2
      go_ret
      refine ⟨.inr ⟨fun hm => ?_, rfl⟩, rfl⟩
      obtain ⟨j, hj⟩ := List.mem_iff_getElem?.1 hm
      exact hno.out j (List.getElem?_eq_some_iff.1 hj).1 hj

set_option maxHeartbeats 1000000 in
set_option maxRecDepth 100000 in
theorem contains_int (v : Value) (l : List Int) (n : Int) (w : World) (hr : Rd1 w v l) (hl : l.length ≤ 100) :
    Calls Try.prog 9 #[v, .int .i64 n] w fun e w' => e = .returned (.bool (decide (n ∈ l))) ∧ w = w' := by
  have HR := Lib.hid hr
  clear hr
  cases hd : decide (n ∈ l)
  · have hm : n ∉ l := by simpa using hd
    have HM := Lib.hid hm
    clear hm hd
    go_enter Try.func9, Try.ntmps9
    go_wp2_with fail
    refine (index_int _ l n _ HR.out hl).mono ?_
    rintro e w1 ⟨hc, rfl⟩
    rcases hc with ⟨hm, _⟩ | ⟨_, rfl⟩
    · exact absurd hm HM.out
    · go_wp2_with fail
      go_ret
      exact ⟨rfl, rfl⟩
  · have hm : n ∈ l := by simpa using hd
    have HM := Lib.hid hm
    clear hm hd
    go_enter Try.func9, Try.ntmps9
    go_wp2_with fail
    refine (index_int _ l n _ HR.out hl).mono ?_
    rintro e w1 ⟨hc, rfl⟩
    rcases hc with ⟨_, i, rfl⟩ | ⟨hm, _⟩
    · go_wp2_with fail
      go_ret
      exact ⟨rfl, rfl⟩
    · exact absurd HM.out hm
end Go.Proofs.Ytphcjjhfgpdhcab
