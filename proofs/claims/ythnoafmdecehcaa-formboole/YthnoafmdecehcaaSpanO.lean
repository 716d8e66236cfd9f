/- The contract of span.Of; slices of integers. -/
import Derived.Test.YthnoafmdecehcaaSpanI
namespace Rm
open Go Go.RowKit
/-- the set of the integers of a list -/
def maskI (l : List Int) : Nat := l.foldl (fun m x => m ||| 2 ^ x.toNat) 0
theorem maskI_take {l : List Int} {k : Nat} {x : Int} (h : l[k]? = some x) : maskI (l.take (k + 1)) = maskI (l.take k) ||| 2 ^ x.toNat := by
  obtain ⟨hk, e⟩ := List.getElem?_eq_some_iff.1 h
  rw [List.take_succ_eq_append_getElem hk, e]
  simp [maskI]
theorem all_take {l : List Int} {k : Nat} {x : Int} (h : l[k]? = some x) (p : Int → Bool) : (l.take (k + 1)).all p = ((l.take k).all p && p x) := by
  obtain ⟨hk, e⟩ := List.getElem?_eq_some_iff.1 h
  rw [List.take_succ_eq_append_getElem hk, e]
  simp
theorem all_not {l : List Int} {k : Nat} {x : Int} (h : l[k]? = some x) (p : Int → Bool) (hp : p x = false) : l.all p = false := by
  cases ha : l.all p
  · rfl
  · rw [List.all_eq_true] at ha
    rw [ha x (List.mem_of_getElem? h)] at hp
    cases hp
theorem foldI_lt (l : List Int) (m : Nat) (hm : m < 2 ^ 32) (h : l.all numB = true) : l.foldl (fun m x => m ||| 2 ^ x.toNat) m < 2 ^ 32 := by
  induction l generalizing m with
  | nil => exact hm
  | cons x l ih =>
    simp only [List.all_cons, Bool.and_eq_true] at h
    refine ih _ (Nat.or_lt_two_pow hm (Nat.pow_lt_pow_right (by omega) ?_)) h.2
    have := h.1
    simp [numB] at this
    omega
theorem maskI_lt {l : List Int} (h : l.all numB = true) : maskI l < 2 ^ 32 := foldI_lt l 0 (by decide) h
end Rm
namespace Go.Proofs.Ythnoafmdecehcaa
open Go.RowKit Rm
set_option linter.unusedVariables false
/-- a slice of integers reads as a list -/
def Rd1 (w : World) (v : Value) (l : List Int) : Prop :=
  ∃ a c, v = .slice a l.length c ∧ l.length ≤ c ∧ (l ≠ [] → ∃ b off, a = some ⟨b, off, none⟩ ∧ b < w.heap.size ∧ ∀ i x, l[i]? = some x → w.cell? ⟨b, off + i, none⟩ = some (.int .i64 x))
theorem Rd1.gr {w w' : World} {v : Value} {l : List Int} (h : Rd1 w v l) (g : Gr w w') : Rd1 w' v l := by
  obtain ⟨a, c, e, hc, h⟩ := h
  refine ⟨a, c, e, hc, fun hl => ?_⟩
  obtain ⟨b, off, ea, hb, hx⟩ := h hl
  exact ⟨b, off, ea, Nat.lt_of_lt_of_le hb g.le, fun i p hp => (g.cells.1 b _ hb).trans (hx i p hp)⟩
theorem Rd1.alloc {w : World} {v : Value} {l : List Int} (h : Rd1 w v l) (o : Obj) : Rd1 (w.alloc o) v l := h.gr ((Gr.refl w).alloc o)

set_option maxHeartbeats 400000 in
set_option maxRecDepth 100000 in
theorem of_large (v : Value) (l : List Int) (w : World) (hr : Rd1 w v l) (hlen : 400 < l.length) :
    Calls Try.prog 34 #[v] w fun e w' => e = .returned (.tuple #[.slice none 0 0, .int .i64 2]) ∧ Gr w w' := by
  obtain ⟨a, cp, rfl, hcp, hx⟩ := hr
  have hlen' : 400 < (l.length : Int) := by omega
  clear hx
  go_enter Try.func34, Try.ntmps34
  go_wp2_with fail
  go_ret2
  exact ⟨rfl, Gr.refl _⟩

set_option maxHeartbeats 1000000 in
set_option maxRecDepth 100000 in
theorem of_any (v : Value) (l : List Int) (w : World) (hr : Rd1 w v l) (hlen : l.length ≤ 400) :
    Calls Try.prog 34 #[v] w fun e w' => (l.all numB = false ∧ e = .returned (.tuple #[.slice none 0 0, .int .i64 1]) ∧ Gr w w') ∨
      (l.all numB = true ∧ ∃ u, e = .returned (.tuple #[u, .int .i64 0]) ∧ ListAt w w' (canon (maskI l)) u ∧ maskI l < 2 ^ 32) := by
  obtain ⟨a, cp, rfl, hcp, hx⟩ := hr
  have HX := Lib.hid hx
  have hlen' : (l.length : Int) ≤ 400 := by omega
  clear hx
  go_enter Try.func34, Try.ntmps34
  go_wp2_with fail
  go_loopw [4, 12] (fun m i wr => ∃ k : Nat, k ≤ l.length ∧ i = .int .i64 k ∧ m = .int .u32 (maskI (l.take k) : Nat) ∧ Hid ((l.take k).all numB = true) ∧ Gr w wr) (fun _ i _ => l.length - (intOf i).toNat)
  case atStart => exact ⟨0, by omega, rfl, rfl, by simp [Hid], Gr.refl _⟩
  case round =>
    obtain ⟨k, hk, rfl, rfl, hall, hg⟩ := hrel
    generalize wr = wo at *
    by_cases hlt : k < l.length
    · obtain ⟨x, hp⟩ : ∃ p, l[k]? = some p := ⟨_, List.getElem?_eq_getElem hlt⟩
      obtain ⟨b, off, rfl, hb, hcell⟩ := HX.out (by intro e; rw [e] at hlt; simp at hlt)
      have c1 : w.cell? ⟨b, off + k, none⟩ = some (.int .i64 x) := hcell k _ hp
      rw [← hg.cells.1 b _ hb] at c1
      have hbr : b < wo.heap.size := Nat.lt_of_lt_of_le hb hg.le
      have hml := Lib.hid (maskI_lt hall.out)
      have HM := Lib.hid (maskI_take hp)
      have HAT := Lib.hid (all_take hp numB)
      have HNO := Lib.hid (all_not hp numB)
      generalize maskI (l.take k) = m at *
      have hk4 : (k : Int) < 400 := by omega
      clear hcell
      have HP := Lib.hid hp
      clear hp
      cases hn : numB x
      · have HN := Lib.hid (HNO.out hn)
        clear HNO
        go_wp2_with fail
        refine (isNum_any _ _).mono ?_
        rintro e w2 ⟨rfl, rfl⟩
        go_wp2_with fail
        go_ret2
        exact Or.inl ⟨HN.out, rfl, hg⟩
      · obtain ⟨n, rfl⟩ := Int.eq_ofNat_of_zero_le (show 0 ≤ x by simp [numB] at hn; omega)
        have hn32 : n < 32 := by simp [numB] at hn; omega
        have HO := Lib.hid (or_eq m n hml.out hn32)
        have hn32' : (n : Int) < 32 := by omega
        have HA : Hid ((l.take (k + 1)).all numB = true) := by unfold Hid; rw [HAT.out, hall.out, hn]; rfl
        have HM2 : Hid (maskI (l.take (k + 1)) = m ||| 2 ^ n) := HM.out
        clear HNO HAT HM
        go_wp2_with fail
        refine (isNum_any _ _).mono ?_
        rintro e w2 ⟨rfl, rfl⟩
        go_wp2
        go_roundw
        case measure => simp [intOf]; omega
        case rel => exact ⟨k + 1, by omega, by go_num, by rw [HM2.out, ← HO.out, IntKind.wrap_u32'], HA, hg⟩
    · obtain rfl : k = l.length := by omega
      rw [List.take_length] at hall
      rw [List.take_length]
      have HL := Lib.hid (maskI_lt hall.out)
      go_wp2_with fail
      refine (list_any _ _ HL.out).mono ?_
      rintro e w2 ⟨u, rfl, hu⟩
      go_wp2_with fail
      go_ret2
      exact Or.inr ⟨hall.out, _, rfl, hu.more hg, HL.out⟩
end Go.Proofs.Ythnoafmdecehcaa
