/- The contracts of slices.Grow at nil and of slices.Concat, over integers. -/
import Derived.Test.YtphcjjhfgpdhcabOfO
import Derived.Lib.AppendZerosOnto
import Derived.Lib.AppendZeros
import Derived.Laws.AppendOwnNone
namespace Go.Proofs.Ytphcjjhfgpdhcab
open Go.RowKit Rm
set_option linter.unusedVariables false

theorem cc_info : (Try.prog.info? 3).map (fun i => (i.zero, i.size, i.bytes)) = some (some (.int .i64 0), 1, 8) := by kernel_rfl
/-- an empty slice with room, in new memory -/
def RoomAt (w w' : World) (v : Value) : Prop := Gr w w' ∧ w'.ownsRow w.heap.size 3 1 v 0 []

set_option maxHeartbeats 1000000 in
set_option maxRecDepth 100000 in
theorem grow_nil (n : Nat) (w : World) (hn : n ≤ 1000) :
    Calls Try.prog 13 #[.slice none 0 0, .int .i64 (n : Int)] w fun e w' => ∃ v, e = .returned v ∧ RoomAt w w' v := by
  obtain ⟨i0, hi0, hz0, hz1, hz2⟩ := info_parts cc_info
  by_cases h0 : n = 0
  · subst h0
    go_enter Try.func13, Try.ntmps13
    go_wp2
    go_ret
    exact ⟨_, rfl, Gr.refl _, World.ownsRow_nil _ _ _ _⟩
  · have hold : (Builtin.firstCells i0.size 0 (.slice none 0 0)).run Try.prog w.drew = .ok ([] : List Value).toArray w.drew := run_firstCells_none w.drew i0.size 0 0 0
    have hrz : ∀ ty, (Builtin.append_ #[22, 3] ty #[.slice none 0 0, .int .i64 (n : Int)]).run Try.prog w = _ := fun ty =>
      Lib.run_append_grow_zeros w 22 3 ty 3 i0 _ .i64 .i64 Try.underlying22 Try.underlying3 hi0 hz0 none 0 0 [] hold n (by omega) (by rw [hz1]; omega) (by omega) (by omega)
        (by rw [hz2]; omega) (by rw [hz2]; exact growslice_fits (by omega) (by omega))
    have HRZ := Lib.hid hrz
    have hGn : 0 + n ≤ grownCap w (0 + n) 0 3 := grownCap_ge w _ _ _
    have hGm : grownCap w (0 + n) 0 3 ≤ maxLen := grownCap_le_maxLen w (0 + n) 0 3 (by unfold maxLen; omega)
    rw [Nat.zero_add] at hGn hGm
    have h1 : (0 : Int) < (n : Int) := by omega
    have h2 : ¬ ((n : Int) < 0) := by omega
    clear hold hrz hz0 hi0
    go_enter Try.func13, Try.ntmps13
    go_wp2_with (at_builtin; refine Lib.wpList_append_run _ rfl _ _ _ _ rfl _ _ rfl rfl _ _ (HRZ.out _) ?_)
    go_ret
    refine ⟨_, rfl, ((Gr.refl w).drew).alloc _, ?_⟩
    have hb : w.heap.size ≤ w.drew.heap.size := Nat.le_refl _
    refine World.ownsRow_made (base := w.heap.size) (e := 3) (size := 1) w.drew _ _ hb hGm ?_
    simp only [Array.size_append, size_zeroCells]
    show n * 1 + (grownCap w n 0 3 - n) * 1 = grownCap w n 0 3 * 1
    omega

/-- what is handed to Concat: the lengths and the cells of each slice -/
def SrcAt (w : World) (bb : Nat) (X : List (Nat × List Value)) : Prop :=
  bb < w.heap.size ∧ ∀ i p, X[i]? = some p → (p.1 = 0 ∧ p.2 = [] ∧ w.cell? ⟨bb, i, none⟩ = some (.slice none 0 0)) ∨ (p.2.length = p.1 * 1 ∧ (∀ u ∈ p.2, u.oneCell' = true) ∧ ∃ b off c, w.cell? ⟨bb, i, none⟩ = some (.slice (some ⟨b, off, none⟩) p.1 c) ∧ b < w.heap.size ∧ ∀ j u, p.2[j]? = some u → w.cell? ⟨b, off + j, none⟩ = some u)
def sumN (X : List (Nat × List Value)) : Nat := (X.map (·.1)).sum
def catN (X : List (Nat × List Value)) : List Value := (X.map (·.2)).flatten
theorem sumN_take {X : List (Nat × List Value)} {k : Nat} {p : Nat × List Value} (h : X[k]? = some p) : sumN (X.take (k + 1)) = sumN (X.take k) + p.1 := by
  obtain ⟨hk, e⟩ := List.getElem?_eq_some_iff.1 h
  rw [List.take_succ_eq_append_getElem hk, e]
  simp [sumN]
theorem catN_take {X : List (Nat × List Value)} {k : Nat} {p : Nat × List Value} (h : X[k]? = some p) : catN (X.take (k + 1)) = catN (X.take k) ++ p.2 := by
  obtain ⟨hk, e⟩ := List.getElem?_eq_some_iff.1 h
  rw [List.take_succ_eq_append_getElem hk, e]
  simp [catN]
theorem sumN_app (a b : List (Nat × List Value)) : sumN (a ++ b) = sumN a + sumN b := by simp [sumN]
theorem sumN_le (X : List (Nat × List Value)) (k : Nat) : sumN (X.take k) ≤ sumN X := by
  have h := sumN_app (X.take k) (X.drop k)
  rw [List.take_append_drop] at h
  omega

set_option maxHeartbeats 2000000 in
set_option maxRecDepth 100000 in
theorem concat_any (X : List (Nat × List Value)) (bb cap : Nat) (w : World) (hX : SrcAt w bb X) (hs : sumN X ≤ 1000) (hl : X.length ≤ 10) :
    Calls Try.prog 7 #[.slice (some ⟨bb, 0, none⟩) X.length cap] w fun e w' => ∃ v, e = .returned v ∧ Gr w w' ∧ w'.ownsRow w.heap.size 3 1 v (sumN X) (catN X) := by
  obtain ⟨i0, hi0, hz0, hz1, hz2⟩ := info_parts cc_info
  have HX := Lib.hid hX
  have HSL := Lib.hid (sumN_le X)
  have hl' : (X.length : Int) ≤ 10 := by omega
  have hbb := hX.1
  clear hX
  go_enter Try.func7, Try.ntmps7
  go_wp2
  go_loop [3, 11] (fun a i => ∃ k : Nat, k ≤ X.length ∧ i = .int .i64 k ∧ a = .int .i64 (sumN (X.take k) : Nat)) (fun _ i => X.length - (intOf i).toNat)
  case atStart => exact ⟨0, by omega, rfl, rfl⟩
  case round =>
    obtain ⟨k, hk, rfl, rfl⟩ := hrel
    by_cases hlt : k < X.length
    · obtain ⟨p, hp⟩ : ∃ p, X[k]? = some p := ⟨_, List.getElem?_eq_getElem hlt⟩
      rcases HX.out.2 k p hp with ⟨z1, z2, c1⟩ | ⟨-, -, b, off, c, c1, -, -⟩
      · have HS := Lib.hid (sumN_take hp)
        rw [z1] at HS
        have hs1 := HSL.out k
        have hk10 : (k : Int) < 10 := by omega
        clear hp z1 z2
        generalize sumN (X.take k) = sk at *
        have hs3 : (sk : Int) ≤ 1000 := by omega
        have hs4 : ¬ ((sk : Int) < 0) := by omega
        go_wp2_with fail
        go_round
        case rel => exact ⟨k + 1, by omega, by go_num, by rw [HS.out]; simp⟩
        case measure => simp [intOf]; omega
      · have HS := Lib.hid (sumN_take hp)
        have hs1 := HSL.out (k + 1)
        have hs2 : sumN (X.take k) + p.1 ≤ 1000 := by rw [← sumN_take hp]; omega
        have hk10 : (k : Int) < 10 := by omega
        clear hp hs1
        generalize sumN (X.take k) = sk at *
        have hs3 : (sk : Int) + (p.1 : Int) ≤ 1000 := by omega
        have hs4 : ¬ ((sk : Int) + (p.1 : Int) < 0) := by omega
        go_wp2_with fail
        go_round
        case rel => exact ⟨k + 1, by omega, by go_num, by rw [HS.out]; simp⟩
        case measure => simp [intOf]; omega
    · obtain rfl : k = X.length := by omega
      rw [List.take_length]
      go_wp2_with fail
      refine (grow_nil (sumN X) _ hs).mono ?_
      rintro e w1 ⟨v, rfl, hg1, ho1⟩
      have HO1 := Lib.hid ho1
      have HG1 := Lib.hid hg1
      clear hg1 ho1
      go_wp2_with fail
      go_loopw [6, 27] (fun v i wr => ∃ k : Nat, k ≤ X.length ∧ i = .int .i64 k ∧ Gr w wr ∧ wr.ownsRow w.heap.size 3 1 v (sumN (X.take k)) (catN (X.take k))) (fun _ i _ => X.length - (intOf i).toNat)
      case atStart => exact ⟨0, by omega, rfl, HG1.out, HO1.out⟩
      case round =>
        obtain ⟨k, hk, rfl, hg, hown⟩ := hrel
        by_cases hlt : k < X.length
        · obtain ⟨p, hp⟩ : ∃ p, X[k]? = some p := ⟨_, List.getElem?_eq_getElem hlt⟩
          rcases HX.out.2 k p hp with ⟨z1, z2, c1⟩ | ⟨pl, p1, b, off, c, c1, hb, hc⟩
          · rw [← hg.cells.1 bb _ hbb] at c1
            have HS := Lib.hid (sumN_take hp)
            have HC := Lib.hid (catN_take hp)
            rw [z1] at HS
            rw [z2] at HC
            have hk10 : (k : Int) < 10 := by omega
            have HO := Lib.hid hown
            obtain ⟨va, vc, rfl, hvc⟩ := own_form hown
            clear hp hown z1 z2
            go_wp2_with (at_builtin; refine wpList_append_own_none rfl (.tmp 31) (.tmp 32) 22 rfl w.heap.size 3 i0 1 Try.underlying22 hi0 _ _ _ rfl HO.out rfl ?_)
            go_roundw
            case rel => exact ⟨k + 1, by omega, by go_num, hg, by rw [HS.out, HC.out, List.append_nil]; exact HO.out⟩
            case measure => simp [intOf]; omega
          · rw [← hg.cells.1 bb _ hbb] at c1
            have HP : Hid (∀ j u, p.2[j]? = some u → wr.cell? ((⟨b, off, none⟩ : Addr).add j) = some u) := fun j u hu => by
              have h1 : (⟨b, off, none⟩ : Addr).add j = ⟨b, off + j, none⟩ := by unfold Addr.add; by_cases h : j = 0 <;> simp [h]
              rw [h1, hg.cells.1 b _ hb]
              exact hc j u hu
            have HS := Lib.hid (sumN_take hp)
            have HC := Lib.hid (catN_take hp)
            have hs1 := HSL.out (k + 1)
            have hs2 : sumN (X.take k) + p.1 ≤ 1000 := by rw [← sumN_take hp]; omega
            have hk10 : (k : Int) < 10 := by omega
            have HPL := Lib.hid pl
            have HP1 := Lib.hid p1
            have HO := Lib.hid hown
            obtain ⟨va, vc, rfl, hvc⟩ := own_form hown
            clear hp hs1 hc pl p1 hown
            generalize sumN (X.take k) = sk at *
            go_wp2_with (at_builtin; refine wpList_append_own _ rfl (.tmp 31) (.tmp 32) 22 rfl w.heap.size 3 i0 _ 1 8 Try.underlying22 hi0 hz0 hz1 hz2 rfl (by omega) _ _ _ rfl HO.out ⟨b, off, none⟩ p.1 c p.2 rfl HPL.out HP.out HP1.out (by simp only [maxLen]; omega) (by omega) hg.le ?_; intro v1 w2 hown hg1 _)
            go_roundw
            case rel => exact ⟨k + 1, by omega, by go_num, hg.grown hg1 (fun k hk => (HO.out.lt k hk).1), by rw [HS.out, HC.out]; exact hown⟩
            case measure => simp [intOf]; omega
        · obtain rfl : k = X.length := by omega
          rw [List.take_length] at hown
          go_wp2_with fail
          go_ret
          exact ⟨_, rfl, hg, hown⟩
end Go.Proofs.Ytphcjjhfgpdhcab
