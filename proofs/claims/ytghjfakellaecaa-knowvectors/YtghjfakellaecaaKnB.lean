/- know.Check and its parts; Count. -/
import Derived.Test.YtghjfakellaecaaKnA
import Derived.Deep.RegionHeld3
namespace Go.Proofs.Ytghjfakellaecaa
open Go.RowKit Rm
set_option linter.unusedVariables false
set_option linter.unusedSimpArgs false

theorem badV_at {V : List Int} {k : Nat} {x : Int} (h : V[k]? = some x) : badV V k = if x < 0 ∨ 1000 < x then 1 else 0 := by unfold badV; rw [h]
set_option maxHeartbeats 1000000 in
set_option maxRecDepth 100000 in
theorem checkVec_any (v : Value) (V : List Int) (w : World) (hr : R1 w v V) (hl : V.length ≤ 5) :
    Calls Try.prog 78 #[v] w fun e w' => e = .returned (.int .i64 (chkV V)) ∧ Gr w w' := by
  obtain ⟨a, c, rfl, hc, hx⟩ := hr
  by_cases h0 : V = []
  · subst h0
    go_enter Try.func78, Try.ntmps78
    go_wp2
    go_loop [2, 4, 7, 8, 9, 10, 11, 12, 13, 14, 15, 16, 17] (fun r x i a1 a2 a3 a4 a5 a6 a7 a8 a9 a10 => i = .int .i64 0) (fun _ _ _ _ _ _ _ _ _ _ _ _ _ => 0)
    case atStart => rfl
    case round =>
      subst hrel
      go_wp2
      go_ret
      exact ⟨rfl, Gr.refl _⟩
  · obtain ⟨b, off, rfl, hb, hcell⟩ := hx h0
    have hpos : 0 < V.length := List.length_pos_iff.2 h0
    have hlast : ∃ y, V.getLast? = some y ∧ w.cell? ⟨b, off + (V.length - 1), none⟩ = some (.int .i64 y) := by
      obtain ⟨y, hy⟩ : ∃ y, V[V.length - 1]? = some y := ⟨_, List.getElem?_eq_getElem (by omega)⟩
      exact ⟨y, by rw [List.getLast?_eq_getElem?]; exact hy, hcell _ _ hy⟩
    obtain ⟨y, hy, hyc⟩ := hlast
    have hlen : (V.length : Int) ≤ 5 := by omega
    have HC := Lib.hid hcell
    clear hx hcell
    go_enter Try.func78, Try.ntmps78
    go_wp2
    go_loop [2, 4, 7, 8, 9, 10, 11, 12, 13, 14, 15, 16, 17] (fun r x i a1 a2 a3 a4 a5 a6 a7 a8 a9 a10 => ∃ k : Nat, k ≤ V.length ∧ i = .int .i64 k ∧ ∀ j, j < k → badV V j = 0) (fun _ _ i _ _ _ _ _ _ _ _ _ _ => V.length - (intOf i).toNat)
    case atStart => exact ⟨0, by omega, rfl, fun j hj => by omega⟩
    case round =>
      obtain ⟨k, hk, rfl, hz⟩ := hrel
      have HZ := Lib.hid hz
      by_cases hkl : k < V.length
      · obtain ⟨x, hx⟩ : ∃ x, V[k]? = some x := ⟨_, List.getElem?_eq_getElem hkl⟩
        have hcx := HC.out k x hx
        have hkI : (k : Int) < (V.length : Int) := by omega
        have HB := Lib.hid (badV_at hx)
        by_cases hbad : x < 0 ∨ 1000 < x
        · have HR : Hid (chkV V = 1) := by
            show _ = _
            unfold chkV
            have h1 : badV V k = 1 := by rw [HB.out, if_pos hbad]
            rw [first_some HZ.out hkl (by rw [h1]; decide), h1]; rfl
          clear hz hx HZ HB
          go_wp2
          all_goals first
            | (exfalso; omega)
            | (go_ret; exact ⟨by rw [HR.out]; rfl, Gr.refl _⟩)
        · have HN : Hid (∀ j, j < k + 1 → badV V j = 0) := fun j hj => by
            by_cases e : j = k
            · subst e; rw [HB.out, if_neg hbad]
            · exact HZ.out j (by omega)
          have b1 : ¬ x < 0 := fun e => hbad (.inl e)
          have b2 : x ≤ 1000 := by omega
          clear hz hx HZ HB hbad
          go_wp2
          all_goals first
            | (exfalso; omega)
            | (go_round
               case rel => exact ⟨k + 1, by omega, by go_num, HN.out⟩
               case measure => simp [intOf]; omega)
      · obtain rfl : k = V.length := by omega
        have HF : Hid (chkV V = if y = 0 then 3 else 0) := by
          show _ = _
          unfold chkV
          rw [first_none HZ.out, if_neg (by simp), hy]
          simp only [Option.some.injEq]
        clear hz HZ
        have h1 : (V.length : Int) - 1 = ((V.length - 1 : Nat) : Int) := by omega
        by_cases hy0 : y = 0
        · subst hy0
          go_wp2
          all_goals first
            | (exfalso; omega)
            | (go_ret; exact ⟨by rw [HF.out]; rfl, Gr.refl _⟩)
        · go_wp2
          all_goals first
            | (exfalso; omega)
            | (go_ret; exact ⟨by rw [HF.out, if_neg hy0]; rfl, Gr.refl _⟩)
end Go.Proofs.Ytghjfakellaecaa
