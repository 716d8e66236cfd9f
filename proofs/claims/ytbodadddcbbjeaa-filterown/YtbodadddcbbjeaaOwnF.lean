/- Is a filter, and the room behind it, as it was: reedkeep's kept. What a filter with room reads as, and that it may be wasted. -/
import Derived.Test.YtbodadddcbbjeaaOwnE
namespace Go.Proofs.Ytbodadddcbbjeaa
open Go.RowKit Rm
set_option linter.unusedVariables false
theorem flat_len2 (l : List (Int × Int)) : (flat l).length = l.length * 2 := by
  induction l with
  | nil => rfl
  | cons p l ih => rw [flat_cons]; simp only [List.length_cons, ih]; omega
theorem Rmd.rd {lo : Nat} {w : World} {v : Value} {ps : List (Int × Int)} (h : Rmd lo w v ps) : Rd2 w v ps := by
  obtain ⟨g, rfl, _, hg⟩ := h
  refine ⟨_, _, rfl, by omega, fun _ => ⟨g, 0, rfl, Blk_lt hg, fun i p hp => ?_⟩⟩
  have hi := (List.getElem?_eq_some_iff.1 hp).1
  have hl := flat_len2 ps
  obtain ⟨a, b⟩ := flat_at ps i p hp
  rw [cell_of_row _ _ _ _ _ _ hg, cell_of_row _ _ _ _ _ _ hg]
  unfold rmL
  simp only [List.getElem?_toArray, Nat.zero_add]
  refine ⟨?_, ?_⟩ <;> rw [List.getElem?_append_left (by omega)] <;> assumption
theorem RmF.rd {lo : Nat} {w : World} {v : Value} {l : List BoxI} (h : RmF lo w v l) : RdF w v l := by
  obtain ⟨g, O, rfl, _, hO, hg, hall⟩ := h
  refine ⟨_, _, rfl, by omega, fun _ => ⟨g, 0, rfl, Blk_lt hg, fun i p hp => ?_⟩⟩
  have hi := (List.getElem?_eq_some_iff.1 hp).1
  obtain ⟨q, hq⟩ : ∃ q, O[i]? = some q := ⟨_, List.getElem?_eq_getElem (by omega)⟩
  obtain ⟨e, hr⟩ := hall i p q hp hq
  obtain ⟨a, b, c⟩ := rmX_at O [.int .i64 77, .int .i64 0, .slice none 0 0] i q hq
  refine ⟨q.2, ?_, ?_, ?_, hr.rd⟩
  · rw [cell_of_row _ _ _ _ _ _ hg, Nat.zero_add, a, e]
  · rw [cell_of_row _ _ _ _ _ _ hg, Nat.zero_add, b, e]
  · rw [cell_of_row _ _ _ _ _ _ hg, Nat.zero_add, c]
theorem Rmd.own {lo : Nat} {w : World} {v : Value} {ps : List (Int × Int)} (h : Rmd lo w v ps) (hl : ps.length ≤ 2 ^ 47) : w.ownsRow lo 53 2 v ps.length (flat ps) := by
  obtain ⟨g, rfl, hb, hg⟩ := h
  have hz := rmL_len (xs := flat ps) (ys := [.int .i64 78, .int .i64 0]) (flat_len2 ps) rfl
  refine ⟨flat_len2 ps, .inr ⟨g, _, _, rfl, hb, hg, by omega, by simp only [maxLen]; omega, by simpa using hz, ?_⟩⟩
  show List.take _ (rmL _ _) = _
  unfold rmL
  rw [← flat_len2 ps, List.take_left]
theorem RmF.waste {lo : Nat} {w : World} {v : Value} {l : List BoxI} (h : RmF lo w v l) (hl : l.length ≤ 2 ^ 47) (hb : ∀ p ∈ l, p.2.length ≤ 2 ^ 47) : ∃ xs, Wf lo w.heap.size w v l.length xs := by
  obtain ⟨g, O, rfl, hlo, hO, hg, hall⟩ := h
  have hx := flatX_len O
  rw [hO] at hx
  have hz := rmL_len (xs := flatX O) (ys := [.int .i64 77, .int .i64 0, .slice none 0 0]) hx rfl
  refine ⟨flatX O, ⟨hx, .inr ⟨g, _, _, rfl, hlo, hg, by omega, by simp only [maxLen]; omega, by simpa using hz, ?_⟩⟩, fun q e => by cases e; exact Blk_lt hg, fun k hk => ?_⟩
  · show List.take _ (rmL _ _) = _
    unfold rmL
    rw [← hx, List.take_left]
  · obtain ⟨p, hp⟩ : ∃ p, l[k]? = some p := ⟨_, List.getElem?_eq_getElem hk⟩
    obtain ⟨q, hq⟩ : ∃ q, O[k]? = some q := ⟨_, List.getElem?_eq_getElem (by omega)⟩
    obtain ⟨e, hr⟩ := hall k p q hp hq
    obtain ⟨a, b, c⟩ := flatX_at O k q hq
    refine ⟨_, _, q.2, _, a, b, c, ⟨_, hr.own (hb p (List.mem_of_getElem? hp))⟩, fun r er => ?_⟩
    obtain ⟨g', e', _, hg'⟩ := hr
    rw [e'] at er
    cases er
    exact Blk_lt hg'
set_option maxHeartbeats 2000000 in
set_option maxRecDepth 100000 in
theorem kept_ok {lo : Nat} {v u : Value} {l : List BoxI} {w : World} (hr : RmF lo w v l) (hu : RdF w u l) (hl : l.length ≤ 2 ^ 47) (hb : ∀ p ∈ l, p.2.length ≤ 2 ^ 47) :
    Calls Try.prog 19 #[v, u] w fun e w' => e = .returned (.bool true) ∧ Gr w w' := by
  have HSF : Hid (∀ W, Gr w W → Calls Try.prog 29 #[v, u] W fun e w' => e = .returned (.bool true) ∧ Gr W w') := fun W g => sameFilter_ok (hr.rd.gr g) (hu.gr g) hl hb
  obtain ⟨g, O, rfl, hlo, hO, hg, hall⟩ := hr
  obtain ⟨ua, uc, rfl, _⟩ := hu
  have HG := Lib.hid hg
  have hgl := Blk_lt hg
  have HL := Lib.hid hall
  have HB := Lib.hid hb
  have hl' : (l.length : Int) ≤ 140737488355328 := by omega
  have hl0 : (0 : Int) ≤ (l.length : Int) := by omega
  have hle : (l.length : Int) ≤ (l.length : Int) + 3 := by omega
  have h3 : (l.length : Int) + 3 - (l.length : Int) = 3 := by omega
  have h3n : l.length + 3 - l.length = 3 := by omega
  have hne : ¬ l.length + 3 = l.length := by omega
  clear hg hall hb
  go_enter Try.func19, Try.ntmps19
  go_wp2_with fail
  go_loopw [11] (fun i wr => ∃ k : Nat, k ≤ l.length ∧ i = .int .i64 k ∧ Gr w wr) (fun i _ => l.length - (intOf i).toNat)
  case atStart => exact ⟨0, by omega, rfl, Gr.refl _⟩
  case round =>
    obtain ⟨k, hk, rfl, hgr⟩ := hrel
    by_cases hlt : k < l.length
    · have hlt' : (k : Int) < (l.length : Int) := by omega
      have hk0 : (0 : Int) ≤ (k : Int) := by omega
      have hk3 : (k : Int) < 140737488355328 := by omega
      obtain ⟨p, hp⟩ : ∃ p, l[k]? = some p := ⟨_, List.getElem?_eq_getElem hlt⟩
      obtain ⟨⟨qa, sv⟩, hq⟩ : ∃ q, O[k]? = some q := ⟨_, List.getElem?_eq_getElem (by omega)⟩
      have hm := HB.out _ (List.mem_of_getElem? hp)
      obtain ⟨_, gs, es, _, hgs⟩ := HL.out k p _ hp hq
      simp only at es
      subst es
      obtain ⟨x0, x1, x2⟩ := rmX_at O [.int .i64 77, .int .i64 0, .slice none 0 0] k _ hq
      have hcur := (Below.block hgr _ hgl).trans HG.out
      rw [← cell_of_row _ _ _ _ _ _ hcur] at x0 x1 x2
      simp only at x0 x1 x2
      have hbl : g < wr.heap.size := Blk_lt hcur
      have HM : Hid (∀ W, Gr w W → Calls Try.prog 49 #[.slice (some ⟨gs, 0, none⟩) p.2.length (p.2.length + 3), .agg #[.int .i64 78, .int .i64 0]] W fun e w' => e = .returned (.bool true) ∧ Gr W w') := fun W gW => markedS gs _ (flat p.2) 78 0 W (flat_len2 _) hm ((Below.block gW _ (Blk_lt hgs)).trans hgs)
      clear hcur hgs hm
      go_wp2_with fail
      refine (HM.out _ (hgr.alloc _)).mono ?_
      rintro e w2 ⟨rfl, gr2⟩
      go_wp2_with fail
      go_roundw
      case rel => exact ⟨k + 1, by omega, by go_num, (hgr.alloc _).trans gr2⟩
      case measure => simp [intOf]; omega
    · obtain rfl : k = l.length := by omega
      go_wp2_with fail
      go_loopw [28] (fun i ws => ∃ k : Nat, k ≤ 3 ∧ i = .int .i64 k ∧ Gr w ws) (fun i _ => 3 - (intOf i).toNat)
      case atStart => exact ⟨0, by omega, rfl, hgr⟩
      case round =>
        obtain ⟨k, hk3, rfl, hgs⟩ := hrel
        by_cases hlt3 : k < 3
        · have hlt' : (k : Int) < 3 := by omega
          have hk0 : (0 : Int) ≤ (k : Int) := by omega
          have hcur := (Below.block hgs _ hgl).trans HG.out
          have hx := flatX_len O
          rw [hO] at hx
          have at_ : ∀ t, t < 3 → wr.cell? ⟨g, l.length * 3 + k * 3 + t, none⟩ = ([.int .i64 77, .int .i64 0, .slice none 0 0] : List Value)[t]? := fun t ht => by
            rw [cell_of_row _ _ _ _ _ _ hcur]
            have := rmL_at (ys := [.int .i64 77, .int .i64 0, .slice none 0 0]) hx rfl hlt3 ht
            rw [show (l.length + k) * 3 + t = l.length * 3 + k * 3 + t by omega] at this
            simpa using this
          have x0 := at_ 0 (by omega)
          have x1 := at_ 1 (by omega)
          have x2 := at_ 2 (by omega)
          simp only [Nat.add_zero, List.getElem?_cons_zero, List.getElem?_cons_succ] at x0 x1 x2
          have hbl := Blk_lt hcur
          clear hcur at_
          go_wp2_with fail
          go_roundw
          case rel => exact ⟨k + 1, by omega, by go_num, hgs.alloc _⟩
          case measure => simp [intOf]; omega
        · obtain rfl : k = 3 := by omega
          go_wp2_with fail
          refine (HSF.out _ hgs).mono ?_
          rintro e w2 ⟨rfl, gr2⟩
          go_wp2_with fail
          go_ret
          exact ⟨rfl, hgs.trans gr2⟩
end Go.Proofs.Ytbodadddcbbjeaa
