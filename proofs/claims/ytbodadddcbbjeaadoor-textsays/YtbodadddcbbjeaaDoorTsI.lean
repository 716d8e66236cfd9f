/- What are the same nodes; a number in decimal, as the document writes it. -/
import Derived.Test.YtbodadddcbbjeaaDoorTsH
namespace Go.Proofs.YtbodadddcbbjeaaDoor
open Go.RowKit Rm
set_option linter.unusedVariables false
set_option linter.unusedSimpArgs false
set_option maxHeartbeats 2000000 in
set_option maxRecDepth 100000 in
theorem equal_same {v v' : Value} {l : List Nd} {w : World} (hr : RdN w v l) (hr2 : RdN w v' l) (hl : l.length ≤ 1000) :
    Calls Tryd.prog 22 #[v, v', .func (.func 23) #[] #[]] w fun e w' => e = .returned (.bool true) ∧ Gr w w' := by
  obtain ⟨a, cp, rfl, hcp, hx⟩ := hr
  obtain ⟨a2, cp2, rfl, hcp2, hx2⟩ := hr2
  have HX := Lib.hid hx
  have HX2 := Lib.hid hx2
  have hl' : (l.length : Int) ≤ 1000 := by omega
  have hne : ((l.length : Int) != (l.length : Int)) = false := by simp
  clear hx hx2
  go_enter Tryd.func22, Tryd.ntmps22
  go_wp2_with fail
  go_loopw [17] (fun i wr => ∃ k : Nat, k ≤ l.length ∧ i = .int .i64 k ∧ Gr w wr) (fun i _ => l.length - (intOf i).toNat)
  case atStart => exact ⟨0, by omega, rfl, Gr.refl _⟩
  case round =>
    obtain ⟨k, hk, rfl, hg⟩ := hrel
    by_cases hlt : k < l.length
    · have hlt' : (k : Int) < (l.length : Int) := by omega
      have hk1 : (k : Int) < 1000 := by omega
      obtain ⟨⟨kd, na, nb⟩, hnk⟩ : ∃ p, l[k]? = some p := ⟨_, List.getElem?_eq_getElem hlt⟩
      obtain ⟨b, off, rfl, hb, hcl⟩ := HX.out (by intro e; rw [e] at hlt; simp at hlt)
      obtain ⟨b2, off2, rfl, hb2, hcl2⟩ := HX2.out (by intro e; rw [e] at hlt; simp at hlt)
      obtain ⟨c1, c2, c3⟩ := hcl k _ hnk
      obtain ⟨d1, d2, d3⟩ := hcl2 k _ hnk
      rw [← hg.cells.1 b _ hb] at c1 c2 c3
      rw [← hg.cells.1 b2 _ hb2] at d1 d2 d3
      simp only at c1 c2 c3 d1 d2 d3
      have hbr : b < wr.heap.size := Nat.lt_of_lt_of_le hb hg.le
      have hbr2 : b2 < wr.heap.size := Nat.lt_of_lt_of_le hb2 hg.le
      clear hcl hcl2 hnk
      go_wp2_with (go_at_call 23; refine (node1_same kd na nb _).mono ?_; rintro e w3 ⟨rfl, g3⟩)
      go_roundw
      case rel => exact ⟨k + 1, by omega, by go_num, ((hg.alloc _).alloc _).trans g3⟩
      case measure => simp [intOf]; omega
    · obtain rfl : k = l.length := by omega
      go_wp2_with fail
      go_ret
      exact ⟨rfl, hg⟩
set_option maxHeartbeats 400000 in
set_option maxRecDepth 100000 in
theorem nodes_same {v v' : Value} {l : List Nd} {w : World} (hr : RdN w v l) (hr2 : RdN w v' l) (hl : l.length ≤ 1000) :
    Calls Tryd.prog 8 #[v, v'] w fun e w' => e = .returned (.bool true) ∧ Gr w w' := by
  have H := Lib.hid (equal_same hr hr2 hl)
  clear hr hr2
  go_enter Tryd.func8, Tryd.ntmps8
  go_wp2_with (go_at_call 22; refine H.out.mono ?_; rintro e w1 ⟨rfl, g1⟩)
  go_ret
  exact ⟨rfl, g1⟩
set_option maxHeartbeats 1000000 in
set_option maxRecDepth 100000 in
theorem dec_one_ref (n : Nat) (h : n < 10) (w : World) :
    Calls Tryd.prog 25 #[.int .i64 (n : Int)] w fun e w' => e = .returned (.string (str (dec n))) ∧ w' = w := by
  have h0 : ¬ (n : Int) < 0 := by omega
  have h1 : (n : Int) < 10 := by omega
  have h2 : (n : Int) ≤ 10 := by omega
  have h3 : (n : Int) + 1 ≤ 10 := by omega
  have h4 : (n : Int) ≤ (n : Int) + 1 := by omega
  have h5 : (0 : Int) ≤ (n : Int) + 1 := by omega
  go_enter Tryd.func25, Tryd.ntmps25
  go_wp2_with fail
  go_ret
  refine ⟨congrArg (fun x => Ending.returned (.string x)) ?_, rfl⟩
  clear h0 h1 h2 h3 h4 h5
  match n, h with
  | 0, _ | 1, _ | 2, _ | 3, _ | 4, _ | 5, _ | 6, _ | 7, _ | 8, _ | 9, _ => rfl
set_option maxHeartbeats 1000000 in
set_option maxRecDepth 100000 in
theorem dec_ref (n : Nat) (h : n ≤ 99) (w : World) :
    Calls Tryd.prog 25 #[.int .i64 (n : Int)] w fun e w' => e = .returned (.string (str (dec n))) ∧ w' = w := by
  by_cases hn : n < 10
  · exact dec_one_ref n hn w
  · have h0 : ¬ (n : Int) < 0 := by omega
    have h1 : ¬ (n : Int) < 10 := by omega
    have e1 : (n : Int).tdiv 10 = ((n / 10 : Nat) : Int) := by rw [show (10 : Int) = ((10 : Nat) : Int) from rfl, ← Int.ofNat_tdiv]
    have e2 : (n : Int).tmod 10 = ((n % 10 : Nat) : Int) := by rw [show (10 : Int) = ((10 : Nat) : Int) from rfl, ← Int.ofNat_tmod]
    have HA := Lib.hid (dec_one_ref (n / 10) (by omega))
    have HB := Lib.hid (dec_one_ref (n % 10) (by omega))
    have HE : Hid (dec (n / 10) ++ dec (n % 10) = dec n) := by
      show _ = _
      rw [dec_one (show n / 10 < 10 by omega), dec_one (show n % 10 < 10 by omega)]
      unfold dec
      rw [if_neg hn]
      rfl
    have q1 := dec_le (n / 10)
    have q2 := dec_le (n % 10)
    have hd1 : ((n / 10 : Nat) : Int) ≤ 9 := by omega
    have hd2 : ((n % 10 : Nat) : Int) ≤ 9 := by omega
    have s1 := strs_sum (dec (n / 10)) (dec (n % 10)) _ _ rfl rfl (by omega) (by omega) (dec n) HE.out
    generalize n / 10 = x at *
    generalize n % 10 = y at *
    go_enter Tryd.func25, Tryd.ntmps25
    go_wp2_with (first | (go_at_call 25; refine (HA.out _).mono ?_; rintro e w1 ⟨rfl, rfl⟩; clear HA) | (go_at_call 25; refine (HB.out _).mono ?_; rintro e w1 ⟨rfl, rfl⟩))
    go_ret
    exact ⟨rfl, rfl⟩
end Go.Proofs.YtbodadddcbbjeaaDoor
