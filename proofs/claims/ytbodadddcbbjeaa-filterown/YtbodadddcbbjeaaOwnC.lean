/- What is the same: slices.Equal and SameFilter, where both read the same. -/
import Derived.Test.YtbodadddcbbjeaaOwnB
import Derived.BigQuiet
namespace Go.Proofs.Ytbodadddcbbjeaa
open Go.RowKit Rm
set_option linter.unusedVariables false
set_option linter.unusedSimpArgs false

set_option maxHeartbeats 2000000 in
set_option maxRecDepth 100000 in
theorem equalI {v v' : Value} {l : List (Int)} {w : World} (hr : Rd1 w v l) (hr2 : Rd1 w v' l) (hl : l.length ≤ 2 ^ 47) :
    Calls Try.prog 20 #[v, v'] w fun e w' => e = .returned (.bool true) ∧ Gr w w' := by
  obtain ⟨a, cp, rfl, hcp, hx⟩ := hr
  obtain ⟨a2, cp2, rfl, hcp2, hx2⟩ := hr2
  have HX := Lib.hid hx
  have HX2 := Lib.hid hx2
  have hl' : (l.length : Int) ≤ 140737488355328 := by omega
  have hne : ((l.length : Int) != (l.length : Int)) = false := by simp
  clear hx hx2
  go_enter Try.func20, Try.ntmps20
  go_wp2_with fail
  go_loopw [13] (fun i wr => ∃ k : Nat, k ≤ l.length ∧ i = .int .i64 k ∧ Gr w wr) (fun i _ => l.length - (intOf i).toNat)
  case atStart => exact ⟨0, by omega, rfl, Gr.refl _⟩
  case round =>
    obtain ⟨k, hk, rfl, hg⟩ := hrel
    by_cases hlt : k < l.length
    · have hlt' : (k : Int) < (l.length : Int) := by omega
      have hk1 : (k : Int) < 140737488355328 := by omega
      have hk0 : (0 : Int) ≤ (k : Int) := by omega
      obtain ⟨p, hnk⟩ : ∃ p, l[k]? = some p := ⟨_, List.getElem?_eq_getElem hlt⟩
      obtain ⟨b, off, rfl, hb, hcl⟩ := HX.out (by intro e; rw [e] at hlt; simp at hlt)
      obtain ⟨b2, off2, rfl, hb2, hcl2⟩ := HX2.out (by intro e; rw [e] at hlt; simp at hlt)
      have c := hcl k _ hnk
      have d := hcl2 k _ hnk
      skip
      rw [← hg.cells.1 b _ hb] at c
      rw [← hg.cells.1 b2 _ hb2] at d
      try simp only at c d
      have hbr : b < wr.heap.size := Nat.lt_of_lt_of_le hb hg.le
      have hbr2 : b2 < wr.heap.size := Nat.lt_of_lt_of_le hb2 hg.le
      clear hcl hcl2 hnk
      go_wp2_with fail
      go_quiet (fail)
      go_wp2_with fail
      go_roundw
      case rel => exact ⟨k + 1, by omega, by go_num, hg.drewN _⟩
      case measure => simp [intOf]; omega
    · obtain rfl : k = l.length := by omega
      go_wp2_with fail
      go_ret
      exact ⟨rfl, hg⟩

set_option maxHeartbeats 2000000 in
set_option maxRecDepth 100000 in
theorem equalS {v v' : Value} {l : List (Int × Int)} {w : World} (hr : Rd2 w v l) (hr2 : Rd2 w v' l) (hl : l.length ≤ 2 ^ 47) :
    Calls Try.prog 30 #[v, v'] w fun e w' => e = .returned (.bool true) ∧ Gr w w' := by
  obtain ⟨a, cp, rfl, hcp, hx⟩ := hr
  obtain ⟨a2, cp2, rfl, hcp2, hx2⟩ := hr2
  have HX := Lib.hid hx
  have HX2 := Lib.hid hx2
  have hl' : (l.length : Int) ≤ 140737488355328 := by omega
  have hne : ((l.length : Int) != (l.length : Int)) = false := by simp
  clear hx hx2
  go_enter Try.func30, Try.ntmps30
  go_wp2_with fail
  go_loopw [13] (fun i wr => ∃ k : Nat, k ≤ l.length ∧ i = .int .i64 k ∧ Gr w wr) (fun i _ => l.length - (intOf i).toNat)
  case atStart => exact ⟨0, by omega, rfl, Gr.refl _⟩
  case round =>
    obtain ⟨k, hk, rfl, hg⟩ := hrel
    by_cases hlt : k < l.length
    · have hlt' : (k : Int) < (l.length : Int) := by omega
      have hk1 : (k : Int) < 140737488355328 := by omega
      have hk0 : (0 : Int) ≤ (k : Int) := by omega
      obtain ⟨⟨pa, pb⟩, hnk⟩ : ∃ p, l[k]? = some p := ⟨_, List.getElem?_eq_getElem hlt⟩
      obtain ⟨b, off, rfl, hb, hcl⟩ := HX.out (by intro e; rw [e] at hlt; simp at hlt)
      obtain ⟨b2, off2, rfl, hb2, hcl2⟩ := HX2.out (by intro e; rw [e] at hlt; simp at hlt)
      have c := hcl k _ hnk
      have d := hcl2 k _ hnk
      obtain ⟨c0, c1⟩ := c
      obtain ⟨d0, d1⟩ := d
      rw [← hg.cells.1 b _ hb] at c0 c1
      rw [← hg.cells.1 b2 _ hb2] at d0 d1
      try simp only at c0 c1 d0 d1
      have hbr : b < wr.heap.size := Nat.lt_of_lt_of_le hb hg.le
      have hbr2 : b2 < wr.heap.size := Nat.lt_of_lt_of_le hb2 hg.le
      clear hcl hcl2 hnk
      go_wp2_with fail
      go_quiet (fail)
      go_wp2_with fail
      go_roundw
      case rel => exact ⟨k + 1, by omega, by go_num, hg.drewN _⟩
      case measure => simp [intOf]; omega
    · obtain rfl : k = l.length := by omega
      go_wp2_with fail
      go_ret
      exact ⟨rfl, hg⟩

set_option maxHeartbeats 2000000 in
set_option maxRecDepth 100000 in
theorem equalN {v v' : Value} {l : List (Nd)} {w : World} (hr : RdN w v l) (hr2 : RdN w v' l) (hl : l.length ≤ 2 ^ 47) :
    Calls Try.prog 22 #[v, v'] w fun e w' => e = .returned (.bool true) ∧ Gr w w' := by
  obtain ⟨a, cp, rfl, hcp, hx⟩ := hr
  obtain ⟨a2, cp2, rfl, hcp2, hx2⟩ := hr2
  have HX := Lib.hid hx
  have HX2 := Lib.hid hx2
  have hl' : (l.length : Int) ≤ 140737488355328 := by omega
  have hne : ((l.length : Int) != (l.length : Int)) = false := by simp
  clear hx hx2
  go_enter Try.func22, Try.ntmps22
  go_wp2_with fail
  go_loopw [13] (fun i wr => ∃ k : Nat, k ≤ l.length ∧ i = .int .i64 k ∧ Gr w wr) (fun i _ => l.length - (intOf i).toNat)
  case atStart => exact ⟨0, by omega, rfl, Gr.refl _⟩
  case round =>
    obtain ⟨k, hk, rfl, hg⟩ := hrel
    by_cases hlt : k < l.length
    · have hlt' : (k : Int) < (l.length : Int) := by omega
      have hk1 : (k : Int) < 140737488355328 := by omega
      have hk0 : (0 : Int) ≤ (k : Int) := by omega
      obtain ⟨⟨kd, na, nb⟩, hnk⟩ : ∃ p, l[k]? = some p := ⟨_, List.getElem?_eq_getElem hlt⟩
      obtain ⟨b, off, rfl, hb, hcl⟩ := HX.out (by intro e; rw [e] at hlt; simp at hlt)
      obtain ⟨b2, off2, rfl, hb2, hcl2⟩ := HX2.out (by intro e; rw [e] at hlt; simp at hlt)
      have c := hcl k _ hnk
      have d := hcl2 k _ hnk
      obtain ⟨c0, c1, c2⟩ := c
      obtain ⟨d0, d1, d2⟩ := d
      rw [← hg.cells.1 b _ hb] at c0 c1 c2
      rw [← hg.cells.1 b2 _ hb2] at d0 d1 d2
      try simp only at c0 c1 c2 d0 d1 d2
      have hbr : b < wr.heap.size := Nat.lt_of_lt_of_le hb hg.le
      have hbr2 : b2 < wr.heap.size := Nat.lt_of_lt_of_le hb2 hg.le
      clear hcl hcl2 hnk
      go_wp2_with fail
      go_quiet (fail)
      go_wp2_with fail
      go_roundw
      case rel => exact ⟨k + 1, by omega, by go_num, hg.drewN _⟩
      case measure => simp [intOf]; omega
    · obtain rfl : k = l.length := by omega
      go_wp2_with fail
      go_ret
      exact ⟨rfl, hg⟩

set_option maxHeartbeats 2000000 in
set_option maxRecDepth 100000 in
theorem box1_same (y n : Int) {sv sv' : Value} {l : List (Int × Int)} {w : World} (hr : Rd2 w sv l) (hr2 : Rd2 w sv' l) (hl : l.length ≤ 2 ^ 47) :
    Calls Try.prog 53 #[.agg #[.int .i64 y, .int .i64 n, sv], .agg #[.int .i64 y, .int .i64 n, sv']] w fun e w' => e = .returned (.bool true) ∧ Gr w w' := by
  have H : Hid (∀ W, Gr w W → Calls Try.prog 30 #[sv, sv'] W fun e w' => e = .returned (.bool true) ∧ Gr W w') := fun W g => equalS (hr.gr g) (hr2.gr g) hl
  obtain ⟨a, cp, rfl, hcp, -⟩ := hr
  obtain ⟨a2, cp2, rfl, hcp2, -⟩ := hr2
  go_enter Try.func53, Try.ntmps53
  go_wp2_with (go_at_call 30; refine (H.out _ (((Gr.refl w).alloc _).alloc _)).mono ?_; rintro e w1 ⟨rfl, g1⟩)
  go_ret
  exact ⟨rfl, (((Gr.refl w).alloc _).alloc _).trans g1⟩

set_option maxHeartbeats 2000000 in
set_option maxRecDepth 100000 in
theorem boxes_same {v v' : Value} {l : List BoxI} {w : World} (hr : RdF w v l) (hr2 : RdF w v' l) (hl : l.length ≤ 2 ^ 47) (hb : ∀ p ∈ l, p.2.length ≤ 2 ^ 47) :
    Calls Try.prog 52 #[v, v', .func (.func 53) #[] #[]] w fun e w' => e = .returned (.bool true) ∧ Gr w w' := by
  obtain ⟨a, cp, rfl, hcp, hx⟩ := hr
  obtain ⟨a2, cp2, rfl, hcp2, hx2⟩ := hr2
  have HX := Lib.hid hx
  have HX2 := Lib.hid hx2
  have HB := Lib.hid hb
  have hl' : (l.length : Int) ≤ 140737488355328 := by omega
  have hne : ((l.length : Int) != (l.length : Int)) = false := by simp
  clear hx hx2 hb
  go_enter Try.func52, Try.ntmps52
  go_wp2_with fail
  go_loopw [17] (fun i wr => ∃ k : Nat, k ≤ l.length ∧ i = .int .i64 k ∧ Gr w wr) (fun i _ => l.length - (intOf i).toNat)
  case atStart => exact ⟨0, by omega, rfl, Gr.refl _⟩
  case round =>
    obtain ⟨k, hk, rfl, hg⟩ := hrel
    by_cases hlt : k < l.length
    · have hlt' : (k : Int) < (l.length : Int) := by omega
      have hk1 : (k : Int) < 140737488355328 := by omega
      have hk0 : (0 : Int) ≤ (k : Int) := by omega
      obtain ⟨⟨⟨py, pn⟩, ps⟩, hnk⟩ : ∃ p, l[k]? = some p := ⟨_, List.getElem?_eq_getElem hlt⟩
      obtain ⟨b, off, rfl, hb, hcl⟩ := HX.out (by intro e; rw [e] at hlt; simp at hlt)
      obtain ⟨b2, off2, rfl, hb2, hcl2⟩ := HX2.out (by intro e; rw [e] at hlt; simp at hlt)
      obtain ⟨sv, c0, c1, c2, r1⟩ := hcl k _ hnk
      obtain ⟨sv2, d0, d1, d2, r2⟩ := hcl2 k _ hnk
      rw [← hg.cells.1 b _ hb] at c0 c1 c2
      rw [← hg.cells.1 b2 _ hb2] at d0 d1 d2
      simp only at c0 c1 c2 d0 d1 d2 r1 r2
      have hps := HB.out _ (List.mem_of_getElem? hnk)
      have H : Hid (∀ W, Gr w W → Calls Try.prog 53 #[.agg #[.int .i64 py, .int .i64 pn, sv], .agg #[.int .i64 py, .int .i64 pn, sv2]] W fun e w' => e = .returned (.bool true) ∧ Gr W w') := fun W g => box1_same py pn (r1.gr g) (r2.gr g) hps
      obtain ⟨sa, sc, rfl, _, -⟩ := r1
      obtain ⟨sa2, sc2, rfl, _, -⟩ := r2
      have hbr : b < wr.heap.size := Nat.lt_of_lt_of_le hb hg.le
      have hbr2 : b2 < wr.heap.size := Nat.lt_of_lt_of_le hb2 hg.le
      clear hcl hcl2 hnk
      go_wp2_with (go_at_call 53; refine (H.out _ ((hg.alloc _).alloc _)).mono ?_; rintro e w3 ⟨rfl, g3⟩)
      go_roundw
      case rel => exact ⟨k + 1, by omega, by go_num, ((hg.alloc _).alloc _).trans g3⟩
      case measure => simp [intOf]; omega
    · obtain rfl : k = l.length := by omega
      go_wp2_with fail
      go_ret
      exact ⟨rfl, hg⟩
set_option maxHeartbeats 400000 in
set_option maxRecDepth 100000 in
theorem sameFilter_ok {v v' : Value} {l : List BoxI} {w : World} (hr : RdF w v l) (hr2 : RdF w v' l) (hl : l.length ≤ 2 ^ 47) (hb : ∀ p ∈ l, p.2.length ≤ 2 ^ 47) :
    Calls Try.prog 29 #[v, v'] w fun e w' => e = .returned (.bool true) ∧ Gr w w' := by
  have H := Lib.hid (boxes_same hr hr2 hl hb)
  clear hr hr2
  go_enter Try.func29, Try.ntmps29
  go_wp2_with (go_at_call 52; refine H.out.mono ?_; rintro e w1 ⟨rfl, g1⟩)
  go_ret
  exact ⟨rfl, g1⟩
end Go.Proofs.Ytbodadddcbbjeaa
