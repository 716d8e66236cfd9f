/- slices.Index, Contains at dots; know.has, Has. -/
import Derived.Test.YtghjfakellaecaaKnD
import Derived.Test.YtghjfakellaecaaKnG
namespace Rm
open Go Go.RowKit
/-- where a dot first lies in a list -/
def idxI (M : List (Int × Int)) (d : Int × Int) (n : Nat) : Int := if d ∈ M then (n : Int) else -1
end Rm
namespace Go.Proofs.Ytghjfakellaecaa
open Go.RowKit Rm
set_option linter.unusedVariables false
set_option linter.unusedSimpArgs false
set_option maxHeartbeats 2000000 in
set_option maxRecDepth 100000 in
theorem kindex_any (m : Value) (M : List (Int × Int)) (d : Int × Int) (w : World) (hr : Rd2 w m M) (hl : M.length ≤ 1000) :
    Calls Try.prog 118 #[m, .agg #[.int .i64 d.1, .int .i64 d.2]] w fun e w' => (∃ n : Nat, e = .returned (.int .i64 (idxI M d n))) ∧ Gr w w' := by
  obtain ⟨a, c, rfl, hc, hx⟩ := hr
  obtain ⟨x, y⟩ := d
  have G1 := Lib.hid ((Gr.refl w).alloc (.cells #[.int .i64 x, .int .i64 y] 26))
  have T1 := Lib.hid (Two.new w x y 26)
  have HX := Lib.hid hx
  have HLI : (M.length : Int) ≤ 1000 := by omega
  clear hx
  go_enter Try.func118, Try.ntmps118
  go_wp2
  generalize w.alloc (.cells #[.int .i64 x, .int .i64 y] 26) = w1 at *
  go_loopw [4, 5, 8, 9, 10, 11, 12, 13, 14, 15, 16, 17, 18] (fun _ _ i _ _ _ _ _ _ _ _ _ _ wr => ∃ k : Nat, k ≤ M.length ∧ i = .int .i64 k ∧ Gr w1 wr ∧ ∀ j, j < k → M[j]? ≠ some (x, y)) (fun _ _ i _ _ _ _ _ _ _ _ _ _ _ => M.length - (intOf i).toNat)
  case atStart => exact ⟨0, by omega, rfl, Gr.refl _, fun j hj => by omega⟩
  case round =>
    obtain ⟨k, hk, rfl, gr, hz⟩ := hrel
    have HZ := Lib.hid hz
    have GR := Lib.hid gr
    clear hz gr
    by_cases hkl : k < M.length
    · obtain ⟨d, hd⟩ : ∃ d, M[k]? = some d := ⟨_, List.getElem?_eq_getElem hkl⟩
      obtain ⟨b, off, rfl, hb, hcell⟩ := HX.out (by intro e; rw [e] at hkl; simp at hkl)
      have hkI : (k : Int) < (M.length : Int) := by omega
      have G01 := Lib.hid (G1.out.trans GR.out)
      have q1 := (G01.out.cells.1 b (off + k * 2) hb).trans (hcell k d hd).1
      have q2 := (G01.out.cells.1 b (off + k * 2 + 1) hb).trans (hcell k d hd).2
      obtain ⟨t0, t1, t2⟩ := T1.out.gr GR.out
      obtain ⟨p, q⟩ := d
      simp only at q1 q2
      clear hcell
      by_cases he : (p, q) = (x, y)
      · obtain ⟨rfl, rfl⟩ := Prod.mk.inj he
        have hmem : Hid ((p, q) ∈ M) := List.mem_of_getElem? hd
        clear he
        go_wp2_with fail
        go_quiet (fail)
        go_wp2
        go_ret
        exact ⟨⟨k, by unfold idxI; rw [if_pos hmem.out]; rfl⟩, G01.out.drewN _⟩
      · have HN : Hid (∀ j, j < k + 1 → M[j]? ≠ some (x, y)) := fun j hj => by
          by_cases e : j = k
          · subst e; rw [hd]; intro e'; exact he (Option.some.inj e')
          · exact HZ.out j (by omega)
        have he' : ¬ (x = p ∧ y = q) := fun e => he (by rw [e.1, e.2])
        clear he hd
        by_cases hxp : x = p
        · subst hxp
          have hyq : ¬ y = q := fun e => he' ⟨rfl, e⟩
          clear he'
          go_wp2_with fail
          go_quiet (fail)
          go_wp2
          go_roundw
          case rel => exact ⟨k + 1, by omega, by go_num, GR.out.drewN _, HN.out⟩
          case measure => simp [intOf]; omega
        · clear he'
          go_wp2_with fail
          go_quiet (fail)
          go_wp2
          go_roundw
          case rel => exact ⟨k + 1, by omega, by go_num, GR.out.drewN _, HN.out⟩
          case measure => simp [intOf]; omega
    · obtain rfl : k = M.length := by omega
      have HF : Hid ((x, y) ∉ M) := fun hm => by
        obtain ⟨j, hj⟩ := List.getElem?_of_mem hm
        exact HZ.out j (List.getElem?_eq_some_iff.1 hj).1 hj
      go_wp2
      go_ret
      exact ⟨⟨0, by unfold idxI; rw [if_neg HF.out]; rfl⟩, G1.out.trans GR.out⟩
set_option maxHeartbeats 1000000 in
set_option maxRecDepth 100000 in
theorem contains_any (m : Value) (M : List (Int × Int)) (d : Int × Int) (w : World) (hr : Rd2 w m M) (hl : M.length ≤ 1000) :
    Calls Try.prog 109 #[m, .agg #[.int .i64 d.1, .int .i64 d.2]] w fun e w' => e = .returned (.bool (decide (d ∈ M))) ∧ Gr w w' := by
  have H := Lib.hid (kindex_any m M d _ (hr.alloc (.cells #[.int .i64 d.1, .int .i64 d.2] 26)) hl)
  obtain ⟨x, y⟩ := d
  simp only at H
  go_enter Try.func109, Try.ntmps109
  go_wp2_with (first | (go_at_call 118; refine H.out.mono ?_; rintro e w1 ⟨⟨n, rfl⟩, g1⟩))
  go_ret
  refine ⟨?_, ((Gr.refl w).alloc _).trans g1⟩
  unfold idxI
  by_cases h : (x, y) ∈ M <;> simp [h]
theorem index_counts (v : List Nat) (s : Nat) (hs : s < 5) (w : World) : (Instr.index 108 (.agg (cArr v)) (.int .i64 (s : Int))).run Try.prog w = .ok (.int .i64 (cv v s : Nat)) w := by
  have hz : (sizeOf 3).run Try.prog w = .ok 1 w := by
    cases hq : Try.prog.info? 3 with
    | none => have := int_size1; rw [hq] at this; simp at this
    | some i =>
      have hs : i.size = 1 := by have := int_size1; rw [hq] at this; simpa using this
      simp [sizeOf, typeInfo, hq, hs]
  have hc := cArr_at v s hs
  simp [Instr.index, Sem.run_bind, run_underlying Try.underlying108, asIntOf, part, hz, hc]
  intro h
  omega
end Go.Proofs.Ytghjfakellaecaa
