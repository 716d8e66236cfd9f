/- The contracts of slices.Equal over spans, and of the statements' own sets. -/
import Derived.Test.YthnoafmdecehcaaSpanE
namespace Go.Proofs.Ythnoafmdecehcaa
open Go.RowKit Rm
set_option linter.unusedVariables false

theorem take_snoc_eq {l r : List (Int × Int)} {k : Nat} {p : Int × Int} (h : l.take k = r.take k) (hl : l[k]? = some p) (hr : r[k]? = some p) : l.take (k + 1) = r.take (k + 1) := by
  obtain ⟨h1, e1⟩ := List.getElem?_eq_some_iff.1 hl
  obtain ⟨h2, e2⟩ := List.getElem?_eq_some_iff.1 hr
  rw [List.take_succ_eq_append_getElem h1, List.take_succ_eq_append_getElem h2, h, e1, e2]

set_option maxHeartbeats 1000000 in
set_option maxRecDepth 100000 in
theorem sequal_any (v v' : Value) (l r : List (Int × Int)) (w : World) (hl : Rd2 w v l) (hr : Rd2 w v' r) (hb : l.length < 1000000) :
    Calls Try.prog 45 #[v, v'] w fun e w' => e = .returned (.bool (decide (l = r))) ∧ Gr w w' := by
  obtain ⟨a, cp, rfl, hcp, hx⟩ := hl
  obtain ⟨a', cp', rfl, hcp', hx'⟩ := hr
  have HX := Lib.hid hx
  have HX' := Lib.hid hx'
  clear hx hx'
  have hb' : (l.length : Int) < 1000000 := by omega
  by_cases hlen : l.length = r.length
  · have hne : ((l.length : Int) != (r.length : Int)) = false := by simp; omega
    go_enter Try.func45, Try.ntmps45
    have HLen := Lib.hid hlen
    clear hlen
    go_wp2
    go_loopw [13] (fun i wr => ∃ k : Nat, k ≤ l.length ∧ i = .int .i64 k ∧ Hid (l.take k = r.take k) ∧ Gr w wr) (fun i _ => l.length - (intOf i).toNat)
    case atStart => exact ⟨0, by omega, rfl, rfl, Gr.refl _⟩
    case round =>
      obtain ⟨k, hk, rfl, hh, hg⟩ := hrel
      by_cases hlt : k < l.length
      · have hlt' : k < r.length := by have := HLen.out; omega
        obtain ⟨⟨f, t⟩, hp⟩ : ∃ p, l[k]? = some p := ⟨_, List.getElem?_eq_getElem hlt⟩
        obtain ⟨⟨f', t'⟩, hp'⟩ : ∃ p, r[k]? = some p := ⟨_, List.getElem?_eq_getElem hlt'⟩
        obtain ⟨b, off, rfl, hbb, hcell⟩ := HX.out (by intro e; rw [e] at hlt; simp at hlt)
        obtain ⟨b', off', rfl, hbb', hcell'⟩ := HX'.out (by intro e; rw [e] at hlt'; simp at hlt')
        obtain ⟨c1, c2⟩ := hcell k _ hp
        obtain ⟨d1, d2⟩ := hcell' k _ hp'
        rw [← hg.cells.1 _ _ hbb] at c1 c2
        rw [← hg.cells.1 _ _ hbb'] at d1 d2
        simp only at c1 c2 d1 d2
        clear hcell hcell'
        have hki : (k : Int) < (l.length : Int) := by omega
        have hki' : (k : Int) < (r.length : Int) := by omega
        by_cases q : f = f' ∧ t = t'
        · obtain ⟨rfl, rfl⟩ := q
          have HT := Lib.hid (take_snoc_eq hh.out hp hp')
          clear hh
          go_wp2
          go_quiet (fail)
          go_wp2
          go_roundw
          case rel => exact ⟨k + 1, by omega, by go_num, HT, hg.drewN _⟩
          case measure => simp [intOf]; omega
        · have E : Hid (decide (l = r) = false) := by
            refine decide_eq_false (fun e => q ?_)
            rw [e, hp'] at hp
            simp at hp
            exact ⟨hp.1.symm, hp.2.symm⟩
          clear hh
          by_cases q1 : f = f'
          · subst q1
            have q2 : ¬ t = t' := fun e => q ⟨rfl, e⟩
            clear q
            go_wp2
            go_quiet (fail)
            go_wp2
            go_ret
            exact ⟨by rw [E.out]; rfl, hg.drewN _⟩
          · clear q
            go_wp2
            go_quiet (fail)
            go_wp2
            go_ret
            exact ⟨by rw [E.out]; rfl, hg.drewN _⟩
      · obtain rfl : k = l.length := by omega
        have E : Hid (decide (l = r) = true) := by
          refine decide_eq_true ?_
          have := hh.out
          rw [List.take_length, HLen.out, List.take_length] at this
          exact this
        clear hh
        go_wp2
        go_ret
        exact ⟨by rw [E.out]; rfl, hg⟩
  · have E : decide (l = r) = false := decide_eq_false (fun e => hlen (by rw [e]))
    rw [E]
    have hne : ((l.length : Int) != (r.length : Int)) = true := by simp; omega
    clear E
    go_enter Try.func45, Try.ntmps45
    go_wp2
    go_ret
    exact ⟨rfl, Gr.refl _⟩
end Go.Proofs.Ythnoafmdecehcaa
