/- slices.Equal at integers and at dots; the document's SameKnow. -/
import Derived.Test.YtghjfakellaecaaKnT
set_option linter.unusedVariables false
set_option linter.unusedSimpArgs false
namespace Go.Proofs.Ytghjfakellaecaa
open Go.RowKit Rm

set_option maxHeartbeats 1000000 in
set_option maxRecDepth 100000 in
theorem equalI (x y : Value) (l l' : List (Int)) (w : World) (h : R1 w x l) (h' : R1 w y l') (hl : l.length ≤ 100000) :
    Calls Try.prog 23 #[x, y] w fun e w' => e = .returned (.bool (decide (l = l'))) ∧ Gr w w' := by
  obtain ⟨a, c, rfl, hc, hx⟩ := h
  obtain ⟨a', c', rfl, hc', hx'⟩ := h'
  have HX := Lib.hid hx
  have HX' := Lib.hid hx'
  clear hx hx'
  by_cases hlen : l.length = l'.length
  · have hlI : (l.length : Int) ≤ 100000 := by omega
    rw [← hlen] at hc' ⊢
    have HLN := Lib.hid hlen
    clear hlen
    go_enter Try.func23, Try.ntmps23
    go_wp2
    go_loopg [13] l.length (fun gh ix wr => ∃ i : Nat, i ≤ l.length ∧ l.length - i ≤ gh ∧ ix = .int .i64 (i : Int) ∧ (∃ q, wr = w.drewN q) ∧ ∀ j, j < i → l[j]? = l'[j]?)
    case atStart => exact ⟨0, by omega, by omega, rfl, ⟨0, rfl⟩, fun j hj => by omega⟩
    case round =>
      obtain ⟨i, hi, hgh, rfl, ⟨q, hwr⟩, hall⟩ := hrel
      have HW := Lib.hid hwr
      have HA := Lib.hid hall
      have GW : Hid (Gr w wr) := by rw [hwr]; exact (Gr.refl w).drewN q
      clear hwr hall
      by_cases hil : i < l.length
      · obtain ⟨p, hp⟩ : ∃ p, l[i]? = some p := ⟨_, List.getElem?_eq_getElem hil⟩
        obtain ⟨p', hp'⟩ : ∃ p', l'[i]? = some p' := ⟨_, List.getElem?_eq_getElem (by have := HLN.out; omega)⟩
        obtain ⟨b, off, hab, hb, hcell⟩ := HX.out (by intro e; rw [e] at hil; simp at hil)
        obtain ⟨b', off', hab', hb', hcell'⟩ := HX'.out (by intro e; have hq := HLN.out; rw [e] at hq; simp at hq; rw [hq] at hil; simp at hil)
        subst hab
        subst hab'
        have q1 := (GW.out.cells.1 b (off + i) hb).trans (hcell i p hp)
        have q2 := (GW.out.cells.1 b' (off' + i) hb').trans (hcell' i p' hp')
        have hiI : (i : Int) < (l.length : Int) := by omega
        have HP := Lib.hid hp
        have HP' := Lib.hid hp'
        clear hcell hcell' hp hp'
        by_cases he : p = p'
        · subst he
          have HN : Hid (∀ j, j < i + 1 → l[j]? = l'[j]?) := fun j hj => by
            by_cases e : j = i
            · subst e; rw [HP.out, HP'.out]
            · exact HA.out j (by omega)
          go_wp2_with fail
          go_quiet (fail)
          go_wp2
          go_roundg (l.length - (i + 1))
          case measure => omega
          case rel => exact ⟨i + 1, by omega, Nat.le_refl _, by go_num, ⟨q + nq, by rw [HW.out]; exact drewN_add ..⟩, HN.out⟩
        · have HF : Hid (decide (l = l') = false) := by
            show _ = _
            rw [decide_eq_false_iff_not]
            rintro rfl
            have := HP.out.symm.trans HP'.out
            exact he (Option.some.inj this)
          go_wp2_with fail
          go_quiet (fail)
          go_wp2
          go_ret
          exact ⟨by rw [HF.out]; rfl, GW.out.drewN _⟩
      · obtain rfl : i = l.length := by omega
        have HT : Hid (decide (l = l') = true) := by
          show _ = _
          rw [decide_eq_true_eq]
          apply List.ext_getElem?
          intro j
          by_cases hj : j < l.length
          · exact HA.out j hj
          · rw [List.getElem?_eq_none (by omega), List.getElem?_eq_none (by have := HLN.out; omega)]
        go_wp2
        go_ret
        exact ⟨by rw [HT.out]; rfl, GW.out⟩
  · have HF : Hid (decide (l = l') = false) := by
      show _ = _
      rw [decide_eq_false_iff_not]
      rintro rfl
      exact hlen rfl
    have hI : ¬ (l.length : Int) = (l'.length : Int) := by omega
    go_enter Try.func23, Try.ntmps23
    go_wp2
    go_ret
    exact ⟨by rw [HF.out]; rfl, Gr.refl _⟩

set_option maxHeartbeats 1000000 in
set_option maxRecDepth 100000 in
theorem equalD (x y : Value) (l l' : List (Int × Int)) (w : World) (h : Rd2 w x l) (h' : Rd2 w y l') (hl : l.length ≤ 100000) :
    Calls Try.prog 65 #[x, y] w fun e w' => e = .returned (.bool (decide (l = l'))) ∧ Gr w w' := by
  obtain ⟨a, c, rfl, hc, hx⟩ := h
  obtain ⟨a', c', rfl, hc', hx'⟩ := h'
  have HX := Lib.hid hx
  have HX' := Lib.hid hx'
  clear hx hx'
  by_cases hlen : l.length = l'.length
  · have hlI : (l.length : Int) ≤ 100000 := by omega
    rw [← hlen] at hc' ⊢
    have HLN := Lib.hid hlen
    clear hlen
    go_enter Try.func65, Try.ntmps65
    go_wp2
    go_loopg [13] l.length (fun gh ix wr => ∃ i : Nat, i ≤ l.length ∧ l.length - i ≤ gh ∧ ix = .int .i64 (i : Int) ∧ (∃ q, wr = w.drewN q) ∧ ∀ j, j < i → l[j]? = l'[j]?)
    case atStart => exact ⟨0, by omega, by omega, rfl, ⟨0, rfl⟩, fun j hj => by omega⟩
    case round =>
      obtain ⟨i, hi, hgh, rfl, ⟨q, hwr⟩, hall⟩ := hrel
      have HW := Lib.hid hwr
      have HA := Lib.hid hall
      have GW : Hid (Gr w wr) := by rw [hwr]; exact (Gr.refl w).drewN q
      clear hwr hall
      by_cases hil : i < l.length
      · obtain ⟨p, hp⟩ : ∃ p, l[i]? = some p := ⟨_, List.getElem?_eq_getElem hil⟩
        obtain ⟨p', hp'⟩ : ∃ p', l'[i]? = some p' := ⟨_, List.getElem?_eq_getElem (by have := HLN.out; omega)⟩
        obtain ⟨b, off, hab, hb, hcell⟩ := HX.out (by intro e; rw [e] at hil; simp at hil)
        obtain ⟨b', off', hab', hb', hcell'⟩ := HX'.out (by intro e; have hq := HLN.out; rw [e] at hq; simp at hq; rw [hq] at hil; simp at hil)
        subst hab
        subst hab'
        obtain ⟨u, v⟩ := p
        obtain ⟨u', v'⟩ := p'
        have q1 := (GW.out.cells.1 b (off + i * 2) hb).trans (hcell i _ hp).1
        have q2 := (GW.out.cells.1 b (off + i * 2 + 1) hb).trans (hcell i _ hp).2
        have q3 := (GW.out.cells.1 b' (off' + i * 2) hb').trans (hcell' i _ hp').1
        have q4 := (GW.out.cells.1 b' (off' + i * 2 + 1) hb').trans (hcell' i _ hp').2
        simp only at q1 q2 q3 q4
        have hiI : (i : Int) < (l.length : Int) := by omega
        have HP := Lib.hid hp
        have HP' := Lib.hid hp'
        clear hcell hcell' hp hp'
        by_cases he : (u, v) = (u', v')
        · obtain ⟨rfl, rfl⟩ := Prod.mk.inj he
          have HN : Hid (∀ j, j < i + 1 → l[j]? = l'[j]?) := fun j hj => by
            by_cases e : j = i
            · subst e; rw [HP.out, HP'.out]
            · exact HA.out j (by omega)
          go_wp2_with fail
          go_quiet (fail)
          go_wp2
          go_roundg (l.length - (i + 1))
          case measure => omega
          case rel => exact ⟨i + 1, by omega, Nat.le_refl _, by go_num, ⟨q + nq, by rw [HW.out]; exact drewN_add ..⟩, HN.out⟩
        · have HF : Hid (decide (l = l') = false) := by
            show _ = _
            rw [decide_eq_false_iff_not]
            rintro rfl
            have := HP.out.symm.trans HP'.out
            exact he (Option.some.inj this)
          by_cases hu : u = u'
          · subst hu
            have hv : ¬ v = v' := fun e => he (by rw [e])
            clear he
            go_wp2_with fail
            go_quiet (fail)
            go_wp2
            go_ret
            exact ⟨by rw [HF.out]; rfl, GW.out.drewN _⟩
          · clear he
            go_wp2_with fail
            go_quiet (fail)
            go_wp2
            go_ret
            exact ⟨by rw [HF.out]; rfl, GW.out.drewN _⟩
      · obtain rfl : i = l.length := by omega
        have HT : Hid (decide (l = l') = true) := by
          show _ = _
          rw [decide_eq_true_eq]
          apply List.ext_getElem?
          intro j
          by_cases hj : j < l.length
          · exact HA.out j hj
          · rw [List.getElem?_eq_none (by omega), List.getElem?_eq_none (by have := HLN.out; omega)]
        go_wp2
        go_ret
        exact ⟨by rw [HT.out]; rfl, GW.out⟩
  · have HF : Hid (decide (l = l') = false) := by
      show _ = _
      rw [decide_eq_false_iff_not]
      rintro rfl
      exact hlen rfl
    have hI : ¬ (l.length : Int) = (l'.length : Int) := by omega
    go_enter Try.func65, Try.ntmps65
    go_wp2
    go_ret
    exact ⟨by rw [HF.out]; rfl, Gr.refl _⟩

/-- the first is compared first -/
theorem sameK_any (k k' : Value) (V V' : List Int) (M M' : List (Int × Int)) (w : World) (hk : KnR w k V M) (hk' : KnR w k' V' M') (hl : V.length ≤ 100000) (hl' : M.length ≤ 100000) :
    Calls Try.prog 28 #[k, k'] w fun e w' => e = .returned (.bool (decide (V = V') && decide (M = M'))) ∧ Gr w w' := by
  obtain ⟨vv, mv, rfl, r1, r2, r3⟩ := hk
  obtain ⟨vv', mv', rfl, r1', r2', r3'⟩ := hk'
  have H1 : Hid (∀ W, Gr w W → Calls Try.prog 23 #[vv, vv'] W fun e w' => e = .returned (.bool (decide (V = V'))) ∧ Gr W w') := fun W g => equalI vv vv' V V' W (r1.gr g) (r1'.gr g) hl
  have H2 : Hid (∀ W, Gr w W → Calls Try.prog 65 #[mv, mv'] W fun e w' => e = .returned (.bool (decide (M = M'))) ∧ Gr W w') := fun W g => equalD mv mv' M M' W (r2.gr g) (r2'.gr g) hl'
  clear r1 r2 r3 r1' r2' r3'
  have G2 := Lib.hid (((Gr.refl w).alloc (.cells #[vv, mv] 35)).alloc (.cells #[vv', mv'] 35))
  have B0 : Hid (((w.alloc (.cells #[vv, mv] 35)).alloc (.cells #[vv', mv'] 35)).heap[w.heap.size]? = some (.cells #[vv, mv] 35 (0, 0))) := (al_old _ _ _ (by simp)).trans (al_new _ _ _ rfl)
  have B1 : Hid (((w.alloc (.cells #[vv, mv] 35)).alloc (.cells #[vv', mv'] 35)).heap[w.heap.size + 1]? = some (.cells #[vv', mv'] 35 (0, 0))) := al_new _ _ _ (by simp)
  generalize decide (V = V') = p at *
  generalize decide (M = M') = q at *
  cases p
  · go_enter Try.func28, Try.ntmps28
    go_wp2_with (go_at_call 23; refine (H1.out _ G2.out).mono ?_; rintro e w4 ⟨rfl, g4⟩)
    go_ret
    exact ⟨rfl, G2.out.trans g4⟩
  · go_enter Try.func28, Try.ntmps28
    go_wp2_with (first
      | (go_at_call 23; refine (H1.out _ G2.out).mono ?_; rintro e w4 ⟨rfl, g4⟩; have b0 := (Below.block g4 _ (Array.getElem?_eq_some_iff.1 B0.out).1).trans B0.out; have b1 := (Below.block g4 _ (Array.getElem?_eq_some_iff.1 B1.out).1).trans B1.out; have c0 := kc1 b0; have c1 := kc1 b1; have G4 := Lib.hid (G2.out.trans g4); clear g4 b0 b1 B0 B1)
      | (go_at_call 65; refine (H2.out _ G4.out).mono ?_; rintro e w5 ⟨rfl, g5⟩))
    go_ret
    exact ⟨by simp, G4.out.trans g5⟩
end Go.Proofs.Ytghjfakellaecaa
