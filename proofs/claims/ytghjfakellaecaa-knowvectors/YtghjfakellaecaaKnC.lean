/- know.checkMore, Check, checkBoth, Count. -/
import Derived.Test.YtghjfakellaecaaKnB
import Derived.BigQuiet
import Derived.IntWalk
import Derived.Deep.QuietTactic
namespace Go.Proofs.Ytghjfakellaecaa
open Go.RowKit Rm
set_option linter.unusedVariables false
set_option linter.unusedSimpArgs false
theorem badM_dot {v : List Nat} {M : List (Int × Int)} {k : Nat} {d : Int × Int} (h : M[k]? = some d) (hd : dotB d = false) : badM v M k = 1 := by
  unfold badM; rw [h]; simp [hd]
theorem badM_low {v : List Nat} {M : List (Int × Int)} {k s c : Nat} (h : M[k]? = some ((s : Int), (c : Int))) (hd : dotB ((s : Int), (c : Int)) = true) (hc : c < cv v s + 2) : badM v M k = 3 := by
  unfold badM; rw [h]; simp only [hd]; rw [if_neg (by simp), if_pos (.inl (by simp; omega))]
theorem badM_fst {v : List Nat} {M : List (Int × Int)} {s c : Nat} (h : M[0]? = some ((s : Int), (c : Int))) (hd : dotB ((s : Int), (c : Int)) = true) (hc : cv v s + 2 ≤ c) : badM v M 0 = 0 := by
  unfold badM; rw [h]; simp only [hd]; rw [if_neg (by simp), if_neg (by simp; omega)]
theorem badM_nxt {v : List Nat} {M : List (Int × Int)} {k s c s' c' : Nat} (h : M[k + 1]? = some ((s : Int), (c : Int))) (h' : M[k]? = some ((s' : Int), (c' : Int))) (hd : dotB ((s : Int), (c : Int)) = true) (hc : cv v s + 2 ≤ c) :
    badM v M (k + 1) = if 0 ≤ cmpD (s', c') (s, c) then 3 else 0 := by
  unfold badM
  rw [h]
  simp only [hd, Nat.add_sub_cancel]
  rw [List.getD_eq_getElem?_getD, h', if_neg (by simp)]
  by_cases q : ltD (s', c') (s, c)
  · rw [if_neg (c := 0 ≤ cmpD (s', c') (s, c)) (by rw [cmpD_ge]; exact fun e => e q), if_neg]
    rintro (e | ⟨_, e⟩)
    · simp at e; omega
    · apply e; unfold ltD at q; unfold ltI; simp at q ⊢; omega
  · rw [if_pos (c := 0 ≤ cmpD (s', c') (s, c)) (by rw [cmpD_ge]; exact q), if_pos]
    refine .inr ⟨by omega, fun e => q ?_⟩
    unfold ltI at e; unfold ltD; simp at e ⊢; omega
theorem cell_cArr {w : World} {g : Nat} {t : TypeId} {fr : Nat × Nat} {v : List Nat} (h : w.heap[g]? = some (.cells (cArr v) t fr)) {s : Nat} (hs : s < 5) : w.cell? ⟨g, s, none⟩ = some (.int .i64 (cv v s : Nat)) := by
  match s, hs with
  | 0, _ => simp [World.cell?, h, cArr]
  | 1, _ => simp [World.cell?, h, cArr]
  | 2, _ => simp [World.cell?, h, cArr]
  | 3, _ => simp [World.cell?, h, cArr]
  | 4, _ => simp [World.cell?, h, cArr]
theorem dot_nat {d : Int × Int} (h : dotB d = true) : ∃ s c : Nat, d = ((s : Int), (c : Int)) ∧ s < 5 ∧ 1 ≤ c ∧ c ≤ 1000 := by
  obtain ⟨x, y⟩ := d
  have := (dotB_iff _).1 h
  simp only at this
  exact ⟨x.toNat, y.toNat, by congr <;> omega, by omega, by omega, by omega⟩

theorem beside_gr {f : Nat} {args : Array Value} {w : World} {A : Ending → World → Prop} (h : Calls Try.prog f args w A) (hg : ∀ e w', A e w' → Gr w w') {S : World → Prop} (hS : ∀ w', Gr w w' → S w') : Calls Try.prog f args w (fun e w' => A e w' ∧ S w') :=
  h.mono fun e w' a => ⟨a, hS w' (hg e w' a)⟩
set_option maxHeartbeats 4000000 in
set_option maxRecDepth 100000 in
theorem checkMore_any (m : Value) (v : List Nat) (M : List (Int × Int)) (w : World) (hr : Rd2 w m M) (hl : M.length ≤ 60) (hv : ∀ x ∈ v, x ≤ 1000) :
    Calls Try.prog 79 #[m, .agg (cArr v)] w fun e w' => e = .returned (.int .i64 (chkM v M)) ∧ Gr w w' := by
  obtain ⟨a, c, rfl, hc, hx⟩ := hr
  have G1 := Lib.hid ((Gr.refl w).alloc (.cells (cArr v) 108))
  have B1 : Hid ((w.alloc (.cells (cArr v) 108)).heap[w.heap.size]? = some (.cells (cArr v) 108 (0, 0))) := al_new _ _ _ rfl
  have HX := Lib.hid hx
  have HV := Lib.hid hv
  have HLI : (M.length : Int) ≤ 60 := by omega
  have hwlt : Hid (w.heap.size < (w.alloc (.cells (cArr v) 108)).heap.size) := by show _ < _; simp
  clear hx hv
  go_enter Try.func79, Try.ntmps79
  go_wp2
  generalize w.alloc (.cells (cArr v) 108) = w1 at *
  go_loopw [4, 5, 6, 9, 10, 11, 12, 13, 14, 15, 16, 17, 18, 19, 20, 21, 22, 23, 24, 25, 26, 27, 28, 29, 30, 31, 32, 33, 34, 35, 36, 37, 38, 39] (fun _ _ _ i _ _ _ _ _ _ _ _ _ _ _ _ _ _ _ _ _ _ _ _ _ _ _ _ _ _ _ _ _ _ wr => ∃ k : Nat, k ≤ M.length ∧ i = .int .i64 k ∧ Gr w1 wr ∧ ∀ j, j < k → badM v M j = 0) (fun _ _ _ i _ _ _ _ _ _ _ _ _ _ _ _ _ _ _ _ _ _ _ _ _ _ _ _ _ _ _ _ _ _ _ => M.length - (intOf i).toNat)
  case atStart => exact ⟨0, by omega, rfl, Gr.refl _, fun j hj => by omega⟩
  case round =>
    obtain ⟨k, hk, rfl, gr, hz⟩ := hrel
    have HZ := Lib.hid hz
    have GR := Lib.hid gr
    clear hz gr
    by_cases hkl : k < M.length
    · obtain ⟨d, hd⟩ : ∃ d, M[k]? = some d := ⟨_, List.getElem?_eq_getElem hkl⟩
      obtain ⟨b, off, rfl, hb, hcell⟩ := HX.out (by intro e; rw [e] at hkl; simp at hkl)
      have hkI : (k : Int) < (M.length : Int) := by omega
      have G01 := Lib.hid (G1.out.trans GR.out)
      have q1 := (G01.out.cells.1 b (off + k * 2) hb).trans (hcell k d hd).1
      have q2 := (G01.out.cells.1 b (off + k * 2 + 1) hb).trans (hcell k d hd).2
      have HCell := Lib.hid hcell
      clear hcell
      have HD := Lib.hid (dot_any d)
      by_cases hdot : dotB d = true
      · obtain ⟨s, cc, rfl, hs5, hc1, hc2⟩ := dot_nat hdot
        simp only at q1 q2
        rw [hdot] at HD
        have hcv := Lib.hid (cv_le HV.out s)
        have HM1 : Hid (cc < cv v s + 2 → badM v M k = 3) := fun e => badM_low hd hdot e
        have HM2 : Hid (k = 0 → cv v s + 2 ≤ cc → badM v M k = 0) := fun e e' => by subst e; exact badM_fst hd hdot e'
        have HM3 : Hid (∀ k', k = k' + 1 → cv v s + 2 ≤ cc → ∃ s' c' : Nat, M[k']? = some ((s' : Int), (c' : Int)) ∧ badM v M k = if 0 ≤ cmpD (s', c') (s, cc) then 3 else 0) := by
          intro k' e e'
          subst e
          obtain ⟨p, hp⟩ : ∃ p, M[k']? = some p := ⟨_, List.getElem?_eq_getElem (by omega)⟩
          obtain ⟨s', c', rfl, _⟩ := dot_nat (badM_zero HZ.out k' p (by omega) hp).1
          exact ⟨s', c', hp, badM_nxt hd hp hdot e'⟩
        have B2 := Lib.hid (cell_cArr ((Below.block GR.out _ hwlt.out).trans B1.out) hs5)
        generalize cv v s = n at *
        go_wp2_with (first | (go_at_call 30; refine (HD.out _).mono ?_; rintro e w3 ⟨rfl, g3⟩; have G3 := Lib.hid g3; clear g3))
        have GA : Hid (Gr wr w3) := (((Gr.refl wr).alloc (.cells #[.int .i64 (s : Int), .int .i64 (cc : Int)] 26))).trans G3.out
        have T1 := (Two.new wr s cc 26).gr G3.out
        have B3 := (GA.out.cells.1 _ s (Nat.lt_of_lt_of_le hwlt.out GR.out.le)).trans B2.out
        have GW := Lib.hid (G01.out.trans GA.out)
        have GL := Lib.hid (GR.out.trans GA.out)
        obtain ⟨t0, t1, t2⟩ := T1
        have hn0 : (n : Int) ≤ 1000 := by have := hcv.out; omega
        have hs5' : (s : Int) < 5 := by omega
        have hccI : (cc : Int) ≤ 1000 := by omega
        clear G3 HD q1 q2 B2
        generalize wr.heap.size = gd at *
        by_cases hA : cc < n + 2
        · have hA' : (cc : Int) < (n : Int) + 2 := by omega
          have HR : Hid (chkM v M = 3) := by
            show _ = _
            have h1 : badM v M k = 3 := HM1.out hA
            unfold chkM
            rw [first_some HZ.out hkl (by rw [h1]; decide), h1]
          go_quiet (fail)
          go_wp2
          go_ret
          exact ⟨by rw [HR.out]; rfl, GW.out.drewN _⟩
        · have hA' : decide ((cc : Int) < (n : Int) + 2) = false := by simp; omega
          by_cases hk0 : k = 0
          · subst hk0
            have HN : Hid (∀ j, j < 0 + 1 → badM v M j = 0) := fun j hj => by
              obtain rfl : j = 0 := by omega
              exact HM2.out rfl (by omega)
            go_quiet (fail)
            go_wp2
            go_roundw
            case rel => exact ⟨0 + 1, by omega, by go_num, GL.out.drewN _, HN.out⟩
            case measure => simp [intOf]; omega
          · obtain ⟨k', rfl⟩ : ∃ k', k = k' + 1 := ⟨k - 1, by omega⟩
            obtain ⟨s', c', hp, hbm⟩ := HM3.out k' rfl (by omega)
            have HBM := Lib.hid hbm
            have p1 := (GW.out.cells.1 b (off + k' * 2) hb).trans (HCell.out k' _ hp).1
            have p2 := (GW.out.cells.1 b (off + k' * 2 + 1) hb).trans (HCell.out k' _ hp).2
            simp only at p1 p2
            have hbw := Nat.lt_of_lt_of_le hb GW.out.le
            have hgw : w.heap.size < w3.heap.size := Nat.lt_of_lt_of_le hwlt.out (GL.out.le)
            have hk1 : ((k' + 1 : Nat) : Int) - 1 = (k' : Int) := by omega
            have hk2 : (k' : Int) < (M.length : Int) := by omega
            have HCM := Lib.hid (compare_any (s', c') (s, cc))
            clear hbm HM1 HM2 HM3
            have hcd' : ((k' : Int) + 1) > 0 := by omega
            generalize cmpD (s', c') (s, cc) = r at *
            have hw1 : IntKind.i64.wrap ((n : Int) + 2) = (n : Int) + 2 := IntWalk.i64_in _ (by omega)
            have hw2 : IntKind.i64.wrap ((k' : Int) + 1 - 1) = (k' : Int) := by rw [show (k' : Int) + 1 - 1 = (k' : Int) by omega]; exact IntWalk.i64_in _ (by omega)
            have hw3 : IntKind.i64.wrap (k' : Int) = (k' : Int) := IntWalk.i64_in _ (by omega)
            have hle : (n : Int) + 2 ≤ (cc : Int) := by omega
            go_still_tail 18, (by kernel_rfl)
            change wpList _ _ _ _ _ w3.drew
            have GW1 := Lib.hid GW.out.drew
            have GL1 := Lib.hid GL.out.drew
            clear GW GL t0 t1 t2 B3 p1 p2 hw1 hw2 hw3 hle hbw hgw GA
            generalize w3.drew = w4 at *
            by_cases hr : 0 ≤ r
            · have HR : Hid (chkM v M = 3) := by
                show _ = _
                have h1 : badM v M (k' + 1) = 3 := by rw [HBM.out, if_pos hr]
                unfold chkM
                rw [first_some HZ.out hkl (by rw [h1]; decide), h1]
              go_wp2_with (first | (go_at_call 94; refine (HCM.out _).mono ?_; rintro e w5 ⟨rfl, g5⟩; have G5 := Lib.hid g5.1; clear g5))
              go_ret
              exact ⟨by rw [HR.out]; rfl, GW1.out.trans G5.out⟩
            · have HN : Hid (∀ j, j < k' + 1 + 1 → badM v M j = 0) := fun j hj => by
                by_cases e : j = k' + 1
                · subst e; rw [HBM.out, if_neg hr]
                · exact HZ.out j (by omega)
              have hr' : decide (0 ≤ r) = false := decide_eq_false hr
              go_wp2_with (first | (go_at_call 94; refine (HCM.out _).mono ?_; rintro e w5 ⟨rfl, g5⟩; have G5 := Lib.hid g5.1; clear g5))
              go_roundw
              case rel => exact ⟨k' + 1 + 1, by omega, by go_num, GL1.out.trans G5.out, HN.out⟩
              case measure => simp [intOf]; omega
      · rw [Bool.not_eq_true] at hdot
        rw [hdot] at HD
        have HR : Hid (chkM v M = 1) := by
          show _ = _
          have h1 : badM v M k = 1 := badM_dot hd hdot
          unfold chkM
          rw [first_some HZ.out hkl (by rw [h1]; decide), h1]
        go_wp2_with (first | (go_at_call 30; refine (HD.out _).mono ?_; rintro e w3 ⟨rfl, g3⟩; have G3 := Lib.hid g3; clear g3))
        go_ret
        exact ⟨by rw [HR.out]; rfl, (G01.out.alloc _).trans G3.out⟩
    · obtain rfl : k = M.length := by omega
      have HF : Hid (chkM v M = 0) := first_none HZ.out
      go_wp2
      go_ret
      exact ⟨by rw [HF.out]; rfl, G1.out.trans GR.out⟩
end Go.Proofs.Ytghjfakellaecaa
