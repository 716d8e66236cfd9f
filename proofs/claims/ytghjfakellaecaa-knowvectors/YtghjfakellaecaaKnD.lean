/- know.Check, checkBoth, Count. -/
import Derived.Test.YtghjfakellaecaaKnC
namespace Go.Proofs.Ytghjfakellaecaa
open Go.RowKit Rm
set_option linter.unusedVariables false
set_option linter.unusedSimpArgs false
theorem chkK_large {V : List Int} {M : List (Int × Int)} (h : 5 < V.length ∨ 60 < M.length) : chkK V M = 2 := by unfold chkK; rw [if_pos h]
theorem chkK_vec {V : List Int} {M : List (Int × Int)} (h : ¬ (5 < V.length ∨ 60 < M.length)) (hv : chkV V ≠ 0) : chkK V M = chkV V := by unfold chkK; rw [if_neg h, if_pos hv]
theorem chkK_more {V : List Int} {M : List (Int × Int)} (h : ¬ (5 < V.length ∨ 60 < M.length)) (hv : chkV V = 0) : chkK V M = chkM (natsI V) M := by unfold chkK; rw [if_neg h, if_neg (by simp [hv])]
set_option maxHeartbeats 4000000 in
set_option maxRecDepth 100000 in
theorem kcheck_any (k : Value) (V : List Int) (M : List (Int × Int)) (w : World) (hk : KnR w k V M) :
    Calls Try.prog 43 #[k] w fun e w' => e = .returned (.int .i64 (chkK V M)) ∧ Gr w w' := by
  obtain ⟨vv, mv, rfl, r1, r2, r3⟩ := id hk
  obtain ⟨va, vc, rfl, hvc, hv⟩ := id r1
  obtain ⟨ma, mc, rfl, hmc, hm⟩ := id r2
  clear hv hm
  have HK := Lib.hid hk
  have R1h := Lib.hid r1
  have R2h := Lib.hid r2
  clear hk r1 r2 r3
  by_cases h5 : 5 < V.length
  · have h5' : (5 : Int) < (V.length : Int) := by omega
    have HR := Lib.hid (chkK_large (M := M) (.inl h5))
    go_enter Try.func43, Try.ntmps43
    go_wp2
    go_ret
    exact ⟨by rw [HR.out]; rfl, (Gr.refl _).alloc _⟩
  · have h5' : decide ((5 : Int) < (V.length : Int)) = false := by simp; omega
    have h5'' : (V.length : Int) ≤ 5 := by omega
    by_cases h6 : 60 < M.length
    · have h6' : (60 : Int) < (M.length : Int) := by omega
      have HR := Lib.hid (chkK_large (V := V) (.inr h6))
      go_enter Try.func43, Try.ntmps43
      go_wp2
      go_ret
      exact ⟨by rw [HR.out]; rfl, (Gr.refl _).alloc _⟩
    · have h6' : decide ((60 : Int) < (M.length : Int)) = false := by simp; omega
      have h6'' : (M.length : Int) ≤ 60 := by omega
      have hno : ¬ (5 < V.length ∨ 60 < M.length) := by omega
      have HV : Hid (∀ w', Gr w w' → Calls Try.prog 78 #[.slice va V.length vc] w' fun e w'' => e = .returned (.int .i64 (chkV V)) ∧ Gr w' w'') := fun w' g => checkVec_any _ V w' (R1h.out.gr g) (by omega)
      by_cases hz : chkV V = 0
      · have HR := Lib.hid (chkK_more hno hz)
        have hin := (chkV_zero hz).1
        have EV := ints_natsI hin
        have hz' : chkV V = 0 := hz
        rw [hz] at HV
        have HC : Hid (∀ w', Gr w w' → Calls Try.prog 61 #[.agg #[.slice va V.length vc, .slice ma M.length mc]] w' fun e w'' => e = .returned (.agg (cArr (natsI V))) ∧ Gr w' w'') := fun w' g => countsOf_any _ (natsI V) M w' (by rw [EV]; exact HK.out.gr g) (by simp [natsI]; omega)
        have HM : Hid (∀ w', Gr w w' → Calls Try.prog 79 #[.slice ma M.length mc, .agg (cArr (natsI V))] w' fun e w'' => e = .returned (.int .i64 (chkM (natsI V) M)) ∧ Gr w' w'') := fun w' g => checkMore_any _ (natsI V) M w' (R2h.out.gr g) (by omega) (fun x hx => by
          obtain ⟨y, hy, rfl⟩ := List.mem_map.1 hx
          have := hin y hy; omega)
        generalize chkM (natsI V) M = R at *
        generalize cArr (natsI V) = A at *
        generalize hN : V.length = N at *
        have HN := Lib.hid hN
        clear hN hz hz' hin EV
        go_enter Try.func43, Try.ntmps43
        go_wp2_with (first | (go_at_call 78; refine (HV.out _ ((Gr.refl w).alloc _)).mono ?_; rintro e w1 ⟨rfl, g1⟩; have G1 := Lib.hid (((Gr.refl w).alloc _).trans g1)))
        have e1 := (g1.cells.1 w.heap.size 0 (by simp)).trans (show (w.alloc (.cells #[.slice va N vc, .slice ma M.length mc] 35)).cell? ⟨w.heap.size, 0, none⟩ = some (.slice va N vc) by simp [go_sem])
        have e2 := (g1.cells.1 w.heap.size 1 (by simp)).trans (show (w.alloc (.cells #[.slice va N vc, .slice ma M.length mc] 35)).cell? ⟨w.heap.size, 1, none⟩ = some (.slice ma M.length mc) by simp [go_sem])
        have hlt : w.heap.size < w1.heap.size := Nat.lt_of_lt_of_le (by simp) g1.le
        clear g1 HV
        go_region_held3 (fun x => x.cell? ⟨w.heap.size, 0, none⟩ = some (.slice va N vc) ∧ x.cell? ⟨w.heap.size, 1, none⟩ = some (.slice ma M.length mc))
          (go_keep)
          (first
            | (go_at_call 61; refine (beside_gr (HC.out w1.drew G1.out.drew) (fun e w' q => q.2) (S := fun x => x.cell? ⟨w.heap.size, 0, none⟩ = some (.slice va N vc) ∧ x.cell? ⟨w.heap.size, 1, none⟩ = some (.slice ma M.length mc)) (fun x gx => ⟨(gx.cells.1 _ 0 hlt).trans e1, (gx.cells.1 _ 1 hlt).trans e2⟩)).mono ?_; rintro e w2 ⟨⟨rfl, g2⟩, k1, k2⟩)
            | (go_at_call 79; refine (beside_gr (HM.out w2 (G1.out.drew.trans g2)) (fun e w' q => q.2) (S := fun x => x.cell? ⟨w.heap.size, 0, none⟩ = some (.slice va N vc) ∧ x.cell? ⟨w.heap.size, 1, none⟩ = some (.slice ma M.length mc)) (fun x gx => ⟨(gx.cells.1 _ 0 (Nat.lt_of_lt_of_le hlt g2.le)).trans k1, (gx.cells.1 _ 1 (Nat.lt_of_lt_of_le hlt g2.le)).trans k2⟩)).mono ?_; rintro e w3 ⟨⟨rfl, g3⟩, k3, k4⟩))
        go_wp2
        go_ret
        exact ⟨by rw [HR.out]; rfl, (G1.out.drew.trans g2).trans g3⟩
      · have HR := Lib.hid (chkK_vec hno hz)
        generalize chkV V = R at *
        go_enter Try.func43, Try.ntmps43
        go_wp2_with (first | (go_at_call 78; refine (HV.out _ ((Gr.refl w).alloc _)).mono ?_; rintro e w1 ⟨rfl, g1⟩; have G1 := Lib.hid (((Gr.refl w).alloc _).trans g1); clear g1))
        go_ret
        exact ⟨by rw [HR.out]; rfl, G1.out⟩
set_option maxHeartbeats 1000000 in
set_option maxRecDepth 100000 in
theorem kcheckBoth (k k' : Value) (V V' : List Int) (M M' : List (Int × Int)) (w : World) (hk : KnR w k V M) (hk' : KnR w k' V' M') :
    Calls Try.prog 60 #[k, k'] w fun e w' => e = .returned (.int .i64 (if chkK V M ≠ 0 then chkK V M else chkK V' M')) ∧ Gr w w' := by
  have H1 : Hid (∀ w', Gr w w' → Calls Try.prog 43 #[k] w' fun e w'' => e = .returned (.int .i64 (chkK V M)) ∧ Gr w' w'') := fun w' g => kcheck_any k V M w' (hk.gr g)
  have H2 : Hid (∀ w', Gr w w' → Calls Try.prog 43 #[k'] w' fun e w'' => e = .returned (.int .i64 (chkK V' M')) ∧ Gr w' w'') := fun w' g => kcheck_any k' V' M' w' (hk'.gr g)
  obtain ⟨vv, mv, rfl, -⟩ := hk
  obtain ⟨vv', mv', rfl, -⟩ := hk'
  generalize chkK V M = r at *
  generalize chkK V' M' = r' at *
  have G0 := Lib.hid (((Gr.refl w).alloc (.cells #[vv, mv] 35)).alloc (.cells #[vv', mv'] 35))
  have BX : Hid (∀ w1, Gr ((w.alloc (.cells #[vv, mv] 35)).alloc (.cells #[vv', mv'] 35)) w1 → w1.cell? ⟨w.heap.size + 1, 0, none⟩ = some vv' ∧ w1.cell? ⟨w.heap.size + 1, 1, none⟩ = some mv') := fun w1 g1 => ⟨(g1.cells.1 (w.heap.size + 1) 0 (by simp)).trans (by simp [go_sem]), (g1.cells.1 (w.heap.size + 1) 1 (by simp)).trans (by simp [go_sem])⟩
  by_cases h : r = 0
  · subst h
    go_enter Try.func60, Try.ntmps60
    go_wp2_with (first
      | (go_at_call 43; refine (H1.out _ G0.out).mono ?_; rintro e w1 ⟨rfl, g1⟩; obtain ⟨c0, c1⟩ := BX.out _ g1; have G1 := Lib.hid (G0.out.trans g1); clear g1 H1)
      | (go_at_call 43; refine (H2.out _ G1.out).mono ?_; rintro e w2 ⟨rfl, g2⟩))
    go_ret
    exact ⟨by simp, G1.out.trans g2⟩
  · go_enter Try.func60, Try.ntmps60
    go_wp2_with (first | (go_at_call 43; refine (H1.out _ G0.out).mono ?_; rintro e w1 ⟨rfl, g1⟩))
    go_ret
    exact ⟨by first | rfl | (rw [if_pos h]; rfl), G0.out.trans g1⟩
end Go.Proofs.Ytghjfakellaecaa
