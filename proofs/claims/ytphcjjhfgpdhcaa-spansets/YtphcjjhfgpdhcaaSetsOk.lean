/- The walk of SpanSets, at valid lists. -/
import Derived.Test.YtphcjjhfgpdhcaaSetsR
namespace Go.Proofs.Ytphcjjhfgpdhcaa
open Go.RowKit Rm
set_option linter.unusedVariables false
theorem drew3 (w : World) (a b c : Addr) (x y z : Value) : ((w.drew.setCell a x).setCell b y).setCell c z = (((w.setCell a x).setCell b y).setCell c z).drew := rfl
set_option maxHeartbeats 8000000 in
set_option maxRecDepth 100000 in
theorem spanSets_ok (v v' : Value) (A B : Nat) (w : World) (hl : MS w v A) (hr : MS w v' B) :
    Calls Try.prog 14 #[v, v'] w fun e w' => e = .returned (.bool true) ∧ Gr w w' := by
  have HA := Lib.hid hl.2
  have HB := Lib.hid hr.2
  have HL := Lib.hid hl
  have HR := Lib.hid hr
  clear hl hr
  have ej := eqJoin
  have cA := chkS_of (canon_VF A)
  have cB := chkS_of (canon_VF B)
  go_enter Try.func14, Try.ntmps14
  go_wp2_with fail
  refine (mjoin (HL.out) (HR.out)).mono ?_
  rintro e v1 ⟨u1, rfl, h1, g1⟩
  have G1 := (Gr.refl _).trans g1
  have HL1 := Lib.hid ((HL.out).gr g1)
  clear HL
  have HR1 := Lib.hid ((HR.out).gr g1)
  clear HR
  clear g1
  have HJ1 := Lib.hid h1
  clear h1
  go_wp2_with fail
  refine (mmeet (HL1.out) (HR1.out)).mono ?_
  rintro e v2 ⟨u2, rfl, h2, g2⟩
  have G2 := (G1).trans g2
  have HL2 := Lib.hid ((HL1.out).gr g2)
  clear HL1
  have HR2 := Lib.hid ((HR1.out).gr g2)
  clear HR1
  have HJ2 := Lib.hid ((HJ1.out).gr g2)
  clear HJ1
  clear G1
  clear g2
  have HM2 := Lib.hid h2
  clear h2
  go_wp2_with fail
  refine (mless (HL2.out) (HR2.out)).mono ?_
  rintro e v3 ⟨u3, rfl, h3, g3⟩
  have G3 := (G2).trans g3
  have HL3 := Lib.hid ((HL2.out).gr g3)
  clear HL2
  have HR3 := Lib.hid ((HR2.out).gr g3)
  clear HR2
  have HJ3 := Lib.hid ((HJ2.out).gr g3)
  clear HJ2
  have HM3 := Lib.hid ((HM2.out).gr g3)
  clear HM2
  clear G2
  clear g3
  have HD3 := Lib.hid h3
  clear h3
  go_wp2_with fail
  refine (mwithin (HL3.out) (HR3.out)).mono ?_
  rintro e v4 ⟨rfl, g4⟩
  have G4 := (G3).trans g4
  have HL4 := Lib.hid ((HL3.out).gr g4)
  clear HL3
  have HR4 := Lib.hid ((HR3.out).gr g4)
  clear HR3
  have HJ4 := Lib.hid ((HJ3.out).gr g4)
  clear HJ3
  have HM4 := Lib.hid ((HM3.out).gr g4)
  clear HM3
  have HD4 := Lib.hid ((HD3.out).gr g4)
  clear HD3
  clear G3
  clear g4
  go_wp2_with fail
  refine (mjoin ((lit1 v4 1 2 60 2 canon2 (by decide)).alloc _) (lit1b v4 _ 2 4 60 12 canon12s (by decide))).mono ?_
  rintro e v5 ⟨u5, rfl, h5, g5⟩
  have G5 := (((G4).alloc _).alloc _).trans g5
  have HL5 := Lib.hid ((((HL4.out).alloc _).alloc _).gr g5)
  clear HL4
  have HR5 := Lib.hid ((((HR4.out).alloc _).alloc _).gr g5)
  clear HR4
  have HJ5 := Lib.hid ((((HJ4.out).alloc _).alloc _).gr g5)
  clear HJ4
  have HM5 := Lib.hid ((((HM4.out).alloc _).alloc _).gr g5)
  clear HM4
  have HD5 := Lib.hid ((((HD4.out).alloc _).alloc _).gr g5)
  clear HD4
  clear G4
  clear g5
  have HQ5 := Lib.hid h5
  clear h5
  go_wp2_with fail
  refine (mequal ((HQ5.out).alloc _) (lit1 _ 1 4 60 14 canon14s (by decide))).mono ?_
  rintro e v6 ⟨rfl, g6⟩
  have G6 := ((G5).alloc _).trans g6
  have HL6 := Lib.hid (((HL5.out).alloc _).gr g6)
  clear HL5
  have HR6 := Lib.hid (((HR5.out).alloc _).gr g6)
  clear HR5
  have HJ6 := Lib.hid (((HJ5.out).alloc _).gr g6)
  clear HJ5
  have HM6 := Lib.hid (((HM5.out).alloc _).gr g6)
  clear HM5
  have HD6 := Lib.hid (((HD5.out).alloc _).gr g6)
  clear HD5
  have HQ6 := Lib.hid (((HQ5.out).alloc _).gr g6)
  clear HQ5
  clear G5
  clear g6
  clear HQ6
  go_wp2_with fail
  refine (rspans_any _ _ _ (HL6.out).1).mono ?_
  rintro e v7 ⟨rfl, g7⟩
  have G7 := (G6).trans g7
  have HL7 := Lib.hid ((HL6.out).gr g7)
  clear HL6
  have HR7 := Lib.hid ((HR6.out).gr g7)
  clear HR6
  have HJ7 := Lib.hid ((HJ6.out).gr g7)
  clear HJ6
  have HM7 := Lib.hid ((HM6.out).gr g7)
  clear HM6
  have HD7 := Lib.hid ((HD6.out).gr g7)
  clear HD6
  clear G6
  clear g7
  go_wp2_with fail
  refine (rspans_any _ _ _ (HR7.out).1).mono ?_
  rintro e v8 ⟨rfl, g8⟩
  have G8 := (G7).trans g8
  have HL8 := Lib.hid ((HL7.out).gr g8)
  clear HL7
  have HR8 := Lib.hid ((HR7.out).gr g8)
  clear HR7
  have HJ8 := Lib.hid ((HJ7.out).gr g8)
  clear HJ7
  have HM8 := Lib.hid ((HM7.out).gr g8)
  clear HM7
  have HD8 := Lib.hid ((HD7.out).gr g8)
  clear HD7
  clear G7
  clear g8
  go_wp2_with fail
  refine (mset (HL8.out)).mono ?_
  rintro e v9 ⟨rfl, g9⟩
  have G9 := (G8).trans g9
  have HL9 := Lib.hid ((HL8.out).gr g9)
  clear HL8
  have HR9 := Lib.hid ((HR8.out).gr g9)
  clear HR8
  have HJ9 := Lib.hid ((HJ8.out).gr g9)
  clear HJ8
  have HM9 := Lib.hid ((HM8.out).gr g9)
  clear HM8
  have HD9 := Lib.hid ((HD8.out).gr g9)
  clear HD8
  clear G8
  clear g9
  go_wp2_with fail
  refine (mset (HR9.out)).mono ?_
  rintro e v10 ⟨rfl, g10⟩
  have G10 := (G9).trans g10
  have HL10 := Lib.hid ((HL9.out).gr g10)
  clear HL9
  have HR10 := Lib.hid ((HR9.out).gr g10)
  clear HR9
  have HJ10 := Lib.hid ((HJ9.out).gr g10)
  clear HJ9
  have HM10 := Lib.hid ((HM9.out).gr g10)
  clear HM9
  have HD10 := Lib.hid ((HD9.out).gr g10)
  clear HD9
  clear G9
  clear g10
  clear ej cA cB
  have HSA : Hid ((Try.prog.info? 75).map (·.size) = some (bArr A.testBit).size) := by rw [bArr_size]; exact nums_info
  have HSB : Hid ((Try.prog.info? 75).map (·.size) = some (bArr B.testBit).size) := by rw [bArr_size]; exact nums_info
  have H1A := Lib.hid (bArr_one A.testBit)
  have H1B := Lib.hid (bArr_one B.testBit)
  have h32A : (#[.bool false, .bool false, .bool false, .bool false, .bool false, .bool false, .bool false, .bool false, .bool false, .bool false, .bool false, .bool false, .bool false, .bool false, .bool false, .bool false, .bool false, .bool false, .bool false, .bool false, .bool false, .bool false, .bool false, .bool false, .bool false, .bool false, .bool false, .bool false, .bool false, .bool false, .bool false, .bool false] : Array Value).size = (bArr A.testBit).size := by rw [bArr_size]; rfl
  have h32B : (#[.bool false, .bool false, .bool false, .bool false, .bool false, .bool false, .bool false, .bool false, .bool false, .bool false, .bool false, .bool false, .bool false, .bool false, .bool false, .bool false, .bool false, .bool false, .bool false, .bool false, .bool false, .bool false, .bool false, .bool false, .bool false, .bool false, .bool false, .bool false, .bool false, .bool false, .bool false, .bool false] : Array Value).size = (bArr B.testBit).size := by rw [bArr_size]; rfl
  have HOA := Lib.hid h32A
  have HOB := Lib.hid h32B
  clear h32A h32B
  go_wp2_with (first
    | (refine wpList_store_row rfl 75 (.tmp 16) (.tmp 110) rfl v10.heap.size _ rfl rfl 75 _ (heap_alloc2_old v10 (.cells #[.bool false, .bool false, .bool false, .bool false, .bool false, .bool false, .bool false, .bool false, .bool false, .bool false, .bool false, .bool false, .bool false, .bool false, .bool false, .bool false, .bool false, .bool false, .bool false, .bool false, .bool false, .bool false, .bool false, .bool false, .bool false, .bool false, .bool false, .bool false, .bool false, .bool false, .bool false, .bool false] 75) (.cells #[.bool false, .bool false, .bool false, .bool false, .bool false, .bool false, .bool false, .bool false, .bool false, .bool false, .bool false, .bool false, .bool false, .bool false, .bool false, .bool false, .bool false, .bool false, .bool false, .bool false, .bool false, .bool false, .bool false, .bool false, .bool false, .bool false, .bool false, .bool false, .bool false, .bool false, .bool false, .bool false] 75)) HSA.out HOA.out H1A.out ?_)
    | (refine wpList_store_row rfl 75 (.tmp 17) (.tmp 112) rfl (v10.heap.size + 1) _ rfl rfl 75 _ ((setRow_other _ _ _ _ (by omega)).trans (heap_alloc2_new v10 (.cells #[.bool false, .bool false, .bool false, .bool false, .bool false, .bool false, .bool false, .bool false, .bool false, .bool false, .bool false, .bool false, .bool false, .bool false, .bool false, .bool false, .bool false, .bool false, .bool false, .bool false, .bool false, .bool false, .bool false, .bool false, .bool false, .bool false, .bool false, .bool false, .bool false, .bool false, .bool false, .bool false] 75) (.cells #[.bool false, .bool false, .bool false, .bool false, .bool false, .bool false, .bool false, .bool false, .bool false, .bool false, .bool false, .bool false, .bool false, .bool false, .bool false, .bool false, .bool false, .bool false, .bool false, .bool false, .bool false, .bool false, .bool false, .bool false, .bool false, .bool false, .bool false, .bool false, .bool false, .bool false, .bool false, .bool false] 75))) HSB.out HOB.out H1B.out ?_))
  have ST := setsAt_start v10 v10 A B (Gr.refl _)
  generalize hn : v10.heap.size = n at *
  have HL2 := Lib.hid (HJ10.out)
  have HNW : Hid (v10.heap.size ≤ n) := Nat.le_of_eq hn
  have HN := Lib.hid hn
  clear hn
  go_loopw [21, 113] (fun b i wr => ∃ k : Nat, k ≤ 32 ∧ i = .int .i64 k ∧ b = .bool (subTo A B k) ∧ SetsAt A B v10 wr n (n + 1) k) (fun _ i _ => 32 - (intOf i).toNat)
  case atStart => exact ⟨0, by omega, rfl, rfl, ST⟩
  case round =>
    obtain ⟨k, hk, rfl, rfl, hat⟩ := hrel
    have HAT := Lib.hid hat
    obtain ⟨q0, q1, q2, q3, q4, q5⟩ := hat
    by_cases hlt : k < 32
    · have x1 : wr.cell? ⟨n, k, none⟩ = some (.bool (A.testBit k)) := by rw [cell_of_row _ _ _ _ _ _ q1, bArr_at _ k hlt]
      have x2 : wr.cell? ⟨n + 1, k, none⟩ = some (.bool (B.testBit k)) := by rw [cell_of_row _ _ _ _ _ _ q2, bArr_at _ k hlt]
      have x3 : wr.cell? ⟨n + 1 + 1, k, none⟩ = some (.bool (cut (A ||| B) k k)) := by rw [cell_of_row _ _ _ _ _ _ q3, bArr_at _ k hlt]
      have x4 : wr.cell? ⟨n + 1 + 1 + 1, k, none⟩ = some (.bool (cut (A &&& B) k k)) := by rw [cell_of_row _ _ _ _ _ _ q4, bArr_at _ k hlt]
      have x5 : wr.cell? ⟨n + 1 + 1 + 1 + 1, k, none⟩ = some (.bool (cut (lessM A B) k k)) := by rw [cell_of_row _ _ _ _ _ _ q5, bArr_at _ k hlt]
      have f3 := frozen_of_row _ _ k _ _ q3
      have f4 := frozen_of_row _ _ k _ _ q4
      have f5 := frozen_of_row _ _ k _ _ q5
      have hk' : (k : Int) < 32 := by omega
      have hn2 : ¬ (n + 1 + 1 = n) := by omega
      have hn3 : ¬ (n + 1 + 1 + 1 = n) := by omega
      have hn4 : ¬ (n + 1 + 1 + 1 + 1 = n) := by omega
      clear q1 q2 q3 q4 q5
      cases hA : A.testBit k
      · rw [hA] at x1
        cases hB : B.testBit k
        · rw [hB] at x2
          have o1 : (A ||| B).testBit k = false := by rw [Nat.testBit_or, hA, hB]; rfl
          have o2 : (A &&& B).testBit k = false := by rw [Nat.testBit_and, hA, hB]; rfl
          have o3 : (lessM A B).testBit k = false := by rw [lessM_bit _ _ _ HB.out HA.out, hA, hB]; rfl
          have STP := Lib.hid (HAT.out.step HNW.out hlt o1 o2 o3)
          clear o1 o2 o3 HAT
          cases hs : subTo A B k
          · have HSB2 : Hid (subTo A B (k + 1) = false) := by simp [Hid, subTo, hs, hA, hB]
            clear hA hB hs
            go_wp2
            refine reg_ff _ (fun _ _ _ _ _ h => h) _ _ n (n + 1) (n + 1 + 1) (n + 1 + 1 + 1) (n + 1 + 1 + 1 + 1) k _ _ _ rfl rfl rfl rfl rfl rfl rfl hk' x1 x2 x3 x4 x5 f3 f4 f5 (by omega) (by omega) (by omega) (by omega) (by omega) (by omega) (by omega) (by omega) (by omega) ?_
            simp only [Act.put, List.setIfInBounds_toArray, List.set_cons_zero, List.set_cons_succ, drew3]
            go_wp2
            go_roundw
            case rel => exact ⟨k + 1, by omega, by go_num, by rw [HSB2.out], STP.out⟩
            case measure => simp [intOf]; omega
          · have HSB2 : Hid (subTo A B (k + 1) = true) := by simp [Hid, subTo, hs, hA, hB]
            clear hA hB hs
            go_wp2
            refine reg_ff _ (fun _ _ _ _ _ h => h) _ _ n (n + 1) (n + 1 + 1) (n + 1 + 1 + 1) (n + 1 + 1 + 1 + 1) k _ _ _ rfl rfl rfl rfl rfl rfl rfl hk' x1 x2 x3 x4 x5 f3 f4 f5 (by omega) (by omega) (by omega) (by omega) (by omega) (by omega) (by omega) (by omega) (by omega) ?_
            simp only [Act.put, List.setIfInBounds_toArray, List.set_cons_zero, List.set_cons_succ, drew3]
            go_wp2
            go_roundw
            case rel => exact ⟨k + 1, by omega, by go_num, by rw [HSB2.out], STP.out⟩
            case measure => simp [intOf]; omega
        · rw [hB] at x2
          have o1 : (A ||| B).testBit k = true := by rw [Nat.testBit_or, hA, hB]; rfl
          have o2 : (A &&& B).testBit k = false := by rw [Nat.testBit_and, hA, hB]; rfl
          have o3 : (lessM A B).testBit k = false := by rw [lessM_bit _ _ _ HB.out HA.out, hA, hB]; rfl
          have STP := Lib.hid (HAT.out.step HNW.out hlt o1 o2 o3)
          clear o1 o2 o3 HAT
          cases hs : subTo A B k
          · have HSB2 : Hid (subTo A B (k + 1) = false) := by simp [Hid, subTo, hs, hA, hB]
            clear hA hB hs
            go_wp2
            refine reg_ft _ (fun _ _ _ _ _ h => h) _ _ n (n + 1) (n + 1 + 1) (n + 1 + 1 + 1) (n + 1 + 1 + 1 + 1) k _ _ _ rfl rfl rfl rfl rfl rfl rfl hk' x1 x2 x3 x4 x5 f3 f4 f5 (by omega) (by omega) (by omega) (by omega) (by omega) (by omega) (by omega) (by omega) (by omega) ?_
            simp only [Act.put, List.setIfInBounds_toArray, List.set_cons_zero, List.set_cons_succ, drew3]
            go_wp2
            go_roundw
            case rel => exact ⟨k + 1, by omega, by go_num, by rw [HSB2.out], STP.out⟩
            case measure => simp [intOf]; omega
          · have HSB2 : Hid (subTo A B (k + 1) = true) := by simp [Hid, subTo, hs, hA, hB]
            clear hA hB hs
            go_wp2
            refine reg_ft _ (fun _ _ _ _ _ h => h) _ _ n (n + 1) (n + 1 + 1) (n + 1 + 1 + 1) (n + 1 + 1 + 1 + 1) k _ _ _ rfl rfl rfl rfl rfl rfl rfl hk' x1 x2 x3 x4 x5 f3 f4 f5 (by omega) (by omega) (by omega) (by omega) (by omega) (by omega) (by omega) (by omega) (by omega) ?_
            simp only [Act.put, List.setIfInBounds_toArray, List.set_cons_zero, List.set_cons_succ, drew3]
            go_wp2
            go_roundw
            case rel => exact ⟨k + 1, by omega, by go_num, by rw [HSB2.out], STP.out⟩
            case measure => simp [intOf]; omega
      · rw [hA] at x1
        cases hB : B.testBit k
        · rw [hB] at x2
          have o1 : (A ||| B).testBit k = true := by rw [Nat.testBit_or, hA, hB]; rfl
          have o2 : (A &&& B).testBit k = false := by rw [Nat.testBit_and, hA, hB]; rfl
          have o3 : (lessM A B).testBit k = true := by rw [lessM_bit _ _ _ HB.out HA.out, hA, hB]; rfl
          have STP := Lib.hid (HAT.out.step HNW.out hlt o1 o2 o3)
          clear o1 o2 o3 HAT
          cases hs : subTo A B k
          · have HSB2 : Hid (subTo A B (k + 1) = false) := by simp [Hid, subTo, hs, hA, hB]
            clear hA hB hs
            go_wp2
            refine reg_tf _ (fun _ _ _ _ _ h => h) _ _ n (n + 1) (n + 1 + 1) (n + 1 + 1 + 1) (n + 1 + 1 + 1 + 1) k _ _ _ rfl rfl rfl rfl rfl rfl rfl hk' x1 x2 x3 x4 x5 f3 f4 f5 (by omega) (by omega) (by omega) (by omega) (by omega) (by omega) (by omega) (by omega) (by omega) ?_
            simp only [Act.put, List.setIfInBounds_toArray, List.set_cons_zero, List.set_cons_succ, drew3]
            go_wp2
            go_roundw
            case rel => exact ⟨k + 1, by omega, by go_num, by rw [HSB2.out], STP.out⟩
            case measure => simp [intOf]; omega
          · have HSB2 : Hid (subTo A B (k + 1) = false) := by simp [Hid, subTo, hs, hA, hB]
            clear hA hB hs
            go_wp2
            refine reg_tf _ (fun _ _ _ _ _ h => h) _ _ n (n + 1) (n + 1 + 1) (n + 1 + 1 + 1) (n + 1 + 1 + 1 + 1) k _ _ _ rfl rfl rfl rfl rfl rfl rfl hk' x1 x2 x3 x4 x5 f3 f4 f5 (by omega) (by omega) (by omega) (by omega) (by omega) (by omega) (by omega) (by omega) (by omega) ?_
            simp only [Act.put, List.setIfInBounds_toArray, List.set_cons_zero, List.set_cons_succ, drew3]
            go_wp2
            go_roundw
            case rel => exact ⟨k + 1, by omega, by go_num, by rw [HSB2.out], STP.out⟩
            case measure => simp [intOf]; omega
        · rw [hB] at x2
          have o1 : (A ||| B).testBit k = true := by rw [Nat.testBit_or, hA, hB]; rfl
          have o2 : (A &&& B).testBit k = true := by rw [Nat.testBit_and, hA, hB]; rfl
          have o3 : (lessM A B).testBit k = false := by rw [lessM_bit _ _ _ HB.out HA.out, hA, hB]; rfl
          have STP := Lib.hid (HAT.out.step HNW.out hlt o1 o2 o3)
          clear o1 o2 o3 HAT
          cases hs : subTo A B k
          · have HSB2 : Hid (subTo A B (k + 1) = false) := by simp [Hid, subTo, hs, hA, hB]
            clear hA hB hs
            go_wp2
            refine reg_tt _ (fun _ _ _ _ _ h => h) _ _ n (n + 1) (n + 1 + 1) (n + 1 + 1 + 1) (n + 1 + 1 + 1 + 1) k _ _ _ rfl rfl rfl rfl rfl rfl rfl hk' x1 x2 x3 x4 x5 f3 f4 f5 (by omega) (by omega) (by omega) (by omega) (by omega) (by omega) (by omega) (by omega) (by omega) ?_
            simp only [Act.put, List.setIfInBounds_toArray, List.set_cons_zero, List.set_cons_succ, drew3]
            go_wp2
            go_roundw
            case rel => exact ⟨k + 1, by omega, by go_num, by rw [HSB2.out], STP.out⟩
            case measure => simp [intOf]; omega
          · have HSB2 : Hid (subTo A B (k + 1) = true) := by simp [Hid, subTo, hs, hA, hB]
            clear hA hB hs
            go_wp2
            refine reg_tt _ (fun _ _ _ _ _ h => h) _ _ n (n + 1) (n + 1 + 1) (n + 1 + 1 + 1) (n + 1 + 1 + 1 + 1) k _ _ _ rfl rfl rfl rfl rfl rfl rfl hk' x1 x2 x3 x4 x5 f3 f4 f5 (by omega) (by omega) (by omega) (by omega) (by omega) (by omega) (by omega) (by omega) (by omega) ?_
            simp only [Act.put, List.setIfInBounds_toArray, List.set_cons_zero, List.set_cons_succ, drew3]
            go_wp2
            go_roundw
            case rel => exact ⟨k + 1, by omega, by go_num, by rw [HSB2.out], STP.out⟩
            case measure => simp [intOf]; omega
    · obtain rfl : k = 32 := by omega
      rw [subTo_eq HA.out HB.out]
      generalize subM A B = sb at *
      have HX := Lib.hid (HJ10.out.gr q0)
      have HY := Lib.hid (HM10.out.gr q0)
      have HZ := Lib.hid (HD10.out.gr q0)
      have GW := Lib.hid (G10.trans q0)
      have HQ3 := Lib.hid q3
      have HQ4 := Lib.hid q4
      have HQ5 := Lib.hid q5
      have h4 : n + 1 + 1 + 1 < wr.heap.size := lt_of_heap q4
      have h5 : n + 1 + 1 + 1 + 1 < wr.heap.size := lt_of_heap q5
      have H4 := Lib.hid h4
      have H5 := Lib.hid h5
      have HS1 : Hid ((Try.prog.info? 75).map (·.size) = some (bArr (cut (A ||| B) 32)).size) := by rw [bArr_size]; exact nums_info
      have HS2 : Hid ((Try.prog.info? 75).map (·.size) = some (bArr (cut (A &&& B) 32)).size) := by rw [bArr_size]; exact nums_info
      have HS3 : Hid ((Try.prog.info? 75).map (·.size) = some (bArr (cut (lessM A B) 32)).size) := by rw [bArr_size]; exact nums_info
      have em1 : eqM (A ||| B) (A ||| B) = true := eqM_true rfl
      have em2 : eqM (A &&& B) (A &&& B) = true := eqM_true rfl
      have em3 : eqM (lessM A B) (lessM A B) = true := eqM_true rfl
      clear q0 q1 q2 q3 q4 q5 h4 h5 HAT
      go_wp2_with (refine BigFrame.wpList_want (by rfl) fun K hK => wp_load_row 75 (.tmp 18) rfl (n + 1 + 1) rfl 75 _ (0, 0) _ HQ3.out Try.underlying75 rfl HS1.out (hK _ _ ?_))
      refine (told_any _ _).mono ?_
      rintro e z1 ⟨t1, rfl, ht1⟩
      rw [cut_list] at ht1
      have K1 := Lib.hid (ht1.ms HX.out.2)
      have R1 := Lib.hid ht1.1
      clear ht1
      go_wp2_with fail
      refine (mequal (HX.out.gr R1.out) K1.out).mono ?_
      rintro e z2 ⟨rfl, r2⟩
      have R2 := Lib.hid (R1.out.trans r2)
      have HQ4b := Lib.hid (((R1.out.trans r2).block _ H4.out).trans HQ4.out)
      clear r2
      go_wp2_with (refine BigFrame.wpList_want (by rfl) fun K hK => wp_load_row 75 (.tmp 19) rfl (n + 1 + 1 + 1) rfl 75 _ (0, 0) _ HQ4b.out Try.underlying75 rfl HS2.out (hK _ _ ?_))
      refine (told_any _ _).mono ?_
      rintro e z3 ⟨t3, rfl, ht3⟩
      rw [cut_list] at ht3
      have K3 := Lib.hid (ht3.ms HY.out.2)
      have R3 := Lib.hid (R2.out.trans ht3.1)
      clear ht3
      go_wp2_with fail
      refine (mequal (HY.out.gr R3.out) K3.out).mono ?_
      rintro e z4 ⟨rfl, r4⟩
      have R4 := Lib.hid (R3.out.trans r4)
      have HQ5b := Lib.hid (((R3.out.trans r4).block _ H5.out).trans HQ5.out)
      clear r4
      go_wp2_with (refine BigFrame.wpList_want (by rfl) fun K hK => wp_load_row 75 (.tmp 20) rfl (n + 1 + 1 + 1 + 1) rfl 75 _ (0, 0) _ HQ5b.out Try.underlying75 rfl HS3.out (hK _ _ ?_))
      refine (told_any _ _).mono ?_
      rintro e z5 ⟨t5, rfl, ht5⟩
      rw [cut_list] at ht5
      have K5 := Lib.hid (ht5.ms HZ.out.2)
      have R5 := Lib.hid (R4.out.trans ht5.1)
      clear ht5
      go_wp2_with fail
      refine (mequal (HZ.out.gr R5.out) K5.out).mono ?_
      rintro e z6 ⟨rfl, r6⟩
      have R6 := Lib.hid (R5.out.trans r6)
      clear r6
      cases sb
      all_goals
        go_wp2_with fail
        go_ret
        exact ⟨rfl, GW.out.trans R6.out⟩
end Go.Proofs.Ytphcjjhfgpdhcaa
