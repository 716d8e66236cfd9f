/- The walk of SpanSets, at lists that are not valid. -/
import Derived.Test.YtphcjjhfgpdhcaaSetC
namespace Go.Proofs.Ytphcjjhfgpdhcaa
open Go.RowKit Rm
set_option linter.unusedVariables false

set_option maxHeartbeats 2000000 in
set_option maxRecDepth 100000 in
theorem spanSets_bad1 (v v' : Value) (l r : List (Int × Int)) (w : World) (hl : Rd2 w v l) (hr : Rd2 w v' r) (h1 : (chkS l == 0) = false) :
    Calls Try.prog 14 #[v, v'] w fun e w' => e = .returned (.bool true) ∧ Gr w w' := by
  have hc2 : chkS2 l r = chkS l := by simp [chkS2, h1]
  have HC : Hid ((chkS2 l r == 0) = false) := by rw [hc2]; exact h1
  have h1' := sbne_of' h1
  have HL := Lib.hid hl
  have HR := Lib.hid hr
  clear hl hr
  have ej := eqJoin
  go_enter Try.func14, Try.ntmps14
  go_wp2_with fail
  refine (sjoin_bad _ _ _ _ _ (HL.out) (HR.out) HC.out).mono ?_
  rintro e v1 ⟨rfl, g1⟩
  have G1 := (Gr.refl _).trans g1
  have HL1 := Lib.hid ((HL.out).gr g1)
  clear HL
  have HR1 := Lib.hid ((HR.out).gr g1)
  clear HR
  clear g1
  go_wp2_with fail
  refine (smeet_bad _ _ _ _ _ (HL1.out) (HR1.out) HC.out).mono ?_
  rintro e v2 ⟨rfl, g2⟩
  have G2 := (G1).trans g2
  have HL2 := Lib.hid ((HL1.out).gr g2)
  clear HL1
  have HR2 := Lib.hid ((HR1.out).gr g2)
  clear HR1
  clear G1
  clear g2
  go_wp2_with fail
  refine (sless_bad _ _ _ _ _ (HL2.out) (HR2.out) HC.out).mono ?_
  rintro e v3 ⟨rfl, g3⟩
  have G3 := (G2).trans g3
  have HL3 := Lib.hid ((HL2.out).gr g3)
  clear HL2
  have HR3 := Lib.hid ((HR2.out).gr g3)
  clear HR2
  clear G2
  clear g3
  go_wp2_with fail
  refine (swithin_bad _ _ _ _ _ (HL3.out) (HR3.out) HC.out).mono ?_
  rintro e v4 ⟨rfl, g4⟩
  have G4 := (G3).trans g4
  have HL4 := Lib.hid ((HL3.out).gr g4)
  clear HL3
  have HR4 := Lib.hid ((HR3.out).gr g4)
  clear HR3
  clear G3
  clear g4
  go_wp2_with fail
  refine (mjoin ((lit1 v4 1 2 60 2 canon2 (by decide)).alloc _) (lit1b v4 _ 2 4 60 12 canon12s (by decide))).mono ?_
  rintro e v5 ⟨u5, rfl, h5, g5⟩
  have G5 := (((G4).alloc _).alloc _).trans g5
  have HL5 := Lib.hid ((((HL4.out).alloc _).alloc _).gr g5)
  clear HL4
  have HR5 := Lib.hid ((((HR4.out).alloc _).alloc _).gr g5)
  clear HR4
  clear G4
  clear g5
  have HQ5 := Lib.hid h5
  clear h5
  go_wp2_with fail
  refine (mequal ((HQ5.out).alloc _) (lit1 _ 1 4 60 14 canon14s (by decide))).mono ?_
  rintro e v6 ⟨rfl, g6⟩
  have G6 := ((G5).alloc _).trans g6
  have HL6 := Lib.hid (((HL5.out).alloc _).gr g6)
  clear HL5
  have HR6 := Lib.hid (((HR5.out).alloc _).gr g6)
  clear HR5
  have HQ6 := Lib.hid (((HQ5.out).alloc _).gr g6)
  clear HQ5
  clear G5
  clear g6
  go_wp2_with fail
  refine (rspans_any _ _ _ (HL6.out)).mono ?_
  rintro e v7 ⟨rfl, g7⟩
  have G7 := (G6).trans g7
  have HL7 := Lib.hid ((HL6.out).gr g7)
  clear HL6
  have HR7 := Lib.hid ((HR6.out).gr g7)
  clear HR6
  have HQ7 := Lib.hid ((HQ6.out).gr g7)
  clear HQ6
  clear G6
  clear g7
  go_wp2_with fail
  go_ret
  exact ⟨rfl, G7⟩

set_option maxHeartbeats 2000000 in
set_option maxRecDepth 100000 in
theorem spanSets_bad2 (v v' : Value) (l r : List (Int × Int)) (w : World) (hl : Rd2 w v l) (hr : Rd2 w v' r) (h1 : (chkS l == 0) = true) (h2 : (chkS r == 0) = false) :
    Calls Try.prog 14 #[v, v'] w fun e w' => e = .returned (.bool true) ∧ Gr w w' := by
  have hc2 : chkS2 l r = chkS r := by simp [chkS2, h1]
  have HC : Hid ((chkS2 l r == 0) = false) := by rw [hc2]; exact h2
  have h1' := sbne_of h1
  have h2' := sbne_of' h2
  have HL := Lib.hid hl
  have HR := Lib.hid hr
  clear hl hr
  have ej := eqJoin
  go_enter Try.func14, Try.ntmps14
  go_wp2_with fail
  refine (sjoin_bad _ _ _ _ _ (HL.out) (HR.out) HC.out).mono ?_
  rintro e v1 ⟨rfl, g1⟩
  have G1 := (Gr.refl _).trans g1
  have HL1 := Lib.hid ((HL.out).gr g1)
  clear HL
  have HR1 := Lib.hid ((HR.out).gr g1)
  clear HR
  clear g1
  go_wp2_with fail
  refine (smeet_bad _ _ _ _ _ (HL1.out) (HR1.out) HC.out).mono ?_
  rintro e v2 ⟨rfl, g2⟩
  have G2 := (G1).trans g2
  have HL2 := Lib.hid ((HL1.out).gr g2)
  clear HL1
  have HR2 := Lib.hid ((HR1.out).gr g2)
  clear HR1
  clear G1
  clear g2
  go_wp2_with fail
  refine (sless_bad _ _ _ _ _ (HL2.out) (HR2.out) HC.out).mono ?_
  rintro e v3 ⟨rfl, g3⟩
  have G3 := (G2).trans g3
  have HL3 := Lib.hid ((HL2.out).gr g3)
  clear HL2
  have HR3 := Lib.hid ((HR2.out).gr g3)
  clear HR2
  clear G2
  clear g3
  go_wp2_with fail
  refine (swithin_bad _ _ _ _ _ (HL3.out) (HR3.out) HC.out).mono ?_
  rintro e v4 ⟨rfl, g4⟩
  have G4 := (G3).trans g4
  have HL4 := Lib.hid ((HL3.out).gr g4)
  clear HL3
  have HR4 := Lib.hid ((HR3.out).gr g4)
  clear HR3
  clear G3
  clear g4
  go_wp2_with fail
  refine (mjoin ((lit1 v4 1 2 60 2 canon2 (by decide)).alloc _) (lit1b v4 _ 2 4 60 12 canon12s (by decide))).mono ?_
  rintro e v5 ⟨u5, rfl, h5, g5⟩
  have G5 := (((G4).alloc _).alloc _).trans g5
  have HL5 := Lib.hid ((((HL4.out).alloc _).alloc _).gr g5)
  clear HL4
  have HR5 := Lib.hid ((((HR4.out).alloc _).alloc _).gr g5)
  clear HR4
  clear G4
  clear g5
  have HQ5 := Lib.hid h5
  clear h5
  go_wp2_with fail
  refine (mequal ((HQ5.out).alloc _) (lit1 _ 1 4 60 14 canon14s (by decide))).mono ?_
  rintro e v6 ⟨rfl, g6⟩
  have G6 := ((G5).alloc _).trans g6
  have HL6 := Lib.hid (((HL5.out).alloc _).gr g6)
  clear HL5
  have HR6 := Lib.hid (((HR5.out).alloc _).gr g6)
  clear HR5
  have HQ6 := Lib.hid (((HQ5.out).alloc _).gr g6)
  clear HQ5
  clear G5
  clear g6
  go_wp2_with fail
  refine (rspans_any _ _ _ (HL6.out)).mono ?_
  rintro e v7 ⟨rfl, g7⟩
  have G7 := (G6).trans g7
  have HL7 := Lib.hid ((HL6.out).gr g7)
  clear HL6
  have HR7 := Lib.hid ((HR6.out).gr g7)
  clear HR6
  have HQ7 := Lib.hid ((HQ6.out).gr g7)
  clear HQ6
  clear G6
  clear g7
  go_wp2_with fail
  refine (rspans_any _ _ _ (HR7.out)).mono ?_
  rintro e v8 ⟨rfl, g8⟩
  have G8 := (G7).trans g8
  have HL8 := Lib.hid ((HL7.out).gr g8)
  clear HL7
  have HR8 := Lib.hid ((HR7.out).gr g8)
  clear HR7
  have HQ8 := Lib.hid ((HQ7.out).gr g8)
  clear HQ7
  clear G7
  clear g8
  go_wp2_with fail
  go_ret
  exact ⟨rfl, G8⟩
end Go.Proofs.Ytphcjjhfgpdhcaa
