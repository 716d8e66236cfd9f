/- The walk of FilterSets, at lists that are no filter. -/
import Derived.Test.YtphcjjhfgpdhcaaRefE
namespace Go.Proofs.Ytphcjjhfgpdhcaa
open Go.RowKit Rm
set_option linter.unusedVariables false

set_option maxHeartbeats 4000000 in
set_option maxRecDepth 100000 in
theorem filterSets_bad1 (f g : Value) (lf lg : List BoxI) (w : World) (rf : RdF w f lf) (rg : RdF w g lg) (hc : (chkF lf == 0) = false) :
    Calls Try.prog 4 #[f, g] w fun e w' => e = .returned (.bool true) ∧ Gr w w' := by
  have e2 : chkF2 lf lg = chkF lf := by unfold chkF2; rw [hc]; rfl
  have HC : Hid ((chkF2 lf lg == 0) = false) := by rw [e2]; exact hc
  have hc' := bne_of' hc
  have HF0 := Lib.hid rf
  have HG0 := Lib.hid rg
  clear rf rg
  go_enter Try.func4, Try.ntmps4
  go_wp2_with fail
  refine (fjoin_bad (HF0.out) (HG0.out) HC.out).mono ?_
  rw [e2]
  rintro e w1 ⟨a1, c1, rfl, g1⟩
  have G1 := (Gr.refl _).trans g1
  have HF_1 := Lib.hid (HF0.out.gr g1)
  clear HF0
  have HG_1 := Lib.hid (HG0.out.gr g1)
  clear HG0
  clear g1
  go_wp2_with fail
  refine (fmeet_bad (HF_1.out) (HG_1.out) HC.out).mono ?_
  rw [e2]
  rintro e w2 ⟨a2, c2, rfl, g2⟩
  have G2 := (G1).trans g2
  have HF_2 := Lib.hid (HF_1.out.gr g2)
  clear HF_1
  have HG_2 := Lib.hid (HG_1.out.gr g2)
  clear HG_1
  clear g2 G1
  go_wp2_with fail
  refine (fless_bad (HF_2.out) (HG_2.out) HC.out).mono ?_
  rw [e2]
  rintro e w3 ⟨a3, c3, rfl, g3⟩
  have G3 := (G2).trans g3
  have HF_3 := Lib.hid (HF_2.out.gr g3)
  clear HF_2
  have HG_3 := Lib.hid (HG_2.out.gr g3)
  clear HG_2
  clear g3 G2
  go_wp2_with fail
  refine (fevery _).mono ?_
  rintro e w4 ⟨x0, rfl, hx0, g4⟩
  have G4 := (G3).trans g4
  have HF_4 := Lib.hid (HF_3.out.gr g4)
  clear HF_3
  have HG_4 := Lib.hid (HG_3.out.gr g4)
  clear HG_3
  have HX_4 := Lib.hid ((hx0.le (by omega) : FS _ _ _))
  clear g4 G3
  clear hx0
  go_wp2_with fail
  refine (fless_ok (HX_4.out) (fs_nil _)).mono ?_
  rintro e w5 ⟨x1, rfl, hx1, g5⟩
  have G5 := (G4).trans g5
  have HF_5 := Lib.hid (HF_4.out.gr g5)
  clear HF_4
  have HG_5 := Lib.hid (HG_4.out.gr g5)
  clear HG_4
  have HX_5 := Lib.hid (HX_4.out.gr g5)
  clear HX_4
  have HY_5 := Lib.hid (hx1.ext (fun t _ => lessFull t))
  clear g5 G4
  clear hx1
  clear HX_5
  go_wp2_with fail
  refine (rfilter_ok (by omega) (HY_5.out)).mono ?_
  rintro e w6 ⟨rfl, g6⟩
  have G6 := (G5).trans g6
  have HF_6 := Lib.hid (HF_5.out.gr g6)
  clear HF_5
  have HG_6 := Lib.hid (HG_5.out.gr g6)
  clear HG_5
  have HY_6 := Lib.hid (HY_5.out.gr g6)
  clear HY_5
  clear g6 G5
  go_wp2_with fail
  refine (of_fs (by omega) (HY_6.out)).mono ?_
  rintro e w7 ⟨rfl, g7⟩
  have G7 := (G6).trans g7
  have HF_7 := Lib.hid (HF_6.out.gr g7)
  clear HF_6
  have HG_7 := Lib.hid (HG_6.out.gr g7)
  clear HG_6
  have HY_7 := Lib.hid (HY_6.out.gr g7)
  clear HY_6
  clear g7 G6
  clear HY_7
  go_wp2_with fail
  refine (many_full _).mono ?_
  rintro e w8 ⟨rfl, g8⟩
  have G8 := (G7).trans g8
  have HF_8 := Lib.hid (HF_7.out.gr g8)
  clear HF_7
  have HG_8 := Lib.hid (HG_7.out.gr g8)
  clear HG_7
  clear g8 G7
  generalize hcv : chkF lf = cv at *
  go_wp2_with fail
  refine (rfilter_any _ _ _ (HF_8.out)).mono ?_
  rw [hcv]
  rintro e w9 ⟨rfl, g9⟩
  have G9 := (G8).trans g9
  have HF_9 := Lib.hid (HF_8.out.gr g9)
  clear HF_8
  have HG_9 := Lib.hid (HG_8.out.gr g9)
  clear HG_8
  clear g9 G8
  go_wp2_with fail
  go_ret
  exact ⟨rfl, G9⟩
set_option maxHeartbeats 4000000 in
set_option maxRecDepth 100000 in
theorem filterSets_bad2 (f g : Value) (lf lg : List BoxI) (w : World) (rf : RdF w f lf) (rg : RdF w g lg) (hf : (chkF lf == 0) = true) (hc : (chkF lg == 0) = false) :
    Calls Try.prog 4 #[f, g] w fun e w' => e = .returned (.bool true) ∧ Gr w w' := by
  have e2 : chkF2 lf lg = chkF lg := by unfold chkF2; rw [hf]; rfl
  have e0 : chkF lf = 0 := by simpa using hf
  have HC : Hid ((chkF2 lf lg == 0) = false) := by rw [e2]; exact hc
  have hc' := bne_of' hc
  clear hf
  have HF0 := Lib.hid rf
  have HG0 := Lib.hid rg
  clear rf rg
  go_enter Try.func4, Try.ntmps4
  go_wp2_with fail
  refine (fjoin_bad (HF0.out) (HG0.out) HC.out).mono ?_
  rw [e2]
  rintro e w1 ⟨a1, c1, rfl, g1⟩
  have G1 := (Gr.refl _).trans g1
  have HF_1 := Lib.hid (HF0.out.gr g1)
  clear HF0
  have HG_1 := Lib.hid (HG0.out.gr g1)
  clear HG0
  clear g1
  go_wp2_with fail
  refine (fmeet_bad (HF_1.out) (HG_1.out) HC.out).mono ?_
  rw [e2]
  rintro e w2 ⟨a2, c2, rfl, g2⟩
  have G2 := (G1).trans g2
  have HF_2 := Lib.hid (HF_1.out.gr g2)
  clear HF_1
  have HG_2 := Lib.hid (HG_1.out.gr g2)
  clear HG_1
  clear g2 G1
  go_wp2_with fail
  refine (fless_bad (HF_2.out) (HG_2.out) HC.out).mono ?_
  rw [e2]
  rintro e w3 ⟨a3, c3, rfl, g3⟩
  have G3 := (G2).trans g3
  have HF_3 := Lib.hid (HF_2.out.gr g3)
  clear HF_2
  have HG_3 := Lib.hid (HG_2.out.gr g3)
  clear HG_2
  clear g3 G2
  go_wp2_with fail
  refine (fevery _).mono ?_
  rintro e w4 ⟨x0, rfl, hx0, g4⟩
  have G4 := (G3).trans g4
  have HF_4 := Lib.hid (HF_3.out.gr g4)
  clear HF_3
  have HG_4 := Lib.hid (HG_3.out.gr g4)
  clear HG_3
  have HX_4 := Lib.hid ((hx0.le (by omega) : FS _ _ _))
  clear g4 G3
  clear hx0
  go_wp2_with fail
  refine (fless_ok (HX_4.out) (fs_nil _)).mono ?_
  rintro e w5 ⟨x1, rfl, hx1, g5⟩
  have G5 := (G4).trans g5
  have HF_5 := Lib.hid (HF_4.out.gr g5)
  clear HF_4
  have HG_5 := Lib.hid (HG_4.out.gr g5)
  clear HG_4
  have HX_5 := Lib.hid (HX_4.out.gr g5)
  clear HX_4
  have HY_5 := Lib.hid (hx1.ext (fun t _ => lessFull t))
  clear g5 G4
  clear hx1
  clear HX_5
  go_wp2_with fail
  refine (rfilter_ok (by omega) (HY_5.out)).mono ?_
  rintro e w6 ⟨rfl, g6⟩
  have G6 := (G5).trans g6
  have HF_6 := Lib.hid (HF_5.out.gr g6)
  clear HF_5
  have HG_6 := Lib.hid (HG_5.out.gr g6)
  clear HG_5
  have HY_6 := Lib.hid (HY_5.out.gr g6)
  clear HY_5
  clear g6 G5
  go_wp2_with fail
  refine (of_fs (by omega) (HY_6.out)).mono ?_
  rintro e w7 ⟨rfl, g7⟩
  have G7 := (G6).trans g7
  have HF_7 := Lib.hid (HF_6.out.gr g7)
  clear HF_6
  have HG_7 := Lib.hid (HG_6.out.gr g7)
  clear HG_6
  have HY_7 := Lib.hid (HY_6.out.gr g7)
  clear HY_6
  clear g7 G6
  clear HY_7
  go_wp2_with fail
  refine (many_full _).mono ?_
  rintro e w8 ⟨rfl, g8⟩
  have G8 := (G7).trans g8
  have HF_8 := Lib.hid (HF_7.out.gr g8)
  clear HF_7
  have HG_8 := Lib.hid (HG_7.out.gr g8)
  clear HG_7
  clear g8 G7
  generalize hcv : chkF lg = cv at *
  go_wp2_with fail
  refine (rfilter_any _ _ _ (HF_8.out)).mono ?_
  rw [e0]
  rintro e w9 ⟨rfl, g9⟩
  have G9 := (G8).trans g9
  have HF_9 := Lib.hid (HF_8.out.gr g9)
  clear HF_8
  have HG_9 := Lib.hid (HG_8.out.gr g9)
  clear HG_8
  clear g9 G8
  go_wp2_with fail
  refine (rfilter_any _ _ _ (HG_9.out)).mono ?_
  rw [hcv]
  rintro e w10 ⟨rfl, g10⟩
  have G10 := (G9).trans g10
  have HF_10 := Lib.hid (HF_9.out.gr g10)
  clear HF_9
  have HG_10 := Lib.hid (HG_9.out.gr g10)
  clear HG_9
  clear g10 G9
  go_wp2_with fail
  go_ret
  exact ⟨rfl, G10⟩
end Go.Proofs.Ytphcjjhfgpdhcaa
