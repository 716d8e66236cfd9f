/- The walk of FilterBoole. -/
import Derived.Test.YtphcjjhfgpdhcaaFilR
namespace Go.Proofs.Ytphcjjhfgpdhcaa
open Go.RowKit Rm
set_option linter.unusedVariables false

set_option maxHeartbeats 4000000 in
set_option maxRecDepth 100000 in
theorem filterBoole_bad1 (f g h : Value) (lf lg lh : List BoxI) (w : World) (rf : RdF w f lf) (rg : RdF w g lg) (rh : RdF w h lh) (hc : (chkF lf == 0) = false) :
    Calls Try.prog 5 #[f, g, h] w fun e w' => e = .returned (.bool true) ∧ Gr w w' := by
  have hc' := bne_of' hc
  have hn := hc
  have HC : Hid ((chkF2 lf lg == 0) = false) := by rw [chkF2_bad hc]; exact hc
  have HCE := Lib.hid (chkF2_bad (r := lg) hc)
  have HF0 := Lib.hid rf
  have HG0 := Lib.hid rg
  have HH0 := Lib.hid rh
  clear rf rg rh
  go_enter Try.func5, Try.ntmps5
  go_wp2_with fail
  refine (begun_any _).mono ?_
  rintro e v1 ⟨rfl, g1⟩
  have G1 := (Gr.refl _).trans g1
  have HF1 := Lib.hid ((HF0.out).gr g1)
  clear HF0
  have HG1 := Lib.hid ((HG0.out).gr g1)
  clear HG0
  have HH1 := Lib.hid ((HH0.out).gr g1)
  clear HH0
  clear g1
  go_wp2_with fail
  refine (fjoin_bad (HF1.out) (HG1.out) HC.out).mono ?_
  rw [HCE.out]
  rintro e v2 ⟨ja, jc, rfl, g2⟩
  have G2 := (G1).trans g2
  have HF2 := Lib.hid ((HF1.out).gr g2)
  clear HF1
  have HG2 := Lib.hid ((HG1.out).gr g2)
  clear HG1
  have HH2 := Lib.hid ((HH1.out).gr g2)
  clear HH1
  clear G1
  clear g2
  go_wp2_with fail
  refine (fcheck_any _ _ _ (HF2.out)).mono ?_
  rintro e v3 ⟨rfl, g3⟩
  have G3 := (G2).trans g3
  have HF3 := Lib.hid ((HF2.out).gr g3)
  clear HF2
  have HG3 := Lib.hid ((HG2.out).gr g3)
  clear HG2
  have HH3 := Lib.hid ((HH2.out).gr g3)
  clear HH2
  clear G2
  clear g3
  go_wp2_with fail
  go_ret
  exact ⟨rfl, G3⟩

set_option maxHeartbeats 4000000 in
set_option maxRecDepth 100000 in
theorem filterBoole_bad2 (f g h : Value) (T : Nat → Nat) (lf lg lh : List BoxI) (w : World) (ff : FS w f T) (rf : RdF w f lf) (rg : RdF w g lg) (rh : RdF w h lh) (hf : (chkF lf == 0) = true) (hc : (chkF lg == 0) = false) :
    Calls Try.prog 5 #[f, g, h] w fun e w' => e = .returned (.bool true) ∧ Gr w w' := by
  have hc' := bne_of' hc
  have hn := hc
  have HC : Hid ((chkF2 lf lg == 0) = false) := by rw [chkF2_ok hf]; exact hc
  have HCE := Lib.hid (chkF2_ok (r := lg) hf)
  have HF0 := Lib.hid rf
  have HG0 := Lib.hid rg
  have HH0 := Lib.hid rh
  have HE0 := Lib.hid ff
  have HHF := Lib.hid hf
  clear rf rg rh ff hf
  go_enter Try.func5, Try.ntmps5
  go_wp2_with fail
  refine (begun_any _).mono ?_
  rintro e v1 ⟨rfl, g1⟩
  have G1 := (Gr.refl _).trans g1
  have HF1 := Lib.hid ((HF0.out).gr g1)
  clear HF0
  have HG1 := Lib.hid ((HG0.out).gr g1)
  clear HG0
  have HH1 := Lib.hid ((HH0.out).gr g1)
  clear HH0
  have HE1 := Lib.hid ((HE0.out).gr g1)
  clear HE0
  clear g1
  go_wp2_with fail
  refine (fjoin_bad (HF1.out) (HG1.out) HC.out).mono ?_
  rw [HCE.out]
  rintro e v2 ⟨ja, jc, rfl, g2⟩
  have G2 := (G1).trans g2
  have HF2 := Lib.hid ((HF1.out).gr g2)
  clear HF1
  have HG2 := Lib.hid ((HG1.out).gr g2)
  clear HG1
  have HH2 := Lib.hid ((HH1.out).gr g2)
  clear HH1
  have HE2 := Lib.hid ((HE1.out).gr g2)
  clear HE1
  clear G1
  clear g2
  go_wp2_with fail
  refine (fcheck_ok (HE2.out)).mono ?_
  rintro e v3 ⟨rfl, g3⟩
  have G3 := (G2).trans g3
  have HF3 := Lib.hid ((HF2.out).gr g3)
  clear HF2
  have HG3 := Lib.hid ((HG2.out).gr g3)
  clear HG2
  have HH3 := Lib.hid ((HH2.out).gr g3)
  clear HH2
  have HE3 := Lib.hid ((HE2.out).gr g3)
  clear HE2
  clear G2
  clear g3
  go_wp2_with fail
  refine (fcheck_any _ _ _ (HG3.out)).mono ?_
  rintro e v4 ⟨rfl, g4⟩
  have G4 := (G3).trans g4
  have HF4 := Lib.hid ((HF3.out).gr g4)
  clear HF3
  have HG4 := Lib.hid ((HG3.out).gr g4)
  clear HG3
  have HH4 := Lib.hid ((HH3.out).gr g4)
  clear HH3
  have HE4 := Lib.hid ((HE3.out).gr g4)
  clear HE3
  clear G3
  clear g4
  go_wp2_with fail
  go_ret
  exact ⟨rfl, G4⟩

set_option maxHeartbeats 4000000 in
set_option maxRecDepth 100000 in
theorem filterBoole_bad3 (f g h : Value) (T U : Nat → Nat) (lh : List BoxI) (w : World) (rf : FS w f T) (rg : FS w g U) (rh : RdF w h lh) (hc : (chkF lh == 0) = false) :
    Calls Try.prog 5 #[f, g, h] w fun e w' => e = .returned (.bool true) ∧ Gr w w' := by
  have hc' := bne_of' hc
  have HF0 := Lib.hid rf
  have HG0 := Lib.hid rg
  have HH0 := Lib.hid rh
  clear rf rg rh
  go_enter Try.func5, Try.ntmps5
  go_wp2_with fail
  refine (begun_any _).mono ?_
  rintro e v1 ⟨rfl, g1⟩
  have G1 := (Gr.refl _).trans g1
  have HF1 := Lib.hid ((HF0.out).gr g1)
  clear HF0
  have HG1 := Lib.hid ((HG0.out).gr g1)
  clear HG0
  have HH1 := Lib.hid ((HH0.out).gr g1)
  clear HH0
  clear g1
  go_wp2_with fail
  refine (fjoin_ok (HF1.out) (HG1.out)).mono ?_
  rintro e v2 ⟨u2, rfl, h2, g2⟩
  have G2 := (G1).trans g2
  have HF2 := Lib.hid ((HF1.out).gr g2)
  clear HF1
  have HG2 := Lib.hid ((HG1.out).gr g2)
  clear HG1
  have HH2 := Lib.hid ((HH1.out).gr g2)
  clear HH1
  clear G1
  clear g2
  have HJ2 := Lib.hid (h2.le (m := 40) (by omega))
  clear h2
  go_wp2_with fail
  refine (fcheck_ok (HF2.out)).mono ?_
  rintro e v3 ⟨rfl, g3⟩
  have G3 := (G2).trans g3
  have HF3 := Lib.hid ((HF2.out).gr g3)
  clear HF2
  have HG3 := Lib.hid ((HG2.out).gr g3)
  clear HG2
  have HH3 := Lib.hid ((HH2.out).gr g3)
  clear HH2
  have HJ3 := Lib.hid ((HJ2.out).gr g3)
  clear HJ2
  clear G2
  clear g3
  go_wp2_with fail
  refine (fcheck_ok (HG3.out)).mono ?_
  rintro e v4 ⟨rfl, g4⟩
  have G4 := (G3).trans g4
  have HF4 := Lib.hid ((HF3.out).gr g4)
  clear HF3
  have HG4 := Lib.hid ((HG3.out).gr g4)
  clear HG3
  have HH4 := Lib.hid ((HH3.out).gr g4)
  clear HH3
  have HJ4 := Lib.hid ((HJ3.out).gr g4)
  clear HJ3
  clear G3
  clear g4
  go_wp2_with fail
  refine (fcheck_any _ _ _ (HH4.out)).mono ?_
  rintro e v5 ⟨rfl, g5⟩
  have G5 := (G4).trans g5
  have HF5 := Lib.hid ((HF4.out).gr g5)
  clear HF4
  have HG5 := Lib.hid ((HG4.out).gr g5)
  clear HG4
  have HH5 := Lib.hid ((HH4.out).gr g5)
  clear HH4
  have HJ5 := Lib.hid ((HJ4.out).gr g5)
  clear HJ4
  clear G4
  clear g5
  go_wp2_with fail
  go_ret
  exact ⟨rfl, G5⟩

set_option maxHeartbeats 4000000 in
set_option maxRecDepth 100000 in
theorem filterBoole_ok (f g h : Value) (T U V : Nat → Nat) (w : World) (hT : OkT T) (hU : OkT U) (hV : OkT V) (rf : FS w f T) (rg : FS w g U) (rh : FS w h V) :
    Calls Try.prog 5 #[f, g, h] w fun e w' => e = .returned (.bool true) ∧ Gr w w' := by
  have Q1 := Lib.hid (sameT_of (T := fun t => T t ||| U t) (U := fun t => U t ||| T t) (fun t ht => Nat.or_comm _ _))
  have Q2 := Lib.hid (sameT_of (T := fun t => (T t ||| U t) ||| V t) (U := fun t => T t ||| (U t ||| V t)) (fun t ht => Nat.or_assoc _ _ _))
  have Q3 := Lib.hid (sameT_of (T := fun t => T t &&& (U t ||| V t)) (U := fun t => (T t &&& U t) ||| (T t &&& V t)) (fun t ht => m_distrib _ _ _))
  have Q4 := Lib.hid (sameT_of (T := fun t => T t ||| (T t &&& U t)) (U := T) (fun t ht => m_absorb _ _))
  have Q5 := Lib.hid (sameT_of (T := fun t => T t &&& (T t ||| U t)) (U := T) (fun t ht => m_absorb' _ _))
  clear hT hU hV
  have HF0 := Lib.hid rf
  have HG0 := Lib.hid rg
  have HH0 := Lib.hid rh
  clear rf rg rh
  go_enter Try.func5, Try.ntmps5
  go_wp2_with fail
  refine (begun_any _).mono ?_
  rintro e v1 ⟨rfl, g1⟩
  have G1 := (Gr.refl _).trans g1
  have HF1 := Lib.hid ((HF0.out).gr g1)
  clear HF0
  have HG1 := Lib.hid ((HG0.out).gr g1)
  clear HG0
  have HH1 := Lib.hid ((HH0.out).gr g1)
  clear HH0
  clear g1
  go_wp2_with fail
  refine (fjoin_ok (HF1.out) (HG1.out)).mono ?_
  rintro e v2 ⟨u2, rfl, h2, g2⟩
  have G2 := (G1).trans g2
  have HF2 := Lib.hid ((HF1.out).gr g2)
  clear HF1
  have HG2 := Lib.hid ((HG1.out).gr g2)
  clear HG1
  have HH2 := Lib.hid ((HH1.out).gr g2)
  clear HH1
  clear G1
  clear g2
  have HFg2 := Lib.hid (h2.le (m := 40) (by omega))
  clear h2
  go_wp2_with fail
  refine (fcheck_ok (HF2.out)).mono ?_
  rintro e v3 ⟨rfl, g3⟩
  have G3 := (G2).trans g3
  have HF3 := Lib.hid ((HF2.out).gr g3)
  clear HF2
  have HG3 := Lib.hid ((HG2.out).gr g3)
  clear HG2
  have HH3 := Lib.hid ((HH2.out).gr g3)
  clear HH2
  have HFg3 := Lib.hid ((HFg2.out).gr g3)
  clear HFg2
  clear G2
  clear g3
  go_wp2_with fail
  refine (fcheck_ok (HG3.out)).mono ?_
  rintro e v4 ⟨rfl, g4⟩
  have G4 := (G3).trans g4
  have HF4 := Lib.hid ((HF3.out).gr g4)
  clear HF3
  have HG4 := Lib.hid ((HG3.out).gr g4)
  clear HG3
  have HH4 := Lib.hid ((HH3.out).gr g4)
  clear HH3
  have HFg4 := Lib.hid ((HFg3.out).gr g4)
  clear HFg3
  clear G3
  clear g4
  go_wp2_with fail
  refine (fcheck_ok (HH4.out)).mono ?_
  rintro e v5 ⟨rfl, g5⟩
  have G5 := (G4).trans g5
  have HF5 := Lib.hid ((HF4.out).gr g5)
  clear HF4
  have HG5 := Lib.hid ((HG4.out).gr g5)
  clear HG4
  have HH5 := Lib.hid ((HH4.out).gr g5)
  clear HH4
  have HFg5 := Lib.hid ((HFg4.out).gr g5)
  clear HFg4
  clear G4
  clear g5
  go_wp2_with fail
  refine (fjoin_ok (HG5.out) (HF5.out)).mono ?_
  rintro e v6 ⟨u6, rfl, h6, g6⟩
  have G6 := (G5).trans g6
  have HF6 := Lib.hid ((HF5.out).gr g6)
  clear HF5
  have HG6 := Lib.hid ((HG5.out).gr g6)
  clear HG5
  have HH6 := Lib.hid ((HH5.out).gr g6)
  clear HH5
  have HFg6 := Lib.hid ((HFg5.out).gr g6)
  clear HFg5
  clear G5
  clear g6
  have HGf6 := Lib.hid (h6.le (m := 40) (by omega))
  clear h6
  go_wp2_with fail
  refine (fjoin_ok (HFg6.out) (HH6.out)).mono ?_
  rintro e v7 ⟨u7, rfl, h7, g7⟩
  have G7 := (G6).trans g7
  have HF7 := Lib.hid ((HF6.out).gr g7)
  clear HF6
  have HG7 := Lib.hid ((HG6.out).gr g7)
  clear HG6
  have HH7 := Lib.hid ((HH6.out).gr g7)
  clear HH6
  have HFg7 := Lib.hid ((HFg6.out).gr g7)
  clear HFg6
  have HGf7 := Lib.hid ((HGf6.out).gr g7)
  clear HGf6
  clear G6
  clear g7
  have HL7 := Lib.hid (h7.le (m := 40) (by omega))
  clear h7
  go_wp2_with fail
  refine (fjoin_ok (HG7.out) (HH7.out)).mono ?_
  rintro e v8 ⟨u8, rfl, h8, g8⟩
  have G8 := (G7).trans g8
  have HF8 := Lib.hid ((HF7.out).gr g8)
  clear HF7
  have HG8 := Lib.hid ((HG7.out).gr g8)
  clear HG7
  have HH8 := Lib.hid ((HH7.out).gr g8)
  clear HH7
  have HFg8 := Lib.hid ((HFg7.out).gr g8)
  clear HFg7
  have HGf8 := Lib.hid ((HGf7.out).gr g8)
  clear HGf7
  have HL8 := Lib.hid ((HL7.out).gr g8)
  clear HL7
  clear G7
  clear g8
  have HGh8 := Lib.hid (h8.le (m := 40) (by omega))
  clear h8
  go_wp2_with fail
  refine (fjoin_ok (HF8.out) (HGh8.out)).mono ?_
  rintro e v9 ⟨u9, rfl, h9, g9⟩
  have G9 := (G8).trans g9
  have HF9 := Lib.hid ((HF8.out).gr g9)
  clear HF8
  have HG9 := Lib.hid ((HG8.out).gr g9)
  clear HG8
  have HH9 := Lib.hid ((HH8.out).gr g9)
  clear HH8
  have HFg9 := Lib.hid ((HFg8.out).gr g9)
  clear HFg8
  have HGf9 := Lib.hid ((HGf8.out).gr g9)
  clear HGf8
  have HL9 := Lib.hid ((HL8.out).gr g9)
  clear HL8
  have HGh9 := Lib.hid ((HGh8.out).gr g9)
  clear HGh8
  clear G8
  clear g9
  have HR9 := Lib.hid (h9.le (m := 40) (by omega))
  clear h9
  go_wp2_with fail
  refine (fmeet_ok (HF9.out) (HGh9.out)).mono ?_
  rintro e v10 ⟨u10, rfl, h10, g10⟩
  have G10 := (G9).trans g10
  have HF10 := Lib.hid ((HF9.out).gr g10)
  clear HF9
  have HG10 := Lib.hid ((HG9.out).gr g10)
  clear HG9
  have HH10 := Lib.hid ((HH9.out).gr g10)
  clear HH9
  have HFg10 := Lib.hid ((HFg9.out).gr g10)
  clear HFg9
  have HGf10 := Lib.hid ((HGf9.out).gr g10)
  clear HGf9
  have HL10 := Lib.hid ((HL9.out).gr g10)
  clear HL9
  have HGh10 := Lib.hid ((HGh9.out).gr g10)
  clear HGh9
  have HR10 := Lib.hid ((HR9.out).gr g10)
  clear HR9
  clear G9
  clear g10
  have HM10 := Lib.hid (h10.le (m := 40) (by omega))
  clear h10
  go_wp2_with fail
  refine (fmeet_ok (HF10.out) (HG10.out)).mono ?_
  rintro e v11 ⟨u11, rfl, h11, g11⟩
  have G11 := (G10).trans g11
  have HF11 := Lib.hid ((HF10.out).gr g11)
  clear HF10
  have HG11 := Lib.hid ((HG10.out).gr g11)
  clear HG10
  have HH11 := Lib.hid ((HH10.out).gr g11)
  clear HH10
  have HFg11 := Lib.hid ((HFg10.out).gr g11)
  clear HFg10
  have HGf11 := Lib.hid ((HGf10.out).gr g11)
  clear HGf10
  have HL11 := Lib.hid ((HL10.out).gr g11)
  clear HL10
  have HGh11 := Lib.hid ((HGh10.out).gr g11)
  clear HGh10
  have HR11 := Lib.hid ((HR10.out).gr g11)
  clear HR10
  have HM11 := Lib.hid ((HM10.out).gr g11)
  clear HM10
  clear G10
  clear g11
  have HMa11 := Lib.hid (h11.le (m := 40) (by omega))
  clear h11
  go_wp2_with fail
  refine (fmeet_ok (HF11.out) (HH11.out)).mono ?_
  rintro e v12 ⟨u12, rfl, h12, g12⟩
  have G12 := (G11).trans g12
  have HF12 := Lib.hid ((HF11.out).gr g12)
  clear HF11
  have HG12 := Lib.hid ((HG11.out).gr g12)
  clear HG11
  have HH12 := Lib.hid ((HH11.out).gr g12)
  clear HH11
  have HFg12 := Lib.hid ((HFg11.out).gr g12)
  clear HFg11
  have HGf12 := Lib.hid ((HGf11.out).gr g12)
  clear HGf11
  have HL12 := Lib.hid ((HL11.out).gr g12)
  clear HL11
  have HGh12 := Lib.hid ((HGh11.out).gr g12)
  clear HGh11
  have HR12 := Lib.hid ((HR11.out).gr g12)
  clear HR11
  have HM12 := Lib.hid ((HM11.out).gr g12)
  clear HM11
  have HMa12 := Lib.hid ((HMa11.out).gr g12)
  clear HMa11
  clear G11
  clear g12
  have HMb12 := Lib.hid (h12.le (m := 40) (by omega))
  clear h12
  go_wp2_with fail
  refine (fjoin_ok (HMa12.out) (HMb12.out)).mono ?_
  rintro e v13 ⟨u13, rfl, h13, g13⟩
  have G13 := (G12).trans g13
  have HF13 := Lib.hid ((HF12.out).gr g13)
  clear HF12
  have HG13 := Lib.hid ((HG12.out).gr g13)
  clear HG12
  have HH13 := Lib.hid ((HH12.out).gr g13)
  clear HH12
  have HFg13 := Lib.hid ((HFg12.out).gr g13)
  clear HFg12
  have HGf13 := Lib.hid ((HGf12.out).gr g13)
  clear HGf12
  have HL13 := Lib.hid ((HL12.out).gr g13)
  clear HL12
  have HGh13 := Lib.hid ((HGh12.out).gr g13)
  clear HGh12
  have HR13 := Lib.hid ((HR12.out).gr g13)
  clear HR12
  have HM13 := Lib.hid ((HM12.out).gr g13)
  clear HM12
  have HMa13 := Lib.hid ((HMa12.out).gr g13)
  clear HMa12
  have HMb13 := Lib.hid ((HMb12.out).gr g13)
  clear HMb12
  clear G12
  clear g13
  have HN13 := Lib.hid (h13.le (m := 40) (by omega))
  clear h13
  go_wp2_with fail
  refine (fjoin_ok (HF13.out) (HMa13.out)).mono ?_
  rintro e v14 ⟨u14, rfl, h14, g14⟩
  have G14 := (G13).trans g14
  have HF14 := Lib.hid ((HF13.out).gr g14)
  clear HF13
  have HG14 := Lib.hid ((HG13.out).gr g14)
  clear HG13
  have HH14 := Lib.hid ((HH13.out).gr g14)
  clear HH13
  have HFg14 := Lib.hid ((HFg13.out).gr g14)
  clear HFg13
  have HGf14 := Lib.hid ((HGf13.out).gr g14)
  clear HGf13
  have HL14 := Lib.hid ((HL13.out).gr g14)
  clear HL13
  have HGh14 := Lib.hid ((HGh13.out).gr g14)
  clear HGh13
  have HR14 := Lib.hid ((HR13.out).gr g14)
  clear HR13
  have HM14 := Lib.hid ((HM13.out).gr g14)
  clear HM13
  have HMa14 := Lib.hid ((HMa13.out).gr g14)
  clear HMa13
  have HMb14 := Lib.hid ((HMb13.out).gr g14)
  clear HMb13
  have HN14 := Lib.hid ((HN13.out).gr g14)
  clear HN13
  clear G13
  clear g14
  have HUu14 := Lib.hid (h14.le (m := 40) (by omega))
  clear h14
  go_wp2_with fail
  refine (fmeet_ok (HF14.out) (HFg14.out)).mono ?_
  rintro e v15 ⟨u15, rfl, h15, g15⟩
  have G15 := (G14).trans g15
  have HF15 := Lib.hid ((HF14.out).gr g15)
  clear HF14
  have HG15 := Lib.hid ((HG14.out).gr g15)
  clear HG14
  have HH15 := Lib.hid ((HH14.out).gr g15)
  clear HH14
  have HFg15 := Lib.hid ((HFg14.out).gr g15)
  clear HFg14
  have HGf15 := Lib.hid ((HGf14.out).gr g15)
  clear HGf14
  have HL15 := Lib.hid ((HL14.out).gr g15)
  clear HL14
  have HGh15 := Lib.hid ((HGh14.out).gr g15)
  clear HGh14
  have HR15 := Lib.hid ((HR14.out).gr g15)
  clear HR14
  have HM15 := Lib.hid ((HM14.out).gr g15)
  clear HM14
  have HMa15 := Lib.hid ((HMa14.out).gr g15)
  clear HMa14
  have HMb15 := Lib.hid ((HMb14.out).gr g15)
  clear HMb14
  have HN15 := Lib.hid ((HN14.out).gr g15)
  clear HN14
  have HUu15 := Lib.hid ((HUu14.out).gr g15)
  clear HUu14
  clear G14
  clear g15
  have HVv15 := Lib.hid (h15.le (m := 40) (by omega))
  clear h15
  go_wp2_with fail
  have HZ : Hid (∀ k, k < 11 → (v15.alloc (.cells #[.int .i64 0, .int .i64 0, .int .i64 0, .int .i64 0, .int .i64 0, .int .i64 0, .int .i64 0, .int .i64 0, .int .i64 0, .int .i64 0, .int .i64 0] 25)).cell? ⟨v15.heap.size, k, none⟩ = some (.int .i64 0)) := fun k hk => zeros_at v15 11 _ k hk
  have GW := (G15).alloc (.cells #[.int .i64 0, .int .i64 0, .int .i64 0, .int .i64 0, .int .i64 0, .int .i64 0, .int .i64 0, .int .i64 0, .int .i64 0, .int .i64 0, .int .i64 0] 25)
  have HFW := Lib.hid (HF15.out.alloc (.cells #[.int .i64 0, .int .i64 0, .int .i64 0, .int .i64 0, .int .i64 0, .int .i64 0, .int .i64 0, .int .i64 0, .int .i64 0, .int .i64 0, .int .i64 0] 25))
  clear HF15
  have HGW := Lib.hid (HG15.out.alloc (.cells #[.int .i64 0, .int .i64 0, .int .i64 0, .int .i64 0, .int .i64 0, .int .i64 0, .int .i64 0, .int .i64 0, .int .i64 0, .int .i64 0, .int .i64 0] 25))
  clear HG15
  have HHW := Lib.hid (HH15.out.alloc (.cells #[.int .i64 0, .int .i64 0, .int .i64 0, .int .i64 0, .int .i64 0, .int .i64 0, .int .i64 0, .int .i64 0, .int .i64 0, .int .i64 0, .int .i64 0] 25))
  clear HH15
  have HFgW := Lib.hid (HFg15.out.alloc (.cells #[.int .i64 0, .int .i64 0, .int .i64 0, .int .i64 0, .int .i64 0, .int .i64 0, .int .i64 0, .int .i64 0, .int .i64 0, .int .i64 0, .int .i64 0] 25))
  clear HFg15
  have HGfW := Lib.hid (HGf15.out.alloc (.cells #[.int .i64 0, .int .i64 0, .int .i64 0, .int .i64 0, .int .i64 0, .int .i64 0, .int .i64 0, .int .i64 0, .int .i64 0, .int .i64 0, .int .i64 0] 25))
  clear HGf15
  have HLW := Lib.hid (HL15.out.alloc (.cells #[.int .i64 0, .int .i64 0, .int .i64 0, .int .i64 0, .int .i64 0, .int .i64 0, .int .i64 0, .int .i64 0, .int .i64 0, .int .i64 0, .int .i64 0] 25))
  clear HL15
  have HGhW := Lib.hid (HGh15.out.alloc (.cells #[.int .i64 0, .int .i64 0, .int .i64 0, .int .i64 0, .int .i64 0, .int .i64 0, .int .i64 0, .int .i64 0, .int .i64 0, .int .i64 0, .int .i64 0] 25))
  clear HGh15
  have HRW := Lib.hid (HR15.out.alloc (.cells #[.int .i64 0, .int .i64 0, .int .i64 0, .int .i64 0, .int .i64 0, .int .i64 0, .int .i64 0, .int .i64 0, .int .i64 0, .int .i64 0, .int .i64 0] 25))
  clear HR15
  have HMW := Lib.hid (HM15.out.alloc (.cells #[.int .i64 0, .int .i64 0, .int .i64 0, .int .i64 0, .int .i64 0, .int .i64 0, .int .i64 0, .int .i64 0, .int .i64 0, .int .i64 0, .int .i64 0] 25))
  clear HM15
  have HMaW := Lib.hid (HMa15.out.alloc (.cells #[.int .i64 0, .int .i64 0, .int .i64 0, .int .i64 0, .int .i64 0, .int .i64 0, .int .i64 0, .int .i64 0, .int .i64 0, .int .i64 0, .int .i64 0] 25))
  clear HMa15
  have HMbW := Lib.hid (HMb15.out.alloc (.cells #[.int .i64 0, .int .i64 0, .int .i64 0, .int .i64 0, .int .i64 0, .int .i64 0, .int .i64 0, .int .i64 0, .int .i64 0, .int .i64 0, .int .i64 0] 25))
  clear HMb15
  have HNW := Lib.hid (HN15.out.alloc (.cells #[.int .i64 0, .int .i64 0, .int .i64 0, .int .i64 0, .int .i64 0, .int .i64 0, .int .i64 0, .int .i64 0, .int .i64 0, .int .i64 0, .int .i64 0] 25))
  clear HN15
  have HUuW := Lib.hid (HUu15.out.alloc (.cells #[.int .i64 0, .int .i64 0, .int .i64 0, .int .i64 0, .int .i64 0, .int .i64 0, .int .i64 0, .int .i64 0, .int .i64 0, .int .i64 0, .int .i64 0] 25))
  clear HUu15
  have HVvW := Lib.hid (HVv15.out.alloc (.cells #[.int .i64 0, .int .i64 0, .int .i64 0, .int .i64 0, .int .i64 0, .int .i64 0, .int .i64 0, .int .i64 0, .int .i64 0, .int .i64 0, .int .i64 0] 25))
  clear HVv15
  clear G15
  generalize v15.alloc (.cells #[.int .i64 0, .int .i64 0, .int .i64 0, .int .i64 0, .int .i64 0, .int .i64 0, .int .i64 0, .int .i64 0, .int .i64 0, .int .i64 0, .int .i64 0] 25) = W at *
  generalize v15.heap.size = BW at *
  go_loop [132] (fun i => ∃ k : Nat, k ≤ 11 ∧ i = .int .i64 k) (fun i => 11 - (intOf i).toNat)
  case atStart => exact ⟨0, by omega, rfl⟩
  case round =>
    obtain ⟨k, hk, rfl⟩ := hrel
    by_cases hlt : k < 11
    · have hz := HZ.out k hlt
      go_wp2
      go_round
      case rel => exact ⟨k + 1, by omega, by go_num⟩
      case measure => simp [intOf]; omega
    · obtain rfl : k = 11 := by omega
      go_wp2_with fail
      refine (same_any (HFgW.out) (HGfW.out)).mono ?_
      rw [Q1.out]
      rintro e v16 ⟨rfl, g16⟩
      have G16 := (GW).trans g16
      have HF16 := Lib.hid ((HFW.out).gr g16)
      clear HFW
      have HG16 := Lib.hid ((HGW.out).gr g16)
      clear HGW
      have HH16 := Lib.hid ((HHW.out).gr g16)
      clear HHW
      have HFg16 := Lib.hid ((HFgW.out).gr g16)
      clear HFgW
      have HGf16 := Lib.hid ((HGfW.out).gr g16)
      clear HGfW
      have HL16 := Lib.hid ((HLW.out).gr g16)
      clear HLW
      have HGh16 := Lib.hid ((HGhW.out).gr g16)
      clear HGhW
      have HR16 := Lib.hid ((HRW.out).gr g16)
      clear HRW
      have HM16 := Lib.hid ((HMW.out).gr g16)
      clear HMW
      have HMa16 := Lib.hid ((HMaW.out).gr g16)
      clear HMaW
      have HMb16 := Lib.hid ((HMbW.out).gr g16)
      clear HMbW
      have HN16 := Lib.hid ((HNW.out).gr g16)
      clear HNW
      have HUu16 := Lib.hid ((HUuW.out).gr g16)
      clear HUuW
      have HVv16 := Lib.hid ((HVvW.out).gr g16)
      clear HVvW
      clear GW
      clear g16
      go_wp2_with fail
      refine (same_any (HL16.out) (HR16.out)).mono ?_
      rw [Q2.out]
      rintro e v17 ⟨rfl, g17⟩
      have G17 := (G16).trans g17
      have HF17 := Lib.hid ((HF16.out).gr g17)
      clear HF16
      have HG17 := Lib.hid ((HG16.out).gr g17)
      clear HG16
      have HH17 := Lib.hid ((HH16.out).gr g17)
      clear HH16
      have HFg17 := Lib.hid ((HFg16.out).gr g17)
      clear HFg16
      have HGf17 := Lib.hid ((HGf16.out).gr g17)
      clear HGf16
      have HL17 := Lib.hid ((HL16.out).gr g17)
      clear HL16
      have HGh17 := Lib.hid ((HGh16.out).gr g17)
      clear HGh16
      have HR17 := Lib.hid ((HR16.out).gr g17)
      clear HR16
      have HM17 := Lib.hid ((HM16.out).gr g17)
      clear HM16
      have HMa17 := Lib.hid ((HMa16.out).gr g17)
      clear HMa16
      have HMb17 := Lib.hid ((HMb16.out).gr g17)
      clear HMb16
      have HN17 := Lib.hid ((HN16.out).gr g17)
      clear HN16
      have HUu17 := Lib.hid ((HUu16.out).gr g17)
      clear HUu16
      have HVv17 := Lib.hid ((HVv16.out).gr g17)
      clear HVv16
      clear G16
      clear g17
      go_wp2_with fail
      refine (same_any (HM17.out) (HN17.out)).mono ?_
      rw [Q3.out]
      rintro e v18 ⟨rfl, g18⟩
      have G18 := (G17).trans g18
      have HF18 := Lib.hid ((HF17.out).gr g18)
      clear HF17
      have HG18 := Lib.hid ((HG17.out).gr g18)
      clear HG17
      have HH18 := Lib.hid ((HH17.out).gr g18)
      clear HH17
      have HFg18 := Lib.hid ((HFg17.out).gr g18)
      clear HFg17
      have HGf18 := Lib.hid ((HGf17.out).gr g18)
      clear HGf17
      have HL18 := Lib.hid ((HL17.out).gr g18)
      clear HL17
      have HGh18 := Lib.hid ((HGh17.out).gr g18)
      clear HGh17
      have HR18 := Lib.hid ((HR17.out).gr g18)
      clear HR17
      have HM18 := Lib.hid ((HM17.out).gr g18)
      clear HM17
      have HMa18 := Lib.hid ((HMa17.out).gr g18)
      clear HMa17
      have HMb18 := Lib.hid ((HMb17.out).gr g18)
      clear HMb17
      have HN18 := Lib.hid ((HN17.out).gr g18)
      clear HN17
      have HUu18 := Lib.hid ((HUu17.out).gr g18)
      clear HUu17
      have HVv18 := Lib.hid ((HVv17.out).gr g18)
      clear HVv17
      clear G17
      clear g18
      go_wp2_with fail
      refine (same_any (HUu18.out) (HF18.out)).mono ?_
      rw [Q4.out]
      rintro e v19 ⟨rfl, g19⟩
      have G19 := (G18).trans g19
      have HF19 := Lib.hid ((HF18.out).gr g19)
      clear HF18
      have HG19 := Lib.hid ((HG18.out).gr g19)
      clear HG18
      have HH19 := Lib.hid ((HH18.out).gr g19)
      clear HH18
      have HFg19 := Lib.hid ((HFg18.out).gr g19)
      clear HFg18
      have HGf19 := Lib.hid ((HGf18.out).gr g19)
      clear HGf18
      have HL19 := Lib.hid ((HL18.out).gr g19)
      clear HL18
      have HGh19 := Lib.hid ((HGh18.out).gr g19)
      clear HGh18
      have HR19 := Lib.hid ((HR18.out).gr g19)
      clear HR18
      have HM19 := Lib.hid ((HM18.out).gr g19)
      clear HM18
      have HMa19 := Lib.hid ((HMa18.out).gr g19)
      clear HMa18
      have HMb19 := Lib.hid ((HMb18.out).gr g19)
      clear HMb18
      have HN19 := Lib.hid ((HN18.out).gr g19)
      clear HN18
      have HUu19 := Lib.hid ((HUu18.out).gr g19)
      clear HUu18
      have HVv19 := Lib.hid ((HVv18.out).gr g19)
      clear HVv18
      clear G18
      clear g19
      go_wp2_with fail
      refine (same_any (HVv19.out) (HF19.out)).mono ?_
      rw [Q5.out]
      rintro e v20 ⟨rfl, g20⟩
      have G20 := (G19).trans g20
      have HF20 := Lib.hid ((HF19.out).gr g20)
      clear HF19
      have HG20 := Lib.hid ((HG19.out).gr g20)
      clear HG19
      have HH20 := Lib.hid ((HH19.out).gr g20)
      clear HH19
      have HFg20 := Lib.hid ((HFg19.out).gr g20)
      clear HFg19
      have HGf20 := Lib.hid ((HGf19.out).gr g20)
      clear HGf19
      have HL20 := Lib.hid ((HL19.out).gr g20)
      clear HL19
      have HGh20 := Lib.hid ((HGh19.out).gr g20)
      clear HGh19
      have HR20 := Lib.hid ((HR19.out).gr g20)
      clear HR19
      have HM20 := Lib.hid ((HM19.out).gr g20)
      clear HM19
      have HMa20 := Lib.hid ((HMa19.out).gr g20)
      clear HMa19
      have HMb20 := Lib.hid ((HMb19.out).gr g20)
      clear HMb19
      have HN20 := Lib.hid ((HN19.out).gr g20)
      clear HN19
      have HUu20 := Lib.hid ((HUu19.out).gr g20)
      clear HUu19
      have HVv20 := Lib.hid ((HVv19.out).gr g20)
      clear HVv19
      clear G19
      clear g20
      go_wp2_with fail
      go_ret
      exact ⟨rfl, G20⟩

theorem filterBoole_walk (f : Value) (lf : List BoxI) (g : Value) (lg : List BoxI) (h : Value) (lh : List BoxI) (w : World) (rf : RdF w f lf) (rg : RdF w g lg) (rh : RdF w h lh) :
    Calls Try.prog 5 #[f, g, h] w fun e w' => e = .returned (.bool true) ∧ Gr w w' := by
  cases h1 : (chkF lf == 0)
  · exact filterBoole_bad1 f g h lf lg lh w rf rg rh h1
  cases h2 : (chkF lg == 0)
  · obtain ⟨T, a, _⟩ := fs_of rf h1
    exact filterBoole_bad2 f g h T lf lg lh w a rf rg rh h1 h2
  obtain ⟨T, a, oT⟩ := fs_of rf h1
  obtain ⟨U, b, oU⟩ := fs_of rg h2
  cases h3 : (chkF lh == 0)
  · exact filterBoole_bad3 f g h T U lh w a b rh h3
  obtain ⟨V, c, oV⟩ := fs_of rh h3
  exact filterBoole_ok f g h T U V w oT oU oV a b c
end Go.Proofs.Ytphcjjhfgpdhcaa
