/- The walk of FilterWithin. -/
import Derived.Test.YtphcjjhfgpdhcaaFilR
namespace Go.Proofs.Ytphcjjhfgpdhcaa
open Go.RowKit Rm
set_option linter.unusedVariables false

set_option maxHeartbeats 4000000 in
set_option maxRecDepth 100000 in
theorem filterWithin_bad1 (f g h : Value) (lf lg lh : List BoxI) (w : World) (rf : RdF w f lf) (rg : RdF w g lg) (rh : RdF w h lh) (p q : Int) (hc : (chkF lf == 0) = false) :
    Calls Try.prog 7 #[f, g, h, .agg #[.int .i64 p, .int .i64 q]] w fun e w' => e = .returned (.bool true) ∧ Gr w w' := by
  have hc' := bne_of' hc
  have HC : Hid ((chkF2 lf lg == 0) = false) := by rw [chkF2_bad hc]; exact hc
  have HCE := Lib.hid (chkF2_bad (r := lg) hc)
  have HF0 := Lib.hid rf
  have HG0 := Lib.hid rg
  have HH0 := Lib.hid rh
  clear rf rg rh
  go_enter Try.func7, Try.ntmps7
  go_wp2_with fail
  refine (begun_any _).mono ?_
  rintro e v1 ⟨rfl, g1⟩
  have G1 := ((Gr.refl _).alloc _).trans g1
  have HF1 := Lib.hid (((HF0.out).alloc _).gr g1)
  clear HF0
  have HG1 := Lib.hid (((HG0.out).alloc _).gr g1)
  clear HG0
  have HH1 := Lib.hid (((HH0.out).alloc _).gr g1)
  clear HH0
  clear g1
  go_wp2_with fail
  refine (fwithin_bad (HF1.out) (HG1.out) HC.out).mono ?_
  rw [HCE.out]
  rintro e v2 ⟨rfl, g2⟩
  have G2 := (G1).trans g2
  have HF2 := Lib.hid ((HF1.out).gr g2)
  clear HF1
  have HG2 := Lib.hid ((HG1.out).gr g2)
  clear HG1
  have HH2 := Lib.hid ((HH1.out).gr g2)
  clear HH1
  clear G1
  clear g2
  go_wp2_with fail
  refine (fcheck_any _ _ _ (HF2.out)).mono ?_
  rintro e v3 ⟨rfl, g3⟩
  have G3 := (G2).trans g3
  have HF3 := Lib.hid ((HF2.out).gr g3)
  clear HF2
  have HG3 := Lib.hid ((HG2.out).gr g3)
  clear HG2
  have HH3 := Lib.hid ((HH2.out).gr g3)
  clear HH2
  clear G2
  clear g3
  go_wp2_with fail
  go_ret
  exact ⟨rfl, G3⟩

set_option maxHeartbeats 4000000 in
set_option maxRecDepth 100000 in
theorem filterWithin_bad2 (f g h : Value) (T : Nat → Nat) (lf lg lh : List BoxI) (w : World) (ff : FS w f T) (rf : RdF w f lf) (rg : RdF w g lg) (rh : RdF w h lh) (p q : Int) (hf : (chkF lf == 0) = true) (hc : (chkF lg == 0) = false) :
    Calls Try.prog 7 #[f, g, h, .agg #[.int .i64 p, .int .i64 q]] w fun e w' => e = .returned (.bool true) ∧ Gr w w' := by
  have hc' := bne_of' hc
  have HC : Hid ((chkF2 lf lg == 0) = false) := by rw [chkF2_ok hf]; exact hc
  have HCE := Lib.hid (chkF2_ok (r := lg) hf)
  clear hf
  have HF0 := Lib.hid rf
  have HG0 := Lib.hid rg
  have HH0 := Lib.hid rh
  have HE0 := Lib.hid ff
  clear rf rg rh ff
  go_enter Try.func7, Try.ntmps7
  go_wp2_with fail
  refine (begun_any _).mono ?_
  rintro e v1 ⟨rfl, g1⟩
  have G1 := ((Gr.refl _).alloc _).trans g1
  have HF1 := Lib.hid (((HF0.out).alloc _).gr g1)
  clear HF0
  have HG1 := Lib.hid (((HG0.out).alloc _).gr g1)
  clear HG0
  have HH1 := Lib.hid (((HH0.out).alloc _).gr g1)
  clear HH0
  have HE1 := Lib.hid (((HE0.out).alloc _).gr g1)
  clear HE0
  clear g1
  go_wp2_with fail
  refine (fwithin_bad (HF1.out) (HG1.out) HC.out).mono ?_
  rw [HCE.out]
  rintro e v2 ⟨rfl, g2⟩
  have G2 := (G1).trans g2
  have HF2 := Lib.hid ((HF1.out).gr g2)
  clear HF1
  have HG2 := Lib.hid ((HG1.out).gr g2)
  clear HG1
  have HH2 := Lib.hid ((HH1.out).gr g2)
  clear HH1
  have HE2 := Lib.hid ((HE1.out).gr g2)
  clear HE1
  clear G1
  clear g2
  go_wp2_with fail
  refine (fcheck_ok (HE2.out)).mono ?_
  rintro e v3 ⟨rfl, g3⟩
  have G3 := (G2).trans g3
  have HF3 := Lib.hid ((HF2.out).gr g3)
  clear HF2
  have HG3 := Lib.hid ((HG2.out).gr g3)
  clear HG2
  have HH3 := Lib.hid ((HH2.out).gr g3)
  clear HH2
  have HE3 := Lib.hid ((HE2.out).gr g3)
  clear HE2
  clear G2
  clear g3
  go_wp2_with fail
  refine (fcheck_any _ _ _ (HG3.out)).mono ?_
  rintro e v4 ⟨rfl, g4⟩
  have G4 := (G3).trans g4
  have HF4 := Lib.hid ((HF3.out).gr g4)
  clear HF3
  have HG4 := Lib.hid ((HG3.out).gr g4)
  clear HG3
  have HH4 := Lib.hid ((HH3.out).gr g4)
  clear HH3
  have HE4 := Lib.hid ((HE3.out).gr g4)
  clear HE3
  clear G3
  clear g4
  go_wp2_with fail
  go_ret
  exact ⟨rfl, G4⟩

set_option maxHeartbeats 4000000 in
set_option maxRecDepth 100000 in
theorem filterWithin_bad3 (f g h : Value) (T U : Nat → Nat) (lh : List BoxI) (w : World) (rf : FS w f T) (rg : FS w g U) (rh : RdF w h lh) (p q : Int) (hc : (chkF lh == 0) = false) :
    Calls Try.prog 7 #[f, g, h, .agg #[.int .i64 p, .int .i64 q]] w fun e w' => e = .returned (.bool true) ∧ Gr w w' := by
  have hc' := bne_of' hc
  have HF0 := Lib.hid rf
  have HG0 := Lib.hid rg
  have HH0 := Lib.hid rh
  clear rf rg rh
  go_enter Try.func7, Try.ntmps7
  go_wp2_with fail
  refine (begun_any _).mono ?_
  rintro e v1 ⟨rfl, g1⟩
  have G1 := ((Gr.refl _).alloc _).trans g1
  have HF1 := Lib.hid (((HF0.out).alloc _).gr g1)
  clear HF0
  have HG1 := Lib.hid (((HG0.out).alloc _).gr g1)
  clear HG0
  have HH1 := Lib.hid (((HH0.out).alloc _).gr g1)
  clear HH0
  clear g1
  go_wp2_with fail
  refine (fwithin_ok (HF1.out) (HG1.out)).mono ?_
  rintro e v2 ⟨rfl, g2⟩
  have G2 := (G1).trans g2
  have HF2 := Lib.hid ((HF1.out).gr g2)
  clear HF1
  have HG2 := Lib.hid ((HG1.out).gr g2)
  clear HG1
  have HH2 := Lib.hid ((HH1.out).gr g2)
  clear HH1
  clear G1
  clear g2
  go_wp2_with fail
  refine (fcheck_ok (HF2.out)).mono ?_
  rintro e v3 ⟨rfl, g3⟩
  have G3 := (G2).trans g3
  have HF3 := Lib.hid ((HF2.out).gr g3)
  clear HF2
  have HG3 := Lib.hid ((HG2.out).gr g3)
  clear HG2
  have HH3 := Lib.hid ((HH2.out).gr g3)
  clear HH2
  clear G2
  clear g3
  go_wp2_with fail
  refine (fcheck_ok (HG3.out)).mono ?_
  rintro e v4 ⟨rfl, g4⟩
  have G4 := (G3).trans g4
  have HF4 := Lib.hid ((HF3.out).gr g4)
  clear HF3
  have HG4 := Lib.hid ((HG3.out).gr g4)
  clear HG3
  have HH4 := Lib.hid ((HH3.out).gr g4)
  clear HH3
  clear G3
  clear g4
  go_wp2_with fail
  refine (fcheck_any _ _ _ (HH4.out)).mono ?_
  rintro e v5 ⟨rfl, g5⟩
  have G5 := (G4).trans g5
  have HF5 := Lib.hid ((HF4.out).gr g5)
  clear HF4
  have HG5 := Lib.hid ((HG4.out).gr g5)
  clear HG4
  have HH5 := Lib.hid ((HH4.out).gr g5)
  clear HH4
  clear G4
  clear g5
  go_wp2_with fail
  go_ret
  exact ⟨rfl, G5⟩

set_option maxHeartbeats 4000000 in
set_option maxRecDepth 100000 in
theorem filterWithin_bad4 (f g h : Value) (T U V : Nat → Nat) (w : World) (hT : OkT T) (hU : OkT U) (hV : OkT V) (rf : FS w f T) (rg : FS w g U) (rh : FS w h V) (p q : Int) (hp : pointB p q = false) :
    Calls Try.prog 7 #[f, g, h, .agg #[.int .i64 p, .int .i64 q]] w fun e w' => e = .returned (.bool true) ∧ Gr w w' := by
  have HP0 := Lib.hid (Two.new w p q 24)
  clear hT hU hV
  have HF0 := Lib.hid rf
  have HG0 := Lib.hid rg
  have HH0 := Lib.hid rh
  clear rf rg rh
  go_enter Try.func7, Try.ntmps7
  go_wp2_with fail
  refine (begun_any _).mono ?_
  rintro e v1 ⟨rfl, g1⟩
  have G1 := ((Gr.refl _).alloc _).trans g1
  have HF1 := Lib.hid (((HF0.out).alloc _).gr g1)
  clear HF0
  have HG1 := Lib.hid (((HG0.out).alloc _).gr g1)
  clear HG0
  have HH1 := Lib.hid (((HH0.out).alloc _).gr g1)
  clear HH0
  have HP1 := Lib.hid (HP0.out.gr g1)
  clear g1
  go_wp2_with fail
  refine (fwithin_ok (HF1.out) (HG1.out)).mono ?_
  rintro e v2 ⟨rfl, g2⟩
  have G2 := (G1).trans g2
  have HF2 := Lib.hid ((HF1.out).gr g2)
  clear HF1
  have HG2 := Lib.hid ((HG1.out).gr g2)
  clear HG1
  have HH2 := Lib.hid ((HH1.out).gr g2)
  clear HH1
  have HP2 := Lib.hid ((HP1.out).gr g2)
  clear HP1
  clear G1
  clear g2
  go_wp2_with fail
  refine (fcheck_ok (HF2.out)).mono ?_
  rintro e v3 ⟨rfl, g3⟩
  have G3 := (G2).trans g3
  have HF3 := Lib.hid ((HF2.out).gr g3)
  clear HF2
  have HG3 := Lib.hid ((HG2.out).gr g3)
  clear HG2
  have HH3 := Lib.hid ((HH2.out).gr g3)
  clear HH2
  have HP3 := Lib.hid ((HP2.out).gr g3)
  clear HP2
  clear G2
  clear g3
  go_wp2_with fail
  refine (fcheck_ok (HG3.out)).mono ?_
  rintro e v4 ⟨rfl, g4⟩
  have G4 := (G3).trans g4
  have HF4 := Lib.hid ((HF3.out).gr g4)
  clear HF3
  have HG4 := Lib.hid ((HG3.out).gr g4)
  clear HG3
  have HH4 := Lib.hid ((HH3.out).gr g4)
  clear HH3
  have HP4 := Lib.hid ((HP3.out).gr g4)
  clear HP3
  clear G3
  clear g4
  go_wp2_with fail
  refine (fcheck_ok (HH4.out)).mono ?_
  rintro e v5 ⟨rfl, g5⟩
  have G5 := (G4).trans g5
  have HF5 := Lib.hid ((HF4.out).gr g5)
  clear HF4
  have HG5 := Lib.hid ((HG4.out).gr g5)
  clear HG4
  have HH5 := Lib.hid ((HH4.out).gr g5)
  clear HH4
  have HP5 := Lib.hid ((HP4.out).gr g5)
  clear HP4
  clear G4
  clear g5
  obtain ⟨xP0, xP1, xP2⟩ := (HP5.out)
  go_wp2_with fail
  refine (point_any _ _ _).mono ?_
  rw [hp]
  rintro e v6 ⟨rfl, g6⟩
  clear xP0 xP1 xP2
  have G6 := (G5).trans g6
  have HF6 := Lib.hid ((HF5.out).gr g6)
  clear HF5
  have HG6 := Lib.hid ((HG5.out).gr g6)
  clear HG5
  have HH6 := Lib.hid ((HH5.out).gr g6)
  clear HH5
  have HP6 := Lib.hid ((HP5.out).gr g6)
  clear HP5
  clear G5
  clear g6
  go_wp2_with fail
  go_ret
  exact ⟨rfl, G6⟩

set_option maxHeartbeats 4000000 in
set_option maxRecDepth 100000 in
theorem filterWithin_ok (f g h : Value) (T U V : Nat → Nat) (w : World) (hT : OkT T) (hU : OkT U) (hV : OkT V) (rf : FS w f T) (rg : FS w g U) (rh : FS w h V) (p q : Int) (hp : pointB p q = true) :
    Calls Try.prog 7 #[f, g, h, .agg #[.int .i64 p, .int .i64 q]] w fun e w' => e = .returned (.bool true) ∧ Gr w w' := by
  have HP0 := Lib.hid (Two.new w p q 24)
  have HEP : Hid (errP p q = 0) := by simp [errP, hp, Hid]
  have QS := Lib.hid (same_within hT hU)
  have QT := Lib.hid (within_trans hT hU hV)
  have QB := Lib.hid (fun hw => within_has hT hU hw (t := p) (n := q))
  have QC := Lib.hid (within_cnt hT hU)
  clear hT hU hV
  have HF0 := Lib.hid rf
  have HG0 := Lib.hid rg
  have HH0 := Lib.hid rh
  clear rf rg rh
  go_enter Try.func7, Try.ntmps7
  go_wp2_with fail
  refine (begun_any _).mono ?_
  rintro e v1 ⟨rfl, g1⟩
  have G1 := ((Gr.refl _).alloc _).trans g1
  have HF1 := Lib.hid (((HF0.out).alloc _).gr g1)
  clear HF0
  have HG1 := Lib.hid (((HG0.out).alloc _).gr g1)
  clear HG0
  have HH1 := Lib.hid (((HH0.out).alloc _).gr g1)
  clear HH0
  have HP1 := Lib.hid (HP0.out.gr g1)
  clear g1
  go_wp2_with fail
  refine (fwithin_ok (HF1.out) (HG1.out)).mono ?_
  rintro e v2 ⟨rfl, g2⟩
  have G2 := (G1).trans g2
  have HF2 := Lib.hid ((HF1.out).gr g2)
  clear HF1
  have HG2 := Lib.hid ((HG1.out).gr g2)
  clear HG1
  have HH2 := Lib.hid ((HH1.out).gr g2)
  clear HH1
  have HP2 := Lib.hid ((HP1.out).gr g2)
  clear HP1
  clear G1
  clear g2
  go_wp2_with fail
  refine (fcheck_ok (HF2.out)).mono ?_
  rintro e v3 ⟨rfl, g3⟩
  have G3 := (G2).trans g3
  have HF3 := Lib.hid ((HF2.out).gr g3)
  clear HF2
  have HG3 := Lib.hid ((HG2.out).gr g3)
  clear HG2
  have HH3 := Lib.hid ((HH2.out).gr g3)
  clear HH2
  have HP3 := Lib.hid ((HP2.out).gr g3)
  clear HP2
  clear G2
  clear g3
  go_wp2_with fail
  refine (fcheck_ok (HG3.out)).mono ?_
  rintro e v4 ⟨rfl, g4⟩
  have G4 := (G3).trans g4
  have HF4 := Lib.hid ((HF3.out).gr g4)
  clear HF3
  have HG4 := Lib.hid ((HG3.out).gr g4)
  clear HG3
  have HH4 := Lib.hid ((HH3.out).gr g4)
  clear HH3
  have HP4 := Lib.hid ((HP3.out).gr g4)
  clear HP3
  clear G3
  clear g4
  go_wp2_with fail
  refine (fcheck_ok (HH4.out)).mono ?_
  rintro e v5 ⟨rfl, g5⟩
  have G5 := (G4).trans g5
  have HF5 := Lib.hid ((HF4.out).gr g5)
  clear HF4
  have HG5 := Lib.hid ((HG4.out).gr g5)
  clear HG4
  have HH5 := Lib.hid ((HH4.out).gr g5)
  clear HH4
  have HP5 := Lib.hid ((HP4.out).gr g5)
  clear HP4
  clear G4
  clear g5
  obtain ⟨xP0, xP1, xP2⟩ := (HP5.out)
  go_wp2_with fail
  refine (point_any _ _ _).mono ?_
  rw [hp]
  rintro e v6 ⟨rfl, g6⟩
  clear xP0 xP1 xP2
  have G6 := (G5).trans g6
  have HF6 := Lib.hid ((HF5.out).gr g6)
  clear HF5
  have HG6 := Lib.hid ((HG5.out).gr g6)
  clear HG5
  have HH6 := Lib.hid ((HH5.out).gr g6)
  clear HH5
  have HP6 := Lib.hid ((HP5.out).gr g6)
  clear HP5
  clear G5
  clear g6
  go_wp2_with fail
  refine (fwithin_ok (HG6.out) (HF6.out)).mono ?_
  rintro e v7 ⟨rfl, g7⟩
  have G7 := (G6).trans g7
  have HF7 := Lib.hid ((HF6.out).gr g7)
  clear HF6
  have HG7 := Lib.hid ((HG6.out).gr g7)
  clear HG6
  have HH7 := Lib.hid ((HH6.out).gr g7)
  clear HH6
  have HP7 := Lib.hid ((HP6.out).gr g7)
  clear HP6
  clear G6
  clear g7
  go_wp2_with fail
  refine (fwithin_ok (HG7.out) (HH7.out)).mono ?_
  rintro e v8 ⟨rfl, g8⟩
  have G8 := (G7).trans g8
  have HF8 := Lib.hid ((HF7.out).gr g8)
  clear HF7
  have HG8 := Lib.hid ((HG7.out).gr g8)
  clear HG7
  have HH8 := Lib.hid ((HH7.out).gr g8)
  clear HH7
  have HP8 := Lib.hid ((HP7.out).gr g8)
  clear HP7
  clear G7
  clear g8
  go_wp2_with fail
  refine (fwithin_ok (HF8.out) (HH8.out)).mono ?_
  rintro e v9 ⟨rfl, g9⟩
  have G9 := (G8).trans g9
  have HF9 := Lib.hid ((HF8.out).gr g9)
  clear HF8
  have HG9 := Lib.hid ((HG8.out).gr g9)
  clear HG8
  have HH9 := Lib.hid ((HH8.out).gr g9)
  clear HH8
  have HP9 := Lib.hid ((HP8.out).gr g9)
  clear HP8
  clear G8
  clear g9
  obtain ⟨xP0, xP1, xP2⟩ := (HP9.out)
  go_wp2_with fail
  refine (fhas_ok (HF9.out) _ _).mono ?_
  rw [HEP.out]
  rintro e v10 ⟨rfl, g10⟩
  clear xP0 xP1 xP2
  have G10 := (G9).trans g10
  have HF10 := Lib.hid ((HF9.out).gr g10)
  clear HF9
  have HG10 := Lib.hid ((HG9.out).gr g10)
  clear HG9
  have HH10 := Lib.hid ((HH9.out).gr g10)
  clear HH9
  have HP10 := Lib.hid ((HP9.out).gr g10)
  clear HP9
  clear G9
  clear g10
  obtain ⟨xP0, xP1, xP2⟩ := (HP10.out)
  go_wp2_with fail
  refine (fhas_ok (HG10.out) _ _).mono ?_
  rw [HEP.out]
  rintro e v11 ⟨rfl, g11⟩
  clear xP0 xP1 xP2
  have G11 := (G10).trans g11
  have HF11 := Lib.hid ((HF10.out).gr g11)
  clear HF10
  have HG11 := Lib.hid ((HG10.out).gr g11)
  clear HG10
  have HH11 := Lib.hid ((HH10.out).gr g11)
  clear HH10
  have HP11 := Lib.hid ((HP10.out).gr g11)
  clear HP10
  clear G10
  clear g11
  go_wp2_with fail
  refine (fcount_ok (HF11.out)).mono ?_
  rintro e v12 ⟨rfl, g12⟩
  have G12 := (G11).trans g12
  have HF12 := Lib.hid ((HF11.out).gr g12)
  clear HF11
  have HG12 := Lib.hid ((HG11.out).gr g12)
  clear HG11
  have HH12 := Lib.hid ((HH11.out).gr g12)
  clear HH11
  have HP12 := Lib.hid ((HP11.out).gr g12)
  clear HP11
  clear G11
  clear g12
  go_wp2_with fail
  refine (fcount_ok (HG12.out)).mono ?_
  rintro e v13 ⟨rfl, g13⟩
  have G13 := (G12).trans g13
  have HF13 := Lib.hid ((HF12.out).gr g13)
  clear HF12
  have HG13 := Lib.hid ((HG12.out).gr g13)
  clear HG12
  have HH13 := Lib.hid ((HH12.out).gr g13)
  clear HH12
  have HP13 := Lib.hid ((HP12.out).gr g13)
  clear HP12
  clear G12
  clear g13
  go_wp2_with fail
  have HZ : Hid (∀ k, k < 8 → (v13.alloc (.cells #[.int .i64 0, .int .i64 0, .int .i64 0, .int .i64 0, .int .i64 0, .int .i64 0, .int .i64 0, .int .i64 0] 25)).cell? ⟨v13.heap.size, k, none⟩ = some (.int .i64 0)) := fun k hk => zeros_at v13 8 _ k hk
  have GW := (G13).alloc (.cells #[.int .i64 0, .int .i64 0, .int .i64 0, .int .i64 0, .int .i64 0, .int .i64 0, .int .i64 0, .int .i64 0] 25)
  have HFW := Lib.hid (HF13.out.alloc (.cells #[.int .i64 0, .int .i64 0, .int .i64 0, .int .i64 0, .int .i64 0, .int .i64 0, .int .i64 0, .int .i64 0] 25))
  clear HF13
  have HGW := Lib.hid (HG13.out.alloc (.cells #[.int .i64 0, .int .i64 0, .int .i64 0, .int .i64 0, .int .i64 0, .int .i64 0, .int .i64 0, .int .i64 0] 25))
  clear HG13
  have HHW := Lib.hid (HH13.out.alloc (.cells #[.int .i64 0, .int .i64 0, .int .i64 0, .int .i64 0, .int .i64 0, .int .i64 0, .int .i64 0, .int .i64 0] 25))
  clear HH13
  have HPW := Lib.hid (HP13.out.alloc (.cells #[.int .i64 0, .int .i64 0, .int .i64 0, .int .i64 0, .int .i64 0, .int .i64 0, .int .i64 0, .int .i64 0] 25))
  clear HP13
  clear G13
  generalize v13.alloc (.cells #[.int .i64 0, .int .i64 0, .int .i64 0, .int .i64 0, .int .i64 0, .int .i64 0, .int .i64 0, .int .i64 0] 25) = W at *
  generalize v13.heap.size = BW at *
  go_loop [109] (fun i => ∃ k : Nat, k ≤ 8 ∧ i = .int .i64 k) (fun i => 8 - (intOf i).toNat)
  case atStart => exact ⟨0, by omega, rfl⟩
  case round =>
    obtain ⟨k, hk, rfl⟩ := hrel
    by_cases hlt : k < 8
    · have hz := HZ.out k hlt
      go_wp2
      go_round
      case rel => exact ⟨k + 1, by omega, by go_num⟩
      case measure => simp [intOf]; omega
    · obtain rfl : k = 8 := by omega
      have hS := QS.out
      have hT := QT.out
      have hB := QB.out
      have hC := QC.out
      clear QS QT QB QC HEP
      generalize cntT T = na at *
      generalize cntT U = nb at *
      generalize withinT T U = b1 at *
      generalize withinT U T = b2 at *
      generalize withinT U V = b3 at *
      generalize withinT T V = b4 at *
      generalize bitT T p q = a0 at *
      generalize bitT U p q = b0 at *
      generalize hE : sameT T U = b5 at *
      have HE := Lib.hid hE
      clear hE
      subst hS
      cases b1
      · clear hT hB hC
        go_wp2_with fail
        refine (same_any (HFW.out) (HGW.out)).mono ?_
        rw [HE.out]
        rintro e v14 ⟨rfl, g14⟩
        have G14 := (GW).trans g14
        have HF14 := Lib.hid ((HFW.out).gr g14)
        clear HFW
        have HG14 := Lib.hid ((HGW.out).gr g14)
        clear HGW
        have HH14 := Lib.hid ((HHW.out).gr g14)
        clear HHW
        have HP14 := Lib.hid ((HPW.out).gr g14)
        clear HPW
        clear GW
        clear g14
        go_wp2_with fail
        go_ret
        exact ⟨rfl, G14⟩
      · obtain ⟨hC1, hC2⟩ := hC rfl
        have hT2 := hT rfl
        have hB2 := hB rfl
        clear hT hB hC
        cases b2
        · have hC3 : na < nb := by simpa using hC2
          clear hC2
          cases b3
          · clear hT2
            cases a0
            · clear hB2
              go_wp2_with fail
              refine (same_any (HFW.out) (HGW.out)).mono ?_
              rw [HE.out]
              rintro e v14 ⟨rfl, g14⟩
              have G14 := (GW).trans g14
              have HF14 := Lib.hid ((HFW.out).gr g14)
              clear HFW
              have HG14 := Lib.hid ((HGW.out).gr g14)
              clear HGW
              have HH14 := Lib.hid ((HHW.out).gr g14)
              clear HHW
              have HP14 := Lib.hid ((HPW.out).gr g14)
              clear HPW
              clear GW
              clear g14
              go_wp2_with fail
              go_ret
              exact ⟨rfl, G14⟩
            · obtain rfl := hB2 rfl
              clear hB2
              go_wp2_with fail
              refine (same_any (HFW.out) (HGW.out)).mono ?_
              rw [HE.out]
              rintro e v14 ⟨rfl, g14⟩
              have G14 := (GW).trans g14
              have HF14 := Lib.hid ((HFW.out).gr g14)
              clear HFW
              have HG14 := Lib.hid ((HGW.out).gr g14)
              clear HGW
              have HH14 := Lib.hid ((HHW.out).gr g14)
              clear HHW
              have HP14 := Lib.hid ((HPW.out).gr g14)
              clear HPW
              clear GW
              clear g14
              go_wp2_with fail
              go_ret
              exact ⟨rfl, G14⟩
          · obtain rfl := hT2 rfl
            clear hT2
            cases a0
            · clear hB2
              go_wp2_with fail
              refine (same_any (HFW.out) (HGW.out)).mono ?_
              rw [HE.out]
              rintro e v14 ⟨rfl, g14⟩
              have G14 := (GW).trans g14
              have HF14 := Lib.hid ((HFW.out).gr g14)
              clear HFW
              have HG14 := Lib.hid ((HGW.out).gr g14)
              clear HGW
              have HH14 := Lib.hid ((HHW.out).gr g14)
              clear HHW
              have HP14 := Lib.hid ((HPW.out).gr g14)
              clear HPW
              clear GW
              clear g14
              go_wp2_with fail
              go_ret
              exact ⟨rfl, G14⟩
            · obtain rfl := hB2 rfl
              clear hB2
              go_wp2_with fail
              refine (same_any (HFW.out) (HGW.out)).mono ?_
              rw [HE.out]
              rintro e v14 ⟨rfl, g14⟩
              have G14 := (GW).trans g14
              have HF14 := Lib.hid ((HFW.out).gr g14)
              clear HFW
              have HG14 := Lib.hid ((HGW.out).gr g14)
              clear HGW
              have HH14 := Lib.hid ((HHW.out).gr g14)
              clear HHW
              have HP14 := Lib.hid ((HPW.out).gr g14)
              clear HPW
              clear GW
              clear g14
              go_wp2_with fail
              go_ret
              exact ⟨rfl, G14⟩
        · have hC3 : ¬ na < nb := by simpa using hC2
          clear hC2
          cases b3
          · clear hT2
            cases a0
            · clear hB2
              go_wp2_with fail
              refine (same_any (HFW.out) (HGW.out)).mono ?_
              rw [HE.out]
              rintro e v14 ⟨rfl, g14⟩
              have G14 := (GW).trans g14
              have HF14 := Lib.hid ((HFW.out).gr g14)
              clear HFW
              have HG14 := Lib.hid ((HGW.out).gr g14)
              clear HGW
              have HH14 := Lib.hid ((HHW.out).gr g14)
              clear HHW
              have HP14 := Lib.hid ((HPW.out).gr g14)
              clear HPW
              clear GW
              clear g14
              go_wp2_with fail
              go_ret
              exact ⟨rfl, G14⟩
            · obtain rfl := hB2 rfl
              clear hB2
              go_wp2_with fail
              refine (same_any (HFW.out) (HGW.out)).mono ?_
              rw [HE.out]
              rintro e v14 ⟨rfl, g14⟩
              have G14 := (GW).trans g14
              have HF14 := Lib.hid ((HFW.out).gr g14)
              clear HFW
              have HG14 := Lib.hid ((HGW.out).gr g14)
              clear HGW
              have HH14 := Lib.hid ((HHW.out).gr g14)
              clear HHW
              have HP14 := Lib.hid ((HPW.out).gr g14)
              clear HPW
              clear GW
              clear g14
              go_wp2_with fail
              go_ret
              exact ⟨rfl, G14⟩
          · obtain rfl := hT2 rfl
            clear hT2
            cases a0
            · clear hB2
              go_wp2_with fail
              refine (same_any (HFW.out) (HGW.out)).mono ?_
              rw [HE.out]
              rintro e v14 ⟨rfl, g14⟩
              have G14 := (GW).trans g14
              have HF14 := Lib.hid ((HFW.out).gr g14)
              clear HFW
              have HG14 := Lib.hid ((HGW.out).gr g14)
              clear HGW
              have HH14 := Lib.hid ((HHW.out).gr g14)
              clear HHW
              have HP14 := Lib.hid ((HPW.out).gr g14)
              clear HPW
              clear GW
              clear g14
              go_wp2_with fail
              go_ret
              exact ⟨rfl, G14⟩
            · obtain rfl := hB2 rfl
              clear hB2
              go_wp2_with fail
              refine (same_any (HFW.out) (HGW.out)).mono ?_
              rw [HE.out]
              rintro e v14 ⟨rfl, g14⟩
              have G14 := (GW).trans g14
              have HF14 := Lib.hid ((HFW.out).gr g14)
              clear HFW
              have HG14 := Lib.hid ((HGW.out).gr g14)
              clear HGW
              have HH14 := Lib.hid ((HHW.out).gr g14)
              clear HHW
              have HP14 := Lib.hid ((HPW.out).gr g14)
              clear HPW
              clear GW
              clear g14
              go_wp2_with fail
              go_ret
              exact ⟨rfl, G14⟩

theorem filterWithin_walk (f : Value) (lf : List BoxI) (g : Value) (lg : List BoxI) (h : Value) (lh : List BoxI) (p q : Int) (w : World) (rf : RdF w f lf) (rg : RdF w g lg) (rh : RdF w h lh) :
    Calls Try.prog 7 #[f, g, h, .agg #[.int .i64 p, .int .i64 q]] w fun e w' => e = .returned (.bool true) ∧ Gr w w' := by
  cases h1 : (chkF lf == 0)
  · exact filterWithin_bad1 f g h lf lg lh w rf rg rh p q h1
  cases h2 : (chkF lg == 0)
  · obtain ⟨T, a, _⟩ := fs_of rf h1
    exact filterWithin_bad2 f g h T lf lg lh w a rf rg rh p q h1 h2
  obtain ⟨T, a, oT⟩ := fs_of rf h1
  obtain ⟨U, b, oU⟩ := fs_of rg h2
  cases h3 : (chkF lh == 0)
  · exact filterWithin_bad3 f g h T U lh w a b rh p q h3
  obtain ⟨V, c, oV⟩ := fs_of rh h3
  cases hp : pointB p q
  · exact filterWithin_bad4 f g h T U V w oT oU oV a b c p q hp
  · exact filterWithin_ok f g h T U V w oT oU oV a b c p q hp
end Go.Proofs.Ytphcjjhfgpdhcaa
