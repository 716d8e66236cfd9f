/- The walk of FilterGrows. -/
import Derived.Test.YtphcjjhfgpdhcaaFilR
namespace Go.Proofs.Ytphcjjhfgpdhcaa
open Go.RowKit Rm
set_option linter.unusedVariables false

set_option maxHeartbeats 4000000 in
set_option maxRecDepth 100000 in
theorem filterGrows_bad1 (f g h : Value) (lf lg lh : List BoxI) (w : World) (rf : RdF w f lf) (rg : RdF w g lg) (rh : RdF w h lh) (hc : (chkF lf == 0) = false) :
    Calls Try.prog 11 #[f, g, h] w fun e w' => e = .returned (.bool true) ∧ Gr w w' := by
  have hc' := bne_of' hc
  have HF0 := Lib.hid rf
  have HG0 := Lib.hid rg
  have HH0 := Lib.hid rh
  clear rf rg rh
  go_enter Try.func11, Try.ntmps11
  go_wp2_with fail
  refine (begun_any _).mono ?_
  rintro e v1 ⟨rfl, g1⟩
  have G1 := (Gr.refl _).trans g1
  have HF1 := Lib.hid ((HF0.out).gr g1)
  clear HF0
  have HG1 := Lib.hid ((HG0.out).gr g1)
  clear HG0
  have HH1 := Lib.hid ((HH0.out).gr g1)
  clear HH0
  clear g1
  go_wp2_with fail
  refine (fcheck_any _ _ _ (HF1.out)).mono ?_
  rintro e v2 ⟨rfl, g2⟩
  have G2 := (G1).trans g2
  have HF2 := Lib.hid ((HF1.out).gr g2)
  clear HF1
  have HG2 := Lib.hid ((HG1.out).gr g2)
  clear HG1
  have HH2 := Lib.hid ((HH1.out).gr g2)
  clear HH1
  clear G1
  clear g2
  go_wp2_with fail
  go_ret
  exact ⟨rfl, G2⟩

set_option maxHeartbeats 4000000 in
set_option maxRecDepth 100000 in
theorem filterGrows_bad2 (f g h : Value) (T : Nat → Nat) (lf lg lh : List BoxI) (w : World) (ff : FS w f T) (rf : RdF w f lf) (rg : RdF w g lg) (rh : RdF w h lh) (hf : (chkF lf == 0) = true) (hc : (chkF lg == 0) = false) :
    Calls Try.prog 11 #[f, g, h] w fun e w' => e = .returned (.bool true) ∧ Gr w w' := by
  have hc' := bne_of' hc
  clear hf
  have HF0 := Lib.hid rf
  have HG0 := Lib.hid rg
  have HH0 := Lib.hid rh
  have HE0 := Lib.hid ff
  clear rf rg rh ff
  go_enter Try.func11, Try.ntmps11
  go_wp2_with fail
  refine (begun_any _).mono ?_
  rintro e v1 ⟨rfl, g1⟩
  have G1 := (Gr.refl _).trans g1
  have HF1 := Lib.hid ((HF0.out).gr g1)
  clear HF0
  have HG1 := Lib.hid ((HG0.out).gr g1)
  clear HG0
  have HH1 := Lib.hid ((HH0.out).gr g1)
  clear HH0
  have HE1 := Lib.hid ((HE0.out).gr g1)
  clear HE0
  clear g1
  go_wp2_with fail
  refine (fcheck_ok (HE1.out)).mono ?_
  rintro e v2 ⟨rfl, g2⟩
  have G2 := (G1).trans g2
  have HF2 := Lib.hid ((HF1.out).gr g2)
  clear HF1
  have HG2 := Lib.hid ((HG1.out).gr g2)
  clear HG1
  have HH2 := Lib.hid ((HH1.out).gr g2)
  clear HH1
  have HE2 := Lib.hid ((HE1.out).gr g2)
  clear HE1
  clear G1
  clear g2
  go_wp2_with fail
  refine (fcheck_any _ _ _ (HG2.out)).mono ?_
  rintro e v3 ⟨rfl, g3⟩
  have G3 := (G2).trans g3
  have HF3 := Lib.hid ((HF2.out).gr g3)
  clear HF2
  have HG3 := Lib.hid ((HG2.out).gr g3)
  clear HG2
  have HH3 := Lib.hid ((HH2.out).gr g3)
  clear HH2
  have HE3 := Lib.hid ((HE2.out).gr g3)
  clear HE2
  clear G2
  clear g3
  go_wp2_with fail
  go_ret
  exact ⟨rfl, G3⟩

set_option maxHeartbeats 4000000 in
set_option maxRecDepth 100000 in
theorem filterGrows_bad3 (f g h : Value) (T U : Nat → Nat) (lh : List BoxI) (w : World) (rf : FS w f T) (rg : FS w g U) (rh : RdF w h lh) (hc : (chkF lh == 0) = false) :
    Calls Try.prog 11 #[f, g, h] w fun e w' => e = .returned (.bool true) ∧ Gr w w' := by
  have hc' := bne_of' hc
  have HF0 := Lib.hid rf
  have HG0 := Lib.hid rg
  have HH0 := Lib.hid rh
  clear rf rg rh
  go_enter Try.func11, Try.ntmps11
  go_wp2_with fail
  refine (begun_any _).mono ?_
  rintro e v1 ⟨rfl, g1⟩
  have G1 := (Gr.refl _).trans g1
  have HF1 := Lib.hid ((HF0.out).gr g1)
  clear HF0
  have HG1 := Lib.hid ((HG0.out).gr g1)
  clear HG0
  have HH1 := Lib.hid ((HH0.out).gr g1)
  clear HH0
  clear g1
  go_wp2_with fail
  refine (fcheck_ok (HF1.out)).mono ?_
  rintro e v2 ⟨rfl, g2⟩
  have G2 := (G1).trans g2
  have HF2 := Lib.hid ((HF1.out).gr g2)
  clear HF1
  have HG2 := Lib.hid ((HG1.out).gr g2)
  clear HG1
  have HH2 := Lib.hid ((HH1.out).gr g2)
  clear HH1
  clear G1
  clear g2
  go_wp2_with fail
  refine (fcheck_ok (HG2.out)).mono ?_
  rintro e v3 ⟨rfl, g3⟩
  have G3 := (G2).trans g3
  have HF3 := Lib.hid ((HF2.out).gr g3)
  clear HF2
  have HG3 := Lib.hid ((HG2.out).gr g3)
  clear HG2
  have HH3 := Lib.hid ((HH2.out).gr g3)
  clear HH2
  clear G2
  clear g3
  go_wp2_with fail
  refine (fcheck_any _ _ _ (HH3.out)).mono ?_
  rintro e v4 ⟨rfl, g4⟩
  have G4 := (G3).trans g4
  have HF4 := Lib.hid ((HF3.out).gr g4)
  clear HF3
  have HG4 := Lib.hid ((HG3.out).gr g4)
  clear HG3
  have HH4 := Lib.hid ((HH3.out).gr g4)
  clear HH3
  clear G3
  clear g4
  go_wp2_with fail
  go_ret
  exact ⟨rfl, G4⟩

set_option maxHeartbeats 4000000 in
set_option maxRecDepth 100000 in
theorem filterGrows_ok (f g h : Value) (T U V : Nat → Nat) (w : World) (hT : OkT T) (hU : OkT U) (hV : OkT V) (rf : FS w f T) (rg : FS w g U) (rh : FS w h V) :
    Calls Try.prog 11 #[f, g, h] w fun e w' => e = .returned (.bool true) ∧ Gr w w' := by
  have Q1 : Hid (withinT (fun t => T t ||| V t) (fun t => (T t ||| U t) ||| V t) = true) := within_of (okT_or hT hV) (okT_or (okT_or hT hU) hV) (fun t ht i hi h => by
    simp only [Nat.testBit_or, Bool.or_eq_true] at *
    rcases h with h | h
    · exact .inl (.inl h)
    · exact .inr h)
  have Q2 : Hid (withinT (fun t => T t &&& V t) (fun t => (T t ||| U t) &&& V t) = true) := within_of (okT_and hT) (okT_and (okT_or hT hU)) (fun t ht i hi h => by
    simp only [Nat.testBit_and, Nat.testBit_or, Bool.and_eq_true, Bool.or_eq_true] at *
    exact ⟨.inl h.1, h.2⟩)
  have Q3 : Hid (withinT (fun t => lessM (V t) (T t ||| U t)) (fun t => lessM (V t) (T t)) = true) := within_of (okT_less hV) (okT_less hV) (fun t ht i hi h => by
    rw [lessM_bit _ _ _ (okT_or hT hU t ht) (hV t ht)] at h
    rw [lessM_bit _ _ _ (hT t ht) (hV t ht)]
    simp only [Nat.testBit_or, Bool.and_eq_true, Bool.not_eq_true', Bool.or_eq_false_iff] at *
    exact ⟨h.1, h.2.1⟩)
  clear hT hU hV
  have HF0 := Lib.hid rf
  have HG0 := Lib.hid rg
  have HH0 := Lib.hid rh
  clear rf rg rh
  go_enter Try.func11, Try.ntmps11
  go_wp2_with fail
  refine (begun_any _).mono ?_
  rintro e v1 ⟨rfl, g1⟩
  have G1 := (Gr.refl _).trans g1
  have HF1 := Lib.hid ((HF0.out).gr g1)
  clear HF0
  have HG1 := Lib.hid ((HG0.out).gr g1)
  clear HG0
  have HH1 := Lib.hid ((HH0.out).gr g1)
  clear HH0
  clear g1
  go_wp2_with fail
  refine (fcheck_ok (HF1.out)).mono ?_
  rintro e v2 ⟨rfl, g2⟩
  have G2 := (G1).trans g2
  have HF2 := Lib.hid ((HF1.out).gr g2)
  clear HF1
  have HG2 := Lib.hid ((HG1.out).gr g2)
  clear HG1
  have HH2 := Lib.hid ((HH1.out).gr g2)
  clear HH1
  clear G1
  clear g2
  go_wp2_with fail
  refine (fcheck_ok (HG2.out)).mono ?_
  rintro e v3 ⟨rfl, g3⟩
  have G3 := (G2).trans g3
  have HF3 := Lib.hid ((HF2.out).gr g3)
  clear HF2
  have HG3 := Lib.hid ((HG2.out).gr g3)
  clear HG2
  have HH3 := Lib.hid ((HH2.out).gr g3)
  clear HH2
  clear G2
  clear g3
  go_wp2_with fail
  refine (fcheck_ok (HH3.out)).mono ?_
  rintro e v4 ⟨rfl, g4⟩
  have G4 := (G3).trans g4
  have HF4 := Lib.hid ((HF3.out).gr g4)
  clear HF3
  have HG4 := Lib.hid ((HG3.out).gr g4)
  clear HG3
  have HH4 := Lib.hid ((HH3.out).gr g4)
  clear HH3
  clear G3
  clear g4
  go_wp2_with fail
  refine (fjoin_ok (HF4.out) (HG4.out)).mono ?_
  rintro e v5 ⟨u5, rfl, h5, g5⟩
  have G5 := (G4).trans g5
  have HF5 := Lib.hid ((HF4.out).gr g5)
  clear HF4
  have HG5 := Lib.hid ((HG4.out).gr g5)
  clear HG4
  have HH5 := Lib.hid ((HH4.out).gr g5)
  clear HH4
  clear G4
  clear g5
  have HMo5 := Lib.hid (h5.le (m := 40) (by omega))
  clear h5
  go_wp2_with fail
  refine (fjoin_ok (HF5.out) (HH5.out)).mono ?_
  rintro e v6 ⟨u6, rfl, h6, g6⟩
  have G6 := (G5).trans g6
  have HF6 := Lib.hid ((HF5.out).gr g6)
  clear HF5
  have HG6 := Lib.hid ((HG5.out).gr g6)
  clear HG5
  have HH6 := Lib.hid ((HH5.out).gr g6)
  clear HH5
  have HMo6 := Lib.hid ((HMo5.out).gr g6)
  clear HMo5
  clear G5
  clear g6
  have HA6 := Lib.hid (h6.le (m := 40) (by omega))
  clear h6
  go_wp2_with fail
  refine (fjoin_ok (HMo6.out) (HH6.out)).mono ?_
  rintro e v7 ⟨u7, rfl, h7, g7⟩
  have G7 := (G6).trans g7
  have HF7 := Lib.hid ((HF6.out).gr g7)
  clear HF6
  have HG7 := Lib.hid ((HG6.out).gr g7)
  clear HG6
  have HH7 := Lib.hid ((HH6.out).gr g7)
  clear HH6
  have HMo7 := Lib.hid ((HMo6.out).gr g7)
  clear HMo6
  have HA7 := Lib.hid ((HA6.out).gr g7)
  clear HA6
  clear G6
  clear g7
  have HB7 := Lib.hid (h7.le (m := 40) (by omega))
  clear h7
  go_wp2_with fail
  refine (fmeet_ok (HF7.out) (HH7.out)).mono ?_
  rintro e v8 ⟨u8, rfl, h8, g8⟩
  have G8 := (G7).trans g8
  have HF8 := Lib.hid ((HF7.out).gr g8)
  clear HF7
  have HG8 := Lib.hid ((HG7.out).gr g8)
  clear HG7
  have HH8 := Lib.hid ((HH7.out).gr g8)
  clear HH7
  have HMo8 := Lib.hid ((HMo7.out).gr g8)
  clear HMo7
  have HA8 := Lib.hid ((HA7.out).gr g8)
  clear HA7
  have HB8 := Lib.hid ((HB7.out).gr g8)
  clear HB7
  clear G7
  clear g8
  have HC8 := Lib.hid (h8.le (m := 40) (by omega))
  clear h8
  go_wp2_with fail
  refine (fmeet_ok (HMo8.out) (HH8.out)).mono ?_
  rintro e v9 ⟨u9, rfl, h9, g9⟩
  have G9 := (G8).trans g9
  have HF9 := Lib.hid ((HF8.out).gr g9)
  clear HF8
  have HG9 := Lib.hid ((HG8.out).gr g9)
  clear HG8
  have HH9 := Lib.hid ((HH8.out).gr g9)
  clear HH8
  have HMo9 := Lib.hid ((HMo8.out).gr g9)
  clear HMo8
  have HA9 := Lib.hid ((HA8.out).gr g9)
  clear HA8
  have HB9 := Lib.hid ((HB8.out).gr g9)
  clear HB8
  have HC9 := Lib.hid ((HC8.out).gr g9)
  clear HC8
  clear G8
  clear g9
  have HD9 := Lib.hid (h9.le (m := 40) (by omega))
  clear h9
  go_wp2_with fail
  refine (fless_ok (HH9.out) (HMo9.out)).mono ?_
  rintro e v10 ⟨u10, rfl, h10, g10⟩
  have G10 := (G9).trans g10
  have HF10 := Lib.hid ((HF9.out).gr g10)
  clear HF9
  have HG10 := Lib.hid ((HG9.out).gr g10)
  clear HG9
  have HH10 := Lib.hid ((HH9.out).gr g10)
  clear HH9
  have HMo10 := Lib.hid ((HMo9.out).gr g10)
  clear HMo9
  have HA10 := Lib.hid ((HA9.out).gr g10)
  clear HA9
  have HB10 := Lib.hid ((HB9.out).gr g10)
  clear HB9
  have HC10 := Lib.hid ((HC9.out).gr g10)
  clear HC9
  have HD10 := Lib.hid ((HD9.out).gr g10)
  clear HD9
  clear G9
  clear g10
  have HUu10 := Lib.hid (h10.le (m := 40) (by omega))
  clear h10
  go_wp2_with fail
  refine (fless_ok (HH10.out) (HF10.out)).mono ?_
  rintro e v11 ⟨u11, rfl, h11, g11⟩
  have G11 := (G10).trans g11
  have HF11 := Lib.hid ((HF10.out).gr g11)
  clear HF10
  have HG11 := Lib.hid ((HG10.out).gr g11)
  clear HG10
  have HH11 := Lib.hid ((HH10.out).gr g11)
  clear HH10
  have HMo11 := Lib.hid ((HMo10.out).gr g11)
  clear HMo10
  have HA11 := Lib.hid ((HA10.out).gr g11)
  clear HA10
  have HB11 := Lib.hid ((HB10.out).gr g11)
  clear HB10
  have HC11 := Lib.hid ((HC10.out).gr g11)
  clear HC10
  have HD11 := Lib.hid ((HD10.out).gr g11)
  clear HD10
  have HUu11 := Lib.hid ((HUu10.out).gr g11)
  clear HUu10
  clear G10
  clear g11
  have HVv11 := Lib.hid (h11.le (m := 40) (by omega))
  clear h11
  go_wp2_with fail
  refine (fwithin_ok (HA11.out) (HB11.out)).mono ?_
  rw [Q1.out]
  rintro e v12 ⟨rfl, g12⟩
  have G12 := (G11).trans g12
  have HF12 := Lib.hid ((HF11.out).gr g12)
  clear HF11
  have HG12 := Lib.hid ((HG11.out).gr g12)
  clear HG11
  have HH12 := Lib.hid ((HH11.out).gr g12)
  clear HH11
  have HMo12 := Lib.hid ((HMo11.out).gr g12)
  clear HMo11
  have HA12 := Lib.hid ((HA11.out).gr g12)
  clear HA11
  have HB12 := Lib.hid ((HB11.out).gr g12)
  clear HB11
  have HC12 := Lib.hid ((HC11.out).gr g12)
  clear HC11
  have HD12 := Lib.hid ((HD11.out).gr g12)
  clear HD11
  have HUu12 := Lib.hid ((HUu11.out).gr g12)
  clear HUu11
  have HVv12 := Lib.hid ((HVv11.out).gr g12)
  clear HVv11
  clear G11
  clear g12
  go_wp2_with fail
  refine (fwithin_ok (HC12.out) (HD12.out)).mono ?_
  rw [Q2.out]
  rintro e v13 ⟨rfl, g13⟩
  have G13 := (G12).trans g13
  have HF13 := Lib.hid ((HF12.out).gr g13)
  clear HF12
  have HG13 := Lib.hid ((HG12.out).gr g13)
  clear HG12
  have HH13 := Lib.hid ((HH12.out).gr g13)
  clear HH12
  have HMo13 := Lib.hid ((HMo12.out).gr g13)
  clear HMo12
  have HA13 := Lib.hid ((HA12.out).gr g13)
  clear HA12
  have HB13 := Lib.hid ((HB12.out).gr g13)
  clear HB12
  have HC13 := Lib.hid ((HC12.out).gr g13)
  clear HC12
  have HD13 := Lib.hid ((HD12.out).gr g13)
  clear HD12
  have HUu13 := Lib.hid ((HUu12.out).gr g13)
  clear HUu12
  have HVv13 := Lib.hid ((HVv12.out).gr g13)
  clear HVv12
  clear G12
  clear g13
  go_wp2_with fail
  refine (fwithin_ok (HUu13.out) (HVv13.out)).mono ?_
  rw [Q3.out]
  rintro e v14 ⟨rfl, g14⟩
  have G14 := (G13).trans g14
  have HF14 := Lib.hid ((HF13.out).gr g14)
  clear HF13
  have HG14 := Lib.hid ((HG13.out).gr g14)
  clear HG13
  have HH14 := Lib.hid ((HH13.out).gr g14)
  clear HH13
  have HMo14 := Lib.hid ((HMo13.out).gr g14)
  clear HMo13
  have HA14 := Lib.hid ((HA13.out).gr g14)
  clear HA13
  have HB14 := Lib.hid ((HB13.out).gr g14)
  clear HB13
  have HC14 := Lib.hid ((HC13.out).gr g14)
  clear HC13
  have HD14 := Lib.hid ((HD13.out).gr g14)
  clear HD13
  have HUu14 := Lib.hid ((HUu13.out).gr g14)
  clear HUu13
  have HVv14 := Lib.hid ((HVv13.out).gr g14)
  clear HVv13
  clear G13
  clear g14
  go_wp2_with fail
  have HZ : Hid (∀ k, k < 10 → (v14.alloc (.cells #[.int .i64 0, .int .i64 0, .int .i64 0, .int .i64 0, .int .i64 0, .int .i64 0, .int .i64 0, .int .i64 0, .int .i64 0, .int .i64 0] 25)).cell? ⟨v14.heap.size, k, none⟩ = some (.int .i64 0)) := fun k hk => zeros_at v14 10 _ k hk
  have GW := (G14).alloc (.cells #[.int .i64 0, .int .i64 0, .int .i64 0, .int .i64 0, .int .i64 0, .int .i64 0, .int .i64 0, .int .i64 0, .int .i64 0, .int .i64 0] 25)
  have HFW := Lib.hid (HF14.out.alloc (.cells #[.int .i64 0, .int .i64 0, .int .i64 0, .int .i64 0, .int .i64 0, .int .i64 0, .int .i64 0, .int .i64 0, .int .i64 0, .int .i64 0] 25))
  clear HF14
  have HGW := Lib.hid (HG14.out.alloc (.cells #[.int .i64 0, .int .i64 0, .int .i64 0, .int .i64 0, .int .i64 0, .int .i64 0, .int .i64 0, .int .i64 0, .int .i64 0, .int .i64 0] 25))
  clear HG14
  have HHW := Lib.hid (HH14.out.alloc (.cells #[.int .i64 0, .int .i64 0, .int .i64 0, .int .i64 0, .int .i64 0, .int .i64 0, .int .i64 0, .int .i64 0, .int .i64 0, .int .i64 0] 25))
  clear HH14
  have HMoW := Lib.hid (HMo14.out.alloc (.cells #[.int .i64 0, .int .i64 0, .int .i64 0, .int .i64 0, .int .i64 0, .int .i64 0, .int .i64 0, .int .i64 0, .int .i64 0, .int .i64 0] 25))
  clear HMo14
  have HAW := Lib.hid (HA14.out.alloc (.cells #[.int .i64 0, .int .i64 0, .int .i64 0, .int .i64 0, .int .i64 0, .int .i64 0, .int .i64 0, .int .i64 0, .int .i64 0, .int .i64 0] 25))
  clear HA14
  have HBW := Lib.hid (HB14.out.alloc (.cells #[.int .i64 0, .int .i64 0, .int .i64 0, .int .i64 0, .int .i64 0, .int .i64 0, .int .i64 0, .int .i64 0, .int .i64 0, .int .i64 0] 25))
  clear HB14
  have HCW := Lib.hid (HC14.out.alloc (.cells #[.int .i64 0, .int .i64 0, .int .i64 0, .int .i64 0, .int .i64 0, .int .i64 0, .int .i64 0, .int .i64 0, .int .i64 0, .int .i64 0] 25))
  clear HC14
  have HDW := Lib.hid (HD14.out.alloc (.cells #[.int .i64 0, .int .i64 0, .int .i64 0, .int .i64 0, .int .i64 0, .int .i64 0, .int .i64 0, .int .i64 0, .int .i64 0, .int .i64 0] 25))
  clear HD14
  have HUuW := Lib.hid (HUu14.out.alloc (.cells #[.int .i64 0, .int .i64 0, .int .i64 0, .int .i64 0, .int .i64 0, .int .i64 0, .int .i64 0, .int .i64 0, .int .i64 0, .int .i64 0] 25))
  clear HUu14
  have HVvW := Lib.hid (HVv14.out.alloc (.cells #[.int .i64 0, .int .i64 0, .int .i64 0, .int .i64 0, .int .i64 0, .int .i64 0, .int .i64 0, .int .i64 0, .int .i64 0, .int .i64 0] 25))
  clear HVv14
  clear G14
  generalize v14.alloc (.cells #[.int .i64 0, .int .i64 0, .int .i64 0, .int .i64 0, .int .i64 0, .int .i64 0, .int .i64 0, .int .i64 0, .int .i64 0, .int .i64 0] 25) = W at *
  generalize v14.heap.size = BW at *
  go_loop [116] (fun i => ∃ k : Nat, k ≤ 10 ∧ i = .int .i64 k) (fun i => 10 - (intOf i).toNat)
  case atStart => exact ⟨0, by omega, rfl⟩
  case round =>
    obtain ⟨k, hk, rfl⟩ := hrel
    by_cases hlt : k < 10
    · have hz := HZ.out k hlt
      go_wp2
      go_round
      case rel => exact ⟨k + 1, by omega, by go_num⟩
      case measure => simp [intOf]; omega
    · obtain rfl : k = 10 := by omega
      go_wp2_with fail
      go_ret
      exact ⟨rfl, GW⟩

theorem filterGrows_walk (f : Value) (lf : List BoxI) (g : Value) (lg : List BoxI) (h : Value) (lh : List BoxI) (w : World) (rf : RdF w f lf) (rg : RdF w g lg) (rh : RdF w h lh) :
    Calls Try.prog 11 #[f, g, h] w fun e w' => e = .returned (.bool true) ∧ Gr w w' := by
  cases h1 : (chkF lf == 0)
  · exact filterGrows_bad1 f g h lf lg lh w rf rg rh h1
  cases h2 : (chkF lg == 0)
  · obtain ⟨T, a, _⟩ := fs_of rf h1
    exact filterGrows_bad2 f g h T lf lg lh w a rf rg rh h1 h2
  obtain ⟨T, a, oT⟩ := fs_of rf h1
  obtain ⟨U, b, oU⟩ := fs_of rg h2
  cases h3 : (chkF lh == 0)
  · exact filterGrows_bad3 f g h T U lh w a b rh h3
  obtain ⟨V, c, oV⟩ := fs_of rh h3
  exact filterGrows_ok f g h T U V w oT oU oV a b c
end Go.Proofs.Ytphcjjhfgpdhcaa
