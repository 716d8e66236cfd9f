/- The walk of FilterMorgan. -/
import Derived.Test.YtphcjjhfgpdhcaaFilR
namespace Go.Proofs.Ytphcjjhfgpdhcaa
open Go.RowKit Rm
set_option linter.unusedVariables false

set_option maxHeartbeats 4000000 in
set_option maxRecDepth 100000 in
theorem filterMorgan_bad (f g : Value) (lf lg : List BoxI) (w : World) (rf : RdF w f lf) (rg : RdF w g lg) (hc : (chkF2 lf lg == 0) = false) :
    Calls Try.prog 6 #[f, g] w fun e w' => e = .returned (.bool true) ∧ Gr w w' := by
  have hc' := bne_of' hc
  have HF0 := Lib.hid rf
  have HG0 := Lib.hid rg
  have HC := Lib.hid hc
  clear rf rg hc
  go_enter Try.func6, Try.ntmps6
  go_wp2_with fail
  refine (begun_any _).mono ?_
  rintro e v1 ⟨rfl, g1⟩
  have G1 := (Gr.refl _).trans g1
  have HF1 := Lib.hid ((HF0.out).gr g1)
  clear HF0
  have HG1 := Lib.hid ((HG0.out).gr g1)
  clear HG0
  clear g1
  go_wp2_with fail
  refine (fmeet_bad (HF1.out) (HG1.out) HC.out).mono ?_
  rintro e v2 ⟨ja, jc, rfl, g2⟩
  have G2 := (G1).trans g2
  have HF2 := Lib.hid ((HF1.out).gr g2)
  clear HF1
  have HG2 := Lib.hid ((HG1.out).gr g2)
  clear HG1
  clear G1
  clear g2
  go_wp2_with fail
  go_ret
  exact ⟨rfl, G2⟩

set_option maxHeartbeats 4000000 in
set_option maxRecDepth 100000 in
theorem filterMorgan_ok (f g : Value) (T U : Nat → Nat) (w : World) (hT : OkT T) (hU : OkT U) (rf : FS w f T) (rg : FS w g U) :
    Calls Try.prog 6 #[f, g] w fun e w' => e = .returned (.bool true) ∧ Gr w w' := by
  have Q1 := Lib.hid (sameT_of (T := fun t => lessM (fullT t) (T t &&& U t)) (U := fun t => lessM (fullT t) (T t) ||| lessM (fullT t) (U t)) (fun t ht => m_morgan (hT t ht) (hU t ht)))
  have Q2 := Lib.hid (sameT_of (T := fun t => lessM (fullT t) (lessM (fullT t) (T t))) (U := T) (fun t ht => m_twice (hT t ht)))
  have Q3 := Lib.hid (sameT_of (T := fun t => lessM (T t) (U t)) (U := fun t => T t &&& lessM (fullT t) (U t)) (fun t ht => m_less (hT t ht) (hU t ht)))
  have hq : (((cntT T : Nat) : Int) + ((cntT U : Nat) : Int) == ((cntT (fun t => T t ||| U t) : Nat) : Int) + ((cntT (fun t => T t &&& U t) : Nat) : Int)) = true := by
    have := cntTo_incl T U 16
    simp only [beq_iff_eq, cntT]
    omega
  have q1 : ((cntT T : Nat) : Int) ≤ 512 := by have := cntTo_le T 16; unfold cntT; omega
  have q2 : ((cntT U : Nat) : Int) ≤ 512 := by have := cntTo_le U 16; unfold cntT; omega
  have q3 : ((cntT (fun t => T t ||| U t) : Nat) : Int) ≤ 512 := by have := cntTo_le (fun t => T t ||| U t) 16; unfold cntT; omega
  have q4 : ((cntT (fun t => T t &&& U t) : Nat) : Int) ≤ 512 := by have := cntTo_le (fun t => T t &&& U t) 16; unfold cntT; omega
  have HF0 := Lib.hid rf
  have HG0 := Lib.hid rg
  have HT := Lib.hid hT
  have HU := Lib.hid hU
  clear rf rg hT hU
  obtain ⟨n1, e1⟩ : ∃ n1, n1 = cntT T := ⟨_, rfl⟩
  obtain ⟨n2, e2⟩ : ∃ n2, n2 = cntT U := ⟨_, rfl⟩
  obtain ⟨n3, e3⟩ : ∃ n3, n3 = cntT (fun t => T t ||| U t) := ⟨_, rfl⟩
  obtain ⟨n4, e4⟩ : ∃ n4, n4 = cntT (fun t => T t &&& U t) := ⟨_, rfl⟩
  rw [← e1, ← e2, ← e3, ← e4] at hq
  rw [← e1] at q1
  rw [← e2] at q2
  rw [← e3] at q3
  rw [← e4] at q4
  have E1 := Lib.hid e1
  have E2 := Lib.hid e2
  have E3 := Lib.hid e3
  have E4 := Lib.hid e4
  clear e1 e2 e3 e4
  go_enter Try.func6, Try.ntmps6
  go_wp2_with fail
  refine (begun_any _).mono ?_
  rintro e v1 ⟨rfl, g1⟩
  have G1 := (Gr.refl _).trans g1
  have HF1 := Lib.hid ((HF0.out).gr g1)
  clear HF0
  have HG1 := Lib.hid ((HG0.out).gr g1)
  clear HG0
  clear g1
  go_wp2_with fail
  refine (fmeet_ok (HF1.out) (HG1.out)).mono ?_
  rintro e v2 ⟨u2, rfl, h2, g2⟩
  have G2 := (G1).trans g2
  have HF2 := Lib.hid ((HF1.out).gr g2)
  clear HF1
  have HG2 := Lib.hid ((HG1.out).gr g2)
  clear HG1
  clear G1
  clear g2
  have HM2 := Lib.hid (h2.le (m := 40) (by omega))
  clear h2
  go_wp2_with fail
  refine (fevery _).mono ?_
  rintro e v3 ⟨u3, rfl, h3, g3⟩
  have G3 := (G2).trans g3
  have HF3 := Lib.hid ((HF2.out).gr g3)
  clear HF2
  have HG3 := Lib.hid ((HG2.out).gr g3)
  clear HG2
  have HM3 := Lib.hid ((HM2.out).gr g3)
  clear HM2
  clear G2
  clear g3
  have HA3 := Lib.hid (h3.le (m := 40) (by omega))
  clear h3
  go_wp2_with fail
  refine (fless_ok (HA3.out) (HM3.out)).mono ?_
  rintro e v4 ⟨u4, rfl, h4, g4⟩
  have G4 := (G3).trans g4
  have HF4 := Lib.hid ((HF3.out).gr g4)
  clear HF3
  have HG4 := Lib.hid ((HG3.out).gr g4)
  clear HG3
  have HM4 := Lib.hid ((HM3.out).gr g4)
  clear HM3
  have HA4 := Lib.hid ((HA3.out).gr g4)
  clear HA3
  clear G3
  clear g4
  have HNm4 := Lib.hid (h4.le (m := 40) (by omega))
  clear h4
  go_wp2_with fail
  refine (fless_ok (HA4.out) (HF4.out)).mono ?_
  rintro e v5 ⟨u5, rfl, h5, g5⟩
  have G5 := (G4).trans g5
  have HF5 := Lib.hid ((HF4.out).gr g5)
  clear HF4
  have HG5 := Lib.hid ((HG4.out).gr g5)
  clear HG4
  have HM5 := Lib.hid ((HM4.out).gr g5)
  clear HM4
  have HA5 := Lib.hid ((HA4.out).gr g5)
  clear HA4
  have HNm5 := Lib.hid ((HNm4.out).gr g5)
  clear HNm4
  clear G4
  clear g5
  have HNf5 := Lib.hid (h5.le (m := 40) (by omega))
  clear h5
  go_wp2_with fail
  refine (fless_ok (HA5.out) (HG5.out)).mono ?_
  rintro e v6 ⟨u6, rfl, h6, g6⟩
  have G6 := (G5).trans g6
  have HF6 := Lib.hid ((HF5.out).gr g6)
  clear HF5
  have HG6 := Lib.hid ((HG5.out).gr g6)
  clear HG5
  have HM6 := Lib.hid ((HM5.out).gr g6)
  clear HM5
  have HA6 := Lib.hid ((HA5.out).gr g6)
  clear HA5
  have HNm6 := Lib.hid ((HNm5.out).gr g6)
  clear HNm5
  have HNf6 := Lib.hid ((HNf5.out).gr g6)
  clear HNf5
  clear G5
  clear g6
  have HNg6 := Lib.hid (h6.le (m := 40) (by omega))
  clear h6
  go_wp2_with fail
  refine (fjoin_ok (HNf6.out) (HNg6.out)).mono ?_
  rintro e v7 ⟨u7, rfl, h7, g7⟩
  have G7 := (G6).trans g7
  have HF7 := Lib.hid ((HF6.out).gr g7)
  clear HF6
  have HG7 := Lib.hid ((HG6.out).gr g7)
  clear HG6
  have HM7 := Lib.hid ((HM6.out).gr g7)
  clear HM6
  have HA7 := Lib.hid ((HA6.out).gr g7)
  clear HA6
  have HNm7 := Lib.hid ((HNm6.out).gr g7)
  clear HNm6
  have HNf7 := Lib.hid ((HNf6.out).gr g7)
  clear HNf6
  have HNg7 := Lib.hid ((HNg6.out).gr g7)
  clear HNg6
  clear G6
  clear g7
  have HJ7 := Lib.hid (h7.le (m := 40) (by omega))
  clear h7
  go_wp2_with fail
  refine (fless_ok (HA7.out) (HNf7.out)).mono ?_
  rintro e v8 ⟨u8, rfl, h8, g8⟩
  have G8 := (G7).trans g8
  have HF8 := Lib.hid ((HF7.out).gr g8)
  clear HF7
  have HG8 := Lib.hid ((HG7.out).gr g8)
  clear HG7
  have HM8 := Lib.hid ((HM7.out).gr g8)
  clear HM7
  have HA8 := Lib.hid ((HA7.out).gr g8)
  clear HA7
  have HNm8 := Lib.hid ((HNm7.out).gr g8)
  clear HNm7
  have HNf8 := Lib.hid ((HNf7.out).gr g8)
  clear HNf7
  have HNg8 := Lib.hid ((HNg7.out).gr g8)
  clear HNg7
  have HJ8 := Lib.hid ((HJ7.out).gr g8)
  clear HJ7
  clear G7
  clear g8
  have HBk8 := Lib.hid (h8.le (m := 40) (by omega))
  clear h8
  go_wp2_with fail
  refine (fless_ok (HF8.out) (HG8.out)).mono ?_
  rintro e v9 ⟨u9, rfl, h9, g9⟩
  have G9 := (G8).trans g9
  have HF9 := Lib.hid ((HF8.out).gr g9)
  clear HF8
  have HG9 := Lib.hid ((HG8.out).gr g9)
  clear HG8
  have HM9 := Lib.hid ((HM8.out).gr g9)
  clear HM8
  have HA9 := Lib.hid ((HA8.out).gr g9)
  clear HA8
  have HNm9 := Lib.hid ((HNm8.out).gr g9)
  clear HNm8
  have HNf9 := Lib.hid ((HNf8.out).gr g9)
  clear HNf8
  have HNg9 := Lib.hid ((HNg8.out).gr g9)
  clear HNg8
  have HJ9 := Lib.hid ((HJ8.out).gr g9)
  clear HJ8
  have HBk9 := Lib.hid ((HBk8.out).gr g9)
  clear HBk8
  clear G8
  clear g9
  have HD9 := Lib.hid (h9.le (m := 40) (by omega))
  clear h9
  go_wp2_with fail
  refine (fmeet_ok (HF9.out) (HNg9.out)).mono ?_
  rintro e v10 ⟨u10, rfl, h10, g10⟩
  have G10 := (G9).trans g10
  have HF10 := Lib.hid ((HF9.out).gr g10)
  clear HF9
  have HG10 := Lib.hid ((HG9.out).gr g10)
  clear HG9
  have HM10 := Lib.hid ((HM9.out).gr g10)
  clear HM9
  have HA10 := Lib.hid ((HA9.out).gr g10)
  clear HA9
  have HNm10 := Lib.hid ((HNm9.out).gr g10)
  clear HNm9
  have HNf10 := Lib.hid ((HNf9.out).gr g10)
  clear HNf9
  have HNg10 := Lib.hid ((HNg9.out).gr g10)
  clear HNg9
  have HJ10 := Lib.hid ((HJ9.out).gr g10)
  clear HJ9
  have HBk10 := Lib.hid ((HBk9.out).gr g10)
  clear HBk9
  have HD10 := Lib.hid ((HD9.out).gr g10)
  clear HD9
  clear G9
  clear g10
  have HDm10 := Lib.hid (h10.le (m := 40) (by omega))
  clear h10
  go_wp2_with fail
  refine (fjoin_ok (HF10.out) (HG10.out)).mono ?_
  rintro e v11 ⟨u11, rfl, h11, g11⟩
  have G11 := (G10).trans g11
  have HF11 := Lib.hid ((HF10.out).gr g11)
  clear HF10
  have HG11 := Lib.hid ((HG10.out).gr g11)
  clear HG10
  have HM11 := Lib.hid ((HM10.out).gr g11)
  clear HM10
  have HA11 := Lib.hid ((HA10.out).gr g11)
  clear HA10
  have HNm11 := Lib.hid ((HNm10.out).gr g11)
  clear HNm10
  have HNf11 := Lib.hid ((HNf10.out).gr g11)
  clear HNf10
  have HNg11 := Lib.hid ((HNg10.out).gr g11)
  clear HNg10
  have HJ11 := Lib.hid ((HJ10.out).gr g11)
  clear HJ10
  have HBk11 := Lib.hid ((HBk10.out).gr g11)
  clear HBk10
  have HD11 := Lib.hid ((HD10.out).gr g11)
  clear HD10
  have HDm11 := Lib.hid ((HDm10.out).gr g11)
  clear HDm10
  clear G10
  clear g11
  have HOr11 := Lib.hid (h11.le (m := 40) (by omega))
  clear h11
  go_wp2_with fail
  refine (fcount_ok (HF11.out)).mono ?_
  rw [← E1.out]
  rintro e v12 ⟨rfl, g12⟩
  have G12 := (G11).trans g12
  have HF12 := Lib.hid ((HF11.out).gr g12)
  clear HF11
  have HG12 := Lib.hid ((HG11.out).gr g12)
  clear HG11
  have HM12 := Lib.hid ((HM11.out).gr g12)
  clear HM11
  have HA12 := Lib.hid ((HA11.out).gr g12)
  clear HA11
  have HNm12 := Lib.hid ((HNm11.out).gr g12)
  clear HNm11
  have HNf12 := Lib.hid ((HNf11.out).gr g12)
  clear HNf11
  have HNg12 := Lib.hid ((HNg11.out).gr g12)
  clear HNg11
  have HJ12 := Lib.hid ((HJ11.out).gr g12)
  clear HJ11
  have HBk12 := Lib.hid ((HBk11.out).gr g12)
  clear HBk11
  have HD12 := Lib.hid ((HD11.out).gr g12)
  clear HD11
  have HDm12 := Lib.hid ((HDm11.out).gr g12)
  clear HDm11
  have HOr12 := Lib.hid ((HOr11.out).gr g12)
  clear HOr11
  clear G11
  clear g12
  go_wp2_with fail
  refine (fcount_ok (HG12.out)).mono ?_
  rw [← E2.out]
  rintro e v13 ⟨rfl, g13⟩
  have G13 := (G12).trans g13
  have HF13 := Lib.hid ((HF12.out).gr g13)
  clear HF12
  have HG13 := Lib.hid ((HG12.out).gr g13)
  clear HG12
  have HM13 := Lib.hid ((HM12.out).gr g13)
  clear HM12
  have HA13 := Lib.hid ((HA12.out).gr g13)
  clear HA12
  have HNm13 := Lib.hid ((HNm12.out).gr g13)
  clear HNm12
  have HNf13 := Lib.hid ((HNf12.out).gr g13)
  clear HNf12
  have HNg13 := Lib.hid ((HNg12.out).gr g13)
  clear HNg12
  have HJ13 := Lib.hid ((HJ12.out).gr g13)
  clear HJ12
  have HBk13 := Lib.hid ((HBk12.out).gr g13)
  clear HBk12
  have HD13 := Lib.hid ((HD12.out).gr g13)
  clear HD12
  have HDm13 := Lib.hid ((HDm12.out).gr g13)
  clear HDm12
  have HOr13 := Lib.hid ((HOr12.out).gr g13)
  clear HOr12
  clear G12
  clear g13
  go_wp2_with fail
  refine (fcount_ok (HOr13.out)).mono ?_
  rw [← E3.out]
  rintro e v14 ⟨rfl, g14⟩
  have G14 := (G13).trans g14
  have HF14 := Lib.hid ((HF13.out).gr g14)
  clear HF13
  have HG14 := Lib.hid ((HG13.out).gr g14)
  clear HG13
  have HM14 := Lib.hid ((HM13.out).gr g14)
  clear HM13
  have HA14 := Lib.hid ((HA13.out).gr g14)
  clear HA13
  have HNm14 := Lib.hid ((HNm13.out).gr g14)
  clear HNm13
  have HNf14 := Lib.hid ((HNf13.out).gr g14)
  clear HNf13
  have HNg14 := Lib.hid ((HNg13.out).gr g14)
  clear HNg13
  have HJ14 := Lib.hid ((HJ13.out).gr g14)
  clear HJ13
  have HBk14 := Lib.hid ((HBk13.out).gr g14)
  clear HBk13
  have HD14 := Lib.hid ((HD13.out).gr g14)
  clear HD13
  have HDm14 := Lib.hid ((HDm13.out).gr g14)
  clear HDm13
  have HOr14 := Lib.hid ((HOr13.out).gr g14)
  clear HOr13
  clear G13
  clear g14
  go_wp2_with fail
  refine (fcount_ok (HM14.out)).mono ?_
  rw [← E4.out]
  rintro e v15 ⟨rfl, g15⟩
  have G15 := (G14).trans g15
  have HF15 := Lib.hid ((HF14.out).gr g15)
  clear HF14
  have HG15 := Lib.hid ((HG14.out).gr g15)
  clear HG14
  have HM15 := Lib.hid ((HM14.out).gr g15)
  clear HM14
  have HA15 := Lib.hid ((HA14.out).gr g15)
  clear HA14
  have HNm15 := Lib.hid ((HNm14.out).gr g15)
  clear HNm14
  have HNf15 := Lib.hid ((HNf14.out).gr g15)
  clear HNf14
  have HNg15 := Lib.hid ((HNg14.out).gr g15)
  clear HNg14
  have HJ15 := Lib.hid ((HJ14.out).gr g15)
  clear HJ14
  have HBk15 := Lib.hid ((HBk14.out).gr g15)
  clear HBk14
  have HD15 := Lib.hid ((HD14.out).gr g15)
  clear HD14
  have HDm15 := Lib.hid ((HDm14.out).gr g15)
  clear HDm14
  have HOr15 := Lib.hid ((HOr14.out).gr g15)
  clear HOr14
  clear G14
  clear g15
  go_wp2_with fail
  have HZ : Hid (∀ k, k < 12 → (v15.alloc (.cells #[.int .i64 0, .int .i64 0, .int .i64 0, .int .i64 0, .int .i64 0, .int .i64 0, .int .i64 0, .int .i64 0, .int .i64 0, .int .i64 0, .int .i64 0, .int .i64 0] 25)).cell? ⟨v15.heap.size, k, none⟩ = some (.int .i64 0)) := fun k hk => zeros_at v15 12 _ k hk
  have GW := (G15).alloc (.cells #[.int .i64 0, .int .i64 0, .int .i64 0, .int .i64 0, .int .i64 0, .int .i64 0, .int .i64 0, .int .i64 0, .int .i64 0, .int .i64 0, .int .i64 0, .int .i64 0] 25)
  have HFW := Lib.hid (HF15.out.alloc (.cells #[.int .i64 0, .int .i64 0, .int .i64 0, .int .i64 0, .int .i64 0, .int .i64 0, .int .i64 0, .int .i64 0, .int .i64 0, .int .i64 0, .int .i64 0, .int .i64 0] 25))
  clear HF15
  have HGW := Lib.hid (HG15.out.alloc (.cells #[.int .i64 0, .int .i64 0, .int .i64 0, .int .i64 0, .int .i64 0, .int .i64 0, .int .i64 0, .int .i64 0, .int .i64 0, .int .i64 0, .int .i64 0, .int .i64 0] 25))
  clear HG15
  have HMW := Lib.hid (HM15.out.alloc (.cells #[.int .i64 0, .int .i64 0, .int .i64 0, .int .i64 0, .int .i64 0, .int .i64 0, .int .i64 0, .int .i64 0, .int .i64 0, .int .i64 0, .int .i64 0, .int .i64 0] 25))
  clear HM15
  have HAW := Lib.hid (HA15.out.alloc (.cells #[.int .i64 0, .int .i64 0, .int .i64 0, .int .i64 0, .int .i64 0, .int .i64 0, .int .i64 0, .int .i64 0, .int .i64 0, .int .i64 0, .int .i64 0, .int .i64 0] 25))
  clear HA15
  have HNmW := Lib.hid (HNm15.out.alloc (.cells #[.int .i64 0, .int .i64 0, .int .i64 0, .int .i64 0, .int .i64 0, .int .i64 0, .int .i64 0, .int .i64 0, .int .i64 0, .int .i64 0, .int .i64 0, .int .i64 0] 25))
  clear HNm15
  have HNfW := Lib.hid (HNf15.out.alloc (.cells #[.int .i64 0, .int .i64 0, .int .i64 0, .int .i64 0, .int .i64 0, .int .i64 0, .int .i64 0, .int .i64 0, .int .i64 0, .int .i64 0, .int .i64 0, .int .i64 0] 25))
  clear HNf15
  have HNgW := Lib.hid (HNg15.out.alloc (.cells #[.int .i64 0, .int .i64 0, .int .i64 0, .int .i64 0, .int .i64 0, .int .i64 0, .int .i64 0, .int .i64 0, .int .i64 0, .int .i64 0, .int .i64 0, .int .i64 0] 25))
  clear HNg15
  have HJW := Lib.hid (HJ15.out.alloc (.cells #[.int .i64 0, .int .i64 0, .int .i64 0, .int .i64 0, .int .i64 0, .int .i64 0, .int .i64 0, .int .i64 0, .int .i64 0, .int .i64 0, .int .i64 0, .int .i64 0] 25))
  clear HJ15
  have HBkW := Lib.hid (HBk15.out.alloc (.cells #[.int .i64 0, .int .i64 0, .int .i64 0, .int .i64 0, .int .i64 0, .int .i64 0, .int .i64 0, .int .i64 0, .int .i64 0, .int .i64 0, .int .i64 0, .int .i64 0] 25))
  clear HBk15
  have HDW := Lib.hid (HD15.out.alloc (.cells #[.int .i64 0, .int .i64 0, .int .i64 0, .int .i64 0, .int .i64 0, .int .i64 0, .int .i64 0, .int .i64 0, .int .i64 0, .int .i64 0, .int .i64 0, .int .i64 0] 25))
  clear HD15
  have HDmW := Lib.hid (HDm15.out.alloc (.cells #[.int .i64 0, .int .i64 0, .int .i64 0, .int .i64 0, .int .i64 0, .int .i64 0, .int .i64 0, .int .i64 0, .int .i64 0, .int .i64 0, .int .i64 0, .int .i64 0] 25))
  clear HDm15
  have HOrW := Lib.hid (HOr15.out.alloc (.cells #[.int .i64 0, .int .i64 0, .int .i64 0, .int .i64 0, .int .i64 0, .int .i64 0, .int .i64 0, .int .i64 0, .int .i64 0, .int .i64 0, .int .i64 0, .int .i64 0] 25))
  clear HOr15
  clear G15
  generalize v15.alloc (.cells #[.int .i64 0, .int .i64 0, .int .i64 0, .int .i64 0, .int .i64 0, .int .i64 0, .int .i64 0, .int .i64 0, .int .i64 0, .int .i64 0, .int .i64 0, .int .i64 0] 25) = W at *
  generalize v15.heap.size = BW at *
  go_loop [130] (fun i => ∃ k : Nat, k ≤ 12 ∧ i = .int .i64 k) (fun i => 12 - (intOf i).toNat)
  case atStart => exact ⟨0, by omega, rfl⟩
  case round =>
    obtain ⟨k, hk, rfl⟩ := hrel
    by_cases hlt : k < 12
    · have hz := HZ.out k hlt
      go_wp2
      go_round
      case rel => exact ⟨k + 1, by omega, by go_num⟩
      case measure => simp [intOf]; omega
    · obtain rfl : k = 12 := by omega
      go_wp2_with fail
      refine (same_any (HNmW.out) (HJW.out)).mono ?_
      rw [Q1.out]
      rintro e v16 ⟨rfl, g16⟩
      have G16 := (GW).trans g16
      have HF16 := Lib.hid ((HFW.out).gr g16)
      clear HFW
      have HG16 := Lib.hid ((HGW.out).gr g16)
      clear HGW
      have HM16 := Lib.hid ((HMW.out).gr g16)
      clear HMW
      have HA16 := Lib.hid ((HAW.out).gr g16)
      clear HAW
      have HNm16 := Lib.hid ((HNmW.out).gr g16)
      clear HNmW
      have HNf16 := Lib.hid ((HNfW.out).gr g16)
      clear HNfW
      have HNg16 := Lib.hid ((HNgW.out).gr g16)
      clear HNgW
      have HJ16 := Lib.hid ((HJW.out).gr g16)
      clear HJW
      have HBk16 := Lib.hid ((HBkW.out).gr g16)
      clear HBkW
      have HD16 := Lib.hid ((HDW.out).gr g16)
      clear HDW
      have HDm16 := Lib.hid ((HDmW.out).gr g16)
      clear HDmW
      have HOr16 := Lib.hid ((HOrW.out).gr g16)
      clear HOrW
      clear GW
      clear g16
      go_wp2_with fail
      refine (same_any (HBk16.out) (HF16.out)).mono ?_
      rw [Q2.out]
      rintro e v17 ⟨rfl, g17⟩
      have G17 := (G16).trans g17
      have HF17 := Lib.hid ((HF16.out).gr g17)
      clear HF16
      have HG17 := Lib.hid ((HG16.out).gr g17)
      clear HG16
      have HM17 := Lib.hid ((HM16.out).gr g17)
      clear HM16
      have HA17 := Lib.hid ((HA16.out).gr g17)
      clear HA16
      have HNm17 := Lib.hid ((HNm16.out).gr g17)
      clear HNm16
      have HNf17 := Lib.hid ((HNf16.out).gr g17)
      clear HNf16
      have HNg17 := Lib.hid ((HNg16.out).gr g17)
      clear HNg16
      have HJ17 := Lib.hid ((HJ16.out).gr g17)
      clear HJ16
      have HBk17 := Lib.hid ((HBk16.out).gr g17)
      clear HBk16
      have HD17 := Lib.hid ((HD16.out).gr g17)
      clear HD16
      have HDm17 := Lib.hid ((HDm16.out).gr g17)
      clear HDm16
      have HOr17 := Lib.hid ((HOr16.out).gr g17)
      clear HOr16
      clear G16
      clear g17
      go_wp2_with fail
      refine (same_any (HD17.out) (HDm17.out)).mono ?_
      rw [Q3.out]
      rintro e v18 ⟨rfl, g18⟩
      have G18 := (G17).trans g18
      have HF18 := Lib.hid ((HF17.out).gr g18)
      clear HF17
      have HG18 := Lib.hid ((HG17.out).gr g18)
      clear HG17
      have HM18 := Lib.hid ((HM17.out).gr g18)
      clear HM17
      have HA18 := Lib.hid ((HA17.out).gr g18)
      clear HA17
      have HNm18 := Lib.hid ((HNm17.out).gr g18)
      clear HNm17
      have HNf18 := Lib.hid ((HNf17.out).gr g18)
      clear HNf17
      have HNg18 := Lib.hid ((HNg17.out).gr g18)
      clear HNg17
      have HJ18 := Lib.hid ((HJ17.out).gr g18)
      clear HJ17
      have HBk18 := Lib.hid ((HBk17.out).gr g18)
      clear HBk17
      have HD18 := Lib.hid ((HD17.out).gr g18)
      clear HD17
      have HDm18 := Lib.hid ((HDm17.out).gr g18)
      clear HDm17
      have HOr18 := Lib.hid ((HOr17.out).gr g18)
      clear HOr17
      clear G17
      clear g18
      go_wp2_with fail
      go_ret
      exact ⟨rfl, G18⟩

theorem filterMorgan_walk (f : Value) (lf : List BoxI) (g : Value) (lg : List BoxI) (w : World) (rf : RdF w f lf) (rg : RdF w g lg) :
    Calls Try.prog 6 #[f, g] w fun e w' => e = .returned (.bool true) ∧ Gr w w' := by
  cases hc : (chkF2 lf lg == 0)
  · exact filterMorgan_bad f g lf lg w rf rg hc
  · obtain ⟨T, U, a, b, c, d⟩ := fs2_of rf rg hc
    exact filterMorgan_ok f g T U w c d a b
end Go.Proofs.Ytphcjjhfgpdhcaa
