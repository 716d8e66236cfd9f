/- The walk of SpanMorgan. -/
import Derived.Test.YtkdhfpdpbledcaaMaskM
namespace Go.Proofs.Ytkdhfpdpbledcaa
open Go.RowKit Rm
set_option linter.unusedVariables false

theorem canonMid : canon 2147483646 = [(1, 31)] := by decide +kernel
theorem canonEnds : canon 2147483649 = [(0, 1), (31, 32)] := by decide +kernel
theorem eqEnds : eqM (lessM 4294967295 2147483646) 2147483649 = true := by decide +kernel

set_option maxHeartbeats 4000000 in
set_option maxRecDepth 100000 in
theorem spanMorgan_walk (a0 : Int) (w0 : (Lit.int .u32 a0).wf = true) (a1 : Int) (w1 : (Lit.int .u32 a1).wf = true) (w : World) :
    Calls Try.prog 7 #[.int .u32 a0, .int .u32 a1] w fun e w' => e = .returned (.bool true) ∧ Gr w w' := by
  obtain ⟨A, rfl, hA⟩ := of_u32 w0
  obtain ⟨B, rfl, hB⟩ := of_u32 w1
  clear w0 w1
  have HA := Lib.hid hA
  have HB := Lib.hid hB
  clear hA hB
  have e0 := eqEnds
  go_enter Try.func7, Try.ntmps7
  go_wp2_with fail
  refine (mevery _).mono ?_
  rintro e v1 ⟨u1, rfl, h1, g1⟩
  have G1 := (Gr.refl _).trans g1
  clear g1
  have HE01 := Lib.hid h1
  clear h1
  go_wp2_with fail
  refine (mless ((HE01.out).alloc _) (lit1 _ 1 31 33 2147483646 canonMid (by decide))).mono ?_
  rintro e v2 ⟨u2, rfl, h2, g2⟩
  have G2 := ((G1).alloc _).trans g2
  have HE02 := Lib.hid (((HE01.out).alloc _).gr g2)
  clear HE01
  clear G1
  clear g2
  have HQ2 := Lib.hid h2
  clear h2
  go_wp2_with fail
  refine (mequal ((HQ2.out).alloc _) (lit2 _ 0 1 31 32 33 2147483649 canonEnds (by decide))).mono ?_
  rintro e v3 ⟨rfl, g3⟩
  have G3 := ((G2).alloc _).trans g3
  have HQ3 := Lib.hid (((HQ2.out).alloc _).gr g3)
  clear HQ2
  clear G2
  clear g3
  go_wp2_with fail
  refine (mspans A _ HA.out).mono ?_
  rintro e v4 ⟨u4, rfl, h4, g4⟩
  have G4 := (G3).trans g4
  clear G3
  clear g4
  have HX4 := Lib.hid h4
  clear h4
  clear e0
  go_wp2_with fail
  refine (mspans B _ HB.out).mono ?_
  rintro e v5 ⟨u5, rfl, h5, g5⟩
  have G5 := (G4).trans g5
  have HX5 := Lib.hid ((HX4.out).gr g5)
  clear HX4
  clear G4
  clear g5
  have HY5 := Lib.hid h5
  clear h5
  go_wp2_with fail
  refine (mmeet (HX5.out) (HY5.out)).mono ?_
  rintro e v6 ⟨u6, rfl, h6, g6⟩
  have G6 := (G5).trans g6
  have HX6 := Lib.hid ((HX5.out).gr g6)
  clear HX5
  have HY6 := Lib.hid ((HY5.out).gr g6)
  clear HY5
  clear G5
  clear g6
  have HM6 := Lib.hid h6
  clear h6
  go_wp2_with fail
  refine (mevery _).mono ?_
  rintro e v7 ⟨u7, rfl, h7, g7⟩
  have G7 := (G6).trans g7
  have HX7 := Lib.hid ((HX6.out).gr g7)
  clear HX6
  have HY7 := Lib.hid ((HY6.out).gr g7)
  clear HY6
  have HM7 := Lib.hid ((HM6.out).gr g7)
  clear HM6
  clear G6
  clear g7
  have HEv7 := Lib.hid h7
  clear h7
  go_wp2_with fail
  refine (mless (HEv7.out) (HM7.out)).mono ?_
  rintro e v8 ⟨u8, rfl, h8, g8⟩
  have G8 := (G7).trans g8
  have HX8 := Lib.hid ((HX7.out).gr g8)
  clear HX7
  have HY8 := Lib.hid ((HY7.out).gr g8)
  clear HY7
  have HM8 := Lib.hid ((HM7.out).gr g8)
  clear HM7
  have HEv8 := Lib.hid ((HEv7.out).gr g8)
  clear HEv7
  clear G7
  clear g8
  have HNm8 := Lib.hid h8
  clear h8
  clear HEv8
  go_wp2_with fail
  refine (mevery _).mono ?_
  rintro e v9 ⟨u9, rfl, h9, g9⟩
  have G9 := (G8).trans g9
  have HX9 := Lib.hid ((HX8.out).gr g9)
  clear HX8
  have HY9 := Lib.hid ((HY8.out).gr g9)
  clear HY8
  have HM9 := Lib.hid ((HM8.out).gr g9)
  clear HM8
  have HNm9 := Lib.hid ((HNm8.out).gr g9)
  clear HNm8
  clear G8
  clear g9
  have HEv9 := Lib.hid h9
  clear h9
  go_wp2_with fail
  refine (mless (HEv9.out) (HX9.out)).mono ?_
  rintro e v10 ⟨u10, rfl, h10, g10⟩
  have G10 := (G9).trans g10
  have HX10 := Lib.hid ((HX9.out).gr g10)
  clear HX9
  have HY10 := Lib.hid ((HY9.out).gr g10)
  clear HY9
  have HM10 := Lib.hid ((HM9.out).gr g10)
  clear HM9
  have HNm10 := Lib.hid ((HNm9.out).gr g10)
  clear HNm9
  have HEv10 := Lib.hid ((HEv9.out).gr g10)
  clear HEv9
  clear G9
  clear g10
  have HNx10 := Lib.hid h10
  clear h10
  clear HEv10
  go_wp2_with fail
  refine (mevery _).mono ?_
  rintro e v11 ⟨u11, rfl, h11, g11⟩
  have G11 := (G10).trans g11
  have HX11 := Lib.hid ((HX10.out).gr g11)
  clear HX10
  have HY11 := Lib.hid ((HY10.out).gr g11)
  clear HY10
  have HM11 := Lib.hid ((HM10.out).gr g11)
  clear HM10
  have HNm11 := Lib.hid ((HNm10.out).gr g11)
  clear HNm10
  have HNx11 := Lib.hid ((HNx10.out).gr g11)
  clear HNx10
  clear G10
  clear g11
  have HEv11 := Lib.hid h11
  clear h11
  go_wp2_with fail
  refine (mless (HEv11.out) (HY11.out)).mono ?_
  rintro e v12 ⟨u12, rfl, h12, g12⟩
  have G12 := (G11).trans g12
  have HX12 := Lib.hid ((HX11.out).gr g12)
  clear HX11
  have HY12 := Lib.hid ((HY11.out).gr g12)
  clear HY11
  have HM12 := Lib.hid ((HM11.out).gr g12)
  clear HM11
  have HNm12 := Lib.hid ((HNm11.out).gr g12)
  clear HNm11
  have HNx12 := Lib.hid ((HNx11.out).gr g12)
  clear HNx11
  have HEv12 := Lib.hid ((HEv11.out).gr g12)
  clear HEv11
  clear G11
  clear g12
  have HNy12 := Lib.hid h12
  clear h12
  clear HEv12
  go_wp2_with fail
  refine (mjoin (HNx12.out) (HNy12.out)).mono ?_
  rintro e v13 ⟨u13, rfl, h13, g13⟩
  have G13 := (G12).trans g13
  have HX13 := Lib.hid ((HX12.out).gr g13)
  clear HX12
  have HY13 := Lib.hid ((HY12.out).gr g13)
  clear HY12
  have HM13 := Lib.hid ((HM12.out).gr g13)
  clear HM12
  have HNm13 := Lib.hid ((HNm12.out).gr g13)
  clear HNm12
  have HNx13 := Lib.hid ((HNx12.out).gr g13)
  clear HNx12
  have HNy13 := Lib.hid ((HNy12.out).gr g13)
  clear HNy12
  clear G12
  clear g13
  have HJ13 := Lib.hid h13
  clear h13
  go_wp2_with fail
  refine (mevery _).mono ?_
  rintro e v14 ⟨u14, rfl, h14, g14⟩
  have G14 := (G13).trans g14
  have HX14 := Lib.hid ((HX13.out).gr g14)
  clear HX13
  have HY14 := Lib.hid ((HY13.out).gr g14)
  clear HY13
  have HM14 := Lib.hid ((HM13.out).gr g14)
  clear HM13
  have HNm14 := Lib.hid ((HNm13.out).gr g14)
  clear HNm13
  have HNx14 := Lib.hid ((HNx13.out).gr g14)
  clear HNx13
  have HNy14 := Lib.hid ((HNy13.out).gr g14)
  clear HNy13
  have HJ14 := Lib.hid ((HJ13.out).gr g14)
  clear HJ13
  clear G13
  clear g14
  have HEv14 := Lib.hid h14
  clear h14
  go_wp2_with fail
  refine (mless (HEv14.out) (HNx14.out)).mono ?_
  rintro e v15 ⟨u15, rfl, h15, g15⟩
  have G15 := (G14).trans g15
  have HX15 := Lib.hid ((HX14.out).gr g15)
  clear HX14
  have HY15 := Lib.hid ((HY14.out).gr g15)
  clear HY14
  have HM15 := Lib.hid ((HM14.out).gr g15)
  clear HM14
  have HNm15 := Lib.hid ((HNm14.out).gr g15)
  clear HNm14
  have HNx15 := Lib.hid ((HNx14.out).gr g15)
  clear HNx14
  have HNy15 := Lib.hid ((HNy14.out).gr g15)
  clear HNy14
  have HJ15 := Lib.hid ((HJ14.out).gr g15)
  clear HJ14
  have HEv15 := Lib.hid ((HEv14.out).gr g15)
  clear HEv14
  clear G14
  clear g15
  have HBk15 := Lib.hid h15
  clear h15
  clear HEv15
  go_wp2_with fail
  refine (mless (HX15.out) (HY15.out)).mono ?_
  rintro e v16 ⟨u16, rfl, h16, g16⟩
  have G16 := (G15).trans g16
  have HX16 := Lib.hid ((HX15.out).gr g16)
  clear HX15
  have HY16 := Lib.hid ((HY15.out).gr g16)
  clear HY15
  have HM16 := Lib.hid ((HM15.out).gr g16)
  clear HM15
  have HNm16 := Lib.hid ((HNm15.out).gr g16)
  clear HNm15
  have HNx16 := Lib.hid ((HNx15.out).gr g16)
  clear HNx15
  have HNy16 := Lib.hid ((HNy15.out).gr g16)
  clear HNy15
  have HJ16 := Lib.hid ((HJ15.out).gr g16)
  clear HJ15
  have HBk16 := Lib.hid ((HBk15.out).gr g16)
  clear HBk15
  clear G15
  clear g16
  have HD16 := Lib.hid h16
  clear h16
  go_wp2_with fail
  refine (mmeet (HX16.out) (HNy16.out)).mono ?_
  rintro e v17 ⟨u17, rfl, h17, g17⟩
  have G17 := (G16).trans g17
  have HX17 := Lib.hid ((HX16.out).gr g17)
  clear HX16
  have HY17 := Lib.hid ((HY16.out).gr g17)
  clear HY16
  have HM17 := Lib.hid ((HM16.out).gr g17)
  clear HM16
  have HNm17 := Lib.hid ((HNm16.out).gr g17)
  clear HNm16
  have HNx17 := Lib.hid ((HNx16.out).gr g17)
  clear HNx16
  have HNy17 := Lib.hid ((HNy16.out).gr g17)
  clear HNy16
  have HJ17 := Lib.hid ((HJ16.out).gr g17)
  clear HJ16
  have HBk17 := Lib.hid ((HBk16.out).gr g17)
  clear HBk16
  have HD17 := Lib.hid ((HD16.out).gr g17)
  clear HD16
  clear G16
  clear g17
  have HDm17 := Lib.hid h17
  clear h17
  go_wp2_with fail
  refine (mjoin (HX17.out) (HY17.out)).mono ?_
  rintro e v18 ⟨u18, rfl, h18, g18⟩
  have G18 := (G17).trans g18
  have HX18 := Lib.hid ((HX17.out).gr g18)
  clear HX17
  have HY18 := Lib.hid ((HY17.out).gr g18)
  clear HY17
  have HM18 := Lib.hid ((HM17.out).gr g18)
  clear HM17
  have HNm18 := Lib.hid ((HNm17.out).gr g18)
  clear HNm17
  have HNx18 := Lib.hid ((HNx17.out).gr g18)
  clear HNx17
  have HNy18 := Lib.hid ((HNy17.out).gr g18)
  clear HNy17
  have HJ18 := Lib.hid ((HJ17.out).gr g18)
  clear HJ17
  have HBk18 := Lib.hid ((HBk17.out).gr g18)
  clear HBk17
  have HD18 := Lib.hid ((HD17.out).gr g18)
  clear HD17
  have HDm18 := Lib.hid ((HDm17.out).gr g18)
  clear HDm17
  clear G17
  clear g18
  have HOr18 := Lib.hid h18
  clear h18
  have q1 := eqM_true (m_morgan HA.out HB.out)
  have q2 := eqM_true (m_twice HA.out)
  have q3 := eqM_true (m_less HA.out HB.out)
  have hp' : (((popc A : Nat) : Int) + ((popc B : Nat) : Int) == ((popc (A ||| B) : Nat) : Int) + ((popc (A &&& B) : Nat) : Int)) = true := by
    have := popTo_incl A B 32
    unfold popc
    simp
    omega
  have hp1 : ((popc A : Nat) : Int) ≤ 32 := by have := popc_le A; omega
  have hp2 : ((popc B : Nat) : Int) ≤ 32 := by have := popc_le B; omega
  have hp3 : ((popc (A ||| B) : Nat) : Int) ≤ 32 := by have := popc_le (A ||| B); omega
  have hp4 : ((popc (A &&& B) : Nat) : Int) ≤ 32 := by have := popc_le (A &&& B); omega
  go_wp2_with fail
  have HZ : Hid (∀ k, k < 9 → (v18.alloc (.cells #[.int .i64 0, .int .i64 0, .int .i64 0, .int .i64 0, .int .i64 0, .int .i64 0, .int .i64 0, .int .i64 0, .int .i64 0] 24)).cell? ⟨v18.heap.size, k, none⟩ = some (.int .i64 0)) := fun k hk => zeros_at v18 9 _ k hk
  have GW := (G18).alloc (.cells #[.int .i64 0, .int .i64 0, .int .i64 0, .int .i64 0, .int .i64 0, .int .i64 0, .int .i64 0, .int .i64 0, .int .i64 0] 24)
  have HXW := Lib.hid (HX18.out.alloc (.cells #[.int .i64 0, .int .i64 0, .int .i64 0, .int .i64 0, .int .i64 0, .int .i64 0, .int .i64 0, .int .i64 0, .int .i64 0] 24))
  clear HX18
  have HYW := Lib.hid (HY18.out.alloc (.cells #[.int .i64 0, .int .i64 0, .int .i64 0, .int .i64 0, .int .i64 0, .int .i64 0, .int .i64 0, .int .i64 0, .int .i64 0] 24))
  clear HY18
  have HMW := Lib.hid (HM18.out.alloc (.cells #[.int .i64 0, .int .i64 0, .int .i64 0, .int .i64 0, .int .i64 0, .int .i64 0, .int .i64 0, .int .i64 0, .int .i64 0] 24))
  clear HM18
  have HNmW := Lib.hid (HNm18.out.alloc (.cells #[.int .i64 0, .int .i64 0, .int .i64 0, .int .i64 0, .int .i64 0, .int .i64 0, .int .i64 0, .int .i64 0, .int .i64 0] 24))
  clear HNm18
  have HNxW := Lib.hid (HNx18.out.alloc (.cells #[.int .i64 0, .int .i64 0, .int .i64 0, .int .i64 0, .int .i64 0, .int .i64 0, .int .i64 0, .int .i64 0, .int .i64 0] 24))
  clear HNx18
  have HNyW := Lib.hid (HNy18.out.alloc (.cells #[.int .i64 0, .int .i64 0, .int .i64 0, .int .i64 0, .int .i64 0, .int .i64 0, .int .i64 0, .int .i64 0, .int .i64 0] 24))
  clear HNy18
  have HJW := Lib.hid (HJ18.out.alloc (.cells #[.int .i64 0, .int .i64 0, .int .i64 0, .int .i64 0, .int .i64 0, .int .i64 0, .int .i64 0, .int .i64 0, .int .i64 0] 24))
  clear HJ18
  have HBkW := Lib.hid (HBk18.out.alloc (.cells #[.int .i64 0, .int .i64 0, .int .i64 0, .int .i64 0, .int .i64 0, .int .i64 0, .int .i64 0, .int .i64 0, .int .i64 0] 24))
  clear HBk18
  have HDW := Lib.hid (HD18.out.alloc (.cells #[.int .i64 0, .int .i64 0, .int .i64 0, .int .i64 0, .int .i64 0, .int .i64 0, .int .i64 0, .int .i64 0, .int .i64 0] 24))
  clear HD18
  have HDmW := Lib.hid (HDm18.out.alloc (.cells #[.int .i64 0, .int .i64 0, .int .i64 0, .int .i64 0, .int .i64 0, .int .i64 0, .int .i64 0, .int .i64 0, .int .i64 0] 24))
  clear HDm18
  have HOrW := Lib.hid (HOr18.out.alloc (.cells #[.int .i64 0, .int .i64 0, .int .i64 0, .int .i64 0, .int .i64 0, .int .i64 0, .int .i64 0, .int .i64 0, .int .i64 0] 24))
  clear HOr18
  clear G18
  generalize v18.alloc (.cells #[.int .i64 0, .int .i64 0, .int .i64 0, .int .i64 0, .int .i64 0, .int .i64 0, .int .i64 0, .int .i64 0, .int .i64 0] 24) = W at *
  generalize v18.heap.size = BW at *
  go_loop [123] (fun i => ∃ k : Nat, k ≤ 9 ∧ i = .int .i64 k) (fun i => 9 - (intOf i).toNat)
  case atStart => exact ⟨0, by omega, rfl⟩
  case round =>
    obtain ⟨k, hk, rfl⟩ := hrel
    by_cases hlt : k < 9
    · have hz := HZ.out k hlt
      go_wp2
      go_round
      case rel => exact ⟨k + 1, by omega, by go_num⟩
      case measure => simp [intOf]; omega
    · obtain rfl : k = 9 := by omega
      go_wp2_with fail
      refine (mcount (HXW.out)).mono ?_
      rintro e v19 ⟨rfl, g19⟩
      have G19 := (GW).trans g19
      have HX19 := Lib.hid ((HXW.out).gr g19)
      clear HXW
      have HY19 := Lib.hid ((HYW.out).gr g19)
      clear HYW
      have HM19 := Lib.hid ((HMW.out).gr g19)
      clear HMW
      have HNm19 := Lib.hid ((HNmW.out).gr g19)
      clear HNmW
      have HNx19 := Lib.hid ((HNxW.out).gr g19)
      clear HNxW
      have HNy19 := Lib.hid ((HNyW.out).gr g19)
      clear HNyW
      have HJ19 := Lib.hid ((HJW.out).gr g19)
      clear HJW
      have HBk19 := Lib.hid ((HBkW.out).gr g19)
      clear HBkW
      have HD19 := Lib.hid ((HDW.out).gr g19)
      clear HDW
      have HDm19 := Lib.hid ((HDmW.out).gr g19)
      clear HDmW
      have HOr19 := Lib.hid ((HOrW.out).gr g19)
      clear HOrW
      clear GW
      clear g19
      go_wp2_with fail
      refine (mcount (HY19.out)).mono ?_
      rintro e v20 ⟨rfl, g20⟩
      have G20 := (G19).trans g20
      have HX20 := Lib.hid ((HX19.out).gr g20)
      clear HX19
      have HY20 := Lib.hid ((HY19.out).gr g20)
      clear HY19
      have HM20 := Lib.hid ((HM19.out).gr g20)
      clear HM19
      have HNm20 := Lib.hid ((HNm19.out).gr g20)
      clear HNm19
      have HNx20 := Lib.hid ((HNx19.out).gr g20)
      clear HNx19
      have HNy20 := Lib.hid ((HNy19.out).gr g20)
      clear HNy19
      have HJ20 := Lib.hid ((HJ19.out).gr g20)
      clear HJ19
      have HBk20 := Lib.hid ((HBk19.out).gr g20)
      clear HBk19
      have HD20 := Lib.hid ((HD19.out).gr g20)
      clear HD19
      have HDm20 := Lib.hid ((HDm19.out).gr g20)
      clear HDm19
      have HOr20 := Lib.hid ((HOr19.out).gr g20)
      clear HOr19
      clear G19
      clear g20
      go_wp2_with fail
      refine (mcount (HOr20.out)).mono ?_
      rintro e v21 ⟨rfl, g21⟩
      have G21 := (G20).trans g21
      have HX21 := Lib.hid ((HX20.out).gr g21)
      clear HX20
      have HY21 := Lib.hid ((HY20.out).gr g21)
      clear HY20
      have HM21 := Lib.hid ((HM20.out).gr g21)
      clear HM20
      have HNm21 := Lib.hid ((HNm20.out).gr g21)
      clear HNm20
      have HNx21 := Lib.hid ((HNx20.out).gr g21)
      clear HNx20
      have HNy21 := Lib.hid ((HNy20.out).gr g21)
      clear HNy20
      have HJ21 := Lib.hid ((HJ20.out).gr g21)
      clear HJ20
      have HBk21 := Lib.hid ((HBk20.out).gr g21)
      clear HBk20
      have HD21 := Lib.hid ((HD20.out).gr g21)
      clear HD20
      have HDm21 := Lib.hid ((HDm20.out).gr g21)
      clear HDm20
      have HOr21 := Lib.hid ((HOr20.out).gr g21)
      clear HOr20
      clear G20
      clear g21
      go_wp2_with fail
      refine (mcount (HM21.out)).mono ?_
      rintro e v22 ⟨rfl, g22⟩
      have G22 := (G21).trans g22
      have HX22 := Lib.hid ((HX21.out).gr g22)
      clear HX21
      have HY22 := Lib.hid ((HY21.out).gr g22)
      clear HY21
      have HM22 := Lib.hid ((HM21.out).gr g22)
      clear HM21
      have HNm22 := Lib.hid ((HNm21.out).gr g22)
      clear HNm21
      have HNx22 := Lib.hid ((HNx21.out).gr g22)
      clear HNx21
      have HNy22 := Lib.hid ((HNy21.out).gr g22)
      clear HNy21
      have HJ22 := Lib.hid ((HJ21.out).gr g22)
      clear HJ21
      have HBk22 := Lib.hid ((HBk21.out).gr g22)
      clear HBk21
      have HD22 := Lib.hid ((HD21.out).gr g22)
      clear HD21
      have HDm22 := Lib.hid ((HDm21.out).gr g22)
      clear HDm21
      have HOr22 := Lib.hid ((HOr21.out).gr g22)
      clear HOr21
      clear G21
      clear g22
      go_wp2_with fail
      refine (mequal (HNm22.out) (HJ22.out)).mono ?_
      rintro e v23 ⟨rfl, g23⟩
      have G23 := (G22).trans g23
      have HX23 := Lib.hid ((HX22.out).gr g23)
      clear HX22
      have HY23 := Lib.hid ((HY22.out).gr g23)
      clear HY22
      have HM23 := Lib.hid ((HM22.out).gr g23)
      clear HM22
      have HNm23 := Lib.hid ((HNm22.out).gr g23)
      clear HNm22
      have HNx23 := Lib.hid ((HNx22.out).gr g23)
      clear HNx22
      have HNy23 := Lib.hid ((HNy22.out).gr g23)
      clear HNy22
      have HJ23 := Lib.hid ((HJ22.out).gr g23)
      clear HJ22
      have HBk23 := Lib.hid ((HBk22.out).gr g23)
      clear HBk22
      have HD23 := Lib.hid ((HD22.out).gr g23)
      clear HD22
      have HDm23 := Lib.hid ((HDm22.out).gr g23)
      clear HDm22
      have HOr23 := Lib.hid ((HOr22.out).gr g23)
      clear HOr22
      clear G22
      clear g23
      go_wp2_with fail
      refine (mequal (HBk23.out) (HX23.out)).mono ?_
      rintro e v24 ⟨rfl, g24⟩
      have G24 := (G23).trans g24
      have HX24 := Lib.hid ((HX23.out).gr g24)
      clear HX23
      have HY24 := Lib.hid ((HY23.out).gr g24)
      clear HY23
      have HM24 := Lib.hid ((HM23.out).gr g24)
      clear HM23
      have HNm24 := Lib.hid ((HNm23.out).gr g24)
      clear HNm23
      have HNx24 := Lib.hid ((HNx23.out).gr g24)
      clear HNx23
      have HNy24 := Lib.hid ((HNy23.out).gr g24)
      clear HNy23
      have HJ24 := Lib.hid ((HJ23.out).gr g24)
      clear HJ23
      have HBk24 := Lib.hid ((HBk23.out).gr g24)
      clear HBk23
      have HD24 := Lib.hid ((HD23.out).gr g24)
      clear HD23
      have HDm24 := Lib.hid ((HDm23.out).gr g24)
      clear HDm23
      have HOr24 := Lib.hid ((HOr23.out).gr g24)
      clear HOr23
      clear G23
      clear g24
      go_wp2_with fail
      refine (mequal (HD24.out) (HDm24.out)).mono ?_
      rintro e v25 ⟨rfl, g25⟩
      have G25 := (G24).trans g25
      have HX25 := Lib.hid ((HX24.out).gr g25)
      clear HX24
      have HY25 := Lib.hid ((HY24.out).gr g25)
      clear HY24
      have HM25 := Lib.hid ((HM24.out).gr g25)
      clear HM24
      have HNm25 := Lib.hid ((HNm24.out).gr g25)
      clear HNm24
      have HNx25 := Lib.hid ((HNx24.out).gr g25)
      clear HNx24
      have HNy25 := Lib.hid ((HNy24.out).gr g25)
      clear HNy24
      have HJ25 := Lib.hid ((HJ24.out).gr g25)
      clear HJ24
      have HBk25 := Lib.hid ((HBk24.out).gr g25)
      clear HBk24
      have HD25 := Lib.hid ((HD24.out).gr g25)
      clear HD24
      have HDm25 := Lib.hid ((HDm24.out).gr g25)
      clear HDm24
      have HOr25 := Lib.hid ((HOr24.out).gr g25)
      clear HOr24
      clear G24
      clear g25
      go_wp2_with fail
      go_ret
      exact ⟨rfl, G25⟩
end Go.Proofs.Ytkdhfpdpbledcaa
