/- The walk of SpanBoole. -/
import Derived.Test.YtkdhfpdpbledcaaMaskM
namespace Go.Proofs.Ytkdhfpdpbledcaa
open Go.RowKit Rm
set_option linter.unusedVariables false

theorem canon14 : canon 14 = [(1, 4)] := by decide +kernel
theorem canon508 : canon 508 = [(2, 9)] := by decide +kernel
theorem canon12 : canon 12 = [(2, 4)] := by decide +kernel
theorem eq12 : eqM (14 &&& 508) 12 = true := by decide +kernel
theorem eq12' : eqM 12 12 = true := by decide +kernel

set_option maxHeartbeats 4000000 in
set_option maxRecDepth 100000 in
theorem spanBoole_walk (a0 : Int) (w0 : (Lit.int .u32 a0).wf = true) (a1 : Int) (w1 : (Lit.int .u32 a1).wf = true) (a2 : Int) (w2 : (Lit.int .u32 a2).wf = true) (w : World) :
    Calls Try.prog 6 #[.int .u32 a0, .int .u32 a1, .int .u32 a2] w fun e w' => e = .returned (.bool true) ∧ Gr w w' := by
  obtain ⟨A, rfl, hA⟩ := of_u32 w0
  obtain ⟨B, rfl, hB⟩ := of_u32 w1
  obtain ⟨C, rfl, hC⟩ := of_u32 w2
  clear w0 w1 w2
  have HA := Lib.hid hA
  have HB := Lib.hid hB
  have HC := Lib.hid hC
  clear hA hB hC
  have e12 := eq12'
  go_enter Try.func6, Try.ntmps6
  go_wp2_with fail
  refine (mmeet ((lit1 w 1 4 33 14 canon14 (by decide)).alloc _) (lit1b w _ 2 9 33 508 canon508 (by decide))).mono ?_
  rintro e v1 ⟨u1, rfl, h1, g1⟩
  have G1 := (((Gr.refl _).alloc _).alloc _).trans g1
  clear g1
  have HQ1 := Lib.hid h1
  clear h1
  go_wp2_with fail
  refine (mequal ((HQ1.out).alloc _) (lit1 _ 2 4 33 12 canon12 (by decide))).mono ?_
  rintro e v2 ⟨rfl, g2⟩
  have G2 := ((G1).alloc _).trans g2
  have HQ2 := Lib.hid (((HQ1.out).alloc _).gr g2)
  clear HQ1
  clear G1
  clear g2
  go_wp2_with fail
  refine (mspans A _ HA.out).mono ?_
  rintro e v3 ⟨u3, rfl, h3, g3⟩
  have G3 := (G2).trans g3
  clear G2
  clear g3
  have HX3 := Lib.hid h3
  clear h3
  clear e12
  go_wp2_with fail
  refine (mspans B _ HB.out).mono ?_
  rintro e v4 ⟨u4, rfl, h4, g4⟩
  have G4 := (G3).trans g4
  have HX4 := Lib.hid ((HX3.out).gr g4)
  clear HX3
  clear G3
  clear g4
  have HY4 := Lib.hid h4
  clear h4
  go_wp2_with fail
  refine (mspans C _ HC.out).mono ?_
  rintro e v5 ⟨u5, rfl, h5, g5⟩
  have G5 := (G4).trans g5
  have HX5 := Lib.hid ((HX4.out).gr g5)
  clear HX4
  have HY5 := Lib.hid ((HY4.out).gr g5)
  clear HY4
  clear G4
  clear g5
  have HZ5 := Lib.hid h5
  clear h5
  go_wp2_with fail
  refine (mjoin (HX5.out) (HY5.out)).mono ?_
  rintro e v6 ⟨u6, rfl, h6, g6⟩
  have G6 := (G5).trans g6
  have HX6 := Lib.hid ((HX5.out).gr g6)
  clear HX5
  have HY6 := Lib.hid ((HY5.out).gr g6)
  clear HY5
  have HZ6 := Lib.hid ((HZ5.out).gr g6)
  clear HZ5
  clear G5
  clear g6
  have HXy6 := Lib.hid h6
  clear h6
  go_wp2_with fail
  refine (mjoin (HY6.out) (HX6.out)).mono ?_
  rintro e v7 ⟨u7, rfl, h7, g7⟩
  have G7 := (G6).trans g7
  have HX7 := Lib.hid ((HX6.out).gr g7)
  clear HX6
  have HY7 := Lib.hid ((HY6.out).gr g7)
  clear HY6
  have HZ7 := Lib.hid ((HZ6.out).gr g7)
  clear HZ6
  have HXy7 := Lib.hid ((HXy6.out).gr g7)
  clear HXy6
  clear G6
  clear g7
  have HYx7 := Lib.hid h7
  clear h7
  go_wp2_with fail
  refine (mjoin (HXy7.out) (HZ7.out)).mono ?_
  rintro e v8 ⟨u8, rfl, h8, g8⟩
  have G8 := (G7).trans g8
  have HX8 := Lib.hid ((HX7.out).gr g8)
  clear HX7
  have HY8 := Lib.hid ((HY7.out).gr g8)
  clear HY7
  have HZ8 := Lib.hid ((HZ7.out).gr g8)
  clear HZ7
  have HXy8 := Lib.hid ((HXy7.out).gr g8)
  clear HXy7
  have HYx8 := Lib.hid ((HYx7.out).gr g8)
  clear HYx7
  clear G7
  clear g8
  have HL8 := Lib.hid h8
  clear h8
  go_wp2_with fail
  refine (mjoin (HY8.out) (HZ8.out)).mono ?_
  rintro e v9 ⟨u9, rfl, h9, g9⟩
  have G9 := (G8).trans g9
  have HX9 := Lib.hid ((HX8.out).gr g9)
  clear HX8
  have HY9 := Lib.hid ((HY8.out).gr g9)
  clear HY8
  have HZ9 := Lib.hid ((HZ8.out).gr g9)
  clear HZ8
  have HXy9 := Lib.hid ((HXy8.out).gr g9)
  clear HXy8
  have HYx9 := Lib.hid ((HYx8.out).gr g9)
  clear HYx8
  have HL9 := Lib.hid ((HL8.out).gr g9)
  clear HL8
  clear G8
  clear g9
  have HYz9 := Lib.hid h9
  clear h9
  go_wp2_with fail
  refine (mjoin (HX9.out) (HYz9.out)).mono ?_
  rintro e v10 ⟨u10, rfl, h10, g10⟩
  have G10 := (G9).trans g10
  have HX10 := Lib.hid ((HX9.out).gr g10)
  clear HX9
  have HY10 := Lib.hid ((HY9.out).gr g10)
  clear HY9
  have HZ10 := Lib.hid ((HZ9.out).gr g10)
  clear HZ9
  have HXy10 := Lib.hid ((HXy9.out).gr g10)
  clear HXy9
  have HYx10 := Lib.hid ((HYx9.out).gr g10)
  clear HYx9
  have HL10 := Lib.hid ((HL9.out).gr g10)
  clear HL9
  have HYz10 := Lib.hid ((HYz9.out).gr g10)
  clear HYz9
  clear G9
  clear g10
  have HR10 := Lib.hid h10
  clear h10
  go_wp2_with fail
  refine (mmeet (HX10.out) (HYz10.out)).mono ?_
  rintro e v11 ⟨u11, rfl, h11, g11⟩
  have G11 := (G10).trans g11
  have HX11 := Lib.hid ((HX10.out).gr g11)
  clear HX10
  have HY11 := Lib.hid ((HY10.out).gr g11)
  clear HY10
  have HZ11 := Lib.hid ((HZ10.out).gr g11)
  clear HZ10
  have HXy11 := Lib.hid ((HXy10.out).gr g11)
  clear HXy10
  have HYx11 := Lib.hid ((HYx10.out).gr g11)
  clear HYx10
  have HL11 := Lib.hid ((HL10.out).gr g11)
  clear HL10
  have HYz11 := Lib.hid ((HYz10.out).gr g11)
  clear HYz10
  have HR11 := Lib.hid ((HR10.out).gr g11)
  clear HR10
  clear G10
  clear g11
  have HP11 := Lib.hid h11
  clear h11
  go_wp2_with fail
  refine (mmeet (HX11.out) (HY11.out)).mono ?_
  rintro e v12 ⟨u12, rfl, h12, g12⟩
  have G12 := (G11).trans g12
  have HX12 := Lib.hid ((HX11.out).gr g12)
  clear HX11
  have HY12 := Lib.hid ((HY11.out).gr g12)
  clear HY11
  have HZ12 := Lib.hid ((HZ11.out).gr g12)
  clear HZ11
  have HXy12 := Lib.hid ((HXy11.out).gr g12)
  clear HXy11
  have HYx12 := Lib.hid ((HYx11.out).gr g12)
  clear HYx11
  have HL12 := Lib.hid ((HL11.out).gr g12)
  clear HL11
  have HYz12 := Lib.hid ((HYz11.out).gr g12)
  clear HYz11
  have HR12 := Lib.hid ((HR11.out).gr g12)
  clear HR11
  have HP12 := Lib.hid ((HP11.out).gr g12)
  clear HP11
  clear G11
  clear g12
  have HQa12 := Lib.hid h12
  clear h12
  go_wp2_with fail
  refine (mmeet (HX12.out) (HZ12.out)).mono ?_
  rintro e v13 ⟨u13, rfl, h13, g13⟩
  have G13 := (G12).trans g13
  have HX13 := Lib.hid ((HX12.out).gr g13)
  clear HX12
  have HY13 := Lib.hid ((HY12.out).gr g13)
  clear HY12
  have HZ13 := Lib.hid ((HZ12.out).gr g13)
  clear HZ12
  have HXy13 := Lib.hid ((HXy12.out).gr g13)
  clear HXy12
  have HYx13 := Lib.hid ((HYx12.out).gr g13)
  clear HYx12
  have HL13 := Lib.hid ((HL12.out).gr g13)
  clear HL12
  have HYz13 := Lib.hid ((HYz12.out).gr g13)
  clear HYz12
  have HR13 := Lib.hid ((HR12.out).gr g13)
  clear HR12
  have HP13 := Lib.hid ((HP12.out).gr g13)
  clear HP12
  have HQa13 := Lib.hid ((HQa12.out).gr g13)
  clear HQa12
  clear G12
  clear g13
  have HQb13 := Lib.hid h13
  clear h13
  go_wp2_with fail
  refine (mjoin (HQa13.out) (HQb13.out)).mono ?_
  rintro e v14 ⟨u14, rfl, h14, g14⟩
  have G14 := (G13).trans g14
  have HX14 := Lib.hid ((HX13.out).gr g14)
  clear HX13
  have HY14 := Lib.hid ((HY13.out).gr g14)
  clear HY13
  have HZ14 := Lib.hid ((HZ13.out).gr g14)
  clear HZ13
  have HXy14 := Lib.hid ((HXy13.out).gr g14)
  clear HXy13
  have HYx14 := Lib.hid ((HYx13.out).gr g14)
  clear HYx13
  have HL14 := Lib.hid ((HL13.out).gr g14)
  clear HL13
  have HYz14 := Lib.hid ((HYz13.out).gr g14)
  clear HYz13
  have HR14 := Lib.hid ((HR13.out).gr g14)
  clear HR13
  have HP14 := Lib.hid ((HP13.out).gr g14)
  clear HP13
  have HQa14 := Lib.hid ((HQa13.out).gr g14)
  clear HQa13
  have HQb14 := Lib.hid ((HQb13.out).gr g14)
  clear HQb13
  clear G13
  clear g14
  have HQc14 := Lib.hid h14
  clear h14
  go_wp2_with fail
  refine (mjoin (HX14.out) (HQa14.out)).mono ?_
  rintro e v15 ⟨u15, rfl, h15, g15⟩
  have G15 := (G14).trans g15
  have HX15 := Lib.hid ((HX14.out).gr g15)
  clear HX14
  have HY15 := Lib.hid ((HY14.out).gr g15)
  clear HY14
  have HZ15 := Lib.hid ((HZ14.out).gr g15)
  clear HZ14
  have HXy15 := Lib.hid ((HXy14.out).gr g15)
  clear HXy14
  have HYx15 := Lib.hid ((HYx14.out).gr g15)
  clear HYx14
  have HL15 := Lib.hid ((HL14.out).gr g15)
  clear HL14
  have HYz15 := Lib.hid ((HYz14.out).gr g15)
  clear HYz14
  have HR15 := Lib.hid ((HR14.out).gr g15)
  clear HR14
  have HP15 := Lib.hid ((HP14.out).gr g15)
  clear HP14
  have HQa15 := Lib.hid ((HQa14.out).gr g15)
  clear HQa14
  have HQb15 := Lib.hid ((HQb14.out).gr g15)
  clear HQb14
  have HQc15 := Lib.hid ((HQc14.out).gr g15)
  clear HQc14
  clear G14
  clear g15
  have HU15 := Lib.hid h15
  clear h15
  go_wp2_with fail
  refine (mmeet (HX15.out) (HXy15.out)).mono ?_
  rintro e v16 ⟨u16, rfl, h16, g16⟩
  have G16 := (G15).trans g16
  have HX16 := Lib.hid ((HX15.out).gr g16)
  clear HX15
  have HY16 := Lib.hid ((HY15.out).gr g16)
  clear HY15
  have HZ16 := Lib.hid ((HZ15.out).gr g16)
  clear HZ15
  have HXy16 := Lib.hid ((HXy15.out).gr g16)
  clear HXy15
  have HYx16 := Lib.hid ((HYx15.out).gr g16)
  clear HYx15
  have HL16 := Lib.hid ((HL15.out).gr g16)
  clear HL15
  have HYz16 := Lib.hid ((HYz15.out).gr g16)
  clear HYz15
  have HR16 := Lib.hid ((HR15.out).gr g16)
  clear HR15
  have HP16 := Lib.hid ((HP15.out).gr g16)
  clear HP15
  have HQa16 := Lib.hid ((HQa15.out).gr g16)
  clear HQa15
  have HQb16 := Lib.hid ((HQb15.out).gr g16)
  clear HQb15
  have HQc16 := Lib.hid ((HQc15.out).gr g16)
  clear HQc15
  have HU16 := Lib.hid ((HU15.out).gr g16)
  clear HU15
  clear G15
  clear g16
  have HV16 := Lib.hid h16
  clear h16
  go_wp2_with fail
  refine (mjoin (HX16.out) (HX16.out)).mono ?_
  rintro e v17 ⟨u17, rfl, h17, g17⟩
  have G17 := (G16).trans g17
  have HX17 := Lib.hid ((HX16.out).gr g17)
  clear HX16
  have HY17 := Lib.hid ((HY16.out).gr g17)
  clear HY16
  have HZ17 := Lib.hid ((HZ16.out).gr g17)
  clear HZ16
  have HXy17 := Lib.hid ((HXy16.out).gr g17)
  clear HXy16
  have HYx17 := Lib.hid ((HYx16.out).gr g17)
  clear HYx16
  have HL17 := Lib.hid ((HL16.out).gr g17)
  clear HL16
  have HYz17 := Lib.hid ((HYz16.out).gr g17)
  clear HYz16
  have HR17 := Lib.hid ((HR16.out).gr g17)
  clear HR16
  have HP17 := Lib.hid ((HP16.out).gr g17)
  clear HP16
  have HQa17 := Lib.hid ((HQa16.out).gr g17)
  clear HQa16
  have HQb17 := Lib.hid ((HQb16.out).gr g17)
  clear HQb16
  have HQc17 := Lib.hid ((HQc16.out).gr g17)
  clear HQc16
  have HU17 := Lib.hid ((HU16.out).gr g17)
  clear HU16
  have HV17 := Lib.hid ((HV16.out).gr g17)
  clear HV16
  clear G16
  clear g17
  have HWw17 := Lib.hid h17
  clear h17
  have q1 := eqM_true (Nat.or_comm A B)
  have q2 := eqM_true (Nat.or_assoc A B C)
  have q3 := eqM_true (m_distrib A B C)
  have q4 := eqM_true (m_absorb A B)
  have q5 := eqM_true (m_absorb' A B)
  have q6 : eqM A A = true := eqM_true rfl
  go_wp2_with fail
  have HZ : Hid (∀ k, k < 12 → (v17.alloc (.cells #[.int .i64 0, .int .i64 0, .int .i64 0, .int .i64 0, .int .i64 0, .int .i64 0, .int .i64 0, .int .i64 0, .int .i64 0, .int .i64 0, .int .i64 0, .int .i64 0] 24)).cell? ⟨v17.heap.size, k, none⟩ = some (.int .i64 0)) := fun k hk => zeros_at v17 12 _ k hk
  have GW := (G17).alloc (.cells #[.int .i64 0, .int .i64 0, .int .i64 0, .int .i64 0, .int .i64 0, .int .i64 0, .int .i64 0, .int .i64 0, .int .i64 0, .int .i64 0, .int .i64 0, .int .i64 0] 24)
  have HXW := Lib.hid (HX17.out.alloc (.cells #[.int .i64 0, .int .i64 0, .int .i64 0, .int .i64 0, .int .i64 0, .int .i64 0, .int .i64 0, .int .i64 0, .int .i64 0, .int .i64 0, .int .i64 0, .int .i64 0] 24))
  clear HX17
  have HYW := Lib.hid (HY17.out.alloc (.cells #[.int .i64 0, .int .i64 0, .int .i64 0, .int .i64 0, .int .i64 0, .int .i64 0, .int .i64 0, .int .i64 0, .int .i64 0, .int .i64 0, .int .i64 0, .int .i64 0] 24))
  clear HY17
  have HZW := Lib.hid (HZ17.out.alloc (.cells #[.int .i64 0, .int .i64 0, .int .i64 0, .int .i64 0, .int .i64 0, .int .i64 0, .int .i64 0, .int .i64 0, .int .i64 0, .int .i64 0, .int .i64 0, .int .i64 0] 24))
  clear HZ17
  have HXyW := Lib.hid (HXy17.out.alloc (.cells #[.int .i64 0, .int .i64 0, .int .i64 0, .int .i64 0, .int .i64 0, .int .i64 0, .int .i64 0, .int .i64 0, .int .i64 0, .int .i64 0, .int .i64 0, .int .i64 0] 24))
  clear HXy17
  have HYxW := Lib.hid (HYx17.out.alloc (.cells #[.int .i64 0, .int .i64 0, .int .i64 0, .int .i64 0, .int .i64 0, .int .i64 0, .int .i64 0, .int .i64 0, .int .i64 0, .int .i64 0, .int .i64 0, .int .i64 0] 24))
  clear HYx17
  have HLW := Lib.hid (HL17.out.alloc (.cells #[.int .i64 0, .int .i64 0, .int .i64 0, .int .i64 0, .int .i64 0, .int .i64 0, .int .i64 0, .int .i64 0, .int .i64 0, .int .i64 0, .int .i64 0, .int .i64 0] 24))
  clear HL17
  have HYzW := Lib.hid (HYz17.out.alloc (.cells #[.int .i64 0, .int .i64 0, .int .i64 0, .int .i64 0, .int .i64 0, .int .i64 0, .int .i64 0, .int .i64 0, .int .i64 0, .int .i64 0, .int .i64 0, .int .i64 0] 24))
  clear HYz17
  have HRW := Lib.hid (HR17.out.alloc (.cells #[.int .i64 0, .int .i64 0, .int .i64 0, .int .i64 0, .int .i64 0, .int .i64 0, .int .i64 0, .int .i64 0, .int .i64 0, .int .i64 0, .int .i64 0, .int .i64 0] 24))
  clear HR17
  have HPW := Lib.hid (HP17.out.alloc (.cells #[.int .i64 0, .int .i64 0, .int .i64 0, .int .i64 0, .int .i64 0, .int .i64 0, .int .i64 0, .int .i64 0, .int .i64 0, .int .i64 0, .int .i64 0, .int .i64 0] 24))
  clear HP17
  have HQaW := Lib.hid (HQa17.out.alloc (.cells #[.int .i64 0, .int .i64 0, .int .i64 0, .int .i64 0, .int .i64 0, .int .i64 0, .int .i64 0, .int .i64 0, .int .i64 0, .int .i64 0, .int .i64 0, .int .i64 0] 24))
  clear HQa17
  have HQbW := Lib.hid (HQb17.out.alloc (.cells #[.int .i64 0, .int .i64 0, .int .i64 0, .int .i64 0, .int .i64 0, .int .i64 0, .int .i64 0, .int .i64 0, .int .i64 0, .int .i64 0, .int .i64 0, .int .i64 0] 24))
  clear HQb17
  have HQcW := Lib.hid (HQc17.out.alloc (.cells #[.int .i64 0, .int .i64 0, .int .i64 0, .int .i64 0, .int .i64 0, .int .i64 0, .int .i64 0, .int .i64 0, .int .i64 0, .int .i64 0, .int .i64 0, .int .i64 0] 24))
  clear HQc17
  have HUW := Lib.hid (HU17.out.alloc (.cells #[.int .i64 0, .int .i64 0, .int .i64 0, .int .i64 0, .int .i64 0, .int .i64 0, .int .i64 0, .int .i64 0, .int .i64 0, .int .i64 0, .int .i64 0, .int .i64 0] 24))
  clear HU17
  have HVW := Lib.hid (HV17.out.alloc (.cells #[.int .i64 0, .int .i64 0, .int .i64 0, .int .i64 0, .int .i64 0, .int .i64 0, .int .i64 0, .int .i64 0, .int .i64 0, .int .i64 0, .int .i64 0, .int .i64 0] 24))
  clear HV17
  have HWwW := Lib.hid (HWw17.out.alloc (.cells #[.int .i64 0, .int .i64 0, .int .i64 0, .int .i64 0, .int .i64 0, .int .i64 0, .int .i64 0, .int .i64 0, .int .i64 0, .int .i64 0, .int .i64 0, .int .i64 0] 24))
  clear HWw17
  clear G17
  generalize v17.alloc (.cells #[.int .i64 0, .int .i64 0, .int .i64 0, .int .i64 0, .int .i64 0, .int .i64 0, .int .i64 0, .int .i64 0, .int .i64 0, .int .i64 0, .int .i64 0, .int .i64 0] 24) = W at *
  generalize v17.heap.size = BW at *
  go_loop [147] (fun i => ∃ k : Nat, k ≤ 12 ∧ i = .int .i64 k) (fun i => 12 - (intOf i).toNat)
  case atStart => exact ⟨0, by omega, rfl⟩
  case round =>
    obtain ⟨k, hk, rfl⟩ := hrel
    by_cases hlt : k < 12
    · have hz := HZ.out k hlt
      go_wp2
      go_round
      case rel => exact ⟨k + 1, by omega, by go_num⟩
      case measure => simp [intOf]; omega
    · obtain rfl : k = 12 := by omega
      go_wp2_with fail
      refine (mequal (HXyW.out) (HYxW.out)).mono ?_
      rintro e v18 ⟨rfl, g18⟩
      have G18 := (GW).trans g18
      have HX18 := Lib.hid ((HXW.out).gr g18)
      clear HXW
      have HY18 := Lib.hid ((HYW.out).gr g18)
      clear HYW
      have HZ18 := Lib.hid ((HZW.out).gr g18)
      clear HZW
      have HXy18 := Lib.hid ((HXyW.out).gr g18)
      clear HXyW
      have HYx18 := Lib.hid ((HYxW.out).gr g18)
      clear HYxW
      have HL18 := Lib.hid ((HLW.out).gr g18)
      clear HLW
      have HYz18 := Lib.hid ((HYzW.out).gr g18)
      clear HYzW
      have HR18 := Lib.hid ((HRW.out).gr g18)
      clear HRW
      have HP18 := Lib.hid ((HPW.out).gr g18)
      clear HPW
      have HQa18 := Lib.hid ((HQaW.out).gr g18)
      clear HQaW
      have HQb18 := Lib.hid ((HQbW.out).gr g18)
      clear HQbW
      have HQc18 := Lib.hid ((HQcW.out).gr g18)
      clear HQcW
      have HU18 := Lib.hid ((HUW.out).gr g18)
      clear HUW
      have HV18 := Lib.hid ((HVW.out).gr g18)
      clear HVW
      have HWw18 := Lib.hid ((HWwW.out).gr g18)
      clear HWwW
      clear GW
      clear g18
      go_wp2_with fail
      refine (mequal (HL18.out) (HR18.out)).mono ?_
      rintro e v19 ⟨rfl, g19⟩
      have G19 := (G18).trans g19
      have HX19 := Lib.hid ((HX18.out).gr g19)
      clear HX18
      have HY19 := Lib.hid ((HY18.out).gr g19)
      clear HY18
      have HZ19 := Lib.hid ((HZ18.out).gr g19)
      clear HZ18
      have HXy19 := Lib.hid ((HXy18.out).gr g19)
      clear HXy18
      have HYx19 := Lib.hid ((HYx18.out).gr g19)
      clear HYx18
      have HL19 := Lib.hid ((HL18.out).gr g19)
      clear HL18
      have HYz19 := Lib.hid ((HYz18.out).gr g19)
      clear HYz18
      have HR19 := Lib.hid ((HR18.out).gr g19)
      clear HR18
      have HP19 := Lib.hid ((HP18.out).gr g19)
      clear HP18
      have HQa19 := Lib.hid ((HQa18.out).gr g19)
      clear HQa18
      have HQb19 := Lib.hid ((HQb18.out).gr g19)
      clear HQb18
      have HQc19 := Lib.hid ((HQc18.out).gr g19)
      clear HQc18
      have HU19 := Lib.hid ((HU18.out).gr g19)
      clear HU18
      have HV19 := Lib.hid ((HV18.out).gr g19)
      clear HV18
      have HWw19 := Lib.hid ((HWw18.out).gr g19)
      clear HWw18
      clear G18
      clear g19
      go_wp2_with fail
      refine (mequal (HP19.out) (HQc19.out)).mono ?_
      rintro e v20 ⟨rfl, g20⟩
      have G20 := (G19).trans g20
      have HX20 := Lib.hid ((HX19.out).gr g20)
      clear HX19
      have HY20 := Lib.hid ((HY19.out).gr g20)
      clear HY19
      have HZ20 := Lib.hid ((HZ19.out).gr g20)
      clear HZ19
      have HXy20 := Lib.hid ((HXy19.out).gr g20)
      clear HXy19
      have HYx20 := Lib.hid ((HYx19.out).gr g20)
      clear HYx19
      have HL20 := Lib.hid ((HL19.out).gr g20)
      clear HL19
      have HYz20 := Lib.hid ((HYz19.out).gr g20)
      clear HYz19
      have HR20 := Lib.hid ((HR19.out).gr g20)
      clear HR19
      have HP20 := Lib.hid ((HP19.out).gr g20)
      clear HP19
      have HQa20 := Lib.hid ((HQa19.out).gr g20)
      clear HQa19
      have HQb20 := Lib.hid ((HQb19.out).gr g20)
      clear HQb19
      have HQc20 := Lib.hid ((HQc19.out).gr g20)
      clear HQc19
      have HU20 := Lib.hid ((HU19.out).gr g20)
      clear HU19
      have HV20 := Lib.hid ((HV19.out).gr g20)
      clear HV19
      have HWw20 := Lib.hid ((HWw19.out).gr g20)
      clear HWw19
      clear G19
      clear g20
      go_wp2_with fail
      refine (mequal (HU20.out) (HX20.out)).mono ?_
      rintro e v21 ⟨rfl, g21⟩
      have G21 := (G20).trans g21
      have HX21 := Lib.hid ((HX20.out).gr g21)
      clear HX20
      have HY21 := Lib.hid ((HY20.out).gr g21)
      clear HY20
      have HZ21 := Lib.hid ((HZ20.out).gr g21)
      clear HZ20
      have HXy21 := Lib.hid ((HXy20.out).gr g21)
      clear HXy20
      have HYx21 := Lib.hid ((HYx20.out).gr g21)
      clear HYx20
      have HL21 := Lib.hid ((HL20.out).gr g21)
      clear HL20
      have HYz21 := Lib.hid ((HYz20.out).gr g21)
      clear HYz20
      have HR21 := Lib.hid ((HR20.out).gr g21)
      clear HR20
      have HP21 := Lib.hid ((HP20.out).gr g21)
      clear HP20
      have HQa21 := Lib.hid ((HQa20.out).gr g21)
      clear HQa20
      have HQb21 := Lib.hid ((HQb20.out).gr g21)
      clear HQb20
      have HQc21 := Lib.hid ((HQc20.out).gr g21)
      clear HQc20
      have HU21 := Lib.hid ((HU20.out).gr g21)
      clear HU20
      have HV21 := Lib.hid ((HV20.out).gr g21)
      clear HV20
      have HWw21 := Lib.hid ((HWw20.out).gr g21)
      clear HWw20
      clear G20
      clear g21
      go_wp2_with fail
      refine (mequal (HV21.out) (HX21.out)).mono ?_
      rintro e v22 ⟨rfl, g22⟩
      have G22 := (G21).trans g22
      have HX22 := Lib.hid ((HX21.out).gr g22)
      clear HX21
      have HY22 := Lib.hid ((HY21.out).gr g22)
      clear HY21
      have HZ22 := Lib.hid ((HZ21.out).gr g22)
      clear HZ21
      have HXy22 := Lib.hid ((HXy21.out).gr g22)
      clear HXy21
      have HYx22 := Lib.hid ((HYx21.out).gr g22)
      clear HYx21
      have HL22 := Lib.hid ((HL21.out).gr g22)
      clear HL21
      have HYz22 := Lib.hid ((HYz21.out).gr g22)
      clear HYz21
      have HR22 := Lib.hid ((HR21.out).gr g22)
      clear HR21
      have HP22 := Lib.hid ((HP21.out).gr g22)
      clear HP21
      have HQa22 := Lib.hid ((HQa21.out).gr g22)
      clear HQa21
      have HQb22 := Lib.hid ((HQb21.out).gr g22)
      clear HQb21
      have HQc22 := Lib.hid ((HQc21.out).gr g22)
      clear HQc21
      have HU22 := Lib.hid ((HU21.out).gr g22)
      clear HU21
      have HV22 := Lib.hid ((HV21.out).gr g22)
      clear HV21
      have HWw22 := Lib.hid ((HWw21.out).gr g22)
      clear HWw21
      clear G21
      clear g22
      go_wp2_with fail
      refine (mequal (HWw22.out) (HX22.out)).mono ?_
      rintro e v23 ⟨rfl, g23⟩
      have G23 := (G22).trans g23
      have HX23 := Lib.hid ((HX22.out).gr g23)
      clear HX22
      have HY23 := Lib.hid ((HY22.out).gr g23)
      clear HY22
      have HZ23 := Lib.hid ((HZ22.out).gr g23)
      clear HZ22
      have HXy23 := Lib.hid ((HXy22.out).gr g23)
      clear HXy22
      have HYx23 := Lib.hid ((HYx22.out).gr g23)
      clear HYx22
      have HL23 := Lib.hid ((HL22.out).gr g23)
      clear HL22
      have HYz23 := Lib.hid ((HYz22.out).gr g23)
      clear HYz22
      have HR23 := Lib.hid ((HR22.out).gr g23)
      clear HR22
      have HP23 := Lib.hid ((HP22.out).gr g23)
      clear HP22
      have HQa23 := Lib.hid ((HQa22.out).gr g23)
      clear HQa22
      have HQb23 := Lib.hid ((HQb22.out).gr g23)
      clear HQb22
      have HQc23 := Lib.hid ((HQc22.out).gr g23)
      clear HQc22
      have HU23 := Lib.hid ((HU22.out).gr g23)
      clear HU22
      have HV23 := Lib.hid ((HV22.out).gr g23)
      clear HV22
      have HWw23 := Lib.hid ((HWw22.out).gr g23)
      clear HWw22
      clear G22
      clear g23
      go_wp2_with fail
      go_ret
      exact ⟨rfl, G23⟩
end Go.Proofs.Ytkdhfpdpbledcaa
