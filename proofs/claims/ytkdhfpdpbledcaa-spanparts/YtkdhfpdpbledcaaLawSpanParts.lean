/- The walk of SpanParts. -/
import Derived.Test.YtkdhfpdpbledcaaMaskM
namespace Go.Proofs.Ytkdhfpdpbledcaa
open Go.RowKit Rm
set_option linter.unusedVariables false

theorem canon518 : canon 518 = [(1, 3), (9, 10)] := by decide +kernel
theorem canon0 : canon 0 = [] := by decide +kernel
theorem pop518 : popc 518 = 3 := by decide +kernel

set_option maxHeartbeats 4000000 in
set_option maxRecDepth 100000 in
theorem spanParts_walk (a0 : Int) (w0 : (Lit.int .u32 a0).wf = true) (a1 : Int) (w1 : (Lit.int .u32 a1).wf = true) (w : World) :
    Calls Try.prog 13 #[.int .u32 a0, .int .u32 a1] w fun e w' => e = .returned (.bool true) ∧ Gr w w' := by
  obtain ⟨A, rfl, hA⟩ := of_u32 w0
  obtain ⟨B, rfl, hB⟩ := of_u32 w1
  clear w0 w1
  have HA := Lib.hid hA
  have HB := Lib.hid hB
  clear hA hB
  have pc := pop518
  go_enter Try.func13, Try.ntmps13
  go_wp2_with fail
  refine (mcount (lit2 w 1 3 9 10 33 518 canon518 (by decide))).mono ?_
  rintro e v1 ⟨rfl, g1⟩
  have G1 := ((Gr.refl _).alloc _).trans g1
  clear g1
  go_wp2_with fail
  refine (mspans A _ HA.out).mono ?_
  rintro e v2 ⟨u2, rfl, h2, g2⟩
  have G2 := (G1).trans g2
  clear G1
  clear g2
  have HX2 := Lib.hid h2
  clear h2
  clear pc
  go_wp2_with fail
  refine (mspans B _ HB.out).mono ?_
  rintro e v3 ⟨u3, rfl, h3, g3⟩
  have G3 := (G2).trans g3
  have HX3 := Lib.hid ((HX2.out).gr g3)
  clear HX2
  clear G2
  clear g3
  have HY3 := Lib.hid h3
  clear h3
  go_wp2_with fail
  refine (mmeet (HX3.out) (HY3.out)).mono ?_
  rintro e v4 ⟨u4, rfl, h4, g4⟩
  have G4 := (G3).trans g4
  have HX4 := Lib.hid ((HX3.out).gr g4)
  clear HX3
  have HY4 := Lib.hid ((HY3.out).gr g4)
  clear HY3
  clear G3
  clear g4
  have HM4 := Lib.hid h4
  clear h4
  go_wp2_with fail
  refine (mless (HX4.out) (HY4.out)).mono ?_
  rintro e v5 ⟨u5, rfl, h5, g5⟩
  have G5 := (G4).trans g5
  have HX5 := Lib.hid ((HX4.out).gr g5)
  clear HX4
  have HY5 := Lib.hid ((HY4.out).gr g5)
  clear HY4
  have HM5 := Lib.hid ((HM4.out).gr g5)
  clear HM4
  clear G4
  clear g5
  have HL5 := Lib.hid h5
  clear h5
  go_wp2_with fail
  refine (mjoin (HM5.out) (HL5.out)).mono ?_
  rintro e v6 ⟨u6, rfl, h6, g6⟩
  have G6 := (G5).trans g6
  have HX6 := Lib.hid ((HX5.out).gr g6)
  clear HX5
  have HY6 := Lib.hid ((HY5.out).gr g6)
  clear HY5
  have HM6 := Lib.hid ((HM5.out).gr g6)
  clear HM5
  have HL6 := Lib.hid ((HL5.out).gr g6)
  clear HL5
  clear G5
  clear g6
  have HJ6 := Lib.hid h6
  clear h6
  go_wp2_with fail
  refine (mmeet (HM6.out) (HL6.out)).mono ?_
  rintro e v7 ⟨u7, rfl, h7, g7⟩
  have G7 := (G6).trans g7
  have HX7 := Lib.hid ((HX6.out).gr g7)
  clear HX6
  have HY7 := Lib.hid ((HY6.out).gr g7)
  clear HY6
  have HM7 := Lib.hid ((HM6.out).gr g7)
  clear HM6
  have HL7 := Lib.hid ((HL6.out).gr g7)
  clear HL6
  have HJ7 := Lib.hid ((HJ6.out).gr g7)
  clear HJ6
  clear G6
  clear g7
  have HN7 := Lib.hid h7
  clear h7
  have N0 := HN7.out
  rw [m_none HA.out HB.out] at N0
  obtain ⟨⟨na, nc, hn, -, -⟩, -⟩ := N0
  rw [canon0] at hn
  simp only [pairs, List.map_nil, List.length_nil] at hn
  subst hn
  clear HN7
  go_wp2_with fail
  refine (mcount (HM7.out)).mono ?_
  rintro e v8 ⟨rfl, g8⟩
  have G8 := (G7).trans g8
  have HX8 := Lib.hid ((HX7.out).gr g8)
  clear HX7
  have HY8 := Lib.hid ((HY7.out).gr g8)
  clear HY7
  have HM8 := Lib.hid ((HM7.out).gr g8)
  clear HM7
  have HL8 := Lib.hid ((HL7.out).gr g8)
  clear HL7
  have HJ8 := Lib.hid ((HJ7.out).gr g8)
  clear HJ7
  clear G7
  clear g8
  go_wp2_with fail
  refine (mcount (HL8.out)).mono ?_
  rintro e v9 ⟨rfl, g9⟩
  have G9 := (G8).trans g9
  have HX9 := Lib.hid ((HX8.out).gr g9)
  clear HX8
  have HY9 := Lib.hid ((HY8.out).gr g9)
  clear HY8
  have HM9 := Lib.hid ((HM8.out).gr g9)
  clear HM8
  have HL9 := Lib.hid ((HL8.out).gr g9)
  clear HL8
  have HJ9 := Lib.hid ((HJ8.out).gr g9)
  clear HJ8
  clear G8
  clear g9
  go_wp2_with fail
  refine (mcount (HX9.out)).mono ?_
  rintro e v10 ⟨rfl, g10⟩
  have G10 := (G9).trans g10
  have HX10 := Lib.hid ((HX9.out).gr g10)
  clear HX9
  have HY10 := Lib.hid ((HY9.out).gr g10)
  clear HY9
  have HM10 := Lib.hid ((HM9.out).gr g10)
  clear HM9
  have HL10 := Lib.hid ((HL9.out).gr g10)
  clear HL9
  have HJ10 := Lib.hid ((HJ9.out).gr g10)
  clear HJ9
  clear G9
  clear g10
  have hp : ((popc (A &&& B) : Nat) : Int) + ((popc (lessM A B) : Nat) : Int) = ((popc A : Nat) : Int) := by
    have := popTo_parts HA.out HB.out 32
    unfold popc
    omega
  have hp' : (((popc (A &&& B) : Nat) : Int) + ((popc (lessM A B) : Nat) : Int) == ((popc A : Nat) : Int)) = true := by simpa using hp
  have hp1 : ((popc (A &&& B) : Nat) : Int) ≤ 32 := by have := popc_le (A &&& B); omega
  have hp2 : ((popc (lessM A B) : Nat) : Int) ≤ 32 := by have := popc_le (lessM A B); omega
  clear hp
  have hq := eqM_true (m_whole HA.out HB.out)
  go_wp2_with fail
  have HZ : Hid (∀ k, k < 7 → (v10.alloc (.cells #[.int .i64 0, .int .i64 0, .int .i64 0, .int .i64 0, .int .i64 0, .int .i64 0, .int .i64 0] 24)).cell? ⟨v10.heap.size, k, none⟩ = some (.int .i64 0)) := fun k hk => zeros_at v10 7 _ k hk
  have GW := (G10).alloc (.cells #[.int .i64 0, .int .i64 0, .int .i64 0, .int .i64 0, .int .i64 0, .int .i64 0, .int .i64 0] 24)
  have HXW := Lib.hid (HX10.out.alloc (.cells #[.int .i64 0, .int .i64 0, .int .i64 0, .int .i64 0, .int .i64 0, .int .i64 0, .int .i64 0] 24))
  clear HX10
  have HYW := Lib.hid (HY10.out.alloc (.cells #[.int .i64 0, .int .i64 0, .int .i64 0, .int .i64 0, .int .i64 0, .int .i64 0, .int .i64 0] 24))
  clear HY10
  have HMW := Lib.hid (HM10.out.alloc (.cells #[.int .i64 0, .int .i64 0, .int .i64 0, .int .i64 0, .int .i64 0, .int .i64 0, .int .i64 0] 24))
  clear HM10
  have HLW := Lib.hid (HL10.out.alloc (.cells #[.int .i64 0, .int .i64 0, .int .i64 0, .int .i64 0, .int .i64 0, .int .i64 0, .int .i64 0] 24))
  clear HL10
  have HJW := Lib.hid (HJ10.out.alloc (.cells #[.int .i64 0, .int .i64 0, .int .i64 0, .int .i64 0, .int .i64 0, .int .i64 0, .int .i64 0] 24))
  clear HJ10
  clear G10
  generalize v10.alloc (.cells #[.int .i64 0, .int .i64 0, .int .i64 0, .int .i64 0, .int .i64 0, .int .i64 0, .int .i64 0] 24) = W at *
  generalize v10.heap.size = BW at *
  go_loop [90] (fun i => ∃ k : Nat, k ≤ 7 ∧ i = .int .i64 k) (fun i => 7 - (intOf i).toNat)
  case atStart => exact ⟨0, by omega, rfl⟩
  case round =>
    obtain ⟨k, hk, rfl⟩ := hrel
    by_cases hlt : k < 7
    · have hz := HZ.out k hlt
      go_wp2
      go_round
      case rel => exact ⟨k + 1, by omega, by go_num⟩
      case measure => simp [intOf]; omega
    · obtain rfl : k = 7 := by omega
      go_wp2_with fail
      refine (mequal (HJW.out) (HXW.out)).mono ?_
      rintro e v11 ⟨rfl, g11⟩
      have G11 := (GW).trans g11
      have HX11 := Lib.hid ((HXW.out).gr g11)
      clear HXW
      have HY11 := Lib.hid ((HYW.out).gr g11)
      clear HYW
      have HM11 := Lib.hid ((HMW.out).gr g11)
      clear HMW
      have HL11 := Lib.hid ((HLW.out).gr g11)
      clear HLW
      have HJ11 := Lib.hid ((HJW.out).gr g11)
      clear HJW
      clear GW
      clear g11
      go_wp2_with fail
      go_ret
      exact ⟨rfl, G11⟩
end Go.Proofs.Ytkdhfpdpbledcaa
