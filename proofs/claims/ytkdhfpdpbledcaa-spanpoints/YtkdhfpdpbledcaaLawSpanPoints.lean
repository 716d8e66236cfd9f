/- The walk of SpanPoints. -/
import Derived.Test.YtkdhfpdpbledcaaSpanI
namespace Rm
theorem bitB_or (a b : Nat) (n : Int) : Go.Proofs.Ytkdhfpdpbledcaa.bitB (a ||| b) n = (Go.Proofs.Ytkdhfpdpbledcaa.bitB a n || Go.Proofs.Ytkdhfpdpbledcaa.bitB b n) := by
  unfold Go.Proofs.Ytkdhfpdpbledcaa.bitB
  rw [Nat.testBit_or]
  cases numB n <;> simp
theorem bitB_and (a b : Nat) (n : Int) : Go.Proofs.Ytkdhfpdpbledcaa.bitB (a &&& b) n = (Go.Proofs.Ytkdhfpdpbledcaa.bitB a n && Go.Proofs.Ytkdhfpdpbledcaa.bitB b n) := by
  unfold Go.Proofs.Ytkdhfpdpbledcaa.bitB
  rw [Nat.testBit_and]
  cases numB n <;> simp
theorem bitB_less (a b : Nat) (n : Int) (ha : a < 2 ^ 32) (hb : b < 2 ^ 32) : Go.Proofs.Ytkdhfpdpbledcaa.bitB (lessM a b) n = (Go.Proofs.Ytkdhfpdpbledcaa.bitB a n && !Go.Proofs.Ytkdhfpdpbledcaa.bitB b n) := by
  unfold Go.Proofs.Ytkdhfpdpbledcaa.bitB
  rw [lessM_bit a b _ hb ha]
  cases numB n <;> simp
end Rm
namespace Go.Proofs.Ytkdhfpdpbledcaa
open Go.RowKit Rm
set_option linter.unusedVariables false

theorem canon6 : canon 6 = [(1, 3)] := by decide +kernel
theorem bit62 : bitB 6 2 = true := by decide +kernel

set_option maxHeartbeats 2000000 in
set_option maxRecDepth 100000 in
theorem spanPoints_walk (a0 : Int) (w0 : (Lit.int .u32 a0).wf = true) (a1 : Int) (w1 : (Lit.int .u32 a1).wf = true) (a2 : Int) (w2 : (Lit.int .i64 a2).wf = true) (w : World) :
    Calls Try.prog 12 #[.int .u32 a0, .int .u32 a1, .int .i64 a2] w fun e w' => e = .returned (.bool true) ∧ Gr w w' := by
  clear w2
  obtain ⟨A, rfl, hA⟩ := of_u32 w0
  obtain ⟨B, rfl, hB⟩ := of_u32 w1
  clear w0 w1
  have HA := Lib.hid hA
  have HB := Lib.hid hB
  clear hA hB
  have b62 := bit62
  go_enter Try.func12, Try.ntmps12
  go_wp2_with fail
  refine (mhas (lit1 w 1 3 33 6 canon6 (by decide)) 2).mono ?_
  rintro e v1 ⟨rfl, g1⟩
  have G1 := ((Gr.refl _).alloc _).trans g1
  clear g1
  go_wp2_with fail
  refine (mspans A _ HA.out).mono ?_
  rintro e v2 ⟨u2, rfl, h2, g2⟩
  have G2 := (G1).trans g2
  clear G1
  clear g2
  have HX2 := Lib.hid h2
  clear h2
  clear b62
  go_wp2_with fail
  refine (mspans B _ HB.out).mono ?_
  rintro e v3 ⟨u3, rfl, h3, g3⟩
  have G3 := (G2).trans g3
  have HX3 := Lib.hid ((HX2.out).gr g3)
  clear HX2
  clear G2
  clear g3
  have HY3 := Lib.hid h3
  clear h3
  go_wp2_with fail
  refine (mjoin (HX3.out) (HY3.out)).mono ?_
  rintro e v4 ⟨u4, rfl, h4, g4⟩
  have G4 := (G3).trans g4
  have HX4 := Lib.hid ((HX3.out).gr g4)
  clear HX3
  have HY4 := Lib.hid ((HY3.out).gr g4)
  clear HY3
  clear G3
  clear g4
  have HJ4 := Lib.hid h4
  clear h4
  go_wp2_with fail
  refine (mmeet (HX4.out) (HY4.out)).mono ?_
  rintro e v5 ⟨u5, rfl, h5, g5⟩
  have G5 := (G4).trans g5
  have HX5 := Lib.hid ((HX4.out).gr g5)
  clear HX4
  have HY5 := Lib.hid ((HY4.out).gr g5)
  clear HY4
  have HJ5 := Lib.hid ((HJ4.out).gr g5)
  clear HJ4
  clear G4
  clear g5
  have HM5 := Lib.hid h5
  clear h5
  go_wp2_with fail
  refine (mless (HX5.out) (HY5.out)).mono ?_
  rintro e v6 ⟨u6, rfl, h6, g6⟩
  have G6 := (G5).trans g6
  have HX6 := Lib.hid ((HX5.out).gr g6)
  clear HX5
  have HY6 := Lib.hid ((HY5.out).gr g6)
  clear HY5
  have HJ6 := Lib.hid ((HJ5.out).gr g6)
  clear HJ5
  have HM6 := Lib.hid ((HM5.out).gr g6)
  clear HM5
  clear G5
  clear g6
  have HL6 := Lib.hid h6
  clear h6
  go_wp2_with fail
  refine (mhas (HX6.out) a2).mono ?_
  rintro e v7 ⟨rfl, g7⟩
  have G7 := (G6).trans g7
  have HX7 := Lib.hid ((HX6.out).gr g7)
  clear HX6
  have HY7 := Lib.hid ((HY6.out).gr g7)
  clear HY6
  have HJ7 := Lib.hid ((HJ6.out).gr g7)
  clear HJ6
  have HM7 := Lib.hid ((HM6.out).gr g7)
  clear HM6
  have HL7 := Lib.hid ((HL6.out).gr g7)
  clear HL6
  clear G6
  clear g7
  go_wp2_with fail
  refine (mhas (HY7.out) a2).mono ?_
  rintro e v8 ⟨rfl, g8⟩
  have G8 := (G7).trans g8
  have HX8 := Lib.hid ((HX7.out).gr g8)
  clear HX7
  have HY8 := Lib.hid ((HY7.out).gr g8)
  clear HY7
  have HJ8 := Lib.hid ((HJ7.out).gr g8)
  clear HJ7
  have HM8 := Lib.hid ((HM7.out).gr g8)
  clear HM7
  have HL8 := Lib.hid ((HL7.out).gr g8)
  clear HL7
  clear G7
  clear g8
  go_wp2_with fail
  refine (mhas (HJ8.out) a2).mono ?_
  rintro e v9 ⟨rfl, g9⟩
  have G9 := (G8).trans g9
  have HX9 := Lib.hid ((HX8.out).gr g9)
  clear HX8
  have HY9 := Lib.hid ((HY8.out).gr g9)
  clear HY8
  have HJ9 := Lib.hid ((HJ8.out).gr g9)
  clear HJ8
  have HM9 := Lib.hid ((HM8.out).gr g9)
  clear HM8
  have HL9 := Lib.hid ((HL8.out).gr g9)
  clear HL8
  clear G8
  clear g9
  go_wp2_with fail
  refine (mhas (HM9.out) a2).mono ?_
  rintro e v10 ⟨rfl, g10⟩
  have G10 := (G9).trans g10
  have HX10 := Lib.hid ((HX9.out).gr g10)
  clear HX9
  have HY10 := Lib.hid ((HY9.out).gr g10)
  clear HY9
  have HJ10 := Lib.hid ((HJ9.out).gr g10)
  clear HJ9
  have HM10 := Lib.hid ((HM9.out).gr g10)
  clear HM9
  have HL10 := Lib.hid ((HL9.out).gr g10)
  clear HL9
  clear G9
  clear g10
  go_wp2_with fail
  refine (mhas (HL10.out) a2).mono ?_
  rintro e v11 ⟨rfl, g11⟩
  have G11 := (G10).trans g11
  have HX11 := Lib.hid ((HX10.out).gr g11)
  clear HX10
  have HY11 := Lib.hid ((HY10.out).gr g11)
  clear HY10
  have HJ11 := Lib.hid ((HJ10.out).gr g11)
  clear HJ10
  have HM11 := Lib.hid ((HM10.out).gr g11)
  clear HM10
  have HL11 := Lib.hid ((HL10.out).gr g11)
  clear HL10
  clear G10
  clear g11
  go_wp2_with fail
  have HZ : Hid (∀ k, k < 8 → (v11.alloc (.cells #[.int .i64 0, .int .i64 0, .int .i64 0, .int .i64 0, .int .i64 0, .int .i64 0, .int .i64 0, .int .i64 0] 24)).cell? ⟨v11.heap.size, k, none⟩ = some (.int .i64 0)) := fun k hk => zeros_at v11 8 _ k hk
  have GW := (G11).alloc (.cells #[.int .i64 0, .int .i64 0, .int .i64 0, .int .i64 0, .int .i64 0, .int .i64 0, .int .i64 0, .int .i64 0] 24)
  have HXW := Lib.hid (HX11.out.alloc (.cells #[.int .i64 0, .int .i64 0, .int .i64 0, .int .i64 0, .int .i64 0, .int .i64 0, .int .i64 0, .int .i64 0] 24))
  clear HX11
  have HYW := Lib.hid (HY11.out.alloc (.cells #[.int .i64 0, .int .i64 0, .int .i64 0, .int .i64 0, .int .i64 0, .int .i64 0, .int .i64 0, .int .i64 0] 24))
  clear HY11
  have HJW := Lib.hid (HJ11.out.alloc (.cells #[.int .i64 0, .int .i64 0, .int .i64 0, .int .i64 0, .int .i64 0, .int .i64 0, .int .i64 0, .int .i64 0] 24))
  clear HJ11
  have HMW := Lib.hid (HM11.out.alloc (.cells #[.int .i64 0, .int .i64 0, .int .i64 0, .int .i64 0, .int .i64 0, .int .i64 0, .int .i64 0, .int .i64 0] 24))
  clear HM11
  have HLW := Lib.hid (HL11.out.alloc (.cells #[.int .i64 0, .int .i64 0, .int .i64 0, .int .i64 0, .int .i64 0, .int .i64 0, .int .i64 0, .int .i64 0] 24))
  clear HL11
  clear G11
  generalize v11.alloc (.cells #[.int .i64 0, .int .i64 0, .int .i64 0, .int .i64 0, .int .i64 0, .int .i64 0, .int .i64 0, .int .i64 0] 24) = W at *
  generalize v11.heap.size = BW at *
  go_loop [103] (fun i => ∃ k : Nat, k ≤ 8 ∧ i = .int .i64 k) (fun i => 8 - (intOf i).toNat)
  case atStart => exact ⟨0, by omega, rfl⟩
  case round =>
    obtain ⟨k, hk, rfl⟩ := hrel
    by_cases hlt : k < 8
    · have hz := HZ.out k hlt
      go_wp2
      go_round
      case rel => exact ⟨k + 1, by omega, by go_num⟩
      case measure => simp [intOf]; omega
    · obtain rfl : k = 8 := by omega
      rw [bitB_or, bitB_and, bitB_less _ _ _ HA.out HB.out]
      have hpq : numB a2 = false → bitB A a2 = false ∧ bitB B a2 = false := by
        intro h; simp [bitB, h]
      generalize bitB A a2 = p at *
      generalize bitB B a2 = q at *
      by_cases q1 : 0 ≤ a2
      · by_cases q2 : a2 < 32
        · clear hpq
          cases p <;> cases q
          all_goals
            go_wp2
            go_ret
            exact ⟨rfl, GW⟩
        · obtain ⟨rfl, rfl⟩ := hpq (by simp [numB]; omega)
          clear hpq
          go_wp2
          go_ret
          exact ⟨rfl, GW⟩
      · obtain ⟨rfl, rfl⟩ := hpq (by simp [numB]; omega)
        clear hpq
        go_wp2
        go_ret
        exact ⟨rfl, GW⟩
end Go.Proofs.Ytkdhfpdpbledcaa
