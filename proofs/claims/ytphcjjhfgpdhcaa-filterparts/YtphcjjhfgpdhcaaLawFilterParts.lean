/- The walk of FilterParts. -/
import Derived.Test.YtphcjjhfgpdhcaaFilR
namespace Go.Proofs.Ytphcjjhfgpdhcaa
open Go.RowKit Rm
set_option linter.unusedVariables false

set_option maxHeartbeats 4000000 in
set_option maxRecDepth 100000 in
theorem filterParts_bad (f g : Value) (lf lg : List BoxI) (w : World) (rf : RdF w f lf) (rg : RdF w g lg) (hc : (chkF2 lf lg == 0) = false) :
    Calls Try.prog 10 #[f, g] w fun e w' => e = .returned (.bool true) ∧ Gr w w' := by
  have hc' := bne_of' hc
  have HF0 := Lib.hid rf
  have HG0 := Lib.hid rg
  have HC := Lib.hid hc
  clear rf rg hc
  go_enter Try.func10, Try.ntmps10
  go_wp2_with fail
  refine (begun_any _).mono ?_
  rintro e v1 ⟨rfl, g1⟩
  have G1 := (Gr.refl _).trans g1
  have HF1 := Lib.hid ((HF0.out).gr g1)
  clear HF0
  have HG1 := Lib.hid ((HG0.out).gr g1)
  clear HG0
  clear g1
  go_wp2_with fail
  refine (fmeet_bad (HF1.out) (HG1.out) HC.out).mono ?_
  rintro e v2 ⟨ja, jc, rfl, g2⟩
  have G2 := (G1).trans g2
  have HF2 := Lib.hid ((HF1.out).gr g2)
  clear HF1
  have HG2 := Lib.hid ((HG1.out).gr g2)
  clear HG1
  clear G1
  clear g2
  go_wp2_with fail
  go_ret
  exact ⟨rfl, G2⟩

set_option maxHeartbeats 4000000 in
set_option maxRecDepth 100000 in
theorem filterParts_ok (f g : Value) (T U : Nat → Nat) (w : World) (hT : OkT T) (hU : OkT U) (rf : FS w f T) (rg : FS w g U) :
    Calls Try.prog 10 #[f, g] w fun e w' => e = .returned (.bool true) ∧ Gr w w' := by
  have Q1 := Lib.hid (sameT_of (T := fun t => (T t &&& U t) ||| lessM (T t) (U t)) (U := T) (fun t ht => m_whole (hT t ht) (hU t ht)))
  have Q2 : Hid (cntT (fun t => (T t &&& U t) &&& lessM (T t) (U t)) = 0) := cntTo_zero 16 (fun t ht => m_none (hT t ht) (hU t ht))
  have Q3 := Lib.hid (same_within hT hU)
  have Q4 := Lib.hid (cnt_none (U := U) hT)
  have Q5 := Lib.hid (cnt_none (U := T) hU)
  have HF0 := Lib.hid rf
  have HG0 := Lib.hid rg
  have HT := Lib.hid hT
  have HU := Lib.hid hU
  clear rf rg hT hU
  go_enter Try.func10, Try.ntmps10
  go_wp2_with fail
  refine (begun_any _).mono ?_
  rintro e v1 ⟨rfl, g1⟩
  have G1 := (Gr.refl _).trans g1
  have HF1 := Lib.hid ((HF0.out).gr g1)
  clear HF0
  have HG1 := Lib.hid ((HG0.out).gr g1)
  clear HG0
  clear g1
  go_wp2_with fail
  refine (fmeet_ok (HF1.out) (HG1.out)).mono ?_
  rintro e v2 ⟨u2, rfl, h2, g2⟩
  have G2 := (G1).trans g2
  have HF2 := Lib.hid ((HF1.out).gr g2)
  clear HF1
  have HG2 := Lib.hid ((HG1.out).gr g2)
  clear HG1
  clear G1
  clear g2
  have HM2 := Lib.hid (h2.le (m := 40) (by omega))
  clear h2
  go_wp2_with fail
  refine (fless_ok (HF2.out) (HG2.out)).mono ?_
  rintro e v3 ⟨u3, rfl, h3, g3⟩
  have G3 := (G2).trans g3
  have HF3 := Lib.hid ((HF2.out).gr g3)
  clear HF2
  have HG3 := Lib.hid ((HG2.out).gr g3)
  clear HG2
  have HM3 := Lib.hid ((HM2.out).gr g3)
  clear HM2
  clear G2
  clear g3
  have HL3 := Lib.hid (h3.le (m := 40) (by omega))
  clear h3
  go_wp2_with fail
  refine (fless_ok (HG3.out) (HF3.out)).mono ?_
  rintro e v4 ⟨u4, rfl, h4, g4⟩
  have G4 := (G3).trans g4
  have HF4 := Lib.hid ((HF3.out).gr g4)
  clear HF3
  have HG4 := Lib.hid ((HG3.out).gr g4)
  clear HG3
  have HM4 := Lib.hid ((HM3.out).gr g4)
  clear HM3
  have HL4 := Lib.hid ((HL3.out).gr g4)
  clear HL3
  clear G3
  clear g4
  have HK4 := Lib.hid (h4.le (m := 40) (by omega))
  clear h4
  go_wp2_with fail
  refine (fjoin_ok (HM4.out) (HL4.out)).mono ?_
  rintro e v5 ⟨u5, rfl, h5, g5⟩
  have G5 := (G4).trans g5
  have HF5 := Lib.hid ((HF4.out).gr g5)
  clear HF4
  have HG5 := Lib.hid ((HG4.out).gr g5)
  clear HG4
  have HM5 := Lib.hid ((HM4.out).gr g5)
  clear HM4
  have HL5 := Lib.hid ((HL4.out).gr g5)
  clear HL4
  have HK5 := Lib.hid ((HK4.out).gr g5)
  clear HK4
  clear G4
  clear g5
  have HJ5 := Lib.hid (h5.le (m := 40) (by omega))
  clear h5
  go_wp2_with fail
  refine (fmeet_ok (HM5.out) (HL5.out)).mono ?_
  rintro e v6 ⟨u6, rfl, h6, g6⟩
  have G6 := (G5).trans g6
  have HF6 := Lib.hid ((HF5.out).gr g6)
  clear HF5
  have HG6 := Lib.hid ((HG5.out).gr g6)
  clear HG5
  have HM6 := Lib.hid ((HM5.out).gr g6)
  clear HM5
  have HL6 := Lib.hid ((HL5.out).gr g6)
  clear HL5
  have HK6 := Lib.hid ((HK5.out).gr g6)
  clear HK5
  have HJ6 := Lib.hid ((HJ5.out).gr g6)
  clear HJ5
  clear G5
  clear g6
  have HN6 := Lib.hid (h6.le (m := 40) (by omega))
  clear h6
  go_wp2_with fail
  refine (fcount_ok (HN6.out)).mono ?_
  rw [Q2.out]
  rintro e v7 ⟨rfl, g7⟩
  have G7 := (G6).trans g7
  have HF7 := Lib.hid ((HF6.out).gr g7)
  clear HF6
  have HG7 := Lib.hid ((HG6.out).gr g7)
  clear HG6
  have HM7 := Lib.hid ((HM6.out).gr g7)
  clear HM6
  have HL7 := Lib.hid ((HL6.out).gr g7)
  clear HL6
  have HK7 := Lib.hid ((HK6.out).gr g7)
  clear HK6
  have HJ7 := Lib.hid ((HJ6.out).gr g7)
  clear HJ6
  have HN7 := Lib.hid ((HN6.out).gr g7)
  clear HN6
  clear G6
  clear g7
  go_wp2_with fail
  refine (fcount_ok (HL7.out)).mono ?_
  rintro e v8 ⟨rfl, g8⟩
  have G8 := (G7).trans g8
  have HF8 := Lib.hid ((HF7.out).gr g8)
  clear HF7
  have HG8 := Lib.hid ((HG7.out).gr g8)
  clear HG7
  have HM8 := Lib.hid ((HM7.out).gr g8)
  clear HM7
  have HL8 := Lib.hid ((HL7.out).gr g8)
  clear HL7
  have HK8 := Lib.hid ((HK7.out).gr g8)
  clear HK7
  have HJ8 := Lib.hid ((HJ7.out).gr g8)
  clear HJ7
  have HN8 := Lib.hid ((HN7.out).gr g8)
  clear HN7
  clear G7
  clear g8
  go_wp2_with fail
  refine (fcount_ok (HK8.out)).mono ?_
  rintro e v9 ⟨rfl, g9⟩
  have G9 := (G8).trans g9
  have HF9 := Lib.hid ((HF8.out).gr g9)
  clear HF8
  have HG9 := Lib.hid ((HG8.out).gr g9)
  clear HG8
  have HM9 := Lib.hid ((HM8.out).gr g9)
  clear HM8
  have HL9 := Lib.hid ((HL8.out).gr g9)
  clear HL8
  have HK9 := Lib.hid ((HK8.out).gr g9)
  clear HK8
  have HJ9 := Lib.hid ((HJ8.out).gr g9)
  clear HJ8
  have HN9 := Lib.hid ((HN8.out).gr g9)
  clear HN8
  clear G8
  clear g9
  go_wp2_with fail
  have HZ : Hid (∀ k, k < 7 → (v9.alloc (.cells #[.int .i64 0, .int .i64 0, .int .i64 0, .int .i64 0, .int .i64 0, .int .i64 0, .int .i64 0] 25)).cell? ⟨v9.heap.size, k, none⟩ = some (.int .i64 0)) := fun k hk => zeros_at v9 7 _ k hk
  have GW := (G9).alloc (.cells #[.int .i64 0, .int .i64 0, .int .i64 0, .int .i64 0, .int .i64 0, .int .i64 0, .int .i64 0] 25)
  have HFW := Lib.hid (HF9.out.alloc (.cells #[.int .i64 0, .int .i64 0, .int .i64 0, .int .i64 0, .int .i64 0, .int .i64 0, .int .i64 0] 25))
  clear HF9
  have HGW := Lib.hid (HG9.out.alloc (.cells #[.int .i64 0, .int .i64 0, .int .i64 0, .int .i64 0, .int .i64 0, .int .i64 0, .int .i64 0] 25))
  clear HG9
  have HMW := Lib.hid (HM9.out.alloc (.cells #[.int .i64 0, .int .i64 0, .int .i64 0, .int .i64 0, .int .i64 0, .int .i64 0, .int .i64 0] 25))
  clear HM9
  have HLW := Lib.hid (HL9.out.alloc (.cells #[.int .i64 0, .int .i64 0, .int .i64 0, .int .i64 0, .int .i64 0, .int .i64 0, .int .i64 0] 25))
  clear HL9
  have HKW := Lib.hid (HK9.out.alloc (.cells #[.int .i64 0, .int .i64 0, .int .i64 0, .int .i64 0, .int .i64 0, .int .i64 0, .int .i64 0] 25))
  clear HK9
  have HJW := Lib.hid (HJ9.out.alloc (.cells #[.int .i64 0, .int .i64 0, .int .i64 0, .int .i64 0, .int .i64 0, .int .i64 0, .int .i64 0] 25))
  clear HJ9
  have HNW := Lib.hid (HN9.out.alloc (.cells #[.int .i64 0, .int .i64 0, .int .i64 0, .int .i64 0, .int .i64 0, .int .i64 0, .int .i64 0] 25))
  clear HN9
  clear G9
  generalize v9.alloc (.cells #[.int .i64 0, .int .i64 0, .int .i64 0, .int .i64 0, .int .i64 0, .int .i64 0, .int .i64 0] 25) = W at *
  generalize v9.heap.size = BW at *
  go_loop [84] (fun i => ∃ k : Nat, k ≤ 7 ∧ i = .int .i64 k) (fun i => 7 - (intOf i).toNat)
  case atStart => exact ⟨0, by omega, rfl⟩
  case round =>
    obtain ⟨k, hk, rfl⟩ := hrel
    by_cases hlt : k < 7
    · have hz := HZ.out k hlt
      go_wp2
      go_round
      case rel => exact ⟨k + 1, by omega, by go_num⟩
      case measure => simp [intOf]; omega
    · obtain rfl : k = 7 := by omega
      have hA := Q4.out
      have hB := Q5.out
      have hS := Q3.out
      clear Q2 Q3 Q4 Q5
      generalize cntT (fun t => lessM (T t) (U t)) = na at *
      generalize cntT (fun t => lessM (U t) (T t)) = nb at *
      generalize withinT T U = b1 at *
      generalize withinT U T = b2 at *
      generalize hE : sameT T U = b3 at *
      have HE := Lib.hid hE
      clear hE
      subst hS
      go_wp2_with fail
      refine (same_any (HJW.out) (HFW.out)).mono ?_
      rw [Q1.out]
      rintro e v10 ⟨rfl, g10⟩
      have G10 := (GW).trans g10
      have HF10 := Lib.hid ((HFW.out).gr g10)
      clear HFW
      have HG10 := Lib.hid ((HGW.out).gr g10)
      clear HGW
      have HM10 := Lib.hid ((HMW.out).gr g10)
      clear HMW
      have HL10 := Lib.hid ((HLW.out).gr g10)
      clear HLW
      have HK10 := Lib.hid ((HKW.out).gr g10)
      clear HKW
      have HJ10 := Lib.hid ((HJW.out).gr g10)
      clear HJW
      have HN10 := Lib.hid ((HNW.out).gr g10)
      clear HNW
      clear GW
      clear g10
      cases b1
      · go_wp2_with fail
        refine (same_any (HF10.out) (HG10.out)).mono ?_
        rw [HE.out]
        rintro e v11 ⟨rfl, g11⟩
        have G11 := (G10).trans g11
        have HF11 := Lib.hid ((HF10.out).gr g11)
        clear HF10
        have HG11 := Lib.hid ((HG10.out).gr g11)
        clear HG10
        have HM11 := Lib.hid ((HM10.out).gr g11)
        clear HM10
        have HL11 := Lib.hid ((HL10.out).gr g11)
        clear HL10
        have HK11 := Lib.hid ((HK10.out).gr g11)
        clear HK10
        have HJ11 := Lib.hid ((HJ10.out).gr g11)
        clear HJ10
        have HN11 := Lib.hid ((HN10.out).gr g11)
        clear HN10
        clear G10
        clear g11
        go_wp2_with fail
        go_ret
        exact ⟨rfl, G11⟩
      · cases b2
        · go_wp2_with fail
          refine (same_any (HF10.out) (HG10.out)).mono ?_
          rw [HE.out]
          rintro e v11 ⟨rfl, g11⟩
          have G11 := (G10).trans g11
          have HF11 := Lib.hid ((HF10.out).gr g11)
          clear HF10
          have HG11 := Lib.hid ((HG10.out).gr g11)
          clear HG10
          have HM11 := Lib.hid ((HM10.out).gr g11)
          clear HM10
          have HL11 := Lib.hid ((HL10.out).gr g11)
          clear HL10
          have HK11 := Lib.hid ((HK10.out).gr g11)
          clear HK10
          have HJ11 := Lib.hid ((HJ10.out).gr g11)
          clear HJ10
          have HN11 := Lib.hid ((HN10.out).gr g11)
          clear HN10
          clear G10
          clear g11
          go_wp2_with fail
          go_ret
          exact ⟨rfl, G11⟩
        · go_wp2_with fail
          refine (same_any (HF10.out) (HG10.out)).mono ?_
          rw [HE.out]
          rintro e v11 ⟨rfl, g11⟩
          have G11 := (G10).trans g11
          have HF11 := Lib.hid ((HF10.out).gr g11)
          clear HF10
          have HG11 := Lib.hid ((HG10.out).gr g11)
          clear HG10
          have HM11 := Lib.hid ((HM10.out).gr g11)
          clear HM10
          have HL11 := Lib.hid ((HL10.out).gr g11)
          clear HL10
          have HK11 := Lib.hid ((HK10.out).gr g11)
          clear HK10
          have HJ11 := Lib.hid ((HJ10.out).gr g11)
          clear HJ10
          have HN11 := Lib.hid ((HN10.out).gr g11)
          clear HN10
          clear G10
          clear g11
          go_wp2_with fail
          go_ret
          exact ⟨rfl, G11⟩

theorem filterParts_walk (f : Value) (lf : List BoxI) (g : Value) (lg : List BoxI) (w : World) (rf : RdF w f lf) (rg : RdF w g lg) :
    Calls Try.prog 10 #[f, g] w fun e w' => e = .returned (.bool true) ∧ Gr w w' := by
  cases hc : (chkF2 lf lg == 0)
  · exact filterParts_bad f g lf lg w rf rg hc
  · obtain ⟨T, U, a, b, c, d⟩ := fs2_of rf rg hc
    exact filterParts_ok f g T U w c d a b
end Go.Proofs.Ytphcjjhfgpdhcaa
