/- The walk of CubeSays: both cubes are valid: apart, big. -/
import Derived.Test.YtkdhfpdpbledcaaSaysBad
import Derived.Test.YtkdhfpdpbledcaaSaysM
import Derived.LoopTactic
namespace Go.Proofs.Ytkdhfpdpbledcaa
open Go.RowKit Rm
set_option linter.unusedVariables false

set_option maxHeartbeats 8000000 in
set_option maxRecDepth 100000 in
theorem cubeSays_apart_big (y n : Nat) (vx : Vld y n) (y' n' : Nat) (vy : Vld y' n') (ha : apartB y n y' n' = true) (t : Int) (ht : 15 < t) (w : World) :
    Calls Try.prog 5 #[.agg #[.int .i64 y, .int .i64 n], .agg #[.int .i64 y', .int .i64 n'], .int .i64 t] w fun e w' => e = .returned (.bool true) ∧ Gr w w' := by
  have h1 := vx.chk
  have lf := lit_form
  have h2 := vy.chk
  have c2 := vx.chk2 vy
  obtain ⟨S1, S2, S3⟩ := says_of vx vy
  have HS1 := Lib.hid S1
  have HS2 := Lib.hid S2
  have HS3 : Hid ((bothTo y n y' n' 16 == 0) = apartB y n y' n') := S3
  clear S1 S2 S3
  have HLE := Lib.hid (less_parts vx vy).2.2.2.2
  have HV := Lib.hid (less_parts vx vy).1
  obtain ⟨e3, e4, e5⟩ := meet_none vx vy ha
  have tf : tagsB t = false := by simp [tagsB]; omega
  have q1 : hasE y n t = 1 := by simp [hasE, h1, tf]
  have q2 : hasR y n t = false := by simp [hasR, q1]
  clear tf
  have HA := Lib.hid ha
  clear ha
  go_enter Try.func5, Try.ntmps5
  go_wp2_with fail
  refine (has_any _ _ _ _).mono ?_
  rintro e v1 ⟨rfl, g1⟩
  have A0 := ((Two.new _ _ _ _).alloc _).gr g1
  have HA1 := Lib.hid A0
  clear A0
  have B0 := (Two.new _ _ _ _).gr g1
  simp only [World.size_alloc] at B0
  have HB1 := Lib.hid B0
  clear B0
  have G1 := (((Gr.refl _).alloc _).alloc _).trans g1
  obtain ⟨oA0, oA1, oA2⟩ := HA1.out
  obtain ⟨oB0, oB1, oB2⟩ := HB1.out
  go_wp2_with fail
  refine (meet_any _ _ _ _ _).mono ?_
  rintro e v2 ⟨rfl, g2⟩
  clear oA0 oA1 oA2
  clear oB0 oB1 oB2
  have A0 := (HA1.out).gr g2
  have HA2 := Lib.hid A0
  clear A0
  clear HA1
  have B0 := (HB1.out).gr g2
  have HB2 := Lib.hid B0
  clear B0
  clear HB1
  have G2 := (G1).trans g2
  obtain ⟨oA0, oA1, oA2⟩ := HA2.out
  obtain ⟨oB0, oB1, oB2⟩ := HB2.out
  go_wp2_with fail
  refine (within_any _ _ _ _ _).mono ?_
  rintro e v3 ⟨rfl, g3⟩
  clear oA0 oA1 oA2
  clear oB0 oB1 oB2
  have A0 := ((HA2.out).alloc _).gr g3
  have HA3 := Lib.hid A0
  clear A0
  clear HA2
  have B0 := ((HB2.out).alloc _).gr g3
  have HB3 := Lib.hid B0
  clear B0
  clear HB2
  have M0 := (Two.new _ _ _ _).gr g3
  have HM3 := Lib.hid M0
  clear M0
  have G3 := ((G2).alloc _).trans g3
  obtain ⟨oA0, oA1, oA2⟩ := HA3.out
  obtain ⟨oB0, oB1, oB2⟩ := HB3.out
  go_wp2_with fail
  refine (less_any _ _ _ _ _ vx vy).mono ?_
  rintro e v4 ⟨v, rfl, hrd, g4⟩
  clear oA0 oA1 oA2
  clear oB0 oB1 oB2
  have A0 := (HA3.out).gr g4
  have HA4 := Lib.hid A0
  clear A0
  clear HA3
  have B0 := (HB3.out).gr g4
  have HB4 := Lib.hid B0
  clear B0
  clear HB3
  have M0 := (HM3.out).gr g4
  have HM4 := Lib.hid M0
  clear M0
  clear HM3
  have G4 := (G3).trans g4
  obtain ⟨oA0, oA1, oA2⟩ := HA4.out
  obtain ⟨oB0, oB1, oB2⟩ := HB4.out
  have HRD := Lib.hid hrd
  clear hrd
  go_wp2_with fail
  refine (count_any _ _ _ vx).mono ?_
  rintro e v5 ⟨rfl, g5⟩
  clear oA0 oA1 oA2
  clear oB0 oB1 oB2
  have A0 := (HA4.out).gr g5
  have HA5 := Lib.hid A0
  clear A0
  clear HA4
  have B0 := (HB4.out).gr g5
  have HB5 := Lib.hid B0
  clear B0
  clear HB4
  have M0 := (HM4.out).gr g5
  have HM5 := Lib.hid M0
  clear M0
  clear HM4
  have G5 := (G4).trans g5
  obtain ⟨oA0, oA1, oA2⟩ := HA5.out
  obtain ⟨oB0, oB1, oB2⟩ := HB5.out
  go_wp2_with fail
  have ST0 : Stay v5 v5 w.heap.size y n := ⟨Gr.refl _, HA5.out⟩
  go_region_held3 (fun x => x.cell? ⟨w.heap.size, 0, none⟩ = some (.int .i64 y) ∧ x.cell? ⟨w.heap.size, 1, none⟩ = some (.int .i64 n)) (go_keep)
    (first | (go_at_call 32; refine (rcube_stay v5 w.heap.size _ _ _ ?_).mono ?_; (first | assumption | (refine Stay.drew ?_; assumption)); rintro e x ⟨rfl, hst, hc1, hc2⟩))
  clear oA0 oA1 oA2
  clear oB0 oB1 oB2
  have HA6 := Lib.hid ((HA5.out).gr (hst.1))
  clear HA5
  have HB6 := Lib.hid ((HB5.out).gr (hst.1))
  clear HB5
  have HM6 := Lib.hid ((HM5.out).gr (hst.1))
  clear HM5
  have G6 := (G5).trans (hst.1)
  obtain ⟨oA0, oA1, oA2⟩ := HA6.out
  obtain ⟨oB0, oB1, oB2⟩ := HB6.out
  have HRD5 := Lib.hid ((HRD.out.gr g5).gr hst.1)
  clear HRD
  clear hc1 hc2 ST0
  go_wp2_with fail
  refine (check_any _ _ _).mono ?_
  rintro e v7 ⟨rfl, g7⟩
  clear oA0 oA1 oA2
  clear oB0 oB1 oB2
  have A0 := (HA6.out).gr g7
  have HA7 := Lib.hid A0
  clear A0
  clear HA6
  have B0 := (HB6.out).gr g7
  have HB7 := Lib.hid B0
  clear B0
  clear HB6
  have M0 := (HM6.out).gr g7
  have HM7 := Lib.hid M0
  clear M0
  clear HM6
  have G7 := (G6).trans g7
  obtain ⟨oA0, oA1, oA2⟩ := HA7.out
  obtain ⟨oB0, oB1, oB2⟩ := HB7.out
  go_wp2_with fail
  refine (check_any _ _ _).mono ?_
  rintro e v8 ⟨rfl, g8⟩
  clear oA0 oA1 oA2
  clear oB0 oB1 oB2
  have A0 := (HA7.out).gr g8
  have HA8 := Lib.hid A0
  clear A0
  clear HA7
  have B0 := (HB7.out).gr g8
  have HB8 := Lib.hid B0
  clear B0
  clear HB7
  have M0 := (HM7.out).gr g8
  have HM8 := Lib.hid M0
  clear M0
  clear HM7
  have G8 := (G7).trans g8
  obtain ⟨oA0, oA1, oA2⟩ := HA8.out
  obtain ⟨oB0, oB1, oB2⟩ := HB8.out
  go_wp2_with fail
  refine (rcube_any _ _ _).mono ?_
  rintro e v9 ⟨rfl, g9⟩
  clear oA0 oA1 oA2
  clear oB0 oB1 oB2
  have A0 := (HA8.out).gr g9
  have HA9 := Lib.hid A0
  clear A0
  clear HA8
  have B0 := (HB8.out).gr g9
  have HB9 := Lib.hid B0
  clear B0
  clear HB8
  have M0 := (HM8.out).gr g9
  have HM9 := Lib.hid M0
  clear M0
  clear HM8
  have G9 := (G8).trans g9
  obtain ⟨oA0, oA1, oA2⟩ := HA9.out
  obtain ⟨oB0, oB1, oB2⟩ := HB9.out
  have HRD9 := Lib.hid (((HRD5.out.gr g7).gr g8).gr g9)
  clear HRD5
  have HCT := Lib.hid (cntTo_eq vx)
  go_wp2_with fail
  go_loopw [19, 141] (fun c i wr => ∃ k : Nat, k ≤ 16 ∧ i = .int .i64 k ∧ c = .int .i64 (cntTo y n k : Nat) ∧ Gr v9 wr) (fun _ i _ => 16 - (intOf i).toNat)
  case atStart => exact ⟨0, by omega, rfl, rfl, Gr.refl _⟩
  case round =>
    obtain ⟨k, hk, rfl, rfl, hg⟩ := hrel
    obtain ⟨a0, a1, a2⟩ := HA9.out.gr hg
    have hcl := cntTo_le y n k
    have hcl' : ((cntTo y n k : Nat) : Int) ≤ 16 := by omega
    by_cases hlt : k < 16
    · cases hi : in16 y n k
      · have HC : Hid (cntTo y n (k + 1) = cntTo y n k) := by simp [Hid, cntTo, hi]
        go_wp2_with fail
        refine (rin_any _ _ _ _ vx hlt).mono ?_
        rintro e z ⟨rfl, gz⟩
        go_wp2_with fail
        go_roundw
        case rel => exact ⟨k + 1, by omega, by go_num, by rw [HC.out], hg.trans gz⟩
        case measure => simp [intOf]; omega
      · have HC : Hid (cntTo y n (k + 1) = cntTo y n k + 1) := by simp [Hid, cntTo, hi]
        go_wp2_with fail
        refine (rin_any _ _ _ _ vx hlt).mono ?_
        rintro e z ⟨rfl, gz⟩
        go_wp2_with fail
        go_roundw
        case rel => exact ⟨k + 1, by omega, by go_num, by rw [HC.out]; go_num, hg.trans gz⟩
        case measure => simp [intOf]; omega
    · obtain rfl : k = 16 := by omega
      rw [HCT.out]
      clear hcl hcl'
      generalize wr = wo at *
      have HA10 := Lib.hid ((HA9.out).gr (hg))
      clear HA9
      have HB10 := Lib.hid ((HB9.out).gr (hg))
      clear HB9
      have HM10 := Lib.hid ((HM9.out).gr (hg))
      clear HM9
      have G10 := (G9).trans (hg)
      clear a0 a1 a2
      have HRDW := Lib.hid (HRD9.out.gr hg)
      clear HRD9
      obtain ⟨va, cp, hv, hcp, hx⟩ := HRDW.out
      rw [pairs_len] at hv hcp
      subst hv
      have hle := HLE.out
      generalize hL : lessL y n y' n' = L at *
      clear hL HLE HCT
      have HX := Lib.hid hx
      clear hx HRDW
      go_wp2_with fail
      go_loopw [21, 22, 186] (fun bo wi i wr => ∃ k : Nat, k ≤ 16 ∧ i = .int .i64 k ∧ bo = .int .i64 (bothTo y n y' n' k : Nat) ∧ wi = .bool (withinTo y n y' n' k) ∧ Gr wo wr) (fun _ _ i _ => 16 - (intOf i).toNat)
      case atStart => exact ⟨0, by omega, rfl, rfl, rfl, Gr.refl _⟩
      case round =>
        obtain ⟨k, hk, rfl, rfl, rfl, hgo⟩ := hrel
        generalize wr = wk at *
        by_cases hlt2 : k < 16
        · have hk16 : ((k : Nat) : Int) < 16 := by omega
          have hbl := bothTo_le y n y' n' k
          have hbl' : ((bothTo y n y' n' k : Nat) : Int) ≤ 16 := by omega
          have htm := HS1.out k hlt2
          have HTM := Lib.hid htm
          clear htm
          go_wp2_with fail
          go_loopw [24, 191] (fun ti i wr => ∃ j : Nat, j ≤ L.length ∧ i = .int .i64 j ∧ ti = .int .i64 (timesN (L.take j) k : Nat) ∧ Gr wk wr) (fun _ i _ => L.length - (intOf i).toNat)
          case atStart => exact ⟨0, by omega, rfl, rfl, Gr.refl _⟩
          case round =>
            obtain ⟨j, hj, rfl, rfl, hgi⟩ := hrel
            by_cases hlt3 : j < L.length
            · obtain ⟨⟨cy, cn⟩, hc⟩ : ∃ c, L[j]? = some c := ⟨_, List.getElem?_eq_getElem hlt3⟩
              have vc : Vld cy cn := (HV.out (cy, cn) (List.mem_of_getElem? hc)).1
              have hcc := vc.chk
              obtain ⟨b, off, ea, hb, hcell⟩ := HX.out (by intro e; rw [← pairs_len, e] at hlt3; simp at hlt3)
              subst ea
              have c1 : wo.cell? ⟨b, off + j * 2, none⟩ = some (.int .i64 cy) := (hcell j _ (pairs_at hc)).1
              have c2 : wo.cell? ⟨b, off + j * 2 + 1, none⟩ = some (.int .i64 cn) := (hcell j _ (pairs_at hc)).2
              rw [← (hgo.trans hgi).cells.1 b _ hb] at c1 c2
              have hbr : b < wr.heap.size := Nat.lt_of_lt_of_le hb (hgo.trans hgi).le
              have htl := times_le (L.take j) k
              have htl2 : (L.take j).length ≤ 4 := by rw [List.length_take]; omega
              have htl' : ((timesN (L.take j) k : Nat) : Int) ≤ 4 := by omega
              have HTT := Lib.hid (times_take hc k)
              clear hcell htl htl2
              go_wp2_with fail
              refine (rcube_any _ _ _).mono ?_
              rintro e z1 ⟨rfl, gz1⟩
              obtain ⟨o0, o1, o2⟩ := (Two.new wr cy cn 43).gr gz1
              go_wp2_with fail
              refine (rin_any _ _ _ _ vc hlt2).mono ?_
              rintro e z2 ⟨rfl, gz2⟩
              cases hi : in16 cy cn k
              · have HTU : Hid (timesN (L.take (j + 1)) k = timesN (L.take j) k) := by rw [HTT.out]; simp [Hid, hi]
                go_wp2_with fail
                refine ⟨?_, by simp [intOf]; omega⟩
                (repeat apply Exists.intro)
                refine ⟨?_, rfl⟩
                exact ⟨j + 1, by omega, by go_num, by rw [HTU.out], ((hgi.alloc _).trans gz1).trans gz2⟩
              · have HTU : Hid (timesN (L.take (j + 1)) k = timesN (L.take j) k + 1) := by rw [HTT.out]; simp [Hid, hi]
                go_wp2_with fail
                refine ⟨?_, by simp [intOf]; omega⟩
                (repeat apply Exists.intro)
                refine ⟨?_, rfl⟩
                exact ⟨j + 1, by omega, by go_num, by rw [HTU.out]; go_num, ((hgi.alloc _).trans gz1).trans gz2⟩
            · obtain rfl : j = L.length := by omega
              rw [List.take_length]
              have htm := HTM.out
              obtain ⟨a0, a1, a2⟩ := HA10.out.gr (hgo.trans hgi)
              obtain ⟨b0, b1, b2⟩ := HB10.out.gr (hgo.trans hgi)
              obtain ⟨m0, m1, m2⟩ := HM10.out.gr (hgo.trans hgi)
              cases hia : in16 y n k
              · cases hib : in16 y' n' k
                · have HB1 : Hid (bothTo y n y' n' (k + 1) = bothTo y n y' n' k + 0) := by simp [Hid, bothTo, hia, hib]
                  have HW1 : Hid (withinTo y n y' n' (k + 1) = withinTo y n y' n' k) := by simp [Hid, withinTo, hia, hib]
                  have htm2 : timesN L k = 0 := by rw [htm, hia, hib]; rfl
                  have htm3 : ((timesN L k : Nat) : Int) = 0 := by omega
                  clear htm htm2
                  go_wp2_with fail
                  refine (rin_any _ _ _ _ vx hlt2).mono ?_
                  rintro e p0 ⟨rfl, gp0⟩
                  have GP0 := gp0
                  clear a0 a1 a2
                  obtain ⟨a0, a1, a2⟩ := HA10.out.gr ((hgo.trans hgi).trans GP0)
                  clear b0 b1 b2
                  obtain ⟨b0, b1, b2⟩ := HB10.out.gr ((hgo.trans hgi).trans GP0)
                  clear m0 m1 m2
                  obtain ⟨m0, m1, m2⟩ := HM10.out.gr ((hgo.trans hgi).trans GP0)
                  go_wp2_with fail
                  refine (rin_any _ _ _ _ vx hlt2).mono ?_
                  rintro e p1 ⟨rfl, gp1⟩
                  have GP1 := GP0.trans gp1
                  clear a0 a1 a2
                  obtain ⟨a0, a1, a2⟩ := HA10.out.gr ((hgo.trans hgi).trans GP1)
                  clear b0 b1 b2
                  obtain ⟨b0, b1, b2⟩ := HB10.out.gr ((hgo.trans hgi).trans GP1)
                  clear m0 m1 m2
                  obtain ⟨m0, m1, m2⟩ := HM10.out.gr ((hgo.trans hgi).trans GP1)
                  go_wp2_with fail
                  refine ⟨?_, by simp [intOf]; omega⟩
                  (repeat apply Exists.intro)
                  refine ⟨?_, rfl⟩
                  exact ⟨k + 1, by omega, by go_num, by rw [HB1.out]; rfl, by rw [HW1.out], (hgo.trans hgi).trans GP1⟩
                · have HB1 : Hid (bothTo y n y' n' (k + 1) = bothTo y n y' n' k + 0) := by simp [Hid, bothTo, hia, hib]
                  have HW1 : Hid (withinTo y n y' n' (k + 1) = withinTo y n y' n' k) := by simp [Hid, withinTo, hia, hib]
                  have htm2 : timesN L k = 0 := by rw [htm, hia, hib]; rfl
                  have htm3 : ((timesN L k : Nat) : Int) = 0 := by omega
                  clear htm htm2
                  go_wp2_with fail
                  refine (rin_any _ _ _ _ vx hlt2).mono ?_
                  rintro e p0 ⟨rfl, gp0⟩
                  have GP0 := gp0
                  clear a0 a1 a2
                  obtain ⟨a0, a1, a2⟩ := HA10.out.gr ((hgo.trans hgi).trans GP0)
                  clear b0 b1 b2
                  obtain ⟨b0, b1, b2⟩ := HB10.out.gr ((hgo.trans hgi).trans GP0)
                  clear m0 m1 m2
                  obtain ⟨m0, m1, m2⟩ := HM10.out.gr ((hgo.trans hgi).trans GP0)
                  go_wp2_with fail
                  refine (rin_any _ _ _ _ vx hlt2).mono ?_
                  rintro e p1 ⟨rfl, gp1⟩
                  have GP1 := GP0.trans gp1
                  clear a0 a1 a2
                  obtain ⟨a0, a1, a2⟩ := HA10.out.gr ((hgo.trans hgi).trans GP1)
                  clear b0 b1 b2
                  obtain ⟨b0, b1, b2⟩ := HB10.out.gr ((hgo.trans hgi).trans GP1)
                  clear m0 m1 m2
                  obtain ⟨m0, m1, m2⟩ := HM10.out.gr ((hgo.trans hgi).trans GP1)
                  go_wp2_with fail
                  refine ⟨?_, by simp [intOf]; omega⟩
                  (repeat apply Exists.intro)
                  refine ⟨?_, rfl⟩
                  exact ⟨k + 1, by omega, by go_num, by rw [HB1.out]; rfl, by rw [HW1.out], (hgo.trans hgi).trans GP1⟩
              · cases hib : in16 y' n' k
                · have HB1 : Hid (bothTo y n y' n' (k + 1) = bothTo y n y' n' k + 0) := by simp [Hid, bothTo, hia, hib]
                  have HW1 : Hid (withinTo y n y' n' (k + 1) = false) := by simp [Hid, withinTo, hia, hib]
                  have htm2 : timesN L k = 1 := by rw [htm, hia, hib]; rfl
                  have htm3 : ((timesN L k : Nat) : Int) = 1 := by omega
                  clear htm htm2
                  go_wp2_with fail
                  refine (rin_any _ _ _ _ vx hlt2).mono ?_
                  rintro e p0 ⟨rfl, gp0⟩
                  have GP0 := gp0
                  clear a0 a1 a2
                  obtain ⟨a0, a1, a2⟩ := HA10.out.gr ((hgo.trans hgi).trans GP0)
                  clear b0 b1 b2
                  obtain ⟨b0, b1, b2⟩ := HB10.out.gr ((hgo.trans hgi).trans GP0)
                  clear m0 m1 m2
                  obtain ⟨m0, m1, m2⟩ := HM10.out.gr ((hgo.trans hgi).trans GP0)
                  go_wp2_with fail
                  refine (rin_any _ _ _ _ vy hlt2).mono ?_
                  rintro e p1 ⟨rfl, gp1⟩
                  have GP1 := GP0.trans gp1
                  clear a0 a1 a2
                  obtain ⟨a0, a1, a2⟩ := HA10.out.gr ((hgo.trans hgi).trans GP1)
                  clear b0 b1 b2
                  obtain ⟨b0, b1, b2⟩ := HB10.out.gr ((hgo.trans hgi).trans GP1)
                  clear m0 m1 m2
                  obtain ⟨m0, m1, m2⟩ := HM10.out.gr ((hgo.trans hgi).trans GP1)
                  go_wp2_with fail
                  refine (rin_any _ _ _ _ vx hlt2).mono ?_
                  rintro e p2 ⟨rfl, gp2⟩
                  have GP2 := GP1.trans gp2
                  clear a0 a1 a2
                  obtain ⟨a0, a1, a2⟩ := HA10.out.gr ((hgo.trans hgi).trans GP2)
                  clear b0 b1 b2
                  obtain ⟨b0, b1, b2⟩ := HB10.out.gr ((hgo.trans hgi).trans GP2)
                  clear m0 m1 m2
                  obtain ⟨m0, m1, m2⟩ := HM10.out.gr ((hgo.trans hgi).trans GP2)
                  go_wp2_with fail
                  refine (rin_any _ _ _ _ vy hlt2).mono ?_
                  rintro e p3 ⟨rfl, gp3⟩
                  have GP3 := GP2.trans gp3
                  clear a0 a1 a2
                  obtain ⟨a0, a1, a2⟩ := HA10.out.gr ((hgo.trans hgi).trans GP3)
                  clear b0 b1 b2
                  obtain ⟨b0, b1, b2⟩ := HB10.out.gr ((hgo.trans hgi).trans GP3)
                  clear m0 m1 m2
                  obtain ⟨m0, m1, m2⟩ := HM10.out.gr ((hgo.trans hgi).trans GP3)
                  go_wp2_with fail
                  refine ⟨?_, by simp [intOf]; omega⟩
                  (repeat apply Exists.intro)
                  refine ⟨?_, rfl⟩
                  exact ⟨k + 1, by omega, by go_num, by rw [HB1.out]; rfl, by rw [HW1.out], (hgo.trans hgi).trans GP3⟩
                · have HB1 : Hid (bothTo y n y' n' (k + 1) = bothTo y n y' n' k + 1) := by simp [Hid, bothTo, hia, hib]
                  have HW1 : Hid (withinTo y n y' n' (k + 1) = withinTo y n y' n' k) := by simp [Hid, withinTo, hia, hib]
                  have htm2 : timesN L k = 0 := by rw [htm, hia, hib]; rfl
                  have htm3 : ((timesN L k : Nat) : Int) = 0 := by omega
                  clear htm htm2
                  go_wp2_with fail
                  refine (rin_any _ _ _ _ vx hlt2).mono ?_
                  rintro e p0 ⟨rfl, gp0⟩
                  have GP0 := gp0
                  clear a0 a1 a2
                  obtain ⟨a0, a1, a2⟩ := HA10.out.gr ((hgo.trans hgi).trans GP0)
                  clear b0 b1 b2
                  obtain ⟨b0, b1, b2⟩ := HB10.out.gr ((hgo.trans hgi).trans GP0)
                  clear m0 m1 m2
                  obtain ⟨m0, m1, m2⟩ := HM10.out.gr ((hgo.trans hgi).trans GP0)
                  go_wp2_with fail
                  refine (rin_any _ _ _ _ vy hlt2).mono ?_
                  rintro e p1 ⟨rfl, gp1⟩
                  have GP1 := GP0.trans gp1
                  clear a0 a1 a2
                  obtain ⟨a0, a1, a2⟩ := HA10.out.gr ((hgo.trans hgi).trans GP1)
                  clear b0 b1 b2
                  obtain ⟨b0, b1, b2⟩ := HB10.out.gr ((hgo.trans hgi).trans GP1)
                  clear m0 m1 m2
                  obtain ⟨m0, m1, m2⟩ := HM10.out.gr ((hgo.trans hgi).trans GP1)
                  go_wp2_with fail
                  refine (rin_any _ _ _ _ vx hlt2).mono ?_
                  rintro e p2 ⟨rfl, gp2⟩
                  have GP2 := GP1.trans gp2
                  clear a0 a1 a2
                  obtain ⟨a0, a1, a2⟩ := HA10.out.gr ((hgo.trans hgi).trans GP2)
                  clear b0 b1 b2
                  obtain ⟨b0, b1, b2⟩ := HB10.out.gr ((hgo.trans hgi).trans GP2)
                  clear m0 m1 m2
                  obtain ⟨m0, m1, m2⟩ := HM10.out.gr ((hgo.trans hgi).trans GP2)
                  go_wp2_with fail
                  refine (rin_any _ _ _ _ vy hlt2).mono ?_
                  rintro e p3 ⟨rfl, gp3⟩
                  have GP3 := GP2.trans gp3
                  clear a0 a1 a2
                  obtain ⟨a0, a1, a2⟩ := HA10.out.gr ((hgo.trans hgi).trans GP3)
                  clear b0 b1 b2
                  obtain ⟨b0, b1, b2⟩ := HB10.out.gr ((hgo.trans hgi).trans GP3)
                  clear m0 m1 m2
                  obtain ⟨m0, m1, m2⟩ := HM10.out.gr ((hgo.trans hgi).trans GP3)
                  go_wp2_with fail
                  refine ⟨?_, by simp [intOf]; omega⟩
                  (repeat apply Exists.intro)
                  refine ⟨?_, rfl⟩
                  exact ⟨k + 1, by omega, by go_num, by rw [HB1.out]; go_num, by rw [HW1.out], (hgo.trans hgi).trans GP3⟩
        · obtain rfl : k = 16 := by omega
          have hw16 := HS2.out
          rw [hw16]
          obtain ⟨m0, m1, m2⟩ := HM10.out.gr hgo
          have hle' : (L.length : Int) ≤ 4 := by omega
          have hb16 := HS3.out
          rw [HA.out] at hb16
          clear hw16
          have hb0 : bothTo y n y' n' 16 = 0 := by simpa using hb16
          rw [hb0]
          clear hb16 hb0
          generalize withinB y n y' n' = wb at *
          cases wb
          all_goals
            go_wp2_with fail
            go_ret
            exact ⟨rfl, (G10).trans hgo⟩
end Go.Proofs.Ytkdhfpdpbledcaa
