/- The walk of CubeParts. -/
import Derived.Test.YtkdhfpdpbledcaaKeep
import Derived.Test.YtkdhfpdpbledcaaParts
import Derived.LoopTactic
namespace Go.Proofs.Ytkdhfpdpbledcaa
open Go.RowKit Rm
set_option linter.unusedVariables false

theorem count_one (w : World) : Calls Try.prog 31 #[.agg #[.int .i64 1, .int .i64 0]] w fun e w' => e = .returned (.tuple #[.int .i64 8, .int .i64 0]) ∧ Gr w w' :=
  count_any 1 0 w ⟨by decide, by decide, by decide⟩
theorem wrap_small (a : Nat) (h : a < 1000) : wrap64 (a : Int) = (a : Int) := by unfold wrap64; omega

set_option maxHeartbeats 2000000 in
set_option maxRecDepth 100000 in
theorem cubeParts_walk (a0 : Int) (w0 : (Lit.int .i64 a0).wf = true) (a1 : Int) (w1 : (Lit.int .i64 a1).wf = true) (w : World) :
    Calls Try.prog 11 #[.int .i64 a0, .int .i64 a1] w fun e w' => e = .returned (.bool true) ∧ Gr w w' := by
  clear w0 w1
  go_enter Try.func11, Try.ntmps11
  go_wp2_with fail
  refine (count_one _).mono ?_
  rintro e v1 ⟨rfl, g1⟩
  have G1 := g1
  go_wp2_with fail
  refine (one_any _ _).mono ?_
  rintro e v2 ⟨xy, xn, vx, rfl, g2⟩
  have G2 := (G1).trans g2
  go_wp2_with fail
  refine (one_any _ _).mono ?_
  rintro e v3 ⟨yy, yn, vy, rfl, g3⟩
  have G3 := (G2).trans g3
  go_wp2_with fail
  refine (less_any _ _ _ _ _ vx vy).mono ?_
  rintro e v4 ⟨v, rfl, hrd, g4⟩
  have X0 := ((Two.new _ _ _ _).alloc _).gr g4
  have HX4 := Lib.hid X0
  clear X0
  have Y0 := (Two.new _ _ _ _).gr g4
  simp only [World.size_alloc] at Y0
  have HY4 := Lib.hid Y0
  clear Y0
  have G4 := (((G3).alloc _).alloc _).trans g4
  obtain ⟨oX0, oX1, oX2⟩ := HX4.out
  obtain ⟨oY0, oY1, oY2⟩ := HY4.out
  go_wp2_with fail
  refine (count_any _ _ _ vx).mono ?_
  rintro e v5 ⟨rfl, g5⟩
  clear oX0 oX1 oX2
  clear oY0 oY1 oY2
  have X0 := (HX4.out).gr g5
  have HX5 := Lib.hid X0
  clear X0
  clear HX4
  have Y0 := (HY4.out).gr g5
  have HY5 := Lib.hid Y0
  clear Y0
  clear HY4
  have G5 := (G4).trans g5
  obtain ⟨P1, P2, P3, P4, P5⟩ := less_parts vx vy
  have HRD := Lib.hid (hrd.gr g5)
  clear hrd
  obtain ⟨a, cp, hv, hcp, hx⟩ := HRD.out
  rw [pairs_len] at hv hcp
  subst hv
  generalize hL : lessL xy xn yy yn = L at *
  clear hL
  have HP1 := Lib.hid P1
  have HP2 := Lib.hid P2
  have HP3 := Lib.hid P3
  have HP4 := Lib.hid P4
  have HX := Lib.hid hx
  clear P1 P2 P3 P4 hx
  go_wp2_with fail
  go_loopw [13, 63] (fun l i wr => ∃ k : Nat, k ≤ L.length ∧ i = .int .i64 k ∧ l = .int .i64 (sumN (L.take k) : Nat) ∧ Gr v5 wr) (fun _ i _ => L.length - (intOf i).toNat)
  case atStart => exact ⟨0, by omega, rfl, rfl, Gr.refl _⟩
  case round =>
    obtain ⟨k, hk, rfl, rfl, hg⟩ := hrel
    generalize wr = wo at *
    by_cases hlt : k < L.length
    · obtain ⟨c, hc⟩ : ∃ c, L[k]? = some c := ⟨_, List.getElem?_eq_getElem hlt⟩
      obtain ⟨vc, wc, ac⟩ := HP1.out c (List.mem_of_getElem? hc)
      obtain ⟨b, off, ea, hb, hcell⟩ := HX.out (by intro e; rw [← pairs_len, e] at hlt; simp at hlt)
      subst ea
      obtain ⟨c1, c2⟩ := hcell k _ (pairs_at hc)
      rw [← hg.cells.1 b _ hb] at c1 c2
      have hbr : b < wo.heap.size := Nat.lt_of_lt_of_le hb hg.le
      have HCL := Lib.hid hcell
      clear hcell
      have X0 := HX5.out.gr hg
      have HXr := Lib.hid X0
      have Y0 := HY5.out.gr hg
      have HYr := Lib.hid Y0
      clear X0 Y0
      obtain ⟨cy, cn⟩ := c
      have ec := vc.chk2 vx
      go_wp2_with fail
      refine (count_any _ _ _ vc).mono ?_
      rintro e v6 ⟨rfl, g6⟩
      have X0 := ((HXr.out).alloc _).gr g6
      have HX6 := Lib.hid X0
      clear X0
      clear HXr
      have Y0 := ((HYr.out).alloc _).gr g6
      have HY6 := Lib.hid Y0
      clear Y0
      clear HYr
      have C0 := (Two.new _ _ _ _).gr g6
      have HC6 := Lib.hid C0
      clear C0
      have G6 := ((hg).alloc _).trans g6
      obtain ⟨oX0, oX1, oX2⟩ := HX6.out
      obtain ⟨oY0, oY1, oY2⟩ := HY6.out
      obtain ⟨oC0, oC1, oC2⟩ := HC6.out
      go_wp2_with fail
      refine (within_any _ _ _ _ _).mono ?_
      rintro e v7 ⟨rfl, g7⟩
      clear oX0 oX1 oX2
      clear oY0 oY1 oY2
      clear oC0 oC1 oC2
      have X0 := (HX6.out).gr g7
      have HX7 := Lib.hid X0
      clear X0
      clear HX6
      have Y0 := (HY6.out).gr g7
      have HY7 := Lib.hid Y0
      clear Y0
      clear HY6
      have C0 := (HC6.out).gr g7
      have HC7 := Lib.hid C0
      clear C0
      clear HC6
      have G7 := (G6).trans g7
      obtain ⟨oX0, oX1, oX2⟩ := HX7.out
      obtain ⟨oY0, oY1, oY2⟩ := HY7.out
      obtain ⟨oC0, oC1, oC2⟩ := HC7.out
      obtain ⟨m1, m2, m3⟩ := meet_none vc vy ac
      go_wp2_with fail
      refine (meet_any _ _ _ _ _).mono ?_
      rintro e v8 ⟨rfl, g8⟩
      clear oX0 oX1 oX2
      clear oY0 oY1 oY2
      clear oC0 oC1 oC2
      have X0 := (HX7.out).gr g8
      have HX8 := Lib.hid X0
      clear X0
      clear HX7
      have Y0 := (HY7.out).gr g8
      have HY8 := Lib.hid Y0
      clear Y0
      clear HY7
      have C0 := (HC7.out).gr g8
      have HC8 := Lib.hid C0
      clear C0
      clear HC7
      have G8 := (G7).trans g8
      have HXw := Lib.hid ((HX8.out).alloc (.cells #[.int .i64 0, .int .i64 0] 43))
      have HYw := Lib.hid ((HY8.out).alloc (.cells #[.int .i64 0, .int .i64 0] 43))
      have HCw := Lib.hid ((HC8.out).alloc (.cells #[.int .i64 0, .int .i64 0] 43))
      have GW := G8.alloc (.cells #[.int .i64 0, .int .i64 0] 43)
      go_wp2_with fail
      clear m1 m2 m3 ec
      generalize v8.alloc (.cells #[.int .i64 0, .int .i64 0] 43) = W8 at *
      go_loopw [103] (fun i wi => ∃ j : Nat, j ≤ k ∧ i = .int .i64 j ∧ Gr W8 wi) (fun i _ => k - (intOf i).toNat)
      case atStart => exact ⟨0, by omega, rfl, Gr.refl _⟩
      case round =>
        obtain ⟨j, hj, rfl, hgi⟩ := hrel
        by_cases hjk : j < k
        · obtain ⟨⟨dy, dn⟩, hd⟩ : ∃ d, L[j]? = some d := ⟨_, List.getElem?_eq_getElem (by omega)⟩
          have vd : Vld dy dn := (HP1.out (dy, dn) (List.mem_of_getElem? hd)).1
          have ad : apartB cy cn dy dn = true := HP2.out k j (cy, cn) (dy, dn) hjk hc hd
          obtain ⟨m1, m2, m3⟩ := meet_none vc vd ad
          have d1 : v5.cell? ⟨b, off + j * 2, none⟩ = some (.int .i64 dy) := (HCL.out j _ (pairs_at hd)).1
          have d2 : v5.cell? ⟨b, off + j * 2 + 1, none⟩ = some (.int .i64 dn) := (HCL.out j _ (pairs_at hd)).2
          rw [← (GW.trans hgi).cells.1 b _ hb] at d1 d2
          have hbi : b < wr.heap.size := Nat.lt_of_lt_of_le hb (GW.trans hgi).le
          obtain ⟨oC0, oC1, oC2⟩ := HCw.out.gr hgi
          clear c1 c2
          go_wp2_with fail
          refine (meet_any _ _ _ _ _).mono ?_
          rintro e v9 ⟨rfl, g9⟩
          go_wp2_with fail
          go_roundw
          case rel => exact ⟨j + 1, by omega, by go_num, ((hgi.alloc _).trans g9).alloc _⟩
          case measure => simp [intOf]; omega
        · obtain rfl : j = k := by omega
          have hs1 := sum_le (L.take j)
          have hs2 := cnt_le cy cn
          have hs3 : (L.take j).length ≤ 4 := by rw [List.length_take]; omega
          have hs4 : ((sumN (L.take j) : Nat) : Int) ≤ 64 := by omega
          have hs5 : ((cnt cy cn : Nat) : Int) ≤ 16 := by omega
          have HST : Hid (sumN (L.take (j + 1)) = sumN (L.take j) + cnt cy cn) := sum_take hc
          clear hs1 hs2 hs3
          go_wp2_with fail
          go_roundw
          case rel => exact ⟨j + 1, by omega, by go_num, by rw [HST.out]; go_num, GW.trans hgi⟩
          case measure => simp [intOf]; omega
    · obtain rfl : k = L.length := by omega
      have X0 := HX5.out.gr hg
      have HXr := Lib.hid X0
      have Y0 := HY5.out.gr hg
      have HYr := Lib.hid Y0
      clear X0 Y0
      obtain ⟨x1, x2, x3⟩ := HXr.out
      obtain ⟨y1, y2, y3⟩ := HYr.out
      rw [List.take_length]
      have hsl := sum_le L
      have hs4 : ((sumN L : Nat) : Int) ≤ 64 := by omega
      have hsx := cnt_le xy xn
      clear hsl
      cases ha : apartB xy xn yy yn
      · have hs := HP4.out ha
        obtain ⟨my, mn, vm, e1, e2, e3, -, -, -, -, -, hmy, hmn⟩ := meet_some vx vy ha
        rw [← hmy, ← hmn] at hs
        have hq : (((sumN L : Nat) : Int) + ((cnt my mn : Nat) : Int) == ((cnt xy xn : Nat) : Int)) = true := by simp; omega
        have hs5 : ((cnt my mn : Nat) : Int) ≤ 16 := by have := cnt_le my mn; omega
        clear hs hmy hmn hsx
        go_wp2_with fail
        refine (meet_any _ _ _ _ _).mono ?_
        rintro e v6 ⟨rfl, g6⟩
        go_wp2_with fail
        refine (count_any _ _ _ vm).mono ?_
        rintro e v7 ⟨rfl, g7⟩
        go_wp2_with fail
        go_ret
        exact ⟨rfl, (((G5.trans hg).trans g6).alloc _).trans g7⟩
      · have hs := HP3.out ha
        obtain ⟨e1, e2, e3⟩ := meet_none vx vy ha
        have hq : (((sumN L : Nat) : Int) == ((cnt xy xn : Nat) : Int)) = true := by simp; omega
        clear hs hsx
        go_wp2_with fail
        refine (meet_any _ _ _ _ _).mono ?_
        rintro e v6 ⟨rfl, g6⟩
        go_wp2_with fail
        go_ret
        exact ⟨rfl, ((G5.trans hg).trans g6).alloc _⟩
end Go.Proofs.Ytkdhfpdpbledcaa
