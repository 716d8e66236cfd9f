/- The walk of CubeHalves. -/
import Derived.Test.YtkdhfpdpbledcabKeep
import Derived.Test.YtkdhfpdpbledcabParts
import Derived.LoopTactic
import Derived.RegionTactic
namespace Go.Proofs.Ytkdhfpdpbledcab
open Go.RowKit Rm
set_option linter.unusedVariables false

theorem count_zero (w : World) : Calls Try.prog 4 #[.agg #[.int .i64 0, .int .i64 0]] w fun e w' => e = .returned (.tuple #[.int .i64 16, .int .i64 0]) ∧ Gr w w' :=
  count_any 0 0 w ⟨by decide, by decide, by decide⟩
theorem vld0 : Vld 0 0 := ⟨by decide, by decide, by decide⟩
theorem less_zero (y n : Nat) (w : World) (h : Vld y n) :
    Calls Try.prog 7 #[.agg #[.int .i64 0, .int .i64 0], .agg #[.int .i64 y, .int .i64 n]] w fun e w' =>
      ∃ v, e = .returned (.tuple #[v, .int .i64 0]) ∧ Rd2 w' v (pairs (lessL 0 0 y n)) ∧ Gr w w' := less_any 0 0 y n w vld0 h
/-- the tags that a cube tells, below the i-th -/
def toldN (o : Nat) : Nat → Nat
  | 0 => 0
  | i + 1 => toldN o i + (if o.testBit i then 1 else 0)
theorem bit16 : ∀ a < 16, ∀ b < 16, ∀ i < 4, (bits .and .i64 (bits .or .i64 ((a : Nat) : Int) ((b : Nat) : Int) / 2 ^ i) 1 == 1) = (Nat.lor a b).testBit i := by decide +kernel
theorem cnt_told : ∀ a < 16, ∀ b < 16, (((cnt a b : Nat) : Int) != (16 : Int) / 2 ^ toldN (Nat.lor a b) 4) = false := by decide +kernel
def halfTab (a b t : Nat) : Bool := !(Nat.land a b == 0) || (Nat.lor a b).testBit t ||
  (decide (bits .or .i64 ((a : Nat) : Int) (wrap64 (2 ^ t)) = ((Nat.lor a (2 ^ t) : Nat) : Int)) && decide (Nat.lor a (2 ^ t) < 16) && (Nat.land (Nat.lor a (2 ^ t)) b == 0) && (2 * cnt (Nat.lor a (2 ^ t)) b == cnt a b))
theorem half_all : ∀ a < 16, ∀ b < 16, ∀ t < 4, halfTab a b t = true := by decide +kernel
theorem half_of {a b t : Nat} (h : Vld a b) (ht : t < 4) (hb : (Nat.lor a b).testBit t = false) :
    bits .or .i64 (a : Int) (wrap64 (2 ^ t)) = ((Nat.lor a (2 ^ t) : Nat) : Int) ∧ Vld (Nat.lor a (2 ^ t)) b ∧ 2 * cnt (Nat.lor a (2 ^ t)) b = cnt a b := by
  have H := half_all a h.1 b h.2.1 t ht
  unfold halfTab at H
  rw [h.2.2, hb] at H
  simp only [beq_self_eq_true, Bool.not_true, Bool.false_or, Bool.and_eq_true, decide_eq_true_eq, beq_iff_eq] at H
  exact ⟨H.1.1.1, ⟨H.1.1.2, h.2.1, H.1.2⟩, H.2⟩
theorem told_no (o i : Nat) (h : o.testBit i = false) : toldN o (i + 1) = toldN o i := by simp [toldN, h]
theorem told_yes (o i : Nat) (h : o.testBit i = true) : toldN o (i + 1) = toldN o i + 1 := by simp [toldN, h]
theorem told_le (o i : Nat) : toldN o i ≤ i := by
  induction i with
  | zero => exact Nat.le_refl _
  | succ i ih => simp only [toldN]; split <;> omega
theorem half_sum {y n : Nat} (h : Vld y n) : sumN (lessL 0 0 y n) + cnt y n = 16 := by
  have ha : apartB (0 : Nat) (0 : Nat) y n = false := by
    rw [apart_eq vld0 h, show Nat.land 0 n = 0 from Nat.zero_and n, show Nat.land 0 y = 0 from Nat.zero_and y]
    rfl
  have H := (less_parts vld0 h).2.2.2.1 ha
  have e1 : Nat.lor 0 y = y := Nat.zero_or y
  have e2 : Nat.lor 0 n = n := Nat.zero_or n
  rw [e1, e2] at H
  exact H

set_option maxHeartbeats 2000000 in
set_option maxRecDepth 100000 in
theorem cubeHalves_walk (a0 : Int) (w0 : (Lit.int .i64 a0).wf = true) (a1 : Int) (w1 : (Lit.int .i64 a1).wf = true) (w : World) :
    Calls Try.prog 3 #[.int .i64 a0, .int .i64 a1] w fun e w' => e = .returned (.bool true) ∧ Gr w w' := by
  clear w0 w1
  go_enter Try.func3, Try.ntmps3
  go_wp2_with fail
  refine (count_zero _).mono ?_
  rintro e v1 ⟨rfl, g1⟩
  have G1 := g1
  go_wp2_with fail
  refine (one_any _ _).mono ?_
  rintro e v2 ⟨y, n, vx, rfl, g2⟩
  have G2 := (G1).trans g2
  go_wp2_with fail
  refine (keepWithin_any _ _ (by omega) (by omega) _).mono ?_
  rintro e w5 ⟨rfl, rfl⟩
  obtain ⟨t, ht⟩ := Int.eq_ofNat_of_zero_le (rem_lt a1 4 (by omega)).1
  have ht' : t < 4 := by have := (rem_lt a1 4 (by omega)).2; omega
  rw [ht]
  clear ht
  go_wp2_with fail
  refine (count_any _ _ _ vx).mono ?_
  rintro e v3 ⟨rfl, g3⟩
  have X0 := (Two.new _ _ _ _).gr g3
  have HX3 := Lib.hid X0
  clear X0
  have G3 := ((G2).alloc _).trans g3
  obtain ⟨oX0, oX1, oX2⟩ := HX3.out
  have HBT := Lib.hid (bit16 y vx.1 n vx.2.1)
  have HCT := Lib.hid (cnt_told y vx.1 n vx.2.1)
  have HF := Lib.hid (half_of (t := t) vx ht')
  generalize Nat.lor y n = o at *
  go_wp2_with fail
  go_loop [10, 42] (fun s i => ∃ k : Nat, k ≤ 4 ∧ i = .int .i64 k ∧ s = .int .i64 (toldN o k : Nat)) (fun _ i => 4 - (intOf i).toNat)
  case atStart => exact ⟨0, by omega, rfl, rfl⟩
  case round =>
    obtain ⟨k, hk, rfl, rfl⟩ := hrel
    have htl := told_le o k
    have htl' : ((toldN o k : Nat) : Int) ≤ 4 := by omega
    by_cases hlt : k < 4
    · have hb := HBT.out k hlt
      have hk' : (k : Int) < 4 := by omega
      cases hbit : o.testBit k
      · rw [hbit] at hb
        have HT : Hid (toldN o (k + 1) = toldN o k) := told_no o k hbit
        clear hbit
        go_wp2
        go_round
        case rel => exact ⟨k + 1, by omega, by go_num, by rw [HT.out]⟩
        case measure => simp [intOf]; omega
      · rw [hbit] at hb
        have HT : Hid (toldN o (k + 1) = toldN o k + 1) := told_yes o k hbit
        clear hbit
        go_wp2
        go_round
        case rel => exact ⟨k + 1, by omega, by go_num, by rw [HT.out]; go_num⟩
        case measure => simp [intOf]; omega
    · obtain rfl : k = 4 := by omega
      have hct := HCT.out
      go_wp2_with fail
      refine (less_zero _ _ _ vx).mono ?_
      rintro e v4 ⟨v, rfl, hrd, g4⟩
      clear oX0 oX1 oX2
      have X0 := (HX3.out).gr g4
      have HX4 := Lib.hid X0
      clear X0
      clear HX3
      have G4 := (G3).trans g4
      obtain ⟨P1, -, -, -, P5⟩ := less_parts vld0 vx
      have HSUM := Lib.hid (half_sum vx)
      have HRD := Lib.hid hrd
      clear hrd
      obtain ⟨a, cp, hv, hcp, hx⟩ := HRD.out
      rw [pairs_len] at hv hcp
      subst hv
      generalize hL : lessL 0 0 y n = L at *
      clear hL
      have HP1 := Lib.hid P1
      have HX := Lib.hid hx
      clear P1 hx HRD
      go_wp2_with fail
      go_loopw [11, 73] (fun l i wr => ∃ k : Nat, k ≤ L.length ∧ i = .int .i64 k ∧ l = .int .i64 (sumN (L.take k) : Nat) ∧ Gr v4 wr) (fun _ i _ => L.length - (intOf i).toNat)
      case atStart => exact ⟨0, by omega, rfl, rfl, Gr.refl _⟩
      case round =>
        obtain ⟨k, hk, rfl, rfl, hg⟩ := hrel
        generalize wr = wo at *
        by_cases hlt2 : k < L.length
        · obtain ⟨⟨cy, cn⟩, hc⟩ : ∃ c, L[k]? = some c := ⟨_, List.getElem?_eq_getElem hlt2⟩
          have vc : Vld cy cn := (HP1.out (cy, cn) (List.mem_of_getElem? hc)).1
          obtain ⟨b, off, ea, hb, hcell⟩ := HX.out (by intro e; rw [← pairs_len, e] at hlt2; simp at hlt2)
          subst ea
          have c1 : v4.cell? ⟨b, off + k * 2, none⟩ = some (.int .i64 cy) := (hcell k _ (pairs_at hc)).1
          have c2 : v4.cell? ⟨b, off + k * 2 + 1, none⟩ = some (.int .i64 cn) := (hcell k _ (pairs_at hc)).2
          rw [← hg.cells.1 b _ hb] at c1 c2
          have hbr : b < wo.heap.size := Nat.lt_of_lt_of_le hb hg.le
          have hs1 := sum_le (L.take k)
          have hs2 := cnt_le cy cn
          have hs3 : (L.take k).length ≤ 4 := by rw [List.length_take]; omega
          have hs4 : ((sumN (L.take k) : Nat) : Int) ≤ 64 := by omega
          have hs5 : ((cnt cy cn : Nat) : Int) ≤ 16 := by omega
          have HST : Hid (sumN (L.take (k + 1)) = sumN (L.take k) + cnt cy cn) := sum_take hc
          clear hs1 hs2 hs3 hcell
          go_wp2_with fail
          refine (count_any _ _ _ vc).mono ?_
          rintro e w7 ⟨rfl, g7⟩
          go_wp2_with fail
          go_roundw
          case rel => exact ⟨k + 1, by omega, by go_num, by rw [HST.out]; go_num, (hg.alloc _).trans g7⟩
          case measure => simp [intOf]; omega
        · obtain rfl : k = L.length := by omega
          rw [List.take_length]
          obtain ⟨x1, x2, x3⟩ := HX4.out.gr hg
          have hsum := HSUM.out
          have hq : (((sumN L : Nat) : Int) + ((cnt y n : Nat) : Int) == 16) = true := by simp; omega
          have hq' : (((sumN L : Nat) : Int) + ((cnt y n : Nat) : Int) != 16) = false := by simp; omega
          have hs4 : ((sumN L : Nat) : Int) ≤ 16 := by omega
          have hs5 : ((cnt y n : Nat) : Int) ≤ 16 := by omega
          have hbt := HBT.out t ht'
          have ht4 : (t : Int) < 4 := by omega
          clear hsum
          cases hbit : o.testBit t
          · obtain ⟨r1, r2, r3⟩ := HF.out hbit
            rw [hbit] at hbt
            have hq2 : (2 * ((cnt (Nat.lor y (2 ^ t)) n : Nat) : Int) == ((cnt y n : Nat) : Int)) = true := beq_iff_eq.2 (by omega)
            have hs6 : ((cnt (Nat.lor y (2 ^ t)) n : Nat) : Int) ≤ 16 := by have := cnt_le (Nat.lor y (2 ^ t)) n; omega
            generalize Nat.lor y (2 ^ t) = yt at *
            clear hbit r3
            go_wp2
            go_region
            go_wp2_with fail
            refine (count_any _ _ _ r2).mono ?_
            rintro e w7 ⟨rfl, g7⟩
            go_wp2_with fail
            go_ret
            exact ⟨rfl, ((((G4).trans hg).alloc _).drew).trans g7⟩
          · rw [hbit] at hbt
            clear hbit
            go_wp2
            go_ret
            exact ⟨rfl, (G4).trans hg⟩
end Go.Proofs.Ytkdhfpdpbledcab
