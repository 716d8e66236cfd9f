/- The contracts of math/bits.OnesCount32 and of span.Count, Has, Within. -/
import Derived.Test.YtphcjjhfgpdhcaaSpanD
import Derived.Lib.BitFns
namespace Rm
open Go Go.RowKit
/-- how many bits of a number are set, below the k-th -/
def popTo (m : Nat) : Nat → Nat
  | 0 => 0
  | k + 1 => popTo m k + (m.testBit k).toNat
theorem popTo_le (m k : Nat) : popTo m k ≤ k := by
  induction k with
  | zero => exact Nat.le_refl _
  | succ k ih => have := Bool.toNat_le (m.testBit k); simp only [popTo]; omega
theorem popTo_congr {m m' k : Nat} (h : ∀ i, i < k → m.testBit i = m'.testBit i) : popTo m k = popTo m' k := by
  induction k with
  | zero => rfl
  | succ k ih => simp only [popTo]; rw [ih (fun i hi => h i (by omega)), h k (by omega)]
theorem popTo_add (m j k : Nat) : popTo m (j + k) = popTo m j + popTo (m / 2 ^ j) k := by
  induction k with
  | zero => rfl
  | succ k ih =>
    show popTo m (j + k) + (m.testBit (j + k)).toNat = popTo m j + (popTo (m / 2 ^ j) k + ((m / 2 ^ j).testBit k).toNat)
    rw [ih, Nat.testBit_div_two_pow, Nat.add_comm k j]
    omega
theorem popTo_mod (m : Nat) : popTo (m % 256) 8 = popTo m 8 := by
  apply popTo_congr
  intro i hi
  have e : m % 256 = m % 2 ^ 8 := rfl
  rw [e, Nat.testBit_mod_two_pow]
  simp [hi]
def popTab : Bool := (List.range 256).all fun n => Lib.pop8 (n : Int) == ((popTo n 8 : Nat) : Int)
theorem popTab_true : popTab = true := by decide +kernel
theorem pop8_tab (n : Nat) (h : n < 256) : Lib.pop8 (n : Int) = ((popTo n 8 : Nat) : Int) := by
  have H := popTab_true
  unfold popTab at H
  rw [List.all_eq_true] at H
  have := H n (List.mem_range.2 h)
  simpa only [beq_iff_eq] using this
theorem tab_eq (b : Nat) (h : b < Lib.pop8tab.size) (hb : b < 256) : (((Lib.pop8tab[b]'h).toNat : Nat) : Int) = ((popTo b 8 : Nat) : Int) := by
  rw [← pop8_tab b hb]
  unfold Lib.pop8
  simp [h]
/-- the elements of a set -/
def popc (m : Nat) : Nat := popTo m 32
theorem popc_le (m : Nat) : popc m ≤ 32 := popTo_le m 32
theorem popc_bytes (x : Nat) : popc x = popTo (x % 256) 8 + popTo (x / 256 % 256) 8 + popTo (x / 65536 % 256) 8 + popTo (x / 16777216 % 256) 8 := by
  unfold popc
  rw [popTo_mod, popTo_mod, popTo_mod, popTo_mod]
  have e1 : popTo x 32 = popTo x 8 + popTo (x / 2 ^ 8) 24 := popTo_add x 8 24
  have e2 : popTo (x / 2 ^ 8) 24 = popTo (x / 2 ^ 8) 8 + popTo (x / 2 ^ 8 / 2 ^ 8) 16 := popTo_add (x / 2 ^ 8) 8 16
  have e3 : popTo (x / 2 ^ 8 / 2 ^ 8) 16 = popTo (x / 2 ^ 8 / 2 ^ 8) 8 + popTo (x / 2 ^ 8 / 2 ^ 8 / 2 ^ 8) 8 := popTo_add (x / 2 ^ 8 / 2 ^ 8) 8 8
  have d1 : x / 2 ^ 8 = x / 256 := rfl
  have d2 : x / 256 / 2 ^ 8 = x / 65536 := by rw [Nat.div_div_eq_div_mul]
  have d3 : x / 65536 / 2 ^ 8 = x / 16777216 := by rw [Nat.div_div_eq_div_mul]
  rw [d1] at e1 e2 e3
  rw [d2] at e2 e3
  rw [d3] at e3
  omega
theorem and255 (a : Nat) (h : a < 2 ^ 32) : bits .and .u32 (a : Int) 255 = ((a % 256 : Nat) : Int) := by
  have e := u32_and_nat a 255 h (by decide)
  rw [show a &&& 255 = a % 256 from Nat.and_two_pow_sub_one_eq_mod a 8] at e
  exact e
end Rm
namespace Go.Proofs.Ytphcjjhfgpdhcaa
open Go.RowKit Rm
set_option linter.unusedVariables false

set_option maxHeartbeats 1000000 in
set_option maxRecDepth 100000 in
theorem ones32_any (x : Nat) (w : World) (hx : x < 2 ^ 32) :
    Calls Try.prog 72 #[.int .u32 x] w fun e w' => e = .returned (.int .i64 (popc x : Nat)) ∧ Gr w w' := by
  have h3 : (x : Int) / 16777216 = ((x / 16777216 % 256 : Nat) : Int) := by omega
  have h2 : bits .and .u32 ((x : Int) / 65536) 255 = ((x / 65536 % 256 : Nat) : Int) := and255 (x / 65536) (by omega)
  have h1 : bits .and .u32 ((x : Int) / 256) 255 = ((x / 256 % 256 : Nat) : Int) := and255 (x / 256) (by omega)
  have h0 : bits .and .u32 (x : Int) 255 = ((x % 256 : Nat) : Int) := and255 x hx
  have HP := Lib.hid (popc_bytes x)
  have g0 : x % 256 < 256 := by omega
  have g1 : x / 256 % 256 < 256 := by omega
  have g2 : x / 65536 % 256 < 256 := by omega
  have g3 : x / 16777216 % 256 < 256 := by omega
  clear hx
  generalize x % 256 = b0 at *
  generalize x / 256 % 256 = b1 at *
  generalize x / 65536 % 256 = b2 at *
  generalize x / 16777216 % 256 = b3 at *
  have hsz : Lib.pop8tab.size = 256 := by decide +kernel
  have s0 : b0 < Lib.pop8tab.size := by omega
  have s1 : b1 < Lib.pop8tab.size := by omega
  have s2 : b2 < Lib.pop8tab.size := by omega
  have s3 : b3 < Lib.pop8tab.size := by omega
  clear hsz
  have HR : Hid ((((Lib.pop8tab[b3]'s3).toNat : Int) + (Lib.pop8tab[b2]'s2).toNat + (Lib.pop8tab[b1]'s1).toNat + (Lib.pop8tab[b0]'s0).toNat) % 256 = ((popc x : Nat) : Int)) := by
    show _ = _
    rw [HP.out, tab_eq b0 s0 g0, tab_eq b1 s1 g1, tab_eq b2 s2 g2, tab_eq b3 s3 g3]
    have p0 := popTo_le b0 8
    have p1 := popTo_le b1 8
    have p2 := popTo_le b2 8
    have p3 := popTo_le b3 8
    omega
  clear HP
  have k0 : (b0 : Int) < 256 := by omega
  have k1 : (b1 : Int) < 256 := by omega
  have k2 : (b2 : Int) < 256 := by omega
  have k3 : (b3 : Int) < 256 := by omega
  go_enter Try.func72, Try.ntmps72
  go_wp2
  go_quiet (fail)
  go_wp2
  go_ret
  exact ⟨by rw [← HR.out]; rfl, (Gr.refl w).drewN _⟩

/-! span.Count -/
set_option maxHeartbeats 400000 in
set_option maxRecDepth 100000 in
theorem scount_bad (v : Value) (l : List (Int × Int)) (w : World) (hl : Rd2 w v l) (hc : (chkS l == 0) = false) :
    Calls Try.prog 43 #[v] w fun e w' => e = .returned (.tuple #[.int .i64 0, .int .i64 (chkS l)]) ∧ Gr w w' := by
  have hc' := sbne_of' hc
  go_enter Try.func43, Try.ntmps43
  go_wp2_with fail
  refine (scheck_any _ _ _ hl).mono ?_
  rintro e w1 ⟨rfl, hb⟩
  go_wp2_with fail
  go_ret2
  exact ⟨rfl, hb⟩
set_option maxHeartbeats 400000 in
set_option maxRecDepth 100000 in
theorem scount_ok (v : Value) (L : List (Nat × Nat)) (w : World) (hl : Rd2 w v (pairs L)) (hL : VF 0 L) :
    Calls Try.prog 43 #[v] w fun e w' => e = .returned (.tuple #[.int .i64 (popc (maskL L) : Nat), .int .i64 0]) ∧ Gr w w' := by
  have hc := chkS_of hL
  have HA := Lib.hid (maskL_lt hL.le)
  go_enter Try.func43, Try.ntmps43
  go_wp2_with fail
  refine (scheck_any _ _ _ hl).mono ?_
  rintro e w1 ⟨rfl, g1⟩
  go_wp2_with fail
  refine (maskOf_any _ _ _ (hl.gr g1) hL).mono ?_
  rintro e w2 ⟨rfl, g2⟩
  go_wp2_with fail
  refine (ones32_any _ _ HA.out).mono ?_
  rintro e w3 ⟨rfl, g3⟩
  go_wp2_with fail
  go_ret2
  exact ⟨rfl, (g1.trans g2).trans g3⟩

/-! span.Has -/
set_option maxHeartbeats 400000 in
set_option maxRecDepth 100000 in
theorem shas_bad (v : Value) (l : List (Int × Int)) (n : Int) (w : World) (hl : Rd2 w v l) (hc : (chkS l == 0) = false) :
    Calls Try.prog 47 #[v, .int .i64 n] w fun e w' => e = .returned (.tuple #[.bool false, .int .i64 (chkS l)]) ∧ Gr w w' := by
  have hc' := sbne_of' hc
  go_enter Try.func47, Try.ntmps47
  go_wp2_with fail
  refine (scheck_any _ _ _ hl).mono ?_
  rintro e w1 ⟨rfl, hb⟩
  go_wp2_with fail
  go_ret2
  exact ⟨rfl, hb⟩
/-- is an integer a bit of a mask? -/
def bitB (m : Nat) (n : Int) : Bool := numB n && m.testBit n.toNat
set_option maxHeartbeats 400000 in
set_option maxRecDepth 100000 in
theorem shas_ok (v : Value) (L : List (Nat × Nat)) (n : Int) (w : World) (hl : Rd2 w v (pairs L)) (hL : VF 0 L) :
    Calls Try.prog 47 #[v, .int .i64 n] w fun e w' => e = .returned (.tuple #[.bool (bitB (maskL L) n), .int .i64 0]) ∧ Gr w w' := by
  have hc := chkS_of hL
  have HA := Lib.hid (maskL_lt hL.le)
  cases hn : numB n
  · have e1 : bitB (maskL L) n = false := by simp [bitB, hn]
    rw [e1]
    clear e1
    go_enter Try.func47, Try.ntmps47
    go_wp2_with fail
    refine (scheck_any _ _ _ hl).mono ?_
    rintro e w1 ⟨rfl, g1⟩
    go_wp2_with fail
    refine (isNum_any _ _).mono ?_
    rintro e w2 ⟨rfl, rfl⟩
    go_wp2_with fail
    go_ret2
    exact ⟨rfl, g1⟩
  · obtain ⟨k, rfl⟩ := Int.eq_ofNat_of_zero_le (show 0 ≤ n by simp [numB] at hn; omega)
    have hk : k < 32 := by simp [numB] at hn; omega
    have e1 : bitB (maskL L) k = (maskL L).testBit k := by simp [bitB, hn]
    rw [e1]
    clear e1
    go_enter Try.func47, Try.ntmps47
    go_wp2_with fail
    refine (scheck_any _ _ _ hl).mono ?_
    rintro e w1 ⟨rfl, g1⟩
    go_wp2_with fail
    refine (isNum_any _ _).mono ?_
    rintro e w2 ⟨rfl, rfl⟩
    go_wp2_with fail
    refine (maskOf_any _ _ _ (hl.gr g1) hL).mono ?_
    rintro e w2 ⟨rfl, g2⟩
    go_wp2_with fail
    refine (shas_any _ _ _ HA.out hk).mono ?_
    rintro e w3 ⟨rfl, rfl⟩
    go_wp2_with fail
    go_ret2
    exact ⟨rfl, g1.trans g2⟩

/-! span.Within -/
set_option maxHeartbeats 400000 in
set_option maxRecDepth 100000 in
theorem swithin_bad (v v' : Value) (l r : List (Int × Int)) (w : World) (hl : Rd2 w v l) (hr : Rd2 w v' r) (hc : (chkS2 l r == 0) = false) :
    Calls Try.prog 55 #[v, v'] w fun e w' => e = .returned (.tuple #[.bool false, .int .i64 (chkS2 l r)]) ∧ Gr w w' := by
  have hc' := sbne_of' hc
  go_enter Try.func55, Try.ntmps55
  go_wp2_with fail
  refine (scheckBoth_any _ _ _ _ _ hl hr).mono ?_
  rintro e w1 ⟨rfl, hb⟩
  go_wp2_with fail
  go_ret2
  exact ⟨rfl, hb⟩
/-- is a mask within another one? -/
def subM (a b : Nat) : Bool := lessM a b == 0
theorem subM_eq (a b : Nat) (ha : a < 2 ^ 32) (hb : b < 2 ^ 32) : (bits .andNot .u32 (a : Int) (b : Int) == 0) = subM a b := by
  rw [u32_andNot_nat a b ha hb, Bool.eq_iff_iff]
  simp only [subM, lessM, beq_iff_eq]
  omega
set_option maxHeartbeats 400000 in
set_option maxRecDepth 100000 in
theorem swithin_ok (v v' : Value) (L R : List (Nat × Nat)) (w : World) (hl : Rd2 w v (pairs L)) (hr : Rd2 w v' (pairs R)) (hL : VF 0 L) (hR : VF 0 R) :
    Calls Try.prog 55 #[v, v'] w fun e w' => e = .returned (.tuple #[.bool (subM (maskL L) (maskL R)), .int .i64 0]) ∧ Gr w w' := by
  have hc := chkS2_of hL hR
  have HE := Lib.hid (subM_eq _ _ (maskL_lt hL.le) (maskL_lt hR.le))
  go_enter Try.func55, Try.ntmps55
  go_wp2_with fail
  refine (scheckBoth_any _ _ _ _ _ hl hr).mono ?_
  rintro e w1 ⟨rfl, g1⟩
  go_wp2_with fail
  refine (maskOf_any _ _ _ (hl.gr g1) hL).mono ?_
  rintro e w2 ⟨rfl, g2⟩
  go_wp2_with fail
  refine (maskOf_any _ _ _ ((hr.gr g1).gr g2) hR).mono ?_
  rintro e w3 ⟨rfl, g3⟩
  go_wp2_with fail
  go_ret2
  exact ⟨by rw [← HE.out]; rfl, (g1.trans g2).trans g3⟩
end Go.Proofs.Ytphcjjhfgpdhcaa
