/- Joined: FilK, FilDB, FilL, FilS, PtC, PtD, PtE, MkSort, MkComp, PtK, PtF, PtG, ConcatP, PtH, PtL, PtM, OpenB, OpenQ. -/
import Derived.Test.YtghjfakellaecaaPf3
import Derived.Laws.Bits128
import Derived.ChangeKeysEq
import Derived.Lib.AppendZerosOnto
import Derived.Lib.AppendZeros
import Derived.Laws.AppendOwnNone
/- Joined: FilO, FilK. -/
/- The contract of math/bits.OnesCount64 over words of 32 bits. -/
namespace Rm
open Go Go.RowKit
set_option linter.unusedVariables false
theorem and_split (a b c d : Nat) (ha : a < 256) (hc : c < 256) : (a + 256 * b) &&& (c + 256 * d) = (a &&& c) + 256 * (b &&& d) := by
  have hac : a &&& c < 256 := Nat.lt_of_le_of_lt Nat.and_le_left ha
  have key : ∀ x y, x < 256 → (x + 256 * y) = 2 ^ 8 * y + x := fun x y _ => by omega
  rw [key a b ha, key c d hc, key (a &&& c) (b &&& d) hac]
  apply Nat.eq_of_testBit_eq
  intro i
  rw [Nat.testBit_and, Nat.testBit_two_pow_mul_add _ (by omega), Nat.testBit_two_pow_mul_add _ (by omega), Nat.testBit_two_pow_mul_add _ (by omega)]
  by_cases h : i < 8
  · simp [h]
  · simp [h]
/-- the steps of the reckoning, in a byte -/
def s1 (a : Nat) : Nat := ((a / 2) &&& 85) + (a &&& 85)
def s2 (a : Nat) : Nat := ((a / 4) &&& 51) + (a &&& 51)
def s3 (a : Nat) : Nat := (a / 16 + a) &&& 15
def stTab : Bool := (List.range 256).all fun a => (List.range 16).all fun r =>
  ((a / 2 + 128 * (r % 2)) &&& 85 == (a / 2) &&& 85) && (((a / 4 + 64 * (r % 4)) &&& 51) == (a / 4) &&& 51) && decide (s1 a < 256) && decide (s2 a < 256) &&
  (!(decide (r ≤ 4)) || ((s2 (s1 a) / 16 + 16 * r + s2 (s1 a)) &&& 15 == s3 (s2 (s1 a)))) && decide (s2 (s1 a) % 16 ≤ 4) && decide (s2 (s1 a) / 16 ≤ 4) && (s3 (s2 (s1 a)) == popTo a 8) && decide (s2 (s1 a) / 16 + 16 * 4 + s2 (s1 a) < 256)
theorem stTab_true : stTab = true := by decide +kernel
theorem stTab_at (a r : Nat) (ha : a < 256) (hr : r < 16) : ((a / 2 + 128 * (r % 2)) &&& 85 = (a / 2) &&& 85) ∧ (((a / 4 + 64 * (r % 4)) &&& 51) = (a / 4) &&& 51) ∧ s1 a < 256 ∧ s2 a < 256 ∧
    (r ≤ 4 → (s2 (s1 a) / 16 + 16 * r + s2 (s1 a)) &&& 15 = s3 (s2 (s1 a))) ∧ s2 (s1 a) % 16 ≤ 4 ∧ s2 (s1 a) / 16 ≤ 4 ∧ s3 (s2 (s1 a)) = popTo a 8 ∧ s2 (s1 a) / 16 + 16 * 4 + s2 (s1 a) < 256 := by
  have H := stTab_true
  unfold stTab at H
  rw [List.all_eq_true] at H
  have H1 := H a (List.mem_range.2 ha)
  rw [List.all_eq_true] at H1
  have H2 := H1 r (List.mem_range.2 hr)
  simp only [Bool.and_eq_true, beq_iff_eq, decide_eq_true_eq, Bool.or_eq_true, Bool.not_eq_true', decide_eq_false_iff_not] at H2
  obtain ⟨⟨⟨⟨⟨⟨⟨⟨h1, h2⟩, h3⟩, h4⟩, h5⟩, h6⟩, h7⟩, h8⟩, h9⟩ := H2
  exact ⟨h1, h2, h3, h4, fun hr => by rcases h5 with h | h; · exact absurd hr h
                                      · exact h, h6, h7, h8, h9⟩
/-- four bytes -/
def by4 (a b c d : Nat) : Nat := a + 256 * (b + 256 * (c + 256 * d))
theorem by4_of (x : Nat) (h : x < 2 ^ 32) : x = by4 (x % 256) (x / 256 % 256) (x / 65536 % 256) (x / 16777216 % 256) := by unfold by4; omega
theorem and4 (a b c d m r : Nat) (ha : a < 256) (hb : b < 256) (hc : c < 256) (hd : d < 256) (hm : m < 256) : by4 a b c d &&& (m + 256 * (m + 256 * (m + 256 * (m + 256 * r)))) = by4 (a &&& m) (b &&& m) (c &&& m) (d &&& m) := by
  unfold by4
  rw [and_split _ _ _ _ ha hm, and_split _ _ _ _ hb hm, and_split _ _ _ _ hc hm]
  have := and_split d 0 m r hd hm
  simp only [Nat.mul_zero, Nat.add_zero, Nat.zero_and] at this
  rw [this]
theorem half4 (a b c d : Nat) (ha : a < 256) (hb : b < 256) (hc : c < 256) (hd : d < 256) : by4 a b c d / 2 = by4 (a / 2 + 128 * (b % 2)) (b / 2 + 128 * (c % 2)) (c / 2 + 128 * (d % 2)) (d / 2) := by unfold by4; omega
theorem quar4 (a b c d : Nat) (ha : a < 256) (hb : b < 256) (hc : c < 256) (hd : d < 256) : by4 a b c d / 4 = by4 (a / 4 + 64 * (b % 4)) (b / 4 + 64 * (c % 4)) (c / 4 + 64 * (d % 4)) (d / 4) := by unfold by4; omega
theorem add4 (a b c d a' b' c' d' : Nat) : by4 a b c d + by4 a' b' c' d' = by4 (a + a') (b + b') (c + c') (d + d') := by unfold by4; omega
theorem six4 (a b c d : Nat) (ha : a < 256) (hb : b < 256) (hc : c < 256) (hd : d < 256) : by4 a b c d / 16 = by4 (a / 16 + 16 * (b % 16)) (b / 16 + 16 * (c % 16)) (c / 16 + 16 * (d % 16)) (d / 16) := by unfold by4; omega
theorem step1 (a b c d : Nat) (ha : a < 256) (hb : b < 256) (hc : c < 256) (hd : d < 256) : (by4 a b c d / 2 &&& 6148914691236517205) + (by4 a b c d &&& 6148914691236517205) = by4 (s1 a) (s1 b) (s1 c) (s1 d) := by
  have e : (6148914691236517205 : Nat) = 85 + 256 * (85 + 256 * (85 + 256 * (85 + 256 * 1431655765))) := by decide
  rw [e, half4 a b c d ha hb hc hd, and4 _ _ _ _ 85 _ (by omega) (by omega) (by omega) (by omega) (by omega), and4 a b c d 85 _ ha hb hc hd (by omega), add4]
  have ta := (stTab_at a (b % 16) ha (by omega)).1
  have tb := (stTab_at b (c % 16) hb (by omega)).1
  have tc := (stTab_at c (d % 16) hc (by omega)).1
  rw [show b % 16 % 2 = b % 2 by omega] at ta
  rw [show c % 16 % 2 = c % 2 by omega] at tb
  rw [show d % 16 % 2 = d % 2 by omega] at tc
  rw [ta, tb, tc]
  rfl
theorem step2 (a b c d : Nat) (ha : a < 256) (hb : b < 256) (hc : c < 256) (hd : d < 256) : (by4 a b c d / 4 &&& 3689348814741910323) + (by4 a b c d &&& 3689348814741910323) = by4 (s2 a) (s2 b) (s2 c) (s2 d) := by
  have e : (3689348814741910323 : Nat) = 51 + 256 * (51 + 256 * (51 + 256 * (51 + 256 * 858993459))) := by decide
  rw [e, quar4 a b c d ha hb hc hd, and4 _ _ _ _ 51 _ (by omega) (by omega) (by omega) (by omega) (by omega), and4 a b c d 51 _ ha hb hc hd (by omega), add4]
  have ta := (stTab_at a (b % 16) ha (by omega)).2.1
  have tb := (stTab_at b (c % 16) hb (by omega)).2.1
  have tc := (stTab_at c (d % 16) hc (by omega)).2.1
  rw [show b % 16 % 4 = b % 4 by omega] at ta
  rw [show c % 16 % 4 = c % 4 by omega] at tb
  rw [show d % 16 % 4 = d % 4 by omega] at tc
  rw [ta, tb, tc]
  rfl
theorem step3 (a b c d : Nat) (ha : a < 256) (hb : b < 256) (hc : c < 256) (hd : d < 256) :
    ((by4 (s2 (s1 a)) (s2 (s1 b)) (s2 (s1 c)) (s2 (s1 d)) / 16 + by4 (s2 (s1 a)) (s2 (s1 b)) (s2 (s1 c)) (s2 (s1 d))) &&& 1085102592571150095) = by4 (popTo a 8) (popTo b 8) (popTo c 8) (popTo d 8) := by
  have e : (1085102592571150095 : Nat) = 15 + 256 * (15 + 256 * (15 + 256 * (15 + 256 * 252645135))) := by decide
  obtain ⟨_, _, _, _, _, ma, qa, pa, za⟩ := stTab_at a 0 ha (by omega)
  obtain ⟨_, _, _, _, _, mb, qb, pb, zb⟩ := stTab_at b 0 hb (by omega)
  obtain ⟨_, _, _, _, _, mc, qc, pc, zc⟩ := stTab_at c 0 hc (by omega)
  obtain ⟨_, _, _, _, r0, md, qd, pd, zd⟩ := stTab_at d 0 hd (by omega)
  have ra := (stTab_at a (s2 (s1 b) % 16) ha (by omega)).2.2.2.2.1 mb
  have rb := (stTab_at b (s2 (s1 c) % 16) hb (by omega)).2.2.2.2.1 mc
  have rc := (stTab_at c (s2 (s1 d) % 16) hc (by omega)).2.2.2.2.1 md
  have rd := r0 (by omega)
  rw [e, six4 _ _ _ _ (by omega) (by omega) (by omega) (by omega), add4, and4 _ _ _ _ 15 _ (by omega) (by omega) (by omega) (by omega) (by omega), ra, rb, rc, pa, pb, pc]
  rw [Nat.mul_zero, Nat.add_zero] at rd
  rw [rd, pd]
theorem pop_end (p q r s : Nat) (hp : p ≤ 8) (hq : q ≤ 8) (hr : r ≤ 8) (hs : s ≤ 8) : ∀ x y z, x = by4 p q r s + by4 p q r s / 256 → y = x + x / 65536 → z = y + y / 4294967296 → z % 128 = p + q + r + s := by
  intro x y z hx hy hz
  have d1 : by4 p q r s / 256 = q + 256 * (r + 256 * s) := by unfold by4; omega
  rw [d1] at hx
  unfold by4 at hx
  have d2 : x / 65536 = r + s + 256 * s := by omega
  rw [d2] at hy
  have d3 : y / 4294967296 = 0 := by omega
  rw [d3] at hz
  omega
end Rm
namespace Go.Proofs.Ytghjfakellaecaa
open Go.RowKit Rm
set_option linter.unusedVariables false

theorem u64_small (n : Nat) (h : n < 18446744073709551616) : IntKind.u64.wrap (n : Int) = (n : Int) := by rw [IntKind.wrap_u64]; omega
theorem ones_eqs (x : Nat) (hx : x < 2 ^ 32) : ∃ y1 y2 y3 y4 y5 y6 : Nat,
    IntKind.u64.wrap (bits .and .u64 ((x : Int) / 2) 6148914691236517205 + bits .and .u64 (x : Int) 6148914691236517205) = (y1 : Int) ∧
    IntKind.u64.wrap (bits .and .u64 ((y1 : Int) / 4) 3689348814741910323 + bits .and .u64 (y1 : Int) 3689348814741910323) = (y2 : Int) ∧
    bits .and .u64 (IntKind.u64.wrap ((y2 : Int) / 16 + (y2 : Int))) 1085102592571150095 = (y3 : Int) ∧
    IntKind.u64.wrap ((y3 : Int) + (y3 : Int) / 256) = (y4 : Int) ∧ IntKind.u64.wrap ((y4 : Int) + (y4 : Int) / 65536) = (y5 : Int) ∧ IntKind.u64.wrap ((y5 : Int) + (y5 : Int) / 4294967296) = (y6 : Int) ∧
    (y6 : Int) < 17179869184 ∧ bits .and .i64 (y6 : Int) 127 = ((popc x : Nat) : Int) := by
  have ha : x % 256 < 256 := by omega
  have hb : x / 256 % 256 < 256 := by omega
  have hc : x / 65536 % 256 < 256 := by omega
  have hd : x / 16777216 % 256 < 256 := by omega
  have hp := popc_bytes x
  have q1 := step1 _ _ _ _ ha hb hc hd
  rw [← by4_of x hx] at q1
  have la := (stTab_at _ 0 ha (by omega))
  have lb := (stTab_at _ 0 hb (by omega))
  have lc := (stTab_at _ 0 hc (by omega))
  have ld := (stTab_at _ 0 hd (by omega))
  have q2 := step2 _ _ _ _ la.2.2.1 lb.2.2.1 lc.2.2.1 ld.2.2.1
  have q3 := step3 _ _ _ _ ha hb hc hd
  generalize x % 256 = a at *
  generalize x / 256 % 256 = b at *
  generalize x / 65536 % 256 = c at *
  generalize x / 16777216 % 256 = d at *
  have pa := popTo_le a 8
  have pb := popTo_le b 8
  have pc := popTo_le c 8
  have pd := popTo_le d 8
  have z1 : by4 (s1 a) (s1 b) (s1 c) (s1 d) < 4294967296 := by have := la.2.2.1; have := lb.2.2.1; have := lc.2.2.1; have := ld.2.2.1; unfold by4; omega
  have z2 : by4 (s2 (s1 a)) (s2 (s1 b)) (s2 (s1 c)) (s2 (s1 d)) < 4294967296 := by
    have := la.2.2.2.2.2.2.2.2; have := lb.2.2.2.2.2.2.2.2; have := lc.2.2.2.2.2.2.2.2; have := ld.2.2.2.2.2.2.2.2
    unfold by4; omega
  have z3 : by4 (popTo a 8) (popTo b 8) (popTo c 8) (popTo d 8) < 4294967296 := by unfold by4; omega
  have hfin := pop_end _ _ _ _ pa pb pc pd _ _ _ rfl rfl rfl
  clear la lb lc ld
  generalize by4 (s1 a) (s1 b) (s1 c) (s1 d) = y1 at *
  generalize by4 (s2 (s1 a)) (s2 (s1 b)) (s2 (s1 c)) (s2 (s1 d)) = y2 at *
  generalize by4 (popTo a 8) (popTo b 8) (popTo c 8) (popTo d 8) = y3 at *
  have l1 : x / 2 &&& 6148914691236517205 ≤ x / 2 := Nat.and_le_left
  have l2 : x &&& 6148914691236517205 ≤ x := Nat.and_le_left
  have l3 : y1 / 4 &&& 3689348814741910323 ≤ y1 / 4 := Nat.and_le_left
  have l4 : y1 &&& 3689348814741910323 ≤ y1 := Nat.and_le_left
  have h32 : x < 4294967296 := hx
  refine ⟨y1, y2, y3, y3 + y3 / 256, y3 + y3 / 256 + (y3 + y3 / 256) / 65536,
    y3 + y3 / 256 + (y3 + y3 / 256) / 65536 + (y3 + y3 / 256 + (y3 + y3 / 256) / 65536) / 4294967296, ?_, ?_, ?_, ?_, ?_, ?_, ?_, ?_⟩
  · have e1 := u64_and_nat (x / 2) 6148914691236517205 (by omega) (by omega)
    have e2 := u64_and_nat x 6148914691236517205 (by omega) (by omega)
    rw [show ((x / 2 : Nat) : Int) = (x : Int) / 2 by omega] at e1
    rw [show (((6148914691236517205 : Nat)) : Int) = 6148914691236517205 from rfl] at e1 e2
    rw [e1, e2, ← Int.natCast_add, q1]
    exact u64_small _ (by omega)
  · have e1 := u64_and_nat (y1 / 4) 3689348814741910323 (by omega) (by omega)
    have e2 := u64_and_nat y1 3689348814741910323 (by omega) (by omega)
    rw [show ((y1 / 4 : Nat) : Int) = (y1 : Int) / 4 by omega] at e1
    rw [show (((3689348814741910323 : Nat)) : Int) = 3689348814741910323 from rfl] at e1 e2
    rw [e1, e2, ← Int.natCast_add, q2]
    exact u64_small _ (by omega)
  · rw [show (y2 : Int) / 16 + (y2 : Int) = ((y2 / 16 + y2 : Nat) : Int) by omega, u64_small _ (by omega)]
    have e1 := u64_and_nat (y2 / 16 + y2) 1085102592571150095 (by omega) (by omega)
    rw [q3] at e1
    exact e1
  · rw [show (y3 : Int) + (y3 : Int) / 256 = ((y3 + y3 / 256 : Nat) : Int) by omega]
    exact u64_small _ (by omega)
  · have z4 : y3 + y3 / 256 < 8589934592 := by omega
    generalize y3 + y3 / 256 = y4 at *
    rw [show (y4 : Int) + (y4 : Int) / 65536 = ((y4 + y4 / 65536 : Nat) : Int) by omega]
    exact u64_small _ (by omega)
  · have z5 : y3 + y3 / 256 + (y3 + y3 / 256) / 65536 < 17179869184 := by omega
    generalize y3 + y3 / 256 + (y3 + y3 / 256) / 65536 = y5 at *
    rw [show (y5 : Int) + (y5 : Int) / 4294967296 = ((y5 + y5 / 4294967296 : Nat) : Int) by omega]
    exact u64_small _ (by omega)
  · omega
  · rw [i64_and127, hp, ← hfin]
    omega

set_option maxHeartbeats 1000000 in
set_option maxRecDepth 100000 in
theorem ones64_mask (x : Nat) (w : World) (hx : x < 2 ^ 32) :
    Calls Try.prog 57 #[.int .u64 x] w fun e w' => e = .returned (.int .i64 (popc x : Nat)) ∧ w = w' := by
  obtain ⟨y1, y2, y3, y4, y5, y6, e1, e2, e3, e4, e5, e6, e7, e8⟩ := ones_eqs x hx
  have hx' : (x : Int) < 4294967296 := by omega
  clear hx
  go_enter Try.func57, Try.ntmps57
  go_wp2
  go_ret
  exact ⟨rfl, rfl⟩
end Go.Proofs.Ytghjfakellaecaa
/- Package filter by tables: what each function does to filters that are told by the numbers of each combination of tags. -/
namespace Rm
open Go Go.RowKit
/-- have two tables the same numbers? -/
def eqT (T U : Nat → Nat) : Bool := (List.range 16).all fun i => ((T i : Nat) : Int) == ((U i : Nat) : Int)
def allT (P : Nat → Bool) : Bool := (List.range 16).all P
theorem allT_iff {P : Nat → Bool} : allT P = true ↔ ∀ t, t < 16 → P t = true := by simp [allT]
theorem allT_congr {P Q : Nat → Bool} (h : ∀ t, t < 16 → P t = Q t) : allT P = allT Q := by
  rw [Bool.eq_iff_iff, allT_iff, allT_iff]
  exact ⟨fun a t ht => by rw [← h t ht]; exact a t ht, fun a t ht => by rw [h t ht]; exact a t ht⟩
def withinT (T U : Nat → Nat) : Bool := allT fun t => lessM (T t) (U t) == 0
theorem eqT_zero (T : Nat → Nat) : eqT T (fun _ => 0) = allT fun t => T t == 0 := by
  refine allT_congr fun t _ => ?_
  rw [Bool.eq_iff_iff]
  simp
end Rm
namespace Go.Proofs.Ytghjfakellaecaa
open Go.RowKit Rm
set_option linter.unusedVariables false

theorem eqItems_tArr (d : Nat) (T U : Nat → Nat) (w : World) : ∀ is : List Nat, (∀ i ∈ is, i < 16) → (Op.eqItems (d + 1) 99 1 (tArr T) (tArr U) is).run Try.prog w = .ok (is.all fun i => ((T i : Nat) : Int) == ((U i : Nat) : Int)) w
  | [], _ => by simp [Op.eqItems]
  | i :: is, h => by
    have hi : i < 16 := h i (List.mem_cons_self ..)
    have ih := eqItems_tArr d T U w is (fun j hj => h j (List.mem_cons_of_mem _ hj))
    have ha : (isAgg 99).run Try.prog w = .ok false w := by
      unfold isAgg
      rw [Sem.run_bind, run_underlying Try.underlying99 w]
      rfl
    have p1 : (part 99 (tArr T) (i * 1)).run Try.prog w = .ok (.int .u64 (T i : Nat)) w := by
      unfold part
      rw [Sem.run_bind, ha]
      simp [tArr_at T i hi]
    have p2 : (part 99 (tArr U) (i * 1)).run Try.prog w = .ok (.int .u64 (U i : Nat)) w := by
      unfold part
      rw [Sem.run_bind, ha]
      simp [tArr_at U i hi]
    have p3 : (Op.equalIn (d + 1) 99 (.int .u64 (T i : Nat)) (.int .u64 (U i : Nat))).run Try.prog w = .ok (((T i : Nat) : Int) == ((U i : Nat) : Int)) w := by
      simp [Op.equalIn, Sem.run_bind, run_underlying Try.underlying99]
    simp only [Op.eqItems, Sem.run_bind, p1, p2, p3, Result.andThen_ok]
    cases hc : (((T i : Nat) : Int) == ((U i : Nat) : Int))
    · simp [hc]
    · simp [hc, ih]
theorem set_cells : Try.prog.cellsOf 99 = 1 := by kernel_rfl
theorem eq_tables (T U : Nat → Nat) (w : World) : (Op.equalIn 10000 101 (.agg (tArr T)) (.agg (tArr U))).run Try.prog w = .ok (eqT T U) w := by
  obtain ⟨i, hi⟩ : ∃ i, Try.prog.info? 99 = some i := by
    cases hq : Try.prog.info? 99 with
    | none => have := set_info; rw [hq] at this; simp at this
    | some i => exact ⟨i, rfl⟩
  rw [run_equalIn_array (P := Try.prog) w 9999 (tArr T) (tArr U) Try.underlying101 hi, set_cells]
  exact eqItems_tArr 9998 T U w (List.range 16) (fun i hi => List.mem_range.1 hi)

/-- a slice that is the filter of a table -/
def FSn (n : Nat) (w : World) (v : Value) (T : Nat → Nat) : Prop := ∃ F, RdF w v (F.map boxI) ∧ OkF F ∧ F.length ≤ n ∧ ∀ t, t < 16 → tabF F t = T t
abbrev FS (w : World) (v : Value) (T : Nat → Nat) : Prop := FSn 40 w v T
theorem FSn.gr {n : Nat} {w w' : World} {v : Value} {T : Nat → Nat} (h : FSn n w v T) (g : Gr w w') : FSn n w' v T := by
  obtain ⟨F, h1, h2⟩ := h
  exact ⟨F, h1.gr g, h2⟩
theorem FSn.alloc {n : Nat} {w : World} {v : Value} {T : Nat → Nat} (h : FSn n w v T) (o : Obj) : FSn n (w.alloc o) v T := h.gr ((Gr.refl w).alloc o)
theorem FSn.le {n m : Nat} {w : World} {v : Value} {T : Nat → Nat} (h : FSn n w v T) (hn : n ≤ m) : FSn m w v T := by
  obtain ⟨F, h1, h2, h3, h4⟩ := h
  exact ⟨F, h1, h2, by omega, h4⟩
theorem FSn.lt {n : Nat} {w : World} {v : Value} {T : Nat → Nat} (h : FSn n w v T) (t : Nat) (ht : t < 16) : T t < 2 ^ 32 := by
  obtain ⟨F, h1, h2, h3, h4⟩ := h
  rw [← h4 t ht]
  exact tabF_lt h2 t
theorem FSn.ext {n : Nat} {w : World} {v : Value} {T U : Nat → Nat} (h : FSn n w v T) (e : ∀ t, t < 16 → T t = U t) : FSn n w v U := by
  obtain ⟨F, h1, h2, h3, h4⟩ := h
  exact ⟨F, h1, h2, h3, fun t ht => (h4 t ht).trans (e t ht)⟩
/-- a filter in new memory: the slice, and the slices of its boxes, own what they hold -/
def FO (base n : Nat) (w : World) (v : Value) (T : Nat → Nat) : Prop :=
  ∃ O : List (Bx × Value), w.ownsRow base 124 3 v O.length (flatO O) ∧ (∀ p ∈ O, w.ownsRow base 135 2 p.2 (pairs (canon p.1.2)).length (flat (pairs (canon p.1.2)))) ∧ OkF (O.map (·.1)) ∧ O.length ≤ n ∧ ∀ t, t < 16 → tabF (O.map (·.1)) t = T t
theorem own_base {w : World} {base base' : Nat} {e : TypeId} {size : Nat} {v : Value} {n : Nat} {xs : List Value} (h : w.ownsRow base e size v n xs) (hb : base' ≤ base) : w.ownsRow base' e size v n xs := by
  refine ⟨h.1, ?_⟩
  rcases h.2 with ⟨a, b⟩ | ⟨g, cap, cur, a, b, c⟩
  · exact .inl ⟨a, b⟩
  · exact .inr ⟨g, cap, cur, a, Nat.le_trans hb b, c⟩
theorem FO.gr {base n : Nat} {w w' : World} {v : Value} {T : Nat → Nat} (h : FO base n w v T) (g : Gr w w') : FO base n w' v T := by
  obtain ⟨O, h1, h2, h3⟩ := h
  exact ⟨O, own_gr h1 g, fun p hp => own_gr (h2 p hp) g, h3⟩
theorem FO.base {base base' n : Nat} {w : World} {v : Value} {T : Nat → Nat} (h : FO base n w v T) (hb : base' ≤ base) : FO base' n w v T := by
  obtain ⟨O, h1, h2, h3⟩ := h
  exact ⟨O, own_base h1 hb, fun p hp => own_base (h2 p hp) hb, h3⟩
theorem FO.le {base n m : Nat} {w : World} {v : Value} {T : Nat → Nat} (h : FO base n w v T) (hn : n ≤ m) : FO base m w v T := by
  obtain ⟨O, h1, h2, h3, h4, h5⟩ := h
  exact ⟨O, h1, h2, h3, by omega, h5⟩
theorem FO.ext {base n : Nat} {w : World} {v : Value} {T U : Nat → Nat} (h : FO base n w v T) (e : ∀ t, t < 16 → T t = U t) : FO base n w v U := by
  obtain ⟨O, h1, h2, h3, h4, h5⟩ := h
  exact ⟨O, h1, h2, h3, h4, fun t ht => (h5 t ht).trans (e t ht)⟩
theorem FO.fs {base n : Nat} {w : World} {v : Value} {T : Nat → Nat} (h : FO base n w v T) : FSn n w v T := by
  obtain ⟨O, h1, h2, h3, h4, h5⟩ := h
  exact ⟨O.map (·.1), rd_own h1 h2, h3, by simpa using h4, h5⟩
theorem boxes_own {T : Nat → Nat} {w : World} (hT : ∀ t, t < 16 → T t < 2 ^ 32) : Calls Try.prog 108 #[.agg (tArr T)] w fun e w' => ∃ u, e = .returned u ∧ FO w.heap.size 16 w' u T ∧ Gr w w' :=
  (boxes_any T w hT).mono fun e w' ⟨u, O, he, hg, ⟨wl, hl1, ho⟩, hok, hl, ht⟩ => ⟨u, he, ⟨O, own_base ho.2.1 hl1.le, fun p hp => own_base (ho.2.2 p hp).1 hl1.le, hok, by have := blkT_len T 16; omega, ht⟩, hg⟩
set_option maxHeartbeats 1000000 in
set_option maxRecDepth 100000 in
theorem fmeet_own {v v' : Value} {T U : Nat → Nat} {w : World} (h : FS w v T) (h' : FS w v' U) :
    Calls Try.prog 87 #[v, v'] w fun e w' => ∃ u, e = .returned (.tuple #[u, .int .i64 0]) ∧ FO w.heap.size 16 w' u (fun t => T t &&& U t) ∧ Gr w w' := by
  obtain ⟨F, h1, hF, hl1, t1⟩ := h
  obtain ⟨G, h2, hG, hl2, t2⟩ := h'
  obtain ⟨R, hR⟩ : ∃ R : Nat → Nat, R = fun t => tabF F t &&& tabF G t := ⟨_, rfl⟩
  have HS : Hid ((Try.prog.info? 101).map (·.size) = some (tArr R).size) := by rw [tArr_size]; exact table_info
  have HSZ : Hid ((tArr fun _ => 0).size = (tArr R).size) := by rw [tArr_size, tArr_size]; rfl
  have H1 := Lib.hid (tArr_one R)
  have HLT : Hid (∀ t, t < 16 → R t < 2 ^ 32) := fun t _ => by rw [hR]; exact Nat.lt_of_le_of_lt Nat.and_le_left (tabF_lt hF t)
  have HT : Hid (∀ t, t < 16 → R t = T t &&& U t) := fun t ht => by rw [hR]; simp only; rw [t1 t ht, t2 t ht]
  have HCC := Lib.hid (fcombine_meet v v' F G w h1 h2 hF hG hl1 hl2)
  rw [← hR] at HCC
  clear h1 h2 hF hG hl1 hl2 t1 t2 hR
  go_enter Try.func87, Try.ntmps87
  go_wp2_with fail
  refine HCC.out.mono ?_
  rintro e w1 ⟨rfl, g1⟩
  go_wp2_with (first
    | (refine wpList_store_row rfl 101 (.tmp 6) (.tmp 12) rfl w1.heap.size (tArr R) rfl rfl 101 _ (heap_alloc_new _ _) HS.out HSZ.out H1.out ?_)
    | (refine wpList_load_row rfl 101 _ rfl w1.heap.size rfl 101 (tArr R) (0, 0) _ (setRow_heap _ _ _ _ _ _ (heap_alloc_new _ _)) Try.underlying101 rfl HS.out ?_))
  refine (boxes_own HLT.out).mono ?_
  rintro e w2 ⟨u, rfl, hu, g2⟩
  go_wp2_with fail
  go_ret2
  exact ⟨u, rfl, (hu.ext HT.out).base ((g1.alloc _).setRow g1.le _).le, ((g1.alloc _).setRow g1.le _).trans g2⟩
end Go.Proofs.Ytghjfakellaecaa

/- Joined: FilDWithin, FilDSame. -/
/- The contract of package filter's combine, as Within calls it. -/
namespace Go.Proofs.Ytghjfakellaecaa
open Go.RowKit Rm
set_option linter.unusedVariables false

set_option maxHeartbeats 1000000 in
set_option maxRecDepth 100000 in
theorem fcombine_within (v v' : Value) (F G : List Bx) (w : World) (hl : RdF w v (F.map boxI)) (hr : RdF w v' (G.map boxI)) (hF : OkF F) (hG : OkF G) (hlF : F.length ≤ 40) (hlG : G.length ≤ 40) :
    Calls Try.prog 58 #[v, v', .func (.func 59) #[] #[]] w fun e w' => e = .returned (.tuple #[.agg (tArr fun t => lessM (tabF F t) (tabF G t)), .int .i64 0]) ∧ Gr w w' := by
  have HS : ∀ T, Hid ((Try.prog.info? 101).map (·.size) = some (tArr T).size) := fun T => by unfold Hid; rw [tArr_size]; exact table_info
  have hc1 := chkF_of hF hlF
  have hc2 := chkF_of hG hlG
  have HL := Lib.hid hl
  have HR := Lib.hid hr
  have HF := Lib.hid hF
  have HG := Lib.hid hG
  have HOP := Lib.hid uop_within
  obtain ⟨g, hge⟩ : ∃ g : Nat → Nat → Nat, g = (fun a b => lessM a b) := ⟨_, rfl⟩
  have HOPg : Hid (OpU 59 g) := by rw [hge]; exact HOP.out
  have HGE := Lib.hid hge
  clear hge HOP
  have HSZ := Lib.hid (fun (T U : Nat → Nat) => show (tArr T).size = (tArr U).size by rw [tArr_size, tArr_size])
  have H1 := Lib.hid tArr_one
  have HTF := Lib.hid (fun t => tabF_lt hF t)
  have HTG := Lib.hid (fun t => tabF_lt hG t)
  clear hl hr hF hG
  go_enter Try.func58, Try.ntmps58
  go_wp2_with fail
  refine (fcheck_any _ _ _ (HL.out.alloc _)).mono ?_
  rw [hc1]
  rintro e w1 ⟨rfl, g1⟩
  have HB1 : Hid (w1.heap[w.heap.size]? = some (.cells (tArr fun _ => 0) 101 (0, 0))) := (Below.block g1 _ (by simp)).trans (heap_alloc_new _ _)
  have G1 := ((Gr.refl w).alloc _).trans g1
  clear g1
  go_wp2_with fail
  refine (fcheck_any _ _ _ (HR.out.gr G1)).mono ?_
  rw [hc2]
  rintro e w2 ⟨rfl, g2⟩
  have HB2 : Hid (w2.heap[w.heap.size]? = some (.cells (tArr fun _ => 0) 101 (0, 0))) := (Below.block g2 _ (Blk_lt HB1.out)).trans HB1.out
  have G2 := G1.trans g2
  clear g2 HB1 G1
  go_wp2_with fail
  refine (tableOf_any _ _ _ (HL.out.gr G2) HF.out hlF).mono ?_
  rintro e w3 ⟨rfl, g3⟩
  have HB3 : Hid (w3.heap[w.heap.size]? = some (.cells (tArr fun _ => 0) 101 (0, 0))) := (Below.block g3 _ (Blk_lt HB2.out)).trans HB2.out
  have G3 := G2.trans g3
  clear g3 HB2 G2
  go_wp2_with fail
  refine (tableOf_any _ _ _ (HR.out.gr G3) HG.out hlG).mono ?_
  rintro e w4 ⟨rfl, g4⟩
  have HB4 : Hid (w4.heap[w.heap.size]? = some (.cells (tArr fun _ => 0) 101 (0, 0))) := (Below.block g4 _ (Blk_lt HB3.out)).trans HB3.out
  have G4 := G3.trans g4
  clear g4 HB3 G3
  have HLT := Lib.hid (Blk_lt HB4.out)
  go_wp2_with (first
    | (refine wpList_store_row rfl 101 (.tmp 10) (.tmp 26) rfl w4.heap.size _ rfl rfl 101 _ (heap_alloc2_old _ _ _) (HS _).out (HSZ.out (fun _ => 0) _) (H1.out _) ?_)
    | (refine wpList_store_row rfl 101 (.tmp 11) (.tmp 28) rfl (w4.heap.size + 1) _ rfl rfl 101 _ ((setRow_other _ _ _ _ (by omega)).trans (heap_alloc2_new _ _ _)) (HS _).out (HSZ.out (fun _ => 0) _) (H1.out _) ?_))
  have A0 := Lib.hid (combAt_start (T := tabF F) (U := tabF G) (A := tArr fun _ => 0) (B := tArr fun _ => 0) G4 HLT.out HB4.out)
  go_loopw [29] (fun jj wi => ∃ j : Nat, j ≤ 16 ∧ jj = .int .i64 j ∧ CombAt w wi w4.heap.size (midC g (tabF F) (tabF G) j) (tabF G)) (fun jj _ => 16 - (intOf jj).toNat)
  case atStart => exact ⟨0, by omega, rfl, A0.out.ext (fun i _ => by simp [midC])⟩
  case round =>
    clear A0
    obtain ⟨j, hj, rfl, hat⟩ := hrel
    generalize w4.heap.size = BB at *
    have HA := Lib.hid hat
    by_cases hjt : j < 16
    · have hj16 : (j : Int) < 16 := by omega
      have c1 : wr.cell? ⟨BB, j, none⟩ = some (.int .u64 (tabF F j : Nat)) := by
        rw [cell_of_row _ _ _ _ _ _ hat.2.2.2.1, tArr_at _ j hjt]
        simp [midC]
      have c2 : wr.cell? ⟨BB + 1, j, none⟩ = some (.int .u64 (tabF G j : Nat)) := by
        rw [cell_of_row _ _ _ _ _ _ hat.2.2.2.2, tArr_at _ j hjt]
      have hfz := frozen_of_row _ _ j _ _ hat.2.2.2.1
      have E : Hid (∀ i, i < 16 → (if i = j then g (tabF F j) (tabF G j) else midC g (tabF F) (tabF G) j i) = midC g (tabF F) (tabF G) (j + 1) i) := by
        intro i hi
        unfold midC
        by_cases e1 : i < j
        · rw [if_neg (by omega), if_pos e1, if_pos (by omega)]
        · by_cases e2 : i < j + 1
          · obtain rfl : i = j := by omega
            rw [if_pos rfl, if_pos e2]
          · rw [if_neg (by omega), if_neg e1, if_neg e2]
      clear hat
      go_wp2_with fail
      go_still_tail 10, (by kernel_rfl)
      still_call (HOPg.out _ _ (HTF.out j) (HTG.out j) _)
      repeat still_step
      refine wpStill_nil ?_
      change wpList _ _ _ _ _ wr.drew
      go_wp2_with fail
      go_roundw
      case rel => exact ⟨j + 1, by omega, by go_num, (HA.out.set j _ hjt).ext E.out⟩
      case measure => simp [intOf]; omega
    · obtain rfl : j = 16 := by omega
      have HA2 := Lib.hid (hat.ext (fun i hi => show midC g (tabF F) (tabF G) 16 i = g (tabF F i) (tabF G i) by simp [midC, hi]))
      have hg := hat.1
      clear hat HA
      go_wp2_with (first | (refine wpList_load_row rfl 101 _ rfl BB rfl 101 _ (0, 0) _ HA2.out.2.2.2.1 Try.underlying101 rfl (HS _).out ?_) | (refine wpList_store_row rfl 101 _ _ rfl w.heap.size _ rfl rfl 101 _ HA2.out.2.2.1 (HS _).out (HSZ.out (fun _ => 0) _) (H1.out _) ?_))
      refine bodyPost_ret (v := .tuple #[.agg (tArr fun t => g (tabF F t) (tabF G t)), .int .i64 0]) (results_row_tmp Try.results58 _ _ w.heap.size 101 _ (0, 0) _ _ rfl rfl (setRow_heap _ _ _ _ _ _ HA2.out.2.2.1) Try.underlying101 rfl (HS _).out) rfl ⟨by rw [HGE.out], ?_⟩
      exact hg.setRow (Nat.le_refl _) _
end Go.Proofs.Ytghjfakellaecaa
/- The contract of package filter's combine, as Same calls it. -/
namespace Go.Proofs.Ytghjfakellaecaa
open Go.RowKit Rm
set_option linter.unusedVariables false

end Go.Proofs.Ytghjfakellaecaa

/- Joined: FilL, FilN, FilQ, FilR. -/
/- Package filter by tables: Join, Meet, Less where Check refuses; Within and Same. -/
namespace Rm
open Go
/-- a whole array read where a guard said yes -/
theorem wpList_load_row_g {P : Program} {ops : Array Oper} {rest : List Oper} {o : Oper} {a : Act} {w : World} {Q : Exit → Act → World → Prop} (hw : Region.wanted o (yielded ops a.tmps) = true) (ty : TypeId) (x : Operand) (ho : o.op = .load ty x)
    (g : Nat) (hx : a.eval x = .pointer (some ⟨g, 0, none⟩)) (t : TypeId) (cs : Array Value) (fr : Nat × Nat) (d : TypeDesc) (hg : w.heap[g]? = some (.cells cs t fr))
    (hu : P.underlying ty = some d) (hd : (match d with | .struct _ | .array _ _ => true | _ => false) = true) (hi : (P.info? ty).map (·.size) = some cs.size)
    (h : wpList P ops Q rest (a.put o.dst (.agg cs)) w) : wpList P ops Q (o :: rest) a w :=
  wpList_step fun K hK => by rw [if_pos hw]; exact wp_load_row ty x ho g hx t cs fr d hg hu hd hi (hK _ _ h)
end Rm
namespace Go.Proofs.Ytghjfakellaecaa
open Go.RowKit Rm
set_option linter.unusedVariables false

set_option maxHeartbeats 1000000 in
set_option maxRecDepth 100000 in
theorem fwithin_ok {v v' : Value} {T U : Nat → Nat} {w : World} (h : FS w v T) (h' : FS w v' U) :
    Calls Try.prog 20 #[v, v'] w fun e w' => e = .returned (.tuple #[.bool (withinT T U), .int .i64 0]) ∧ Gr w w' := by
  obtain ⟨F, h1, hF, hl1, t1⟩ := h
  obtain ⟨G, h2, hG, hl2, t2⟩ := h'
  obtain ⟨R, hR0⟩ : ∃ R : Nat → Nat, R = fun t => lessM (tabF F t) (tabF G t) := ⟨_, rfl⟩
  have hR : ∀ t, R t = lessM (tabF F t) (tabF G t) := fun t => by rw [hR0]
  have HS : Hid ((Try.prog.info? 101).map (·.size) = some (tArr R).size) := by rw [tArr_size]; exact table_info
  have HSZ : Hid ((tArr fun _ => 0).size = (tArr R).size) := by rw [tArr_size, tArr_size]; rfl
  have H1 := Lib.hid (tArr_one R)
  have HE : eqT R (fun _ => 0) = withinT T U := by
    rw [eqT_zero]
    exact allT_congr fun t ht => by rw [hR, t1 t ht, t2 t ht]
  have hq : ∀ wx : World, (Op.equalIn 10000 101 (.agg (tArr R)) (.agg #[.int .u64 0, .int .u64 0, .int .u64 0, .int .u64 0, .int .u64 0, .int .u64 0, .int .u64 0, .int .u64 0, .int .u64 0, .int .u64 0, .int .u64 0, .int .u64 0, .int .u64 0, .int .u64 0, .int .u64 0, .int .u64 0])).run Try.prog wx = .ok (withinT T U) wx := fun wx => by
    rw [← HE]
    exact eq_tables R (fun _ => 0) wx
  have HCC := Lib.hid (fcombine_within v v' F G w h1 h2 hF hG hl1 hl2)
  rw [← hR0] at HCC
  clear h1 h2 hF hG hl1 hl2 t1 t2 hR hR0 HE
  go_enter Try.func20, Try.ntmps20
  go_wp2_with fail
  refine HCC.out.mono ?_
  rintro e w1 ⟨rfl, g1⟩
  go_wp2_with (first
    | (refine wpList_store_row rfl 101 (.tmp 6) (.tmp 12) rfl w1.heap.size (tArr R) rfl rfl 101 _ (heap_alloc_new _ _) HS.out HSZ.out H1.out ?_)
    | (refine wpList_load_row_g rfl 101 (.tmp 6) rfl w1.heap.size rfl 101 (tArr R) (0, 0) _ (setRow_heap _ _ _ _ _ _ (heap_alloc_new _ _)) Try.underlying101 rfl HS.out ?_))
  go_ret2
  exact ⟨rfl, (g1.alloc _).setRow g1.le _⟩

end Go.Proofs.Ytghjfakellaecaa
/- Package filter by tables: Point, Has, Count, Every; the statements' same and filterBegun. -/
namespace Rm
open Go Go.RowKit
/-- is it a point? -/
def pointB (t n : Int) : Bool := decide (0 ≤ t) && decide (t < 16) && (decide (0 ≤ n) && decide (n < 32))
/-- how many points below a combination of tags -/
def cntTo (T : Nat → Nat) : Nat → Nat
  | 0 => 0
  | k + 1 => cntTo T k + popc (T k)
def cntT (T : Nat → Nat) : Nat := cntTo T 16
theorem cntTo_le (T : Nat → Nat) : ∀ k, cntTo T k ≤ 32 * k
  | 0 => Nat.le_refl _
  | k + 1 => by have := cntTo_le T k; have := popc_le (T k); simp only [cntTo]; omega
theorem cntTo_congr {T U : Nat → Nat} : ∀ k, (∀ t, t < k → T t = U t) → cntTo T k = cntTo U k
  | 0, _ => rfl
  | k + 1, h => by simp only [cntTo]; rw [cntTo_congr k (fun t ht => h t (by omega)), h k (by omega)]
end Rm
namespace Go.Proofs.Ytghjfakellaecaa
open Go.RowKit Rm
set_option linter.unusedVariables false
attribute [local go_sem ↓] Go.wp_at_zero Go.wp_at_succ

set_option maxHeartbeats 1000000 in
set_option maxRecDepth 100000 in
theorem fcount_ok {v : Value} {T : Nat → Nat} {w : World} (h : FS w v T) :
    Calls Try.prog 18 #[v] w fun e w' => e = .returned (.tuple #[.int .i64 (cntT T : Nat), .int .i64 0]) ∧ Gr w w' := by
  obtain ⟨F, h1, hF, hl1, t1⟩ := h
  have hc := chkF_of hF hl1
  have HL := Lib.hid h1
  have HF := Lib.hid hF
  have HT : Hid (cntT T = cntTo (tabF F) 16) := (cntTo_congr 16 t1).symm
  clear h1 hF t1
  go_enter Try.func18, Try.ntmps18
  go_wp2_with fail
  refine (fcheck_any _ _ _ HL.out).mono ?_
  rw [hc]
  rintro e w1 ⟨rfl, g1⟩
  go_wp2_with fail
  refine (tableOf_any _ _ _ (HL.out.gr g1) HF.out hl1).mono ?_
  rintro e w2 ⟨rfl, g2⟩
  have G2 := g1.trans g2
  clear g1 g2
  go_wp2_with fail
  go_loop [5, 15] (fun a i => ∃ k : Nat, k ≤ 16 ∧ i = .int .i64 k ∧ a = .int .i64 (cntTo (tabF F) k : Nat)) (fun _ i => 16 - (intOf i).toNat)
  case atStart => exact ⟨0, by omega, rfl, rfl⟩
  case round =>
    obtain ⟨k, hk, rfl, rfl⟩ := hrel
    by_cases hlt : k < 16
    · have hix := fun wx => index_table (tabF F) k hlt wx
      have hk16 : (k : Int) < 16 := by omega
      have hcl : ((cntTo (tabF F) k : Nat) : Int) ≤ 512 := by have := cntTo_le (tabF F) k; omega
      have hpl : ((popc (tabF F k) : Nat) : Int) ≤ 32 := by have := popc_le (tabF F k); omega
      have HS : Hid (((cntTo (tabF F) (k + 1) : Nat) : Int) = ((cntTo (tabF F) k : Nat) : Int) + ((popc (tabF F k) : Nat) : Int)) := by simp only [cntTo]; unfold Hid; omega
      have HLT := Lib.hid (tabF_lt HF.out k)
      generalize cntTo (tabF F) k = cc at *
      generalize tabF F k = tk at *
      go_wp2_with fail
      refine (ones64_mask tk _ HLT.out).mono ?_
      rintro e w3 ⟨rfl, rfl⟩
      go_wp2_with fail
      go_round
      case rel => exact ⟨k + 1, by omega, by go_num, by rw [HS.out]⟩
      case measure => simp [intOf]; omega
    · obtain rfl : k = 16 := by omega
      go_wp2_with fail
      go_ret2
      exact ⟨by rw [HT.out]; rfl, G2⟩

end Go.Proofs.Ytghjfakellaecaa
/- Package filter's Every; the statements' same and filterBegun; filters that are written out. -/
namespace Go.Proofs.Ytghjfakellaecaa
open Go.RowKit Rm
set_option linter.unusedVariables false

theorem vld00 : Vld 0 0 := by refine ⟨?_, ?_, ?_⟩ <;> decide
theorem canonFull : canon 4294967295 = [(0, 32)] := by decide +kernel
theorem tabFull : ∀ t < 16, tabF [((0, 0), 4294967295)] t = 4294967295 := by decide +kernel
/-- all numbers, for every combination of tags -/
def fullT : Nat → Nat := fun _ => 4294967295

/-- the same, in new memory -/
theorem lit_own (w : World) (y n f t : Nat) (m : Nat) (hc : canon m = [(f, t)]) (hm : m < 2 ^ 32) (hv : Vld y n) :
    FO w.heap.size 1 ((w.alloc (.cells #[.int .i64 f, .int .i64 t] 135)).alloc (.cells #[.int .i64 y, .int .i64 n, .slice (some ⟨w.heap.size, 0, none⟩) 1 1] 124)) (.slice (some ⟨w.heap.size + 1, 0, none⟩) 1 1) (tabF [((y, n), m)]) := by
  refine ⟨[(((y, n), m), .slice (some ⟨w.heap.size, 0, none⟩) 1 1)], ?_, ?_, ?_, by simp, fun _ _ => rfl⟩
  · have h := World.ownsRow_lit (base := w.heap.size) (e := 124) (size := 3) (w.alloc (.cells #[.int .i64 f, .int .i64 t] 135)) #[.int .i64 y, .int .i64 n, .slice (some ⟨w.heap.size, 0, none⟩) 1 1] 1 (by simp) (by simp [maxLen]) rfl
    simpa [flatO] using h
  · intro p hp
    obtain rfl : p = (((y, n), m), .slice (some ⟨w.heap.size, 0, none⟩) 1 1) := by simpa using hp
    simp only
    rw [hc]
    have h := World.ownsRow_lit (base := w.heap.size) (e := 135) (size := 2) w #[.int .i64 f, .int .i64 t] 1 (Nat.le_refl _) (by simp [maxLen]) rfl
    exact h.alloc _
  · intro b hb
    obtain rfl : b = ((y, n), m) := by simpa using hb
    exact ⟨hv, hm⟩

set_option maxHeartbeats 400000 in
set_option maxRecDepth 100000 in
theorem fevery_own (w : World) : Calls Try.prog 51 #[] w fun e w' => ∃ v, e = .returned v ∧ FO w.heap.size 1 w' v fullT ∧ Gr w w' := by
  have HB := Lib.hid ((lit_own w 0 0 0 32 4294967295 canonFull (by decide) vld00).ext tabFull)
  go_enter Try.func51, Try.ntmps51
  go_wp2
  go_ret
  exact ⟨_, rfl, HB.out, ((Gr.refl _).alloc _).alloc _⟩
theorem fevery (w : World) : Calls Try.prog 51 #[] w fun e w' => ∃ v, e = .returned v ∧ FSn 1 w' v fullT ∧ Gr w w' :=
  (fevery_own w).mono fun e w' ⟨v, he, hv, g⟩ => ⟨v, he, hv.fs, g⟩

end Go.Proofs.Ytghjfakellaecaa
/- The plain mathematics of tables: what the statements on filters say of them. -/
namespace Rm
open Go Go.RowKit
theorem withinT_iff {T U : Nat → Nat} : withinT T U = true ↔ ∀ t, t < 16 → lessM (T t) (U t) = 0 := by
  unfold withinT
  rw [allT_iff]
  simp
/-- tables whose sets are of numbers below 32 -/
def OkT (T : Nat → Nat) : Prop := ∀ t, t < 16 → T t < 2 ^ 32
theorem popTo_none {m : Nat} : ∀ k, popTo m k = 0 → ∀ i, i < k → m.testBit i = false
  | 0, _, i, hi => by omega
  | k + 1, h, i, hi => by
    simp only [popTo] at h
    rcases Nat.lt_or_ge i k with c | c
    · exact popTo_none k (by omega) i c
    · obtain rfl : i = k := by omega
      cases hb : m.testBit i
      · rfl
      · rw [hb] at h; simp at h
open Go.Proofs.Ytghjfakellaecaa in
theorem popc_none {m : Nat} (hm : m < 2 ^ 32) (h : popc m = 0) : m = 0 :=
  mask_ext hm (by decide) fun i hi => by rw [popTo_none 32 h i hi, Nat.zero_testBit]
theorem cntTo_none {T : Nat → Nat} (hT : OkT T) : ∀ k, k ≤ 16 → cntTo T k = 0 → ∀ t, t < k → T t = 0
  | 0, _, _, t, ht => by omega
  | k + 1, hk, h, t, ht => by
    simp only [cntTo] at h
    rcases Nat.lt_or_ge t k with c | c
    · exact cntTo_none hT k (by omega) (by omega) t c
    · obtain rfl : t = k := by omega
      exact popc_none (hT t (by omega)) (by omega)
open Go.Proofs.Ytghjfakellaecaa in
theorem within_bit {T U : Nat → Nat} (hT : OkT T) (hU : OkT U) (h : withinT T U = true) {t i : Nat} (ht : t < 16) (hi : i < 32) (hb : (T t).testBit i = true) : (U t).testBit i = true := by
  rw [withinT_iff] at h
  exact (sub_iff (hT t ht) (hU t ht)).1 (by simpa [subM] using h t ht) i hi hb
theorem okT_and {T U : Nat → Nat} (hT : OkT T) : OkT (fun t => T t &&& U t) := fun t ht => Nat.lt_of_le_of_lt Nat.and_le_left (hT t ht)
end Rm
namespace Go.Proofs.Ytghjfakellaecaa
open Go.RowKit Rm
set_option linter.unusedVariables false
end Go.Proofs.Ytghjfakellaecaa

/- The plain mathematics of filters of one box. -/
namespace Rm
open Go Go.RowKit
end Rm
namespace Go.Proofs.Ytghjfakellaecaa
open Go.RowKit Rm
set_option linter.unusedVariables false
theorem Three.alloc {w : World} {b : Nat} {y n : Int} {s : Value} (h : Three w b y n s) (o : Obj) : Three (w.alloc o) b y n s := h.gr ((Gr.refl w).alloc o)
theorem Three.new2 (w : World) (o : Obj) (y n : Int) (s : Value) (t : TypeId) : Three ((w.alloc o).alloc (.cells #[.int .i64 y, .int .i64 n, s] t)) (w.heap.size + 1) y n s := by
  have h := Three.new (w.alloc o) y n s t
  rw [World.size_alloc] at h
  exact h
theorem MS.form {w : World} {v : Value} {a : Nat} (h : MS w v a) : ∃ x c, v = .slice x (pairs (canon a)).length c := rd2_form h.1
end Go.Proofs.Ytghjfakellaecaa

/- What parts say: the meaning of a part, of lists of parts. -/
set_option linter.unusedVariables false
set_option linter.unusedSimpArgs false
namespace Rm
open Go Go.RowKit Gx
def PtX.f (x : PtX) : Value := .slice x.fa x.fn x.fc
def PtX.k (x : PtX) : Value := .agg #[.slice x.va x.vn x.vc, .slice x.ma x.mn x.mc]
def emptyP (x : PtX) : Bool := cntT x.T == 0 || cntD (memB (formV x.D) (formM x.D)) == 0
def underP (x y : PtX) : Bool := wS x.D y.D && withinT x.T y.T
/-- what a list of parts says -/
def hasP (K : List PtX) (t n a b : Nat) : Bool := K.any fun x => (x.T t).testBit n && x.D a b
/-- the parts that a reduced list keeps -/
def stepP (K : List PtX) (x : PtX) : List PtX := if !emptyP x && !K.any (fun y => underP x y) then K.filter (fun y => !underP y x) ++ [x] else K
def fewP (L : List PtX) : List PtX := L.foldl stepP []
theorem fewP_take {L : List PtX} {i : Nat} {x : PtX} (h : L[i]? = some x) : fewP (L.take (i + 1)) = stepP (fewP (L.take i)) x := by
  unfold fewP
  rw [List.take_add_one, h, List.foldl_append]
  rfl
theorem stepP_len (K : List PtX) (x : PtX) : (stepP K x).length ≤ K.length + 1 := by
  unfold stepP
  split
  · rw [List.length_append, List.length_singleton]
    have := List.length_filter_le (fun y => !underP y x) K
    omega
  · omega
theorem fewP_len (L : List PtX) : (fewP L).length ≤ L.length := by
  have key : ∀ (L K : List PtX), (L.foldl stepP K).length ≤ K.length + L.length := by
    intro L
    induction L with
    | nil => intro K; simp
    | cons a L ih =>
      intro K
      rw [List.foldl_cons]
      have h1 := ih (stepP K a)
      have h2 := stepP_len K a
      rw [List.length_cons]
      omega
  have := key L []
  unfold fewP
  simpa using this
theorem stepP_mem {K : List PtX} {x y : PtX} (h : y ∈ stepP K x) : y ∈ K ∨ y = x := by
  unfold stepP at h
  split at h
  · rcases List.mem_append.1 h with h | h
    · exact .inl (List.mem_filter.1 h).1
    · exact .inr (List.mem_singleton.1 h)
  · exact .inl h
theorem fewP_mem {L : List PtX} {y : PtX} (h : y ∈ fewP L) : y ∈ L := by
  have key : ∀ (L K : List PtX), y ∈ L.foldl stepP K → y ∈ K ∨ y ∈ L := by
    intro L
    induction L with
    | nil => intro K h; exact .inl h
    | cons a L ih =>
      intro K h
      rcases ih _ h with h | h
      · rcases stepP_mem h with h | rfl
        · exact .inl h
        · exact .inr (List.mem_cons_self ..)
      · exact .inr (List.mem_cons_of_mem _ h)
  rcases key L [] h with h | h
  · cases h
  · exact h
end Rm
namespace Go.Proofs.Ytghjfakellaecaa
open Go.RowKit Rm Gx
/-- what a part says -/
structure MeanP (w : World) (x : PtX) : Prop where
  fs : FS w x.f x.T
  kn : KnD w x.k x.D
  few : (formM x.D).length ≤ 60
theorem MeanP.gr {w w' : World} {x : PtX} (h : MeanP w x) (g : Gr w w') : MeanP w' x := ⟨h.fs.gr g, h.kn.gr g, h.few⟩
def MeansP (w : World) (K : List PtX) : Prop := ∀ x ∈ K, MeanP w x
theorem MeansP.gr {w w' : World} {K : List PtX} (h : MeansP w K) (g : Gr w w') : MeansP w' K := fun x hx => (h x hx).gr g
theorem kcount (k : Value) (D : DS) (w : World) (hk : KnD w k D) (hl : (formM D).length ≤ 60) :
    Calls Try.prog 19 #[k] w fun e w' => e = .returned (.tuple #[.int .i64 ((cntD (memB (formV D) (formM D)) : Nat) : Int), .int .i64 0]) ∧ Gr w w' := by
  have h := count_ok k _ _ w hk (form_ok D) hl
  rw [← (form_ok D).count] at h
  exact h
theorem kwithin (k k' : Value) (D E : DS) (w : World) (hk : KnD w k D) (hk' : KnD w k' E) (hl : (formM D).length ≤ 60) (hl' : (formM E).length ≤ 60) :
    Calls Try.prog 21 #[k, k'] w fun e w' => e = .returned (.tuple #[.bool (wS D E), .int .i64 0]) ∧ Gr w w' :=
  within_ok k k' _ _ _ _ w hk hk' (form_ok D) (form_ok E) hl hl'
end Go.Proofs.Ytghjfakellaecaa

/- package part: what it does with single parts. -/
set_option linter.unusedVariables false
set_option linter.unusedSimpArgs false
namespace Go.Proofs.Ytghjfakellaecaa
open Go.RowKit Rm Gx
theorem emptyP_eq (x : PtX) : emptyP x = (decide (((cntT x.T : Nat) : Int) = 0) || decide (((cntD (memB (formV x.D) (formM x.D)) : Nat) : Int) = 0)) := by
  unfold emptyP
  rw [Bool.eq_iff_iff]
  simp
set_option maxHeartbeats 8000000 in
set_option maxRecDepth 100000 in
theorem empty_any (x : PtX) (w : World) (hx : MeanP w x) :
    Calls Try.prog 85 #[.agg #[.slice x.fa x.fn x.fc, .slice x.va x.vn x.vc, .slice x.ma x.mn x.mc]] w fun e w' => e = .returned (.bool (emptyP x)) ∧ Gr w w' := by
  refine enter (N := 25) Try.func85 rfl rfl rfl (fun a0 ok0 h0 => ?_)
  have e0_0 : a0.eval (.tmp 0) = .agg #[.slice x.fa x.fn x.fc, .slice x.va x.vn x.vc, .slice x.ma x.mn x.mc] := h0 0 _ rfl
  clear h0
  have G0 := Gr.refl w
  refine wp_seq_k (fun K1 hK1 => ?_)
  refine wp_region_lit ?_
  refine sal (cs := #[.slice x.fa x.fn x.fc, .slice x.va x.vn x.vc, .slice x.ma x.mn x.mc]) ok0 rfl (wn _ rfl) rfl (o_box e0_0) (fun an2 w4 b3 W5 n2 => ?_)
  have l6 : w.heap.size ≤ b3 := by rw [W5.eq]; exact G0.size
  have G7 := G0.trans W5.gr
  refine sv n2.ok rfl (wn _ rfl) rfl (o_as ev_const) (fun an8 n8 => ?_)
  refine wpList_nil ?_
  refine th_n (hK1 _ _ ?_)
  refine wp_seq_k (fun K9 hK9 => ?_)
  refine wp_region_lit ?_
  refine sv n8.ok rfl (wn _ rfl) rfl (o_fa (z := 1) (n8.ne rfl n2.at_) Try.underlying38 rfl (by kernel_rfl) rfl rfl) (fun an10 n10 => ?_)
  refine sv n10.ok rfl (wn _ rfl) rfl (o_ld n10.at_ (Try.isAgg36 _) (W5.bk.cell _ rfl)) (fun an11 n11 => ?_)
  refine sc n11.ok rfl (wn _ rfl) rfl (o_f1 Try.func18 rfl rfl rfl n11.at_) (fcount_ok (T := x.T) (hx.gr G7).fs) ?_
  rintro _ w13 ⟨rfl, g14⟩
  refine ⟨_, rfl, fun an12 n12 => ?_⟩
  have G15 := G7.trans g14
  have B16 := W5.bk.gr g14
  refine sv n12.ok rfl (wn _ rfl) rfl (o_mv n12.at_) (fun an17 n17 => ?_)
  refine sv n17.ok rfl (wn _ rfl) rfl (o_ex n17.at_ rfl) (fun an18 n18 => ?_)
  refine sv n18.ok rfl (wn _ rfl) rfl (o_ex (n18.ne rfl n17.at_) rfl) (fun an19 n19 => ?_)
  refine sv n19.ok rfl (wn _ rfl) rfl (o_as (n19.ne rfl n18.at_)) (fun an20 n20 => ?_)
  refine sv n20.ok rfl (wn _ rfl) rfl (o_as (n20.ne rfl n19.at_)) (fun an21 n21 => ?_)
  refine wpList_nil ?_
  refine th_n (hK9 _ _ ?_)
  refine wp_seq_k (fun K22 hK22 => ?_)
  refine wp_region_lit ?_
  have e23 := n21.ne rfl (n20.ne rfl (n19.ne rfl (n18.ne rfl (n17.ne rfl (n12.ne rfl (n11.ne rfl (n10.ne rfl (n8.ne rfl n2.at_))))))))
  refine sv n21.ok rfl (wn _ rfl) rfl (o_fa (z := 2) e23 Try.underlying38 rfl (by kernel_rfl) rfl rfl) (fun an24 n24 => ?_)
  refine sv n24.ok rfl (wn _ rfl) rfl (o_ldA (k := 1) (cs := [.slice x.va x.vn x.vc, .slice x.ma x.mn x.mc]) n24.at_ (bk_part B16 rfl) Try.underlying35 rfl (by kernel_rfl)) (fun an25 n25 => ?_)
  refine sc n25.ok rfl (wn _ rfl) rfl (o_f1 Try.func19 rfl rfl rfl n25.at_) (kcount _ x.D w13 (hx.gr G15).kn hx.few) ?_
  rintro _ w27 ⟨rfl, g28⟩
  refine ⟨_, rfl, fun an26 n26 => ?_⟩
  have G29 := G15.trans g28
  have B30 := B16.gr g28
  refine sv n26.ok rfl (wn _ rfl) rfl (o_mv n26.at_) (fun an31 n31 => ?_)
  refine sv n31.ok rfl (wn _ rfl) rfl (o_ex n31.at_ rfl) (fun an32 n32 => ?_)
  refine sv n32.ok rfl (wn _ rfl) rfl (o_ex (n32.ne rfl n31.at_) rfl) (fun an33 n33 => ?_)
  refine sv n33.ok rfl (wn _ rfl) rfl (o_as (n33.ne rfl n32.at_)) (fun an34 n34 => ?_)
  refine sv n34.ok rfl (wn _ rfl) rfl (o_as (n34.ne rfl n33.at_)) (fun an35 n35 => ?_)
  refine wpList_nil ?_
  refine th_n (hK22 _ _ ?_)
  refine wp_seq_k (fun K36 hK36 => ?_)
  refine wp_region_lit ?_
  have e37 := n35.ne rfl (n34.ne rfl (n33.ne rfl (n32.ne rfl (n31.ne rfl (n26.ne rfl (n25.ne rfl (n24.ne rfl (n21.ne rfl n20.at_))))))))
  refine sv n35.ok rfl (wn _ rfl) rfl (o_mv e37) (fun an38 n38 => ?_)
  refine sv n38.ok rfl (wn _ rfl) rfl (o_eqI n38.at_ ev_const) (fun an39 n39 => ?_)
  refine sv n39.ok rfl (wn _ rfl) rfl (o_mv n39.at_) (fun an40 n40 => ?_)
  by_cases c41 : ((cntT x.T : Nat) : Int) = 0
  · have e42 := (n40.at_).trans (congrArg Value.bool (decide_eq_true c41))
    have e43 := ((n40.ne rfl n39.at_)).trans (congrArg Value.bool (decide_eq_true c41))
    refine sn n40.ok rfl (wgF rfl (yl 2 true rfl e42) rfl) rfl (fun an44 n44 => ?_)
    refine sn n44.ok rfl (wgF rfl (yl 2 true rfl (n44.ne rfl e42)) rfl) rfl (fun an45 n45 => ?_)
    refine sv n45.ok rfl (wn _ rfl) rfl (o_pkT (n45.ne rfl (n44.ne rfl e42)) ev_const) (fun an46 n46 => ?_)
    refine sv n46.ok rfl (wn _ rfl) rfl (o_as n46.at_) (fun an47 n47 => ?_)
    refine wpList_nil ?_
    refine th_n (hK36 _ _ ?_)
    refine wp_ret ?_
    exact ret1 n47.ok rfl (n47.at_) ⟨congrArg (fun b => Ending.returned (Value.bool b)) (by rw [emptyP_eq, decide_eq_true c41, Bool.true_or]), G29⟩
  · have e48 := (n40.at_).trans (congrArg Value.bool (decide_eq_false c41))
    have e49 := ((n40.ne rfl n39.at_)).trans (congrArg Value.bool (decide_eq_false c41))
    have e50 := n40.ne rfl (n39.ne rfl (n38.ne rfl (n35.ne rfl n34.at_)))
    refine sv n40.ok rfl (wgT rfl (yl 2 false rfl e48) rfl) rfl (o_mv e50) (fun an51 n51 => ?_)
    refine sv n51.ok rfl (wgT rfl (yl 2 false rfl (n51.ne rfl e48)) rfl) rfl (o_eqI n51.at_ ev_const) (fun an52 n52 => ?_)
    refine sv n52.ok rfl (wn _ rfl) rfl (o_pkF (n52.ne rfl (n51.ne rfl e48)) n52.at_) (fun an53 n53 => ?_)
    refine sv n53.ok rfl (wn _ rfl) rfl (o_as n53.at_) (fun an54 n54 => ?_)
    refine wpList_nil ?_
    refine th_n (hK36 _ _ ?_)
    refine wp_ret ?_
    exact ret1 n54.ok rfl (n54.at_) ⟨congrArg (fun b => Ending.returned (Value.bool b)) (by rw [emptyP_eq, decide_eq_false c41, Bool.false_or]), G29⟩
set_option maxHeartbeats 8000000 in
set_option maxRecDepth 100000 in
theorem impliedBy1_any (y x : PtX) (b : Nat) (w : World) (hy : MeanP w y) (hx : MeanP w x) (hb : Bk w b #[.slice x.fa x.fn x.fc, .slice x.va x.vn x.vc, .slice x.ma x.mn x.mc] 38) :
    Calls Try.prog 106 #[.agg #[.slice y.fa y.fn y.fc, .slice y.va y.vn y.vc, .slice y.ma y.mn y.mc], .pointer (some ⟨b, 0, none⟩)] w fun e w' => e = .returned (.bool (underP y x)) ∧ Gr w w' := by
  refine enter (N := 28) Try.func106 rfl rfl rfl (fun a0 ok0 h0 => ?_)
  have e0_0 : a0.eval (.tmp 0) = .agg #[.slice y.fa y.fn y.fc, .slice y.va y.vn y.vc, .slice y.ma y.mn y.mc] := h0 0 _ rfl
  have e0_1 : a0.eval (.tmp 1) = .pointer (some ⟨b, 0, none⟩) := h0 1 _ rfl
  clear h0
  have G0 := Gr.refl w
  refine wp_seq_k (fun K1 hK1 => ?_)
  refine wp_region_lit ?_
  refine sal (cs := #[.slice y.fa y.fn y.fc, .slice y.va y.vn y.vc, .slice y.ma y.mn y.mc]) ok0 rfl (wn _ rfl) rfl (o_box e0_0) (fun an2 w4 b3 W5 n2 => ?_)
  have l6 : b < b3 := by rw [W5.eq]; exact hb.lt
  have l7 : w.heap.size ≤ b3 := by rw [W5.eq]; exact G0.size
  have G8 := G0.trans W5.gr
  have B9 := hb.gr W5.gr
  refine sv n2.ok rfl (wn _ rfl) rfl (o_as ev_const) (fun an10 n10 => ?_)
  refine wpList_nil ?_
  refine th_n (hK1 _ _ ?_)
  refine wp_seq_k (fun K11 hK11 => ?_)
  refine wp_region_lit ?_
  refine sv n10.ok rfl (wn _ rfl) rfl (o_fa (z := 2) (n10.ne rfl n2.at_) Try.underlying38 rfl (by kernel_rfl) rfl rfl) (fun an12 n12 => ?_)
  refine sv n12.ok rfl (wn _ rfl) rfl (o_ldA (k := 1) (cs := [.slice y.va y.vn y.vc, .slice y.ma y.mn y.mc]) n12.at_ (bk_part W5.bk rfl) Try.underlying35 rfl (by kernel_rfl)) (fun an13 n13 => ?_)
  have e14 := n13.ne rfl (n12.ne rfl (n10.ne rfl (n2.ne rfl e0_1)))
  refine sv n13.ok rfl (wn _ rfl) rfl (o_fa (z := 2) e14 Try.underlying38 rfl (by kernel_rfl) rfl rfl) (fun an15 n15 => ?_)
  refine sv n15.ok rfl (wn _ rfl) rfl (o_ldA (k := 1) (cs := [.slice x.va x.vn x.vc, .slice x.ma x.mn x.mc]) n15.at_ (bk_part B9 rfl) Try.underlying35 rfl (by kernel_rfl)) (fun an16 n16 => ?_)
  refine sc n16.ok rfl (wn _ rfl) rfl (o_f2 Try.func21 rfl rfl rfl (n16.ne rfl (n15.ne rfl n13.at_)) n16.at_) (kwithin _ _ y.D x.D w4 (hy.gr G8).kn (hx.gr G8).kn hy.few hx.few) ?_
  rintro _ w18 ⟨rfl, g19⟩
  refine ⟨_, rfl, fun an17 n17 => ?_⟩
  have G20 := G8.trans g19
  have B21 := B9.gr g19
  have B22 := W5.bk.gr g19
  refine sv n17.ok rfl (wn _ rfl) rfl (o_mv n17.at_) (fun an23 n23 => ?_)
  refine sv n23.ok rfl (wn _ rfl) rfl (o_ex n23.at_ rfl) (fun an24 n24 => ?_)
  refine sv n24.ok rfl (wn _ rfl) rfl (o_ex (n24.ne rfl n23.at_) rfl) (fun an25 n25 => ?_)
  refine sv n25.ok rfl (wn _ rfl) rfl (o_as (n25.ne rfl n24.at_)) (fun an26 n26 => ?_)
  refine sv n26.ok rfl (wn _ rfl) rfl (o_as (n26.ne rfl n25.at_)) (fun an27 n27 => ?_)
  refine wpList_nil ?_
  refine th_n (hK11 _ _ ?_)
  refine wp_seq_k (fun K28 hK28 => ?_)
  refine wp_region_lit ?_
  have e29 := n27.ne rfl (n26.ne rfl (n25.ne rfl (n24.ne rfl (n23.ne rfl (n17.ne rfl (n16.ne rfl (n15.ne rfl (n13.ne rfl (n12.ne rfl (n10.ne rfl n2.at_))))))))))
  refine sv n27.ok rfl (wn _ rfl) rfl (o_fa (z := 1) e29 Try.underlying38 rfl (by kernel_rfl) rfl rfl) (fun an30 n30 => ?_)
  refine sv n30.ok rfl (wn _ rfl) rfl (o_ld n30.at_ (Try.isAgg36 _) (B22.cell _ rfl)) (fun an31 n31 => ?_)
  have e32 := n31.ne rfl (n30.ne rfl (n27.ne rfl (n26.ne rfl (n25.ne rfl (n24.ne rfl (n23.ne rfl (n17.ne rfl (n16.ne rfl (n15.ne rfl e14)))))))))
  refine sv n31.ok rfl (wn _ rfl) rfl (o_fa (z := 1) e32 Try.underlying38 rfl (by kernel_rfl) rfl rfl) (fun an33 n33 => ?_)
  refine sv n33.ok rfl (wn _ rfl) rfl (o_ld n33.at_ (Try.isAgg36 _) (B21.cell _ rfl)) (fun an34 n34 => ?_)
  refine sc n34.ok rfl (wn _ rfl) rfl (o_f2 Try.func20 rfl rfl rfl (n34.ne rfl (n33.ne rfl n31.at_)) n34.at_) (fwithin_ok (T := y.T) (U := x.T) (hy.gr G20).fs (hx.gr G20).fs) ?_
  rintro _ w36 ⟨rfl, g37⟩
  refine ⟨_, rfl, fun an35 n35 => ?_⟩
  have G38 := G20.trans g37
  have B39 := B21.gr g37
  have B40 := B22.gr g37
  refine sv n35.ok rfl (wn _ rfl) rfl (o_mv n35.at_) (fun an41 n41 => ?_)
  refine sv n41.ok rfl (wn _ rfl) rfl (o_ex n41.at_ rfl) (fun an42 n42 => ?_)
  refine sv n42.ok rfl (wn _ rfl) rfl (o_ex (n42.ne rfl n41.at_) rfl) (fun an43 n43 => ?_)
  refine sv n43.ok rfl (wn _ rfl) rfl (o_as (n43.ne rfl n42.at_)) (fun an44 n44 => ?_)
  refine sv n44.ok rfl (wn _ rfl) rfl (o_as (n44.ne rfl n43.at_)) (fun an45 n45 => ?_)
  refine wpList_nil ?_
  refine th_n (hK28 _ _ ?_)
  refine wp_seq_k (fun K46 hK46 => ?_)
  refine wp_region_lit ?_
  have e47 := n45.ne rfl (n44.ne rfl (n43.ne rfl (n42.ne rfl (n41.ne rfl (n35.ne rfl (n34.ne rfl (n33.ne rfl (n31.ne rfl (n30.ne rfl (n27.ne rfl n26.at_))))))))))
  refine sv n45.ok rfl (wn _ rfl) rfl (o_mv e47) (fun an48 n48 => ?_)
  refine sv n48.ok rfl (wn _ rfl) rfl (o_mv n48.at_) (fun an49 n49 => ?_)
  cases c50 : (wS y.D x.D)
  · have e51 := (n49.at_).trans (congrArg Value.bool (c50))
    have e52 := n49.ne rfl (n48.ne rfl (n45.ne rfl (n44.ne rfl (n43.ne rfl (n42.ne rfl (n41.ne rfl (n35.ne rfl (n34.ne rfl (n33.ne rfl (n31.ne rfl (n30.ne rfl (n27.ne rfl (n26.ne rfl (n25.ne rfl n24.at_))))))))))))))
    have e53 := (e52).trans (congrArg Value.bool (c50))
    have e54 := ((n49.ne rfl (n48.ne rfl e47))).trans (congrArg Value.bool (c50))
    have e55 := ((n49.ne rfl n48.at_)).trans (congrArg Value.bool (c50))
    refine sn n49.ok rfl (wgF rfl (yl 1 false rfl e51) rfl) rfl (fun an56 n56 => ?_)
    refine sv n56.ok rfl (wn _ rfl) rfl (o_pkF (n56.ne rfl e51) ev_const) (fun an57 n57 => ?_)
    refine sv n57.ok rfl (wn _ rfl) rfl (o_as n57.at_) (fun an58 n58 => ?_)
    refine wpList_nil ?_
    refine th_n (hK46 _ _ ?_)
    refine wp_ret ?_
    exact ret1 n58.ok rfl (n58.at_) ⟨congrArg (fun b => Ending.returned (Value.bool b)) (by simp [underP, c50]), G38⟩
  · have e59 := (n49.at_).trans (congrArg Value.bool (c50))
    have e60 := n49.ne rfl (n48.ne rfl (n45.ne rfl (n44.ne rfl (n43.ne rfl (n42.ne rfl (n41.ne rfl (n35.ne rfl (n34.ne rfl (n33.ne rfl (n31.ne rfl (n30.ne rfl (n27.ne rfl (n26.ne rfl (n25.ne rfl n24.at_))))))))))))))
    have e61 := (e60).trans (congrArg Value.bool (c50))
    have e62 := ((n49.ne rfl (n48.ne rfl e47))).trans (congrArg Value.bool (c50))
    have e63 := ((n49.ne rfl n48.at_)).trans (congrArg Value.bool (c50))
    have e64 := n49.ne rfl (n48.ne rfl (n45.ne rfl n44.at_))
    refine sv n49.ok rfl (wgT rfl (yl 1 true rfl e59) rfl) rfl (o_mv e64) (fun an65 n65 => ?_)
    refine sv n65.ok rfl (wn _ rfl) rfl (o_pkT (n65.ne rfl e59) n65.at_) (fun an66 n66 => ?_)
    refine sv n66.ok rfl (wn _ rfl) rfl (o_as n66.at_) (fun an67 n67 => ?_)
    refine wpList_nil ?_
    refine th_n (hK46 _ _ ?_)
    refine wp_ret ?_
    exact ret1 n67.ok rfl (n67.at_) ⟨congrArg (fun b => Ending.returned (Value.bool b)) (by simp [underP, c50]), G38⟩
set_option maxHeartbeats 8000000 in
set_option maxRecDepth 100000 in
theorem impliedBy_any (x : PtX) (w : World) :
    Calls Try.prog 84 #[.agg #[.slice x.fa x.fn x.fc, .slice x.va x.vn x.vc, .slice x.ma x.mn x.mc]] w fun e w' => ∃ b : Nat, e = .returned (.func (.func 106) #[] #[.pointer (some ⟨b, 0, none⟩)]) ∧ w.heap.size ≤ b ∧ Bk w' b #[.slice x.fa x.fn x.fc, .slice x.va x.vn x.vc, .slice x.ma x.mn x.mc] 38 ∧ Gr w w' := by
  refine enter (N := 4) Try.func84 rfl rfl rfl (fun a0 ok0 h0 => ?_)
  have e0_0 : a0.eval (.tmp 0) = .agg #[.slice x.fa x.fn x.fc, .slice x.va x.vn x.vc, .slice x.ma x.mn x.mc] := h0 0 _ rfl
  clear h0
  have G0 := Gr.refl w
  refine wp_seq_k (fun K1 hK1 => ?_)
  refine wp_region_lit ?_
  refine sal (cs := #[.slice x.fa x.fn x.fc, .slice x.va x.vn x.vc, .slice x.ma x.mn x.mc]) ok0 rfl (wn _ rfl) rfl (o_box e0_0) (fun an2 w4 b3 W5 n2 => ?_)
  have l6 : w.heap.size ≤ b3 := by rw [W5.eq]; exact G0.size
  have G7 := G0.trans W5.gr
  refine sv n2.ok rfl (wn _ rfl) rfl (o_as ev_const) (fun an8 n8 => ?_)
  refine wpList_nil ?_
  refine th_n (hK1 _ _ ?_)
  refine wp_seq_k (fun K9 hK9 => ?_)
  refine wp_region_lit ?_
  refine sv n8.ok rfl (wn _ rfl) rfl (o_mf (fs := []) (cs := [.pointer (some ⟨b3, 0, none⟩)]) (by simp) (by simp [(n8.ne rfl n2.at_)])) (fun an10 n10 => ?_)
  refine sv n10.ok rfl (wn _ rfl) rfl (o_as n10.at_) (fun an11 n11 => ?_)
  refine wpList_nil ?_
  refine th_n (hK9 _ _ ?_)
  refine wp_ret ?_
  exact ret1 n11.ok rfl (n11.at_) ⟨b3, rfl, l6, W5.bk, G7⟩
set_option maxHeartbeats 8000000 in
set_option maxRecDepth 100000 in
theorem reduce1_any (y x : PtX) (b : Nat) (w : World) (hy : MeanP w y) (hx : MeanP w x) (hb : Bk w b #[.slice x.fa x.fn x.fc, .slice x.va x.vn x.vc, .slice x.ma x.mn x.mc] 38) :
    Calls Try.prog 83 #[.agg #[.slice y.fa y.fn y.fc, .slice y.va y.vn y.vc, .slice y.ma y.mn y.mc], .pointer (some ⟨b, 0, none⟩)] w fun e w' => e = .returned (.bool (underP x y)) ∧ Gr w w' := by
  refine enter (N := 8) Try.func83 rfl rfl rfl (fun a0 ok0 h0 => ?_)
  have e0_0 : a0.eval (.tmp 0) = .agg #[.slice y.fa y.fn y.fc, .slice y.va y.vn y.vc, .slice y.ma y.mn y.mc] := h0 0 _ rfl
  have e0_1 : a0.eval (.tmp 1) = .pointer (some ⟨b, 0, none⟩) := h0 1 _ rfl
  clear h0
  have G0 := Gr.refl w
  refine wp_seq_k (fun K1 hK1 => ?_)
  refine wp_region_lit ?_
  refine sal (cs := #[.slice y.fa y.fn y.fc, .slice y.va y.vn y.vc, .slice y.ma y.mn y.mc]) ok0 rfl (wn _ rfl) rfl (o_box e0_0) (fun an2 w4 b3 W5 n2 => ?_)
  have l6 : b < b3 := by rw [W5.eq]; exact hb.lt
  have l7 : w.heap.size ≤ b3 := by rw [W5.eq]; exact G0.size
  have G8 := G0.trans W5.gr
  have B9 := hb.gr W5.gr
  refine sv n2.ok rfl (wn _ rfl) rfl (o_as ev_const) (fun an10 n10 => ?_)
  refine wpList_nil ?_
  refine th_n (hK1 _ _ ?_)
  refine wp_seq_k (fun K11 hK11 => ?_)
  refine reg_start (N := 8) (m := 5) (by kernel_rfl) (fun R120 => ?_)
  have R121 := R120.snoc (n' := 1) rfl (fun vJ _ => vJ = .agg #[.slice y.fa y.fn y.fc, .slice y.va y.vn y.vc, .slice y.ma y.mn y.mc]) rfl (fun _ _ _ _ h => h) (fun aS wS pS => by
      exact Does.val (wn _ rfl) (o_ldR ((pS.old 2 rfl).trans (n10.ne rfl n2.at_)) (Bk.gr W5.bk (gr_drew pS.gr)) Try.underlying38 rfl (by kernel_rfl)) (Gr.refl _) rfl rfl)
  have R122 := R121.snoc (n' := 2) rfl (fun vJ wJ => ∃ (c2 : Nat), vJ = .func (.func 106) #[] #[.pointer (some ⟨c2, 0, none⟩)] ∧ (Bk wJ c2 #[.slice y.fa y.fn y.fc, .slice y.va y.vn y.vc, .slice y.ma y.mn y.mc] 38)) rfl (fun _ _ _ g ⟨c2, h, q0⟩ => ⟨c2, h, q0.gr g⟩) (fun aS wS pS => by
      have eR12_0 : aS.eval (.tmp 4) = .agg #[.slice y.fa y.fn y.fc, .slice y.va y.vn y.vc, .slice y.ma y.mn y.mc] := pS.pre 0 rfl
      exact Does.call (wn _ rfl) (o_f1 Try.func84 rfl rfl rfl (eR12_0)) (impliedBy_any y wS) (by rintro _ w2 ⟨c2, rfl, -, hbk2, g⟩; exact ⟨_, rfl, g, ⟨c2, rfl, hbk2⟩⟩) rfl)
  have R123 := R122.snoc (n' := 3) rfl (fun vJ _ => vJ = .agg #[.slice x.fa x.fn x.fc, .slice x.va x.vn x.vc, .slice x.ma x.mn x.mc]) rfl (fun _ _ _ _ h => h) (fun aS wS pS => by
      exact Does.val (wn _ rfl) (o_ldR ((pS.old 1 rfl).trans (n10.ne rfl (n2.ne rfl e0_1))) (Bk.gr B9 (gr_drew pS.gr)) Try.underlying38 rfl (by kernel_rfl)) (Gr.refl _) rfl rfl)
  have R124 := R123.snoc (n' := 4) rfl (fun vJ _ => vJ = .bool (underP x y)) rfl (fun _ _ _ _ h => h) (fun aS wS pS => by
      obtain ⟨c2, eR12_1, hbk2⟩ := pS.pre 1 rfl
      have eR12_1 : aS.eval (.tmp 5) = .func (.func 106) #[] #[.pointer (some ⟨c2, 0, none⟩)] := eR12_1
      have eR12_2 : aS.eval (.tmp 6) = .agg #[.slice x.fa x.fn x.fc, .slice x.va x.vn x.vc, .slice x.ma x.mn x.mc] := pS.pre 2 rfl
      exact Does.call (wn _ rfl) (o_fv1 (caps := [.pointer (some ⟨c2, 0, none⟩)]) ⟨_, Try.func106, rfl, rfl⟩ (eR12_1) (eR12_2)) (impliedBy1_any x y c2 wS (hx.gr (G8.trans (gr_drew pS.gr))) (hy.gr (G8.trans (gr_drew pS.gr))) hbk2) (by rintro _ w2 ⟨rfl, g⟩; exact ⟨_, rfl, g, rfl⟩) rfl)
  have R125 := R124.snoc (n' := 5) rfl (fun vJ _ => vJ = .bool (underP x y)) rfl (fun _ _ _ _ h => h) (fun aS wS pS => by
      have eR12_3 : aS.eval (.tmp 7) = .bool (underP x y) := pS.pre 3 rfl
      exact Does.val (wn _ rfl) (o_as (eR12_3)) (Gr.refl _) rfl rfl)
  refine R125.run (k := 0) (L := #[true, true, true, true, true]) (by kernel_rfl) (by kernel_rfl) (by kernel_rfl) n10.ok (by kernel_rfl) (by kernel_rfl) (fun ap14 w15 p14 => ?_)
  have g16 := gr_drew p14.gr
  have G17 := G8.trans g16
  have B18 := B9.gr g16
  have B19 := W5.bk.gr g16
  obtain ⟨c2, ep14_1, hbk2⟩ := p14.js 1 rfl
  have ep14_1 : ap14.eval (.tmp 5) = .func (.func 106) #[] #[.pointer (some ⟨c2, 0, none⟩)] := ep14_1
  refine wpAny_done (by kernel_rfl) ?_ _
  refine th_n (hK11 _ _ ?_)
  refine wp_ret ?_
  have ep14_4 : ap14.eval (.tmp 3) = .bool (underP x y) := p14.js 4 rfl
  exact ret1 p14.ok rfl (ep14_4) ⟨rfl, G17⟩
end Go.Proofs.Ytghjfakellaecaa

/- part.Check, checkBoth, Has. -/
set_option linter.unusedVariables false
set_option linter.unusedSimpArgs false
namespace Rm
open Go Go.RowKit Gx
/-- a part, as it is read -/
structure PtI where
  fa : Option Addr
  fn : Nat
  fc : Nat
  va : Option Addr
  vn : Nat
  vc : Nat
  ma : Option Addr
  mn : Nat
  mc : Nat
  l : List BoxI
  V : List Int
  M : List (Int × Int)
def encR (x : PtI) : List Value := [.slice x.fa x.fn x.fc, .slice x.va x.vn x.vc, .slice x.ma x.mn x.mc]
def PtI.f (x : PtI) : Value := .slice x.fa x.fn x.fc
def PtI.k (x : PtI) : Value := .agg #[.slice x.va x.vn x.vc, .slice x.ma x.mn x.mc]
/-- what Check says -/
def chkI (x : PtI) : Int := if chkF x.l = 0 then chkK x.V x.M else chkF x.l
def chkPGo : List PtI → Int
  | [] => 0
  | x :: r => if chkI x = 0 then chkPGo r else chkI x
def chkP (K : List PtI) : Int := if 30 < K.length then 2 else chkPGo K
theorem chkPGo_at {K : List PtI} {i : Nat} {x : PtI} (h : K[i]? = some x) : chkPGo (K.drop i) = if chkI x = 0 then chkPGo (K.drop (i + 1)) else chkI x := by
  obtain ⟨hi, e⟩ := List.getElem?_eq_some_iff.1 h
  rw [List.drop_eq_getElem_cons hi, e]
  rfl
theorem chkPGo_zero {K : List PtI} : chkPGo K = 0 ↔ ∀ x ∈ K, chkI x = 0 := by
  induction K with
  | nil => simp [chkPGo]
  | cons a K ih =>
    unfold chkPGo
    by_cases h : chkI a = 0
    · rw [if_pos h, ih]
      simp [h]
    · rw [if_neg h]
      simp [h]
end Rm
namespace Go.Proofs.Ytghjfakellaecaa
open Go.RowKit Rm Gx
structure MeanI (w : World) (x : PtI) : Prop where
  fs : RdF w x.f x.l
  kn : KnR w x.k x.V x.M
theorem MeanI.gr {w w' : World} {x : PtI} (h : MeanI w x) (g : Gr w w') : MeanI w' x := ⟨h.fs.gr g, h.kn.gr g⟩
def MeansI (w : World) (K : List PtI) : Prop := ∀ x ∈ K, MeanI w x
theorem MeansI.gr {w w' : World} {K : List PtI} (h : MeansI w K) (g : Gr w w') : MeansI w' K := fun x hx => (h x hx).gr g
/-- a part that passes says something -/
theorem MeanI.x {w : World} {x : PtI} (h : MeanI w x) (hc : chkI x = 0) : ∃ y : PtX, encP y = encR x ∧ MeanP w y := by
  unfold chkI at hc
  by_cases h0 : chkF x.l = 0
  · rw [if_pos h0] at hc
    obtain ⟨F, h1, h2, h3⟩ := okF_of h0
    obtain ⟨v, m, h4, h5, h6, h7⟩ := chkK_zero hc
    obtain ⟨q1, q2⟩ := form_self h6
    refine ⟨⟨x.fa, x.fn, x.fc, x.va, x.vn, x.vc, x.ma, x.mn, x.mc, tabF F, memB v m⟩, rfl, ⟨F, h1 ▸ h.fs, h2, h3, fun _ _ => rfl⟩, ?_, ?_⟩
    · show KnR w _ (ints (formV (memB v m))) (pairs (formM (memB v m)))
      rw [q1, q2, ← h4, ← h5]
      exact h.kn
    · show (formM (memB v m)).length ≤ 60
      rw [q2]; exact h7
  · rw [if_neg h0] at hc
    exact absurd hc h0
theorem MeanP.i {w : World} {y : PtX} (h : MeanP w y) : ∃ x : PtI, encR x = encP y ∧ MeanI w x ∧ chkI x = 0 := by
  obtain ⟨F, h1, h2, h3, h4⟩ := h.fs
  have h5 : KnR w y.k (ints (formV y.D)) (pairs (formM y.D)) := h.kn
  have h6 : chkK (ints (formV y.D)) (pairs (formM y.D)) = 0 := (form_ok y.D).chk h.few
  generalize ints (formV y.D) = V at h5 h6
  generalize pairs (formM y.D) = M at h5 h6
  refine ⟨⟨y.fa, y.fn, y.fc, y.va, y.vn, y.vc, y.ma, y.mn, y.mc, F.map boxI, V, M⟩, rfl, ⟨h1, h5⟩, ?_⟩
  unfold chkI
  rw [if_pos (chkF_of h2 h3)]
  exact h6
/-- lists: from what is read to what it says, and back -/
theorem MeansI.xs {w : World} {K : List PtI} (h : MeansI w K) (hc : ∀ x ∈ K, chkI x = 0) : ∃ L : List PtX, L.map encP = K.map encR ∧ MeansP w L := by
  induction K with
  | nil => exact ⟨[], rfl, fun x hx => by cases hx⟩
  | cons a K ih =>
    obtain ⟨y, h1, h2⟩ := (h a (List.mem_cons_self ..)).x (hc a (List.mem_cons_self ..))
    obtain ⟨L, h3, h4⟩ := ih (fun x hx => h x (List.mem_cons_of_mem _ hx)) (fun x hx => hc x (List.mem_cons_of_mem _ hx))
    refine ⟨y :: L, by simp [h1, h3], fun x hx => ?_⟩
    rcases List.mem_cons.1 hx with rfl | hx
    · exact h2
    · exact h4 x hx
theorem MeansP.is {w : World} {L : List PtX} (h : MeansP w L) : ∃ K : List PtI, K.map encR = L.map encP ∧ MeansI w K ∧ ∀ x ∈ K, chkI x = 0 := by
  induction L with
  | nil => exact ⟨[], rfl, (fun x hx => by cases hx), fun x hx => by cases hx⟩
  | cons a L ih =>
    obtain ⟨y, h1, h2, h3⟩ := (h a (List.mem_cons_self ..)).i
    obtain ⟨K, h4, h5, h6⟩ := ih (fun x hx => h x (List.mem_cons_of_mem _ hx))
    refine ⟨y :: K, by simp [h1, h4], fun x hx => ?_, fun x hx => ?_⟩
    · rcases List.mem_cons.1 hx with rfl | hx
      · exact h2
      · exact h5 x hx
    · rcases List.mem_cons.1 hx with rfl | hx
      · exact h3
      · exact h6 x hx
theorem rd_map {E F : Type} {enc : E → List Value} {enc' : F → List Value} {s : Nat} {w : World} {a : Option Addr} {K : List E} {L : List F} (h : RdA enc s w a K) (e : L.map enc' = K.map enc) : RdA enc' s w a L := by
  intro hn
  have hl : L.length = K.length := by simpa using congrArg List.length e
  obtain ⟨b, off, h1, h2, h3⟩ := h (by intro q; rw [q] at hl; exact hn (List.eq_nil_of_length_eq_zero (by simpa using hl)))
  refine ⟨b, off, h1, h2, fun i y hy j u hu => ?_⟩
  have hi : i < K.length := by rw [← hl]; exact (List.getElem?_eq_some_iff.1 hy).1
  have e2 : (L.map enc')[i]? = (K.map enc)[i]? := by rw [e]
  rw [List.getElem?_map, List.getElem?_map, hy, List.getElem?_eq_getElem hi] at e2
  simp only [Option.map_some, Option.some.injEq] at e2
  rw [e2] at hu
  exact h3 i _ (List.getElem?_eq_getElem hi) j u hu
set_option maxHeartbeats 8000000 in
set_option maxRecDepth 100000 in
theorem pcheck_any (K : List PtI) (va : Option Addr) (vc : Nat) (w : World) (hl : K.length ≤ 1000000000) (hv : RdA encR 3 w va K) (hm : MeansI w K) :
    Calls Try.prog 9 #[.slice va K.length vc] w fun e w' => e = .returned (.int .i64 (chkP K)) ∧ Gr w w' := by
  refine enter (N := 29) Try.func9 rfl rfl rfl (fun a0 ok0 h0 => ?_)
  have e0_0 : a0.eval (.tmp 0) = .slice va K.length vc := h0 0 _ rfl
  clear h0
  have G0 := Gr.refl w
  refine wp_seq_k (fun K1 hK1 => ?_)
  refine wp_region_lit ?_
  refine sv ok0 rfl (wn _ rfl) rfl (o_as ev_const) (fun an2 n2 => ?_)
  refine wpList_nil ?_
  refine th_n (hK1 _ _ ?_)
  refine wp_seq_k (fun K3 hK3 => ?_)
  refine wp_seq_k (fun K4 hK4 => ?_)
  refine wp_region_lit ?_
  refine sv n2.ok rfl (wn _ rfl) rfl (o_mv (n2.ne rfl e0_0)) (fun an5 n5 => ?_)
  refine sv n5.ok rfl (wn _ rfl) rfl (o_len n5.at_ Try.underlying22) (fun an6 n6 => ?_)
  refine sv n6.ok rfl (wn _ rfl) rfl (o_gtI n6.at_ ev_const) (fun an7 n7 => ?_)
  refine wpList_nil ?_
  refine th_n (hK4 _ _ ?_)
  by_cases c8 : (30 : Int) < ((K.length : Nat) : Int)
  · refine wp_cond_true ((n7.at_).trans (congrArg Value.bool (decide_eq_true c8))) ?_
    refine wp_seq_k (fun K9 hK9 => ?_)
    refine wp_region_lit ?_
    refine sv n7.ok rfl (wn _ rfl) rfl (o_as ev_const) (fun an10 n10 => ?_)
    refine wpList_nil ?_
    refine th_n (hK9 _ _ ?_)
    refine wp_ret ?_
    refine th_r ?_
    exact ret1 n10.ok rfl (n10.at_) ⟨congrArg (fun n => Ending.returned (Value.int .i64 n)) (by unfold chkP; rw [if_pos (by omega)]), G0⟩
  · refine wp_cond_false ((n7.at_).trans (congrArg Value.bool (decide_eq_false c8))) ?_
    refine wp_skip ?_
    refine th_n (hK3 _ _ ?_)
    refine wp_seq_k (fun K11 hK11 => ?_)
    refine wp_seq_k (fun K12 hK12 => ?_)
    refine wp_region_lit ?_
    have e13 := n7.ne rfl (n6.ne rfl (n5.ne rfl (n2.ne rfl e0_0)))
    refine sv n7.ok rfl (wn _ rfl) rfl (o_mv e13) (fun an14 n14 => ?_)
    refine sv n14.ok rfl (wn _ rfl) rfl (o_len n14.at_ Try.underlying22) (fun an15 n15 => ?_)
    refine sv n15.ok rfl (wn _ rfl) rfl (o_mv ev_const) (fun an16 n16 => ?_)
    refine wpList_nil ?_
    refine th_n (hK12 _ _ ?_)
    refine wp_block ?_
    have e18 := n16.ne rfl (n15.ne rfl (n14.ne rfl (n7.ne rfl (n6.ne rfl (n5.ne rfl n2.at_)))))
    refine lp (fun (nL : Nat) (aL : Act) (wL : World) => ∃ i : Nat, nL = K.length - i ∧ Ok 29 aL ∧ Gr w wL ∧ (aL.eval (.tmp 2) = .int .i64 0) ∧ (aL.eval (.tmp 10) = .slice va K.length vc) ∧ (aL.eval (.tmp 11) = .int .i64 ((K.length : Nat) : Int)) ∧ (aL.eval (.tmp 12) = .int .i64 (i : Int)) ∧ (i ≤ K.length) ∧ (chkPGo K = chkPGo (K.drop i))) _ ⟨0, rfl, n16.ok, G0, e18, (n16.ne rfl (n15.ne rfl n14.at_)), (n16.ne rfl n15.at_), n16.at_, by omega, rfl⟩ ?_
    rintro m19 aI17 w21 ⟨i, hmI17, okI17, GI17, s2I17, s10I17, s11I17, s12I17, hiI17, hgI17⟩ KI17 hKI17
    refine wp_seq_k (fun K22 hK22 => ?_)
    refine wp_region_lit ?_
    refine sv okI17 rfl (wn _ rfl) rfl (o_ltI s12I17 s11I17) (fun an23 n23 => ?_)
    refine wpList_nil ?_
    refine th_n (hK22 _ _ ?_)
    refine wp_seq_k (fun K24 hK24 => ?_)
    by_cases c25 : (i : Int) < ((K.length : Nat) : Int)
    · refine wp_cond_true ((n23.at_).trans (congrArg Value.bool (decide_eq_true c25))) ?_
      refine wp_skip ?_
      refine th_n (hK24 _ _ ?_)
      refine wp_seq_k (fun K26 hK26 => ?_)
      refine wp_block ?_
      refine wp_seq_k (fun K27 hK27 => ?_)
      refine wp_region_lit ?_
      have h28l : i < List.length K := by omega
      obtain ⟨bh28, fh28, h28a, h28b, h28c⟩ := hv (ne_nil_of_lt h28l)
      obtain ⟨xh28, h28x⟩ : ∃ x, (K)[i]? = some x := ⟨_, List.getElem?_eq_getElem h28l⟩
      refine sv n23.ok rfl (wn _ rfl) rfl (o_iaV (i := i) (s := 3) h28a (n23.ne rfl s10I17) (n23.ne rfl s12I17) Try.underlying22 (by kernel_rfl) h28l) (fun an29 n29 => ?_)
      refine sv n29.ok rfl (wn _ rfl) rfl (o_ldA (k := fh28 + i * 3) n29.at_ (cs := [.slice xh28.fa xh28.fn xh28.fc, .slice xh28.va xh28.vn xh28.vc, .slice xh28.ma xh28.mn xh28.mc]) (fun j v hv => (Below.cell GI17 h28b).trans (h28c _ _ h28x j v hv)) Try.underlying38 rfl (by kernel_rfl)) (fun an30 n30 => ?_)
      refine sal (cs := #[.slice none 0 0, .slice none 0 0, .slice none 0 0]) n30.ok rfl (wn _ rfl) rfl (o_al (z := .agg #[.slice none 0 0, .slice none 0 0, .slice none 0 0]) (by kernel_rfl)) (fun an31 w33 b32 W34 n31 => ?_)
      have l35 : w.heap.size ≤ b32 := by rw [W34.eq]; exact GI17.size
      have G36 := GI17.trans W34.gr
      refine ssR rfl (wn _ rfl) (o_stR n31.at_ (n31.ne rfl n30.at_) W34.bk (by kernel_rfl) rfl (by simp [Value.oneCell'])) W34.bk (fun w37 u38 u38b => ?_)
      have G39 : Gr w w37 := Below.upd G36 l35 u38
      refine wpList_nil ?_
      refine th_n (hK27 _ _ ?_)
      refine wp_seq_k (fun K40 hK40 => ?_)
      refine wp_seq_k (fun K41 hK41 => ?_)
      refine wp_region_lit ?_
      refine sv n31.ok rfl (wn _ rfl) rfl (o_fa (z := 1) n31.at_ Try.underlying38 rfl (by kernel_rfl) rfl rfl) (fun an42 n42 => ?_)
      refine sv n42.ok rfl (wn _ rfl) rfl (o_ld n42.at_ (Try.isAgg36 _) (u38b.cell _ rfl)) (fun an43 n43 => ?_)
      refine sc n43.ok rfl (wn _ rfl) rfl (o_f1 Try.func42 rfl rfl rfl n43.at_) (fcheck_any _ _ w37 ((hm _ (List.mem_of_getElem? h28x)).gr G39).fs) ?_
      rintro _ w45 ⟨rfl, g46⟩
      refine ⟨_, rfl, fun an44 n44 => ?_⟩
      have G47 := G39.trans g46
      have B48 := u38b.gr g46
      refine sv n44.ok rfl (wn _ rfl) rfl (o_as n44.at_) (fun an49 n49 => ?_)
      refine wpList_nil ?_
      refine th_n (hK41 _ _ ?_)
      refine wp_seq_k (fun K50 hK50 => ?_)
      refine wp_region_lit ?_
      refine sv n49.ok rfl (wn _ rfl) rfl (o_mv n49.at_) (fun an51 n51 => ?_)
      refine sv n51.ok rfl (wn _ rfl) rfl (o_neI n51.at_ ev_const) (fun an52 n52 => ?_)
      refine wpList_nil ?_
      refine th_n (hK50 _ _ ?_)
      by_cases c53 : ¬ (chkF xh28.l) = 0
      · refine wp_cond_true ((n52.at_).trans (congrArg Value.bool (decide_eq_true c53))) ?_
        refine wp_seq_k (fun K54 hK54 => ?_)
        refine wp_region_lit ?_
        refine sv n52.ok rfl (wn _ rfl) rfl (o_mv (n52.ne rfl (n51.ne rfl n49.at_))) (fun an55 n55 => ?_)
        refine sv n55.ok rfl (wn _ rfl) rfl (o_as n55.at_) (fun an56 n56 => ?_)
        refine wpList_nil ?_
        refine th_n (hK54 _ _ ?_)
        refine wp_ret ?_
        refine th_r ?_
        refine ib_r ?_
        refine th_r ?_
        refine th_r ?_
        refine ib_r ?_
        refine th_r ?_
        exact ret1 n56.ok rfl (n56.at_) ⟨congrArg (fun n => Ending.returned (Value.int .i64 n)) (by unfold chkP; rw [if_neg (by omega), hgI17, chkPGo_at h28x]; unfold chkI; rw [if_neg c53, if_neg c53]), G47⟩
      · refine wp_cond_false ((n52.at_).trans (congrArg Value.bool (decide_eq_false c53))) ?_
        refine wp_skip ?_
        refine th_n (hK40 _ _ ?_)
        refine wp_seq_k (fun K57 hK57 => ?_)
        refine wp_region_lit ?_
        have e58 := n52.ne rfl (n51.ne rfl (n49.ne rfl (n44.ne rfl (n43.ne rfl (n42.ne rfl n31.at_)))))
        refine sv n52.ok rfl (wn _ rfl) rfl (o_fa (z := 2) e58 Try.underlying38 rfl (by kernel_rfl) rfl rfl) (fun an59 n59 => ?_)
        refine sv n59.ok rfl (wn _ rfl) rfl (o_ldA (k := 1) (cs := [.slice xh28.va xh28.vn xh28.vc, .slice xh28.ma xh28.mn xh28.mc]) n59.at_ (bk_part B48 rfl) Try.underlying35 rfl (by kernel_rfl)) (fun an60 n60 => ?_)
        refine sc n60.ok rfl (wn _ rfl) rfl (o_f1 Try.func43 rfl rfl rfl n60.at_) (kcheck_any _ _ _ w45 ((hm _ (List.mem_of_getElem? h28x)).gr G47).kn) ?_
        rintro _ w62 ⟨rfl, g63⟩
        refine ⟨_, rfl, fun an61 n61 => ?_⟩
        have G64 := G47.trans g63
        have B65 := B48.gr g63
        refine sv n61.ok rfl (wn _ rfl) rfl (o_as n61.at_) (fun an66 n66 => ?_)
        refine wpList_nil ?_
        refine th_n (hK57 _ _ ?_)
        refine wp_seq_k (fun K67 hK67 => ?_)
        refine wp_region_lit ?_
        refine sv n66.ok rfl (wn _ rfl) rfl (o_mv n66.at_) (fun an68 n68 => ?_)
        refine sv n68.ok rfl (wn _ rfl) rfl (o_neI n68.at_ ev_const) (fun an69 n69 => ?_)
        refine wpList_nil ?_
        refine th_n (hK67 _ _ ?_)
        by_cases c70 : ¬ (chkK xh28.V xh28.M) = 0
        · refine wp_cond_true ((n69.at_).trans (congrArg Value.bool (decide_eq_true c70))) ?_
          refine wp_seq_k (fun K71 hK71 => ?_)
          refine wp_region_lit ?_
          refine sv n69.ok rfl (wn _ rfl) rfl (o_mv (n69.ne rfl (n68.ne rfl n66.at_))) (fun an72 n72 => ?_)
          refine sv n72.ok rfl (wn _ rfl) rfl (o_as n72.at_) (fun an73 n73 => ?_)
          refine wpList_nil ?_
          refine th_n (hK71 _ _ ?_)
          refine wp_ret ?_
          refine ib_r ?_
          refine th_r ?_
          refine th_r ?_
          refine ib_r ?_
          refine th_r ?_
          exact ret1 n73.ok rfl (n73.at_) ⟨congrArg (fun n => Ending.returned (Value.int .i64 n)) (by unfold chkP; rw [if_neg (by omega), hgI17, chkPGo_at h28x]; unfold chkI; rw [if_pos (Decidable.of_not_not c53), if_neg c70]), G64⟩
        · refine wp_cond_false ((n69.at_).trans (congrArg Value.bool (decide_eq_false c70))) ?_
          refine wp_skip ?_
          refine ib_n ?_
          refine th_n (hK26 _ _ ?_)
          refine wp_region_lit ?_
          have e74 := n69.ne rfl (n68.ne rfl (n66.ne rfl (n61.ne rfl (n60.ne rfl (n59.ne rfl (n52.ne rfl (n51.ne rfl (n49.ne rfl (n44.ne rfl (n43.ne rfl (n42.ne rfl (n31.ne rfl (n30.ne rfl (n29.ne rfl (n23.ne rfl s12I17)))))))))))))))
          refine sv n69.ok rfl (wn _ rfl) rfl (o_add (r := ((i + 1 : Nat) : Int)) e74 ev_const (by omega) (by omega)) (fun an75 n75 => ?_)
          refine sv n75.ok rfl (wn _ rfl) rfl (o_mv n75.at_) (fun an76 n76 => ?_)
          refine wpList_nil ?_
          have e77 := n76.ne rfl (n75.ne rfl (n69.ne rfl (n68.ne rfl (n66.ne rfl (n61.ne rfl (n60.ne rfl (n59.ne rfl (n52.ne rfl (n51.ne rfl (n49.ne rfl (n44.ne rfl (n43.ne rfl (n42.ne rfl (n31.ne rfl (n30.ne rfl (n29.ne rfl (n23.ne rfl s2I17)))))))))))))))))
          have e78 := n76.ne rfl (n75.ne rfl (n69.ne rfl (n68.ne rfl (n66.ne rfl (n61.ne rfl (n60.ne rfl (n59.ne rfl (n52.ne rfl (n51.ne rfl (n49.ne rfl (n44.ne rfl (n43.ne rfl (n42.ne rfl (n31.ne rfl (n30.ne rfl (n29.ne rfl (n23.ne rfl s10I17)))))))))))))))))
          have e79 := n76.ne rfl (n75.ne rfl (n69.ne rfl (n68.ne rfl (n66.ne rfl (n61.ne rfl (n60.ne rfl (n59.ne rfl (n52.ne rfl (n51.ne rfl (n49.ne rfl (n44.ne rfl (n43.ne rfl (n42.ne rfl (n31.ne rfl (n30.ne rfl (n29.ne rfl (n23.ne rfl s11I17)))))))))))))))))
          exact th_n (hKI17 _ _ _ (by omega) ⟨i + 1, rfl, n76.ok, G64, e77, e78, e79, n76.at_, by omega, by rw [hgI17, chkPGo_at h28x, if_pos]; unfold chkI; rw [if_pos (Decidable.of_not_not c53)]; exact Decidable.of_not_not c70⟩)
    · refine wp_cond_false ((n23.at_).trans (congrArg Value.bool (decide_eq_false c25))) ?_
      refine wp_exit ?_
      refine th_x ?_
      refine th_x ?_
      refine ib_x ?_
      refine th_n (hK11 _ _ ?_)
      refine wp_seq_k (fun K80 hK80 => ?_)
      refine wp_region_lit ?_
      refine sv n23.ok rfl (wn _ rfl) rfl (o_as ev_const) (fun an81 n81 => ?_)
      refine wpList_nil ?_
      refine th_n (hK80 _ _ ?_)
      refine wp_ret ?_
      exact ret1 n81.ok rfl (n81.at_) ⟨congrArg (fun n => Ending.returned (Value.int .i64 n)) (by unfold chkP; rw [if_neg (by omega), hgI17, List.drop_eq_nil_of_le (by omega)]; rfl), GI17⟩
theorem pcheck_ok (L : List PtX) (va : Option Addr) (vc : Nat) (w : World) (hl : L.length ≤ 30) (hv : RdA encP 3 w va L) (hm : MeansP w L) : Calls Try.prog 9 #[.slice va L.length vc] w fun e w' => e = .returned (.int .i64 0) ∧ Gr w w' := by
  obtain ⟨K, h1, h2, h3⟩ := hm.is
  have hlen : K.length = L.length := by simpa using congrArg List.length h1
  have h := pcheck_any K va vc w (by omega) (rd_map hv h1) h2
  have e : chkP K = 0 := by unfold chkP; rw [if_neg (by omega)]; exact chkPGo_zero.2 h3
  rw [e, hlen] at h
  exact h
def chkP2 (K L : List PtI) : Int := if chkP K = 0 then chkP L else chkP K
set_option maxHeartbeats 8000000 in
set_option maxRecDepth 100000 in
theorem pcheckBoth_any (K L : List PtI) (va vb : Option Addr) (vc vd : Nat) (w : World) (hl1 : K.length ≤ 1000000000) (hl2 : L.length ≤ 1000000000) (h1 : RdA encR 3 w va K) (h2 : RdA encR 3 w vb L) (hm1 : MeansI w K) (hm2 : MeansI w L) :
    Calls Try.prog 35 #[.slice va K.length vc, .slice vb L.length vd] w fun e w' => e = .returned (.int .i64 (chkP2 K L)) ∧ Gr w w' := by
  refine enter (N := 13) Try.func35 rfl rfl rfl (fun a0 ok0 h0 => ?_)
  have e0_0 : a0.eval (.tmp 0) = .slice va K.length vc := h0 0 _ rfl
  have e0_1 : a0.eval (.tmp 1) = .slice vb L.length vd := h0 1 _ rfl
  clear h0
  have G0 := Gr.refl w
  refine wp_seq_k (fun K1 hK1 => ?_)
  refine wp_region_lit ?_
  refine sv ok0 rfl (wn _ rfl) rfl (o_as ev_const) (fun an2 n2 => ?_)
  refine wpList_nil ?_
  refine th_n (hK1 _ _ ?_)
  refine wp_seq_k (fun K3 hK3 => ?_)
  refine wp_seq_k (fun K4 hK4 => ?_)
  refine wp_region_lit ?_
  refine sv n2.ok rfl (wn _ rfl) rfl (o_mv (n2.ne rfl e0_0)) (fun an5 n5 => ?_)
  refine sc n5.ok rfl (wn _ rfl) rfl (o_f1 Try.func9 rfl rfl rfl n5.at_) (pcheck_any K va vc w hl1 (h1.gr G0) (hm1.gr G0)) ?_
  rintro _ w7 ⟨rfl, g8⟩
  refine ⟨_, rfl, fun an6 n6 => ?_⟩
  have G9 := G0.trans g8
  refine sv n6.ok rfl (wn _ rfl) rfl (o_as n6.at_) (fun an10 n10 => ?_)
  refine wpList_nil ?_
  refine th_n (hK4 _ _ ?_)
  refine wp_seq_k (fun K11 hK11 => ?_)
  refine wp_region_lit ?_
  refine sv n10.ok rfl (wn _ rfl) rfl (o_mv n10.at_) (fun an12 n12 => ?_)
  refine sv n12.ok rfl (wn _ rfl) rfl (o_neI n12.at_ ev_const) (fun an13 n13 => ?_)
  refine wpList_nil ?_
  refine th_n (hK11 _ _ ?_)
  by_cases c14 : ¬ (chkP K) = 0
  · refine wp_cond_true ((n13.at_).trans (congrArg Value.bool (decide_eq_true c14))) ?_
    refine wp_seq_k (fun K15 hK15 => ?_)
    refine wp_region_lit ?_
    refine sv n13.ok rfl (wn _ rfl) rfl (o_mv (n13.ne rfl (n12.ne rfl n10.at_))) (fun an16 n16 => ?_)
    refine sv n16.ok rfl (wn _ rfl) rfl (o_as n16.at_) (fun an17 n17 => ?_)
    refine wpList_nil ?_
    refine th_n (hK15 _ _ ?_)
    refine wp_ret ?_
    refine th_r ?_
    exact ret1 n17.ok rfl (n17.at_) ⟨congrArg (fun n => Ending.returned (Value.int .i64 n)) (by unfold chkP2; rw [if_neg c14]), G9⟩
  · refine wp_cond_false ((n13.at_).trans (congrArg Value.bool (decide_eq_false c14))) ?_
    refine wp_skip ?_
    refine th_n (hK3 _ _ ?_)
    refine wp_seq_k (fun K18 hK18 => ?_)
    refine wp_region_lit ?_
    have e19 := n13.ne rfl (n12.ne rfl (n10.ne rfl (n6.ne rfl (n5.ne rfl (n2.ne rfl e0_1)))))
    refine sv n13.ok rfl (wn _ rfl) rfl (o_mv e19) (fun an20 n20 => ?_)
    refine sc n20.ok rfl (wn _ rfl) rfl (o_f1 Try.func9 rfl rfl rfl n20.at_) (pcheck_any L vb vd w7 hl2 (h2.gr G9) (hm2.gr G9)) ?_
    rintro _ w22 ⟨rfl, g23⟩
    refine ⟨_, rfl, fun an21 n21 => ?_⟩
    have G24 := G9.trans g23
    refine sv n21.ok rfl (wn _ rfl) rfl (o_as n21.at_) (fun an25 n25 => ?_)
    refine wpList_nil ?_
    refine th_n (hK18 _ _ ?_)
    refine wp_ret ?_
    exact ret1 n25.ok rfl (n25.at_) ⟨congrArg (fun n => Ending.returned (Value.int .i64 n)) (by unfold chkP2; rw [if_pos (Decidable.of_not_not c14)]), G24⟩
theorem pcheckBoth_ok (K L : List PtX) (va vb : Option Addr) (vc vd : Nat) (w : World) (hl : K.length ≤ 30) (hl' : L.length ≤ 30) (hv : RdA encP 3 w va K) (hv' : RdA encP 3 w vb L) (hm : MeansP w K) (hm' : MeansP w L) : Calls Try.prog 35 #[.slice va K.length vc, .slice vb L.length vd] w fun e w' => e = .returned (.int .i64 0) ∧ Gr w w' := by
  obtain ⟨K', h1, h2, h3⟩ := hm.is
  obtain ⟨L', h4, h5, h6⟩ := hm'.is
  have hlen : K'.length = K.length := by simpa using congrArg List.length h1
  have hlen' : L'.length = L.length := by simpa using congrArg List.length h4
  have h := pcheckBoth_any K' L' va vb vc vd w (by omega) (by omega) (rd_map hv h1) (rd_map hv' h4) h2 h5
  have e : chkP K' = 0 := by unfold chkP; rw [if_neg (by omega)]; exact chkPGo_zero.2 h3
  have e' : chkP L' = 0 := by unfold chkP; rw [if_neg (by omega)]; exact chkPGo_zero.2 h6
  have e2 : chkP2 K' L' = 0 := by unfold chkP2; rw [if_pos e, e']
  rw [e2, hlen, hlen'] at h
  exact h
def hasE (t n a c : Int) : Int := if (pointB t n && dotB (a, c)) = true then 0 else 1
end Go.Proofs.Ytghjfakellaecaa

/- slices.SortFunc at part.marks: the same marks, in order. -/
namespace Rm
open Go Go.RowKit Gx
def encM (x : Nat × Nat) : List Value := [.int .u32 x.1, .int .u32 x.2]
theorem encM_ok : EncOk encM 2 := ⟨fun x => rfl, fun x u hu => by
  simp [encM] at hu
  rcases hu with rfl | rfl <;> rfl⟩
end Rm
namespace Go.Proofs
open Go.Shelf
end Go.Proofs
namespace Rm
open Go Go.RowKit Go.Sort Gx
end Rm
namespace Go.Proofs.Ytghjfakellaecaa
open Go.RowKit Rm Go.Sort Gx
set_option linter.unusedVariables false
set_option linter.unusedSimpArgs false
theorem TwoU.new (w : World) (x1 x2 : Nat) (t : TypeId) : w.heap.size < (w.alloc (.cells #[.int .u32 (x1 : Int), .int .u32 (x2 : Int)] t)).heap.size ∧ (w.alloc (.cells #[.int .u32 (x1 : Int), .int .u32 (x2 : Int)] t)).cell? ⟨w.heap.size, 0, none⟩ = some (.int .u32 (x1 : Int)) ∧ (w.alloc (.cells #[.int .u32 (x1 : Int), .int .u32 (x2 : Int)] t)).cell? ⟨w.heap.size, 1, none⟩ = some (.int .u32 (x2 : Int)) := by
  refine ⟨by rw [World.size_alloc]; omega, ?_, ?_⟩ <;> simp [go_sem]
end Go.Proofs.Ytghjfakellaecaa

/- slices.Compact at part.marks. -/
set_option linter.unusedVariables false
set_option linter.unusedSimpArgs false
namespace Rm
open Go Go.RowKit Gx
/-- a row that holds dots -/
def RowDM (e : TypeId) (w : World) (g cap : Nat) (c : List (Nat × Nat)) : Prop := c.length ≤ cap ∧ ∃ cur, w.heap[g]? = some (.cells cur e (0, 0)) ∧ cur.size = cap * 2 ∧ cur.toList.take (c.length * 2) = flatE encM c
theorem RowDM.cell {e : TypeId} {w : World} {g cap : Nat} {c : List (Nat × Nat)} (h : RowDM e w g cap c) {i : Nat} {d : Nat × Nat} (hd : c[i]? = some d) :
    w.cell? ⟨g, i * 2, none⟩ = some (.int .u32 (d.1 : Int)) ∧ w.cell? ⟨g, i * 2 + 1, none⟩ = some (.int .u32 (d.2 : Int)) ∧ w.frozen? ⟨g, i * 2, none⟩ = false ∧ w.frozen? ⟨g, i * 2 + 1, none⟩ = false := by
  obtain ⟨hl, cur, hg, hsz, ht⟩ := h
  have hi : i < c.length := (List.getElem?_eq_some_iff.1 hd).1
  have hf : (flatE encM c)[i * 2]? = some (.int .u32 (d.1 : Int)) ∧ (flatE encM c)[i * 2 + 1]? = some (.int .u32 (d.2 : Int)) := ⟨flatE_at encM_ok hd (j := 0) rfl, flatE_at encM_ok hd (j := 1) rfl⟩
  have hfl := flatE_len encM_ok c
  rw [← ht] at hf
  rw [List.getElem?_take_of_lt (by omega), List.getElem?_take_of_lt (by omega)] at hf
  refine ⟨?_, ?_, by simp [World.frozen?, hg], by simp [World.frozen?, hg]⟩
  · have := hf.1; simpa [World.cell?, hg] using this
  · have := hf.2; simpa [World.cell?, hg] using this
theorem flat_setDM (c : List (Nat × Nat)) (i : Nat) (d : Nat × Nat) (hi : i < c.length) : ((flatE encM c).set (i * 2) (.int .u32 (d.1 : Int))).set (i * 2 + 1) (.int .u32 (d.2 : Int)) = flatE encM (c.set i d) :=
  splL_flat encM_ok hi d
theorem RowDM.put {e : TypeId} {w : World} {g cap : Nat} {c : List (Nat × Nat)} (h : RowDM e w g cap c) {i : Nat} (d : Nat × Nat) (hi : i < c.length) :
    RowDM e ((w.setCell ⟨g, i * 2, none⟩ (.int .u32 (d.1 : Int))).setCell ⟨g, i * 2 + 1, none⟩ (.int .u32 (d.2 : Int))) g cap (c.set i d) := by
  obtain ⟨hl, cur, hg, hsz, ht⟩ := h
  refine ⟨by simpa using hl, _, hsc (hsc hg), by simpa using hsz, ?_⟩
  rw [← flat_setDM c i d hi, ← ht]
  simp only [Array.toList_setIfInBounds, List.length_set]
  exact take_set2 _ _ _ _ _ _
/-- the inner loop's state -/
def CmpAtM (l : List (Nat × Nat)) (w wr : World) (g cap k0 k j : Nat) (c : List (Nat × Nat)) : Prop :=
  k0 + j + 1 ≤ l.length ∧ k ≤ k0 + j ∧ c.length = l.length ∧ k = (ddT l (k0 + j + 1)).length ∧ c.take k = ddT l (k0 + j + 1) ∧ (∀ i, k0 + j ≤ i → c[i]? = l[i]?) ∧ RowDM 75 wr g cap c ∧ w.grownBy wr (some g)
theorem CmpAtM.same {l : List (Nat × Nat)} {w wr wr' : World} {g cap k0 k j : Nat} {c : List (Nat × Nat)} (h : CmpAtM l w wr g cap k0 k j c) (hlt : k0 + j + 1 < l.length) (he : l[k0 + j + 1]? = l[k0 + j]?) (hr : RowDM 75 wr' g cap c) (hg : wr.grownBy wr' (some g)) : CmpAtM l w wr' g cap k0 k (j + 1) c := by
  obtain ⟨h1, h2, h3, h4, h5, h6, h7, h8⟩ := h
  obtain ⟨d, hd⟩ : ∃ d, l[k0 + j + 1]? = some d := ⟨_, List.getElem?_eq_getElem hlt⟩
  have e : ddT l (k0 + (j + 1) + 1) = ddT l (k0 + j + 1) := ddT_same (i := k0 + j + 1) hd ⟨by omega, by rw [show k0 + j + 1 - 1 = k0 + j from rfl, ← he, hd]⟩
  exact ⟨by omega, by omega, h3, by rw [e]; exact h4, by rw [e]; exact h5, fun i hi => h6 i (by omega), hr, gb_trans h8 hg⟩
theorem CmpAtM.more {l : List (Nat × Nat)} {w wr wr' : World} {g cap k0 k j : Nat} {c : List (Nat × Nat)} {d : Nat × Nat} (h : CmpAtM l w wr g cap k0 k j c) (hd : l[k0 + j + 1]? = some d) (he : l[k0 + j]? ≠ some d) (hr : RowDM 75 wr' g cap (c.set k d)) (hg : wr.grownBy wr' (some g)) : CmpAtM l w wr' g cap k0 (k + 1) (j + 1) (c.set k d) := by
  obtain ⟨h1, h2, h3, h4, h5, h6, h7, h8⟩ := h
  have hlt : k0 + j + 1 < l.length := (List.getElem?_eq_some_iff.1 hd).1
  have e : ddT l (k0 + (j + 1) + 1) = ddT l (k0 + j + 1) ++ [d] := ddT_more (i := k0 + j + 1) hd (fun q => he q.2)
  refine ⟨by omega, by omega, by simpa using h3, by rw [e, h4]; simp, ?_, fun i hi => ?_, hr, gb_trans h8 hg⟩
  · rw [e, ← h5, List.take_set, List.take_add_one, List.getElem?_eq_getElem (by omega : k < c.length), List.set_append_right _ _ (by simp; omega)]
    have : k - (List.take k c).length = 0 := by simp; omega
    rw [this]
    rfl
  · rw [List.getElem?_set_ne (by omega)]; exact h6 i (by omega)
end Rm
namespace Go.Proofs.Ytghjfakellaecaa
open Gx Go.RowKit Rm
set_option linter.unusedVariables false
set_option linter.unusedSimpArgs false
theorem flat_takePM (c : List (Nat × Nat)) (k : Nat) (hk : k ≤ c.length) : (flatE encM c).take (k * 2) = flatE encM (c.take k) := flatE_take encM_ok c k hk
theorem RowDM.drewN {e : TypeId} {w : World} {g cap : Nat} {c : List (Nat × Nat)} (h : RowDM e w g cap c) (q : Nat) : RowDM e (w.drewN q) g cap c := h
theorem RowDM.shrink {e : TypeId} {w : World} {g cap k : Nat} {c : List (Nat × Nat)} {vs : List Value} (h : RowDM e w g cap c) (hk : k ≤ c.length) : RowDM e (w.setCells g (k * 2) vs) g cap (c.take k) := by
  obtain ⟨hl, cur, hg, hsz, ht⟩ := h
  obtain ⟨cur', h1, h2, h3⟩ := setCells_block g vs (k * 2) w cur e hg
  refine ⟨by simp; omega, cur', h1, by rw [h2, hsz], ?_⟩
  have hlen : (c.take k).length = k := by simp; omega
  rw [hlen, h3 _ (Nat.le_refl _)]
  have : cur.toList.take (k * 2) = (cur.toList.take (c.length * 2)).take (k * 2) := by rw [List.take_take, Nat.min_eq_left (by omega)]
  rw [this, ht]
  exact flat_takePM _ _ hk
end Go.Proofs.Ytghjfakellaecaa

/- Marks; part.Within. -/
set_option linter.unusedVariables false
set_option linter.unusedSimpArgs false
namespace Rm
open Go Go.RowKit Gx
def subP (K L : List PtX) : Prop := ∀ t n a c, t < 16 → n < 32 → inR a c → hasP K t n a c = true → hasP L t n a c = true
end Rm
namespace Go.Proofs.Ytghjfakellaecaa
open Go.RowKit Rm Gx
end Go.Proofs.Ytghjfakellaecaa

/- What a part owns; narrow. -/
set_option linter.unusedVariables false
set_option linter.unusedSimpArgs false
namespace Go.Proofs.Ytghjfakellaecaa
open Go.RowKit Rm Gx
/-- the types that a part's memory is of -/
def ptT : List TypeId := [124, 135, 3, 26]
/-- blocks of these types stand -/
def Tk (w w' : World) : Prop := ∀ (k : Nat) (cs : Array Value) (t : TypeId) (fr : Nat × Nat), w.heap[k]? = some (.cells cs t fr) → ptT.contains t = true → w'.heap[k]? = w.heap[k]?
theorem tk_gr {w w' : World} (g : Gr w w') : Tk w w' := fun k cs t fr h _ => Below.block g k (Array.getElem?_eq_some_iff.1 h).1
theorem tk_upd {w w' : World} {b : Nat} {cs : Array Value} {t : TypeId} (u : Upd w w' b) (h : Bk w b cs t) (ht : ptT.contains t = false) : Tk w w' := fun k cs' t' fr h' ht' => u.oth k (fun e => by
  subst e
  unfold Bk at h
  rw [h] at h'
  injection h' with h'
  injection h' with _ h2
  subst h2
  rw [ht] at ht'
  cases ht')
theorem tk_grown {w w' : World} {base s n : Nat} {t : TypeId} {v : Value} {xs : List Value} (h : w.ownsRow base t s v n xs) (g : w.grownBy w' v.ownBlock) (ht : ptT.contains t = false) : Tk w w' := fun k cs t' fr h' ht' => g.block k (Array.getElem?_eq_some_iff.1 h').1 (fun e => by
  obtain ⟨-, ⟨rfl, -⟩ | ⟨b, cap, cur, rfl, -, hg, -⟩⟩ := h
  · cases e
  · obtain rfl : k = b := by simpa [Value.ownBlock] using e
    rw [hg] at h'
    injection h' with h'
    injection h' with _ h2
    subst h2
    rw [ht] at ht'
    cases ht')
theorem ow_tk {w w' : World} {base s n : Nat} {t : TypeId} {v : Value} {xs : List Value} (h : w.ownsRow base t s v n xs) (k : Tk w w') (ht : ptT.contains t = true) : w'.ownsRow base t s v n xs := by
  obtain ⟨h1, h2 | ⟨b, cap, cur, rfl, h3, hg, h4⟩⟩ := h
  · exact ⟨h1, .inl h2⟩
  · exact ⟨h1, .inr ⟨b, cap, cur, rfl, h3, (k b cur t (0, 0) hg ht).trans hg, h4⟩⟩
theorem FO.tk {base n : Nat} {w w' : World} {v : Value} {T : Nat → Nat} (h : FO base n w v T) (k : Tk w w') : FO base n w' v T := by
  obtain ⟨O, h1, h2, h3⟩ := h
  exact ⟨O, ow_tk h1 k (by decide), fun p hp => ow_tk (h2 p hp) k (by decide), h3⟩
theorem KnO.tk {base : Nat} {w w' : World} {k : Value} {v : List Nat} {m : List (Nat × Nat)} (h : KnO base w k v m) (q : Tk w w') : KnO base w' k v m := by
  obtain ⟨vv, mv, e, h1, h2⟩ := h
  exact ⟨vv, mv, e, ow_tk h1 q (by decide), ow_tk h2 q (by decide)⟩
theorem FO.form {base n : Nat} {w : World} {v : Value} {T : Nat → Nat} (h : FO base n w v T) : ∃ a l c, v = .slice a l c := by
  obtain ⟨O, h1, -⟩ := h
  obtain ⟨a, c, rfl, -⟩ := ow_form h1
  exact ⟨a, _, c, rfl⟩
/-- a part that owns what it holds -/
structure OwnP (base : Nat) (w : World) (x : PtX) : Prop where
  fo : FO base 16 w x.f x.T
  kn : KnO base w x.k (formV x.D) (formM x.D)
  few : (formM x.D).length ≤ 60
theorem OwnP.tk {base : Nat} {w w' : World} {x : PtX} (h : OwnP base w x) (k : Tk w w') : OwnP base w' x := ⟨h.fo.tk k, h.kn.tk k, h.few⟩
theorem OwnP.mean {base : Nat} {w : World} {x : PtX} (h : OwnP base w x) : MeanP w x := ⟨h.fo.fs.le (by decide), h.kn.rd, h.few⟩
theorem OwnP.base {base base' : Nat} {w : World} {x : PtX} (h : OwnP base w x) (hb : base' ≤ base) : OwnP base' w x := ⟨h.fo.base hb, h.kn.less hb, h.few⟩
def OwnsP (base : Nat) (w : World) (K : List PtX) : Prop := ∀ x ∈ K, OwnP base w x
theorem OwnsP.tk {base : Nat} {w w' : World} {K : List PtX} (h : OwnsP base w K) (k : Tk w w') : OwnsP base w' K := fun x hx => (h x hx).tk k
theorem OwnsP.mean {base : Nat} {w : World} {K : List PtX} (h : OwnsP base w K) : MeansP w K := fun x hx => (h x hx).mean
theorem OwnsP.snoc {base : Nat} {w : World} {K : List PtX} {x : PtX} (h : OwnsP base w K) (hx : OwnP base w x) : OwnsP base w (K ++ [x]) := fun y hy => by
  rcases List.mem_append.1 hy with hy | hy
  · exact h y hy
  · rw [List.mem_singleton.1 hy]; exact hx
theorem or_none (D : DS) : EqD (orD (memB (formV D) (formM D)) (memB [] [])) D := fun s c i => by
  have h := form_mem D s c i
  have e : memB [] [] s c = false := by
    cases q : memB [] [] s c
    · rfl
    · rw [memB_iff] at q
      simp [cv] at q
      have := i.2.1
      omega
  simp only [orD, h, e, Bool.or_false]
theorem kjoin0 (k : Value) (D : DS) (w : World) (hk : KnD w k D) (hl : (formM D).length ≤ 60) :
    Calls Try.prog 22 #[k, .agg #[.slice none 0 0, .slice none 0 0]] w fun e w' => ∃ va vn vc ma mn mc, e = .returned (.tuple #[.agg #[.slice va vn vc, .slice ma mn mc], .int .i64 0]) ∧ KnO w.heap.size w' (.agg #[.slice va vn vc, .slice ma mn mc]) (formV D) (formM D) ∧ Gr w w' := by
  have ok0 : OkV [] [] := ⟨by simp, by simp, by simp, by simp, by simp⟩
  refine (join_ok k _ _ [] _ [] w hk (knR_nil w) (form_ok D) ok0 hl (by simp)).mono ?_
  rintro e w' ⟨h, g⟩
  obtain ⟨k2, h1, h2⟩ := frmK.one (h.congr (or_none D))
  unfold frE at h1
  unfold frV frM at h2
  rw [if_pos hl] at h1
  rw [if_pos hl, if_pos hl] at h2
  obtain ⟨va, vc, ma, mc, rfl⟩ := h2.form
  exact ⟨va, _, vc, ma, _, mc, h1, h2, g⟩
/-- what narrowing makes of a part's meaning -/
def nar (U : Nat → Nat) (x : PtX) : (Nat → Nat) × DS := (fun t => x.T t &&& U t, x.D)
def _root_.Rm.PtX.m (x : PtX) : (Nat → Nat) × DS := (x.T, x.D)
theorem nar_step {U : Nat → Nat} {L R : List PtX} {i : Nat} {x y : PtX} (h : R.map PtX.m = (L.take i).map (nar U)) (hx : L[i]? = some x) (hy : y.m = nar U x) : (R ++ [y]).map PtX.m = (L.take (i + 1)).map (nar U) := by
  rw [List.map_append, h, List.take_add_one, hx, List.map_append]
  simp [hy]
set_option maxHeartbeats 8000000 in
set_option maxRecDepth 100000 in
theorem narrow_any (L : List PtX) (va : Option Addr) (vc : Nat) (fv : Value) (U : Nat → Nat) (hl : L.length ≤ 1000) (w : World) (hv : RdA encP 3 w va L) (hm : MeansP w L) (hf : FS w fv U) :
    Calls Try.prog 53 #[.slice va L.length vc, fv] w fun e w' => ∃ (R : List PtX) (v : Value), e = .returned v ∧ R.map PtX.m = L.map (nar U) ∧ w'.ownsRow w.heap.size 38 3 v R.length (flatE encP R) ∧ OwnsP w.heap.size w' R ∧ Gr w w' := by
  refine enter (N := 40) Try.func53 rfl rfl rfl (fun a0 ok0 h0 => ?_)
  have e0_0 : a0.eval (.tmp 0) = .slice va L.length vc := h0 0 _ rfl
  have e0_1 : a0.eval (.tmp 1) = fv := h0 1 _ rfl
  clear h0
  have G0 := Gr.refl w
  obtain ⟨base, z1⟩ : ∃ n, n = w.heap.size := ⟨_, rfl⟩
  have l2 : w.heap.size ≤ base := by rw [z1]; exact G0.size
  have z3 : base ≤ w.heap.size := Nat.le_of_eq z1
  have O4 := World.ownsRow_nil w base 38 3
  have hps : OwnsP base w ([] : List PtX) := fun x hx => by cases hx
  refine wp_seq_k (fun K5 hK5 => ?_)
  refine wp_region_lit ?_
  refine sv ok0 rfl (wn _ rfl) rfl (o_as ev_const) (fun an6 n6 => ?_)
  refine wpList_nil ?_
  refine th_n (hK5 _ _ ?_)
  refine wp_seq_k (fun K7 hK7 => ?_)
  refine wp_region_lit ?_
  refine sv n6.ok rfl (wn _ rfl) rfl (o_as ev_const) (fun an8 n8 => ?_)
  refine wpList_nil ?_
  refine th_n (hK7 _ _ ?_)
  refine wp_seq_k (fun K9 hK9 => ?_)
  refine wp_seq_k (fun K10 hK10 => ?_)
  refine wp_region_lit ?_
  refine sv n8.ok rfl (wn _ rfl) rfl (o_mv (n8.ne rfl (n6.ne rfl e0_0))) (fun an11 n11 => ?_)
  refine sv n11.ok rfl (wn _ rfl) rfl (o_len n11.at_ Try.underlying22) (fun an12 n12 => ?_)
  refine sv n12.ok rfl (wn _ rfl) rfl (o_mv ev_const) (fun an13 n13 => ?_)
  refine wpList_nil ?_
  refine th_n (hK10 _ _ ?_)
  refine wp_block ?_
  have e15 := n13.ne rfl (n12.ne rfl (n11.ne rfl (n8.ne rfl (n6.ne rfl e0_1))))
  have e16 := n13.ne rfl (n12.ne rfl (n11.ne rfl (n8.ne rfl n6.at_)))
  have e17 := n13.ne rfl (n12.ne rfl (n11.ne rfl n8.at_))
  refine lp (fun (nL : Nat) (aL : Act) (wL : World) => ∃ i : Nat, ∃ R : List PtX, ∃ ra : Option Addr, ∃ rc : Nat, nL = L.length - i ∧ Ok 40 aL ∧ Gr w wL ∧ (aL.eval (.tmp 1) = fv) ∧ (aL.eval (.tmp 4) = .slice none 0 0) ∧ (aL.eval (.tmp 5) = .slice ra (R.length) rc) ∧ (aL.eval (.tmp 12) = .slice va L.length vc) ∧ (aL.eval (.tmp 13) = .int .i64 ((L.length : Nat) : Int)) ∧ (aL.eval (.tmp 14) = .int .i64 (i : Int)) ∧ (OwnsP base wL R) ∧ (World.ownsRow wL base 38 3 (.slice ra (R.length) rc) (R.length) ((flatE encP R))) ∧ (base ≤ wL.heap.size) ∧ (i ≤ L.length) ∧ (R.map PtX.m = (L.take i).map (nar U))) _ ⟨0, [], none, 0, rfl, n13.ok, G0, e15, e16, e17, (n13.ne rfl (n12.ne rfl n11.at_)), (n13.ne rfl n12.at_), n13.at_, hps, O4, z3, by omega, rfl⟩ ?_
  rintro m18 aI14 w20 ⟨i, R, ra, rc, hmI14, okI14, GI14, s1I14, s4I14, s5I14, s12I14, s13I14, s14I14, fpsI14, orI14, zbaseI14, hiI14, hRI14⟩ KI14 hKI14
  have hRlI14 : R.length = i := by have := congrArg List.length hRI14; rw [List.length_map, List.length_map, List.length_take] at this; omega
  refine wp_seq_k (fun K21 hK21 => ?_)
  refine wp_region_lit ?_
  refine sv okI14 rfl (wn _ rfl) rfl (o_ltI s14I14 s13I14) (fun an22 n22 => ?_)
  refine wpList_nil ?_
  refine th_n (hK21 _ _ ?_)
  refine wp_seq_k (fun K23 hK23 => ?_)
  by_cases c24 : (i : Int) < ((L.length : Nat) : Int)
  · refine wp_cond_true ((n22.at_).trans (congrArg Value.bool (decide_eq_true c24))) ?_
    refine wp_skip ?_
    refine th_n (hK23 _ _ ?_)
    refine wp_seq_k (fun K25 hK25 => ?_)
    refine wp_block ?_
    refine wp_seq_k (fun K26 hK26 => ?_)
    refine wp_region_lit ?_
    have h27l : i < List.length L := by omega
    obtain ⟨bh27, fh27, h27a, h27b, h27c⟩ := hv (ne_nil_of_lt h27l)
    obtain ⟨xh27, h27x⟩ : ∃ x, (L)[i]? = some x := ⟨_, List.getElem?_eq_getElem h27l⟩
    refine sv n22.ok rfl (wn _ rfl) rfl (o_iaV (i := i) (s := 3) h27a (n22.ne rfl s12I14) (n22.ne rfl s14I14) Try.underlying22 (by kernel_rfl) h27l) (fun an28 n28 => ?_)
    refine sv n28.ok rfl (wn _ rfl) rfl (o_ldA (k := fh27 + i * 3) n28.at_ (cs := [.slice xh27.fa xh27.fn xh27.fc, .slice xh27.va xh27.vn xh27.vc, .slice xh27.ma xh27.mn xh27.mc]) (fun j v hv => (Below.cell GI14 h27b).trans (h27c _ _ h27x j v hv)) Try.underlying38 rfl (by kernel_rfl)) (fun an29 n29 => ?_)
    refine sal (cs := #[.slice none 0 0, .slice none 0 0, .slice none 0 0]) n29.ok rfl (wn _ rfl) rfl (o_al (z := .agg #[.slice none 0 0, .slice none 0 0, .slice none 0 0]) (by kernel_rfl)) (fun an30 w32 b31 W33 n30 => ?_)
    have l34 : w.heap.size ≤ b31 := by rw [W33.eq]; exact GI14.size
    have l35 : ∀ k, Value.ownBlock (.slice ra (R.length) rc) = some k → k < b31 := fun k e => by rw [W33.eq]; exact ow_in orI14 k e
    have G36 := GI14.trans W33.gr
    have z37 := Nat.le_trans zbaseI14 W33.gr.size
    have O38 := ow_gr orI14 W33.gr
    have F39 := fpsI14.tk (tk_gr W33.gr)
    refine ssR rfl (wn _ rfl) (o_stR n30.at_ (n30.ne rfl n29.at_) W33.bk (by kernel_rfl) rfl (by simp [Value.oneCell'])) W33.bk (fun w40 u41 u41b => ?_)
    have G42 : Gr w w40 := Below.upd G36 l34 u41
    have z43 : base ≤ w40.heap.size := by rw [u41.size]; exact z37
    have O44 := ow_upd_ne O38 u41 l35
    have F45 := F39.tk (tk_upd u41 W33.bk (by decide))
    refine wpList_nil ?_
    refine th_n (hK26 _ _ ?_)
    refine wp_seq_k (fun K46 hK46 => ?_)
    refine wp_region_lit ?_
    refine sv n30.ok rfl (wn _ rfl) rfl (o_fa (z := 1) n30.at_ Try.underlying38 rfl (by kernel_rfl) rfl rfl) (fun an47 n47 => ?_)
    refine sv n47.ok rfl (wn _ rfl) rfl (o_ld n47.at_ (Try.isAgg36 _) (u41b.cell _ rfl)) (fun an48 n48 => ?_)
    have e49 := n48.ne rfl (n47.ne rfl (n30.ne rfl (n29.ne rfl (n28.ne rfl (n22.ne rfl s1I14)))))
    refine sv n48.ok rfl (wn _ rfl) rfl (o_mv e49) (fun an50 n50 => ?_)
    refine sc n50.ok rfl (wn _ rfl) rfl (o_f2 Try.func87 rfl rfl rfl (n50.ne rfl n48.at_) n50.at_) (fmeet_own (T := xh27.T) (U := U) ((hm _ (List.mem_of_getElem? h27x)).gr G42).fs (hf.gr G42)) ?_
    rintro _ w52 ⟨u1, rfl, hu1, g53⟩
    obtain ⟨fa1, fn1, fc1, rfl⟩ := hu1.form
    refine ⟨_, rfl, fun an51 n51 => ?_⟩
    have G54 := G42.trans g53
    have B55 := u41b.gr g53
    have z56 := Nat.le_trans z43 g53.size
    have O57 := ow_gr O44 g53
    have F58 := F45.tk (tk_gr g53)
    refine sv n51.ok rfl (wn _ rfl) rfl (o_mv n51.at_) (fun an59 n59 => ?_)
    refine sv n59.ok rfl (wn _ rfl) rfl (o_ex n59.at_ rfl) (fun an60 n60 => ?_)
    refine sv n60.ok rfl (wn _ rfl) rfl (o_ex (n60.ne rfl n59.at_) rfl) (fun an61 n61 => ?_)
    refine sv n61.ok rfl (wn _ rfl) rfl (o_as (n61.ne rfl n60.at_)) (fun an62 n62 => ?_)
    refine sv n62.ok rfl (wn _ rfl) rfl (o_as (n62.ne rfl n61.at_)) (fun an63 n63 => ?_)
    refine wpList_nil ?_
    refine th_n (hK46 _ _ ?_)
    refine wp_seq_k (fun K64 hK64 => ?_)
    refine wp_region_lit ?_
    have e65 := n63.ne rfl (n62.ne rfl (n61.ne rfl (n60.ne rfl (n59.ne rfl (n51.ne rfl (n50.ne rfl (n48.ne rfl (n47.ne rfl n30.at_))))))))
    refine sv n63.ok rfl (wn _ rfl) rfl (o_fa (z := 2) e65 Try.underlying38 rfl (by kernel_rfl) rfl rfl) (fun an66 n66 => ?_)
    refine sv n66.ok rfl (wn _ rfl) rfl (o_ldA (k := 1) (cs := [.slice xh27.va xh27.vn xh27.vc, .slice xh27.ma xh27.mn xh27.mc]) n66.at_ (bk_part B55 rfl) Try.underlying35 rfl (by kernel_rfl)) (fun an67 n67 => ?_)
    refine sv n67.ok rfl (wn _ rfl) rfl (o_b0 (cs := #[.slice none 0 0, .slice none 0 0]) Try.underlying35 (by kernel_rfl) (by kernel_rfl)) (fun an68 n68 => ?_)
    refine sc n68.ok rfl (wn _ rfl) rfl (o_f2 Try.func22 rfl rfl rfl (n68.ne rfl n67.at_) n68.at_) (kjoin0 _ xh27.D w52 ((hm _ (List.mem_of_getElem? h27x)).gr G54).kn (hm _ (List.mem_of_getElem? h27x)).few) ?_
    rintro _ w70 ⟨va1, vn1, vc1, ma1, mn1, mc1, rfl, hk1, g71⟩
    refine ⟨_, rfl, fun an69 n69 => ?_⟩
    have G72 := G54.trans g71
    have B73 := B55.gr g71
    have z74 := Nat.le_trans z56 g71.size
    have O75 := ow_gr O57 g71
    have F76 := F58.tk (tk_gr g71)
    have F77 := (hu1.base G42.size).gr g71
    refine sv n69.ok rfl (wn _ rfl) rfl (o_mv n69.at_) (fun an78 n78 => ?_)
    refine sv n78.ok rfl (wn _ rfl) rfl (o_ex n78.at_ rfl) (fun an79 n79 => ?_)
    refine sv n79.ok rfl (wn _ rfl) rfl (o_ex (n79.ne rfl n78.at_) rfl) (fun an80 n80 => ?_)
    refine sal (cs := #[.slice none 0 0, .slice none 0 0]) n80.ok rfl (wn _ rfl) rfl (o_al (z := .agg #[.slice none 0 0, .slice none 0 0]) (by kernel_rfl)) (fun an81 w83 b82 W84 n81 => ?_)
    have l85 : b31 < b82 := by rw [W84.eq]; exact B73.lt
    have l86 : w.heap.size ≤ b82 := by rw [W84.eq]; exact G72.size
    have l87 : ∀ k, Value.ownBlock (.slice ra (R.length) rc) = some k → k < b82 := fun k e => by rw [W84.eq]; exact ow_in O75 k e
    have G88 := G72.trans W84.gr
    have B89 := B73.gr W84.gr
    have z90 := Nat.le_trans z74 W84.gr.size
    have O91 := ow_gr O75 W84.gr
    have F92 := F76.tk (tk_gr W84.gr)
    have F93 := F77.gr W84.gr
    have F94 := (hk1.less G54.size).gr W84.gr
    refine ssR rfl (wn _ rfl) (o_stR n81.at_ (n81.ne rfl (n80.ne rfl n79.at_)) W84.bk (by kernel_rfl) rfl (by simp [Value.oneCell'])) W84.bk (fun w95 u96 u96b => ?_)
    have G97 : Gr w w95 := Below.upd G88 l86 u96
    have B98 := B89.upd u96 (Nat.ne_of_lt l85)
    have z99 : base ≤ w95.heap.size := by rw [u96.size]; exact z90
    have O100 := ow_upd_ne O91 u96 l87
    have F101 := F92.tk (tk_upd u96 W84.bk (by decide))
    have F102 := F93.tk (tk_upd u96 W84.bk (by decide))
    have F103 := F94.tk (tk_upd u96 W84.bk (by decide))
    refine sv n81.ok rfl (wn _ rfl) rfl (o_as (n81.ne rfl n80.at_)) (fun an104 n104 => ?_)
    refine wpList_nil ?_
    refine th_n (hK64 _ _ ?_)
    refine wp_region_lit ?_
    have e105 := n104.ne rfl (n81.ne rfl (n80.ne rfl (n79.ne rfl (n78.ne rfl (n69.ne rfl (n68.ne rfl (n67.ne rfl (n66.ne rfl (n63.ne rfl (n62.ne rfl (n61.ne rfl (n60.ne rfl (n59.ne rfl (n51.ne rfl (n50.ne rfl (n48.ne rfl (n47.ne rfl (n30.ne rfl (n29.ne rfl (n28.ne rfl (n22.ne rfl s5I14)))))))))))))))))))))
    refine sv n104.ok rfl (wn _ rfl) rfl (o_mv e105) (fun an106 n106 => ?_)
    have e107 := n106.ne rfl (n104.ne rfl (n81.ne rfl (n80.ne rfl (n79.ne rfl (n78.ne rfl (n69.ne rfl (n68.ne rfl (n67.ne rfl (n66.ne rfl (n63.ne rfl n62.at_))))))))))
    refine sv n106.ok rfl (wn _ rfl) rfl (o_mv e107) (fun an108 n108 => ?_)
    have e109 := n108.ne rfl (n106.ne rfl (n104.ne rfl n81.at_))
    refine sv n108.ok rfl (wn _ rfl) rfl (o_ldR e109 u96b Try.underlying35 rfl (by kernel_rfl)) (fun an110 n110 => ?_)
    refine sv n110.ok rfl (wn _ rfl) rfl (o_bd (cells := #[.slice fa1 fn1 fc1, .slice va1 vn1 vc1, .slice ma1 mn1 mc1]) (vs := [(0, .slice fa1 fn1 fc1), (1, .agg #[.slice va1 vn1 vc1, .slice ma1 mn1 mc1])]) (by simp [(n110.ne rfl n108.at_), n110.at_, ev_const]) (by kernel_rfl)) (fun an111 n111 => ?_)
    obtain ⟨i112, i112a, i112b, i112c⟩ := info3_of (show (Try.prog.info? 38).map (fun i => (i.zero, i.size)) = some (some (.agg #[.slice none 0 0, .slice none 0 0, .slice none 0 0]), 3) by kernel_rfl)
    refine sals (cs := #[.slice fa1 fn1 fc1, .slice va1 vn1 vc1, .slice ma1 mn1 mc1]) n111.ok rfl (wn _ rfl) rfl (o_bs (vs := [(0, .agg #[.slice fa1 fn1 fc1, .slice va1 vn1 vc1, .slice ma1 mn1 mc1])]) (by simp [n111.at_, ev_const]) Try.underlying22 i112a i112b (by rw [i112c]; rfl) (by rw [i112c]; rfl) (by rw [i112c]; kernel_rfl)) (fun an113 w115 b114 W116 n113 => ?_)
    have l117 : b31 < b114 := by rw [W116.eq]; exact B98.lt
    have l118 : b82 < b114 := by rw [W116.eq]; exact u96b.lt
    have l119 : w.heap.size ≤ b114 := by rw [W116.eq]; exact G97.size
    have l120 : ∀ k, Value.ownBlock (.slice ra (R.length) rc) = some k → k < b114 := fun k e => by rw [W116.eq]; exact ow_in O100 k e
    have G121 := G97.trans W116.gr
    have B122 := B98.gr W116.gr
    have B123 := u96b.gr W116.gr
    have z124 := Nat.le_trans z99 W116.gr.size
    have O125 := ow_gr O100 W116.gr
    have F126 := F101.tk (tk_gr W116.gr)
    have F127 := F102.gr W116.gr
    have F128 := F103.gr W116.gr
    have e129 := n113.ne rfl (n111.ne rfl (n110.ne rfl (n108.ne rfl n106.at_)))
    obtain ⟨y130, hy131⟩ : ∃ y : PtX, y = (⟨fa1, fn1, fc1, va1, vn1, vc1, ma1, mn1, mc1, fun t => xh27.T t &&& U t, xh27.D⟩ : PtX) := ⟨_, rfl⟩
    have q132 : OwnP base w115 y130 := by subst hy131; exact ⟨z1 ▸ F127, z1 ▸ F128, (hm _ (List.mem_of_getElem? h27x)).few⟩
    obtain ⟨i133, i133a, i133b, i133c, i133d⟩ := info_of (show (Try.prog.info? 38).map (fun i => (i.zero, i.size, i.bytes)) = some (some (.agg #[.slice none 0 0, .slice none 0 0, .slice none 0 0]), 3, 72) by kernel_rfl)
    refine s_app (base := base) (n := R.length) (xs := (flatE encP R)) (m := 1) (news := encP y130) n113.ok (wn _ rfl) rfl Try.underlying22 i133a i133b i133c i133d rfl (by omega) e129 O125 n113.at_ rfl ((by subst hy131; exact fun j u hu => by rw [add_n]; exact bk_part W116.bk (k := 0) rfl j u hu)) (encP_ok.one y130) (by simp only [maxLen]; omega) (by omega) z124 (fun an134 w135 v136 O139 gg140 n134 => ?_)
    obtain ⟨a137, c138, rfl, c138l⟩ := ow_form O139
    have G141 := Gr.grown G121 gg140 (fun k e => Nat.le_trans l2 (ow_lt O125 k e))
    have B142 := B122.grown_ne gg140 l35
    have B143 := B123.grown_ne gg140 l87
    have B144 := W116.bk.grown_ne gg140 l120
    have z145 := Nat.le_trans z124 gg140.size
    have F146 := F126.tk (tk_grown O125 gg140 (by decide))
    have F147 := q132.tk (tk_grown O125 gg140 (by decide))
    have O148 : w135.ownsRow base 38 3 (.slice a137 ((R.length + 1)) c138) ((R.length + 1)) ((flatE encP (R ++ [y130]))) := by have h := O139; rw [← flatE_one (enc := encP) y130, ← flatE_app] at h; exact h
    have hps149 := F146.snoc F147
    refine sv n134.ok rfl (wn _ rfl) rfl (o_as n134.at_) (fun an150 n150 => ?_)
    refine wpList_nil ?_
    refine ib_n ?_
    refine th_n (hK25 _ _ ?_)
    refine wp_region_lit ?_
    have e151 := n150.ne rfl (n134.ne rfl (n113.ne rfl (n111.ne rfl (n110.ne rfl (n108.ne rfl (n106.ne rfl (n104.ne rfl (n81.ne rfl (n80.ne rfl (n79.ne rfl (n78.ne rfl (n69.ne rfl (n68.ne rfl (n67.ne rfl (n66.ne rfl (n63.ne rfl (n62.ne rfl (n61.ne rfl (n60.ne rfl (n59.ne rfl (n51.ne rfl (n50.ne rfl (n48.ne rfl (n47.ne rfl (n30.ne rfl (n29.ne rfl (n28.ne rfl (n22.ne rfl s14I14))))))))))))))))))))))))))))
    refine sv n150.ok rfl (wn _ rfl) rfl (o_add (r := ((i + 1 : Nat) : Int)) e151 ev_const (by omega) (by omega)) (fun an152 n152 => ?_)
    refine sv n152.ok rfl (wn _ rfl) rfl (o_mv n152.at_) (fun an153 n153 => ?_)
    refine wpList_nil ?_
    have e154 := n153.ne rfl (n152.ne rfl (n150.ne rfl (n134.ne rfl (n113.ne rfl (n111.ne rfl (n110.ne rfl (n108.ne rfl (n106.ne rfl (n104.ne rfl (n81.ne rfl (n80.ne rfl (n79.ne rfl (n78.ne rfl (n69.ne rfl (n68.ne rfl (n67.ne rfl (n66.ne rfl (n63.ne rfl (n62.ne rfl (n61.ne rfl (n60.ne rfl (n59.ne rfl (n51.ne rfl (n50.ne rfl e49))))))))))))))))))))))))
    have e155 := n153.ne rfl (n152.ne rfl (n150.ne rfl (n134.ne rfl (n113.ne rfl (n111.ne rfl (n110.ne rfl (n108.ne rfl (n106.ne rfl (n104.ne rfl (n81.ne rfl (n80.ne rfl (n79.ne rfl (n78.ne rfl (n69.ne rfl (n68.ne rfl (n67.ne rfl (n66.ne rfl (n63.ne rfl (n62.ne rfl (n61.ne rfl (n60.ne rfl (n59.ne rfl (n51.ne rfl (n50.ne rfl (n48.ne rfl (n47.ne rfl (n30.ne rfl (n29.ne rfl (n28.ne rfl (n22.ne rfl s4I14))))))))))))))))))))))))))))))
    have e156 := n153.ne rfl (n152.ne rfl (n150.ne rfl (n134.ne rfl (n113.ne rfl (n111.ne rfl (n110.ne rfl (n108.ne rfl (n106.ne rfl (n104.ne rfl (n81.ne rfl (n80.ne rfl (n79.ne rfl (n78.ne rfl (n69.ne rfl (n68.ne rfl (n67.ne rfl (n66.ne rfl (n63.ne rfl (n62.ne rfl (n61.ne rfl (n60.ne rfl (n59.ne rfl (n51.ne rfl (n50.ne rfl (n48.ne rfl (n47.ne rfl (n30.ne rfl (n29.ne rfl (n28.ne rfl (n22.ne rfl s12I14))))))))))))))))))))))))))))))
    have e157 := n153.ne rfl (n152.ne rfl (n150.ne rfl (n134.ne rfl (n113.ne rfl (n111.ne rfl (n110.ne rfl (n108.ne rfl (n106.ne rfl (n104.ne rfl (n81.ne rfl (n80.ne rfl (n79.ne rfl (n78.ne rfl (n69.ne rfl (n68.ne rfl (n67.ne rfl (n66.ne rfl (n63.ne rfl (n62.ne rfl (n61.ne rfl (n60.ne rfl (n59.ne rfl (n51.ne rfl (n50.ne rfl (n48.ne rfl (n47.ne rfl (n30.ne rfl (n29.ne rfl (n28.ne rfl (n22.ne rfl s13I14))))))))))))))))))))))))))))))
    exact th_n (hKI14 _ _ _ (by omega) ⟨i + 1, R ++ [y130], a137, c138, rfl, n153.ok, G141, e154, e155, (by simpa using (n153.ne rfl (n152.ne rfl n150.at_))), e156, e157, n153.at_, hps149, (by simpa using O148), z145, by omega, nar_step hRI14 h27x (by rw [hy131]; rfl)⟩)
  · refine wp_cond_false ((n22.at_).trans (congrArg Value.bool (decide_eq_false c24))) ?_
    refine wp_exit ?_
    refine th_x ?_
    refine th_x ?_
    refine ib_x ?_
    refine th_n (hK9 _ _ ?_)
    refine wp_seq_k (fun K158 hK158 => ?_)
    refine wp_region_lit ?_
    refine sv n22.ok rfl (wn _ rfl) rfl (o_mv (n22.ne rfl s5I14)) (fun an159 n159 => ?_)
    refine sv n159.ok rfl (wn _ rfl) rfl (o_as n159.at_) (fun an160 n160 => ?_)
    refine wpList_nil ?_
    refine th_n (hK158 _ _ ?_)
    refine wp_ret ?_
    exact ret1 n160.ok rfl (n160.at_) ⟨R, _, rfl, by rw [hRI14, List.take_of_length_le (by omega)], z1 ▸ orI14, z1 ▸ fpsI14, GI14⟩
end Go.Proofs.Ytghjfakellaecaa

/- part.reduce. -/
set_option linter.unusedVariables false
set_option linter.unusedSimpArgs false
namespace Go.Proofs.Ytghjfakellaecaa
open Go.RowKit Rm Gx
set_option maxHeartbeats 8000000 in
set_option maxRecDepth 100000 in
theorem reduce_any (L : List PtX) (va : Option Addr) (vc : Nat) (hl : L.length ≤ 1000) (w : World) (hv : RdA encP 3 w va L) (hm : MeansP w L) :
    Calls Try.prog 52 #[.slice va L.length vc] w fun e w' => ∃ v : Value, e = .returned v ∧ w'.ownsRow w.heap.size 38 3 v (fewP L).length (flatE encP (fewP L)) ∧ Gr w w' := by
  refine enter (N := 32) Try.func52 rfl rfl rfl (fun a0 ok0 h0 => ?_)
  have e0_0 : a0.eval (.tmp 0) = .slice va L.length vc := h0 0 _ rfl
  clear h0
  have G0 := Gr.refl w
  obtain ⟨base, z1⟩ : ∃ n, n = w.heap.size := ⟨_, rfl⟩
  have l2 : w.heap.size ≤ base := by rw [z1]; exact G0.size
  have z3 : base ≤ w.heap.size := Nat.le_of_eq z1
  have O4 := World.ownsRow_nil w base 38 3
  refine wp_seq_k (fun K5 hK5 => ?_)
  refine wp_region_lit ?_
  refine sv ok0 rfl (wn _ rfl) rfl (o_as ev_const) (fun an6 n6 => ?_)
  refine wpList_nil ?_
  refine th_n (hK5 _ _ ?_)
  refine wp_seq_k (fun K7 hK7 => ?_)
  refine wp_region_lit ?_
  refine sv n6.ok rfl (wn _ rfl) rfl (o_as ev_const) (fun an8 n8 => ?_)
  refine wpList_nil ?_
  refine th_n (hK7 _ _ ?_)
  refine wp_seq_k (fun K9 hK9 => ?_)
  refine wp_seq_k (fun K10 hK10 => ?_)
  refine wp_region_lit ?_
  refine sv n8.ok rfl (wn _ rfl) rfl (o_mv (n8.ne rfl (n6.ne rfl e0_0))) (fun an11 n11 => ?_)
  refine sv n11.ok rfl (wn _ rfl) rfl (o_len n11.at_ Try.underlying22) (fun an12 n12 => ?_)
  refine sv n12.ok rfl (wn _ rfl) rfl (o_mv ev_const) (fun an13 n13 => ?_)
  refine wpList_nil ?_
  refine th_n (hK10 _ _ ?_)
  refine wp_block ?_
  have e15 := n13.ne rfl (n12.ne rfl (n11.ne rfl (n8.ne rfl n6.at_)))
  have e16 := n13.ne rfl (n12.ne rfl (n11.ne rfl n8.at_))
  refine lp (fun (nL : Nat) (aL : Act) (wL : World) => ∃ i : Nat, ∃ K : List PtX, ∃ ka : Option Addr, ∃ kc : Nat, nL = L.length - i ∧ Ok 32 aL ∧ Gr w wL ∧ (aL.eval (.tmp 2) = .slice none 0 0) ∧ (aL.eval (.tmp 3) = .slice ka K.length kc) ∧ (aL.eval (.tmp 7) = .slice va L.length vc) ∧ (aL.eval (.tmp 8) = .int .i64 ((L.length : Nat) : Int)) ∧ (aL.eval (.tmp 9) = .int .i64 (i : Int)) ∧ (World.ownsRow wL base 38 3 (.slice ka K.length kc) (K.length) ((flatE encP K))) ∧ (base ≤ wL.heap.size) ∧ (i ≤ L.length) ∧ (K = fewP (L.take i)) ∧ (MeansP w K)) _ ⟨0, [], none, 0, rfl, n13.ok, G0, e15, e16, (n13.ne rfl (n12.ne rfl n11.at_)), (n13.ne rfl n12.at_), n13.at_, O4, z3, by omega, rfl, (fun x hx => by cases hx)⟩ ?_
  rintro m17 aI14 w19 ⟨i, K, ka, kc, hmI14, okI14, GI14, s2I14, s3I14, s7I14, s8I14, s9I14, okrI14, zbaseI14, hiI14, hfkI14, hKmI14⟩ KI14 hKI14
  have hKlI14 : K.length ≤ i := by rw [hfkI14]; exact Nat.le_trans (fewP_len _) (by rw [List.length_take]; omega)
  have hKm := hKmI14
  refine wp_seq_k (fun K20 hK20 => ?_)
  refine wp_region_lit ?_
  refine sv okI14 rfl (wn _ rfl) rfl (o_ltI s9I14 s8I14) (fun an21 n21 => ?_)
  refine wpList_nil ?_
  refine th_n (hK20 _ _ ?_)
  refine wp_seq_k (fun K22 hK22 => ?_)
  by_cases c23 : (i : Int) < ((L.length : Nat) : Int)
  · refine wp_cond_true ((n21.at_).trans (congrArg Value.bool (decide_eq_true c23))) ?_
    refine wp_skip ?_
    refine th_n (hK22 _ _ ?_)
    refine wp_seq_k (fun K24 hK24 => ?_)
    refine wp_block ?_
    refine wp_seq_k (fun K25 hK25 => ?_)
    refine wp_region_lit ?_
    have h26l : i < List.length L := by omega
    obtain ⟨bh26, fh26, h26a, h26b, h26c⟩ := hv (ne_nil_of_lt h26l)
    obtain ⟨xh26, h26x⟩ : ∃ x, (L)[i]? = some x := ⟨_, List.getElem?_eq_getElem h26l⟩
    refine sv n21.ok rfl (wn _ rfl) rfl (o_iaV (i := i) (s := 3) h26a (n21.ne rfl s7I14) (n21.ne rfl s9I14) Try.underlying22 (by kernel_rfl) h26l) (fun an27 n27 => ?_)
    refine sv n27.ok rfl (wn _ rfl) rfl (o_ldA (k := fh26 + i * 3) n27.at_ (cs := [.slice xh26.fa xh26.fn xh26.fc, .slice xh26.va xh26.vn xh26.vc, .slice xh26.ma xh26.mn xh26.mc]) (fun j v hv => (Below.cell GI14 h26b).trans (h26c _ _ h26x j v hv)) Try.underlying38 rfl (by kernel_rfl)) (fun an28 n28 => ?_)
    refine sal (cs := #[.slice none 0 0, .slice none 0 0, .slice none 0 0]) n28.ok rfl (wn _ rfl) rfl (o_al (z := .agg #[.slice none 0 0, .slice none 0 0, .slice none 0 0]) (by kernel_rfl)) (fun an29 w31 b30 W32 n29 => ?_)
    have l33 : w.heap.size ≤ b30 := by rw [W32.eq]; exact GI14.size
    have l34 : ∀ k, Value.ownBlock (.slice ka K.length kc) = some k → k < b30 := fun k e => by rw [W32.eq]; exact ow_in okrI14 k e
    have G35 := GI14.trans W32.gr
    have z36 := Nat.le_trans zbaseI14 W32.gr.size
    have O37 := ow_gr okrI14 W32.gr
    refine ssR rfl (wn _ rfl) (o_stR n29.at_ (n29.ne rfl n28.at_) W32.bk (by kernel_rfl) rfl (by simp [Value.oneCell'])) W32.bk (fun w38 u39 u39b => ?_)
    have G40 : Gr w w38 := Below.upd G35 l33 u39
    have z41 : base ≤ w38.heap.size := by rw [u39.size]; exact z36
    have O42 := ow_upd_ne O37 u39 l34
    refine wpList_nil ?_
    refine th_n (hK25 _ _ ?_)
    refine wp_seq_k (fun K43 hK43 => ?_)
    refine wp_region_lit ?_
    refine sv n29.ok rfl (wn _ rfl) rfl (o_mf (fs := []) (cs := [.pointer (some ⟨b30, 0, none⟩)]) (by simp) (by simp [n29.at_])) (fun an44 n44 => ?_)
    refine sv n44.ok rfl (wn _ rfl) rfl (o_as n44.at_) (fun an45 n45 => ?_)
    refine wpList_nil ?_
    refine th_n (hK43 _ _ ?_)
    refine wp_seq_k (fun K46 hK46 => ?_)
    refine wp_region_lit ?_
    refine sv n45.ok rfl (wn _ rfl) rfl (o_ldR (n45.ne rfl (n44.ne rfl n29.at_)) u39b Try.underlying38 rfl (by kernel_rfl)) (fun an47 n47 => ?_)
    refine sc n47.ok rfl (wn _ rfl) rfl (o_f1 Try.func85 rfl rfl rfl n47.at_) (empty_any xh26 w38 ((hm _ (List.mem_of_getElem? h26x)).gr G40)) ?_
    rintro _ w49 ⟨rfl, g50⟩
    refine ⟨_, rfl, fun an48 n48 => ?_⟩
    have G51 := G40.trans g50
    have B52 := u39b.gr g50
    have z53 := Nat.le_trans z41 g50.size
    have O54 := ow_gr O42 g50
    refine sv n48.ok rfl (wn _ rfl) rfl (o_notI n48.at_) (fun an55 n55 => ?_)
    refine sv n55.ok rfl (wn _ rfl) rfl (o_mv n55.at_) (fun an56 n56 => ?_)
    cases c57 : (!(emptyP xh26))
    · have e58 := (n56.at_).trans (congrArg Value.bool (c57))
      have e59 := ((n56.ne rfl n55.at_)).trans (congrArg Value.bool (c57))
      refine sn n56.ok rfl (wgF rfl (yl 3 false rfl e58) rfl) rfl (fun an60 n60 => ?_)
      refine sn n60.ok rfl (wgF rfl (yl 3 false rfl (n60.ne rfl e58)) rfl) rfl (fun an61 n61 => ?_)
      refine sn n61.ok rfl (wgF rfl (yl 3 false rfl (n61.ne rfl (n60.ne rfl e58))) rfl) rfl (fun an62 n62 => ?_)
      have e63 := n62.ne rfl (n61.ne rfl (n60.ne rfl e58))
      refine sn n62.ok rfl (wgF rfl (yl 3 false rfl e63) rfl) rfl (fun an64 n64 => ?_)
      refine sv n64.ok rfl (wn _ rfl) rfl (o_pkF (n64.ne rfl e63) ev_const) (fun an65 n65 => ?_)
      refine wpList_nil ?_
      refine th_n (hK46 _ _ ?_)
      refine wp_cond_false (n65.at_) ?_
      refine wp_skip ?_
      refine ib_n ?_
      refine th_n (hK24 _ _ ?_)
      refine wp_region_lit ?_
      have e66 := n65.ne rfl (n64.ne rfl (n62.ne rfl (n61.ne rfl (n60.ne rfl (n56.ne rfl (n55.ne rfl (n48.ne rfl (n47.ne rfl (n45.ne rfl (n44.ne rfl (n29.ne rfl (n28.ne rfl (n27.ne rfl (n21.ne rfl s9I14))))))))))))))
      refine sv n65.ok rfl (wn _ rfl) rfl (o_add (r := ((i + 1 : Nat) : Int)) e66 ev_const (by omega) (by omega)) (fun an67 n67 => ?_)
      refine sv n67.ok rfl (wn _ rfl) rfl (o_mv n67.at_) (fun an68 n68 => ?_)
      refine wpList_nil ?_
      have e69 := n68.ne rfl (n67.ne rfl (n65.ne rfl (n64.ne rfl (n62.ne rfl (n61.ne rfl (n60.ne rfl (n56.ne rfl (n55.ne rfl (n48.ne rfl (n47.ne rfl (n45.ne rfl (n44.ne rfl (n29.ne rfl (n28.ne rfl (n27.ne rfl (n21.ne rfl s2I14))))))))))))))))
      have e70 := n68.ne rfl (n67.ne rfl (n65.ne rfl (n64.ne rfl (n62.ne rfl (n61.ne rfl (n60.ne rfl (n56.ne rfl (n55.ne rfl (n48.ne rfl (n47.ne rfl (n45.ne rfl (n44.ne rfl (n29.ne rfl (n28.ne rfl (n27.ne rfl (n21.ne rfl s3I14))))))))))))))))
      have e71 := n68.ne rfl (n67.ne rfl (n65.ne rfl (n64.ne rfl (n62.ne rfl (n61.ne rfl (n60.ne rfl (n56.ne rfl (n55.ne rfl (n48.ne rfl (n47.ne rfl (n45.ne rfl (n44.ne rfl (n29.ne rfl (n28.ne rfl (n27.ne rfl (n21.ne rfl s7I14))))))))))))))))
      have e72 := n68.ne rfl (n67.ne rfl (n65.ne rfl (n64.ne rfl (n62.ne rfl (n61.ne rfl (n60.ne rfl (n56.ne rfl (n55.ne rfl (n48.ne rfl (n47.ne rfl (n45.ne rfl (n44.ne rfl (n29.ne rfl (n28.ne rfl (n27.ne rfl (n21.ne rfl s8I14))))))))))))))))
      exact th_n (hKI14 _ _ _ (by omega) ⟨i + 1, K, ka, kc, rfl, n68.ok, G51, e69, e70, e71, e72, n68.at_, O54, z53, by omega, by rw [fewP_take h26x, ← hfkI14]; unfold stepP; rw [if_neg (by simp [c57])], hKmI14⟩)
    · have e73 := (n56.at_).trans (congrArg Value.bool (c57))
      have e74 := ((n56.ne rfl n55.at_)).trans (congrArg Value.bool (c57))
      have e75 := n56.ne rfl (n55.ne rfl (n48.ne rfl (n47.ne rfl (n45.ne rfl (n44.ne rfl (n29.ne rfl (n28.ne rfl (n27.ne rfl (n21.ne rfl s3I14)))))))))
      refine sv n56.ok rfl (wgT rfl (yl 3 true rfl e73) rfl) rfl (o_mv e75) (fun an76 n76 => ?_)
      have e77 := n76.ne rfl (n56.ne rfl (n55.ne rfl (n48.ne rfl (n47.ne rfl n45.at_))))
      refine sv n76.ok rfl (wgT rfl (yl 3 true rfl (n76.ne rfl e73)) rfl) rfl (o_mv e77) (fun an78 n78 => ?_)
      refine sc n78.ok rfl (wgT rfl (yl 3 true rfl (n78.ne rfl (n76.ne rfl e73))) rfl) rfl (o_f2 Try.func31 rfl rfl rfl (n78.ne rfl n76.at_) n78.at_) (containsP K ka kc _ [.pointer (some ⟨b30, 0, none⟩)] (fun y => underP xh26 y) ⟨_, Try.func83, rfl, rfl⟩ (by omega) w49 (RdA.own encP_ok O54 rfl) (fun y hy w1 g1 => reduce1_any y xh26 b30 w1 ((hKm y hy).gr (G51.trans g1)) ((hm _ (List.mem_of_getElem? h26x)).gr (G51.trans g1)) (B52.gr g1))) ?_
      rintro _ w80 ⟨rfl, g81⟩
      refine ⟨_, rfl, fun an79 n79 => ?_⟩
      have G82 := G51.trans g81
      have B83 := B52.gr g81
      have z84 := Nat.le_trans z53 g81.size
      have O85 := ow_gr O54 g81
      have e86 := n79.ne rfl (n78.ne rfl (n76.ne rfl e73))
      refine sv n79.ok rfl (wgT rfl (yl 3 true rfl e86) rfl) rfl (o_notI n79.at_) (fun an87 n87 => ?_)
      refine sv n87.ok rfl (wn _ rfl) rfl (o_pkT (n87.ne rfl e86) n87.at_) (fun an88 n88 => ?_)
      refine wpList_nil ?_
      refine th_n (hK46 _ _ ?_)
      cases c89 : (!(K.any fun y => underP xh26 y))
      · refine wp_cond_false ((n88.at_).trans (congrArg Value.bool (c89))) ?_
        refine wp_skip ?_
        refine ib_n ?_
        refine th_n (hK24 _ _ ?_)
        refine wp_region_lit ?_
        have e90 := n88.ne rfl (n87.ne rfl (n79.ne rfl (n78.ne rfl (n76.ne rfl (n56.ne rfl (n55.ne rfl (n48.ne rfl (n47.ne rfl (n45.ne rfl (n44.ne rfl (n29.ne rfl (n28.ne rfl (n27.ne rfl (n21.ne rfl s9I14))))))))))))))
        refine sv n88.ok rfl (wn _ rfl) rfl (o_add (r := ((i + 1 : Nat) : Int)) e90 ev_const (by omega) (by omega)) (fun an91 n91 => ?_)
        refine sv n91.ok rfl (wn _ rfl) rfl (o_mv n91.at_) (fun an92 n92 => ?_)
        refine wpList_nil ?_
        have e93 := n92.ne rfl (n91.ne rfl (n88.ne rfl (n87.ne rfl (n79.ne rfl (n78.ne rfl (n76.ne rfl (n56.ne rfl (n55.ne rfl (n48.ne rfl (n47.ne rfl (n45.ne rfl (n44.ne rfl (n29.ne rfl (n28.ne rfl (n27.ne rfl (n21.ne rfl s2I14))))))))))))))))
        have e94 := n92.ne rfl (n91.ne rfl (n88.ne rfl (n87.ne rfl (n79.ne rfl (n78.ne rfl (n76.ne rfl e75))))))
        have e95 := n92.ne rfl (n91.ne rfl (n88.ne rfl (n87.ne rfl (n79.ne rfl (n78.ne rfl (n76.ne rfl (n56.ne rfl (n55.ne rfl (n48.ne rfl (n47.ne rfl (n45.ne rfl (n44.ne rfl (n29.ne rfl (n28.ne rfl (n27.ne rfl (n21.ne rfl s7I14))))))))))))))))
        have e96 := n92.ne rfl (n91.ne rfl (n88.ne rfl (n87.ne rfl (n79.ne rfl (n78.ne rfl (n76.ne rfl (n56.ne rfl (n55.ne rfl (n48.ne rfl (n47.ne rfl (n45.ne rfl (n44.ne rfl (n29.ne rfl (n28.ne rfl (n27.ne rfl (n21.ne rfl s8I14))))))))))))))))
        exact th_n (hKI14 _ _ _ (by omega) ⟨i + 1, K, ka, kc, rfl, n92.ok, G82, e93, e94, e95, e96, n92.at_, O85, z84, by omega, by rw [fewP_take h26x, ← hfkI14]; unfold stepP; rw [if_neg (by simp [c57, c89])], hKmI14⟩)
      · refine wp_cond_true ((n88.at_).trans (congrArg Value.bool (c89))) ?_
        refine regd_start (N := 32) (m := 6) (Value.ownBlock (.slice ka K.length kc)) 3 (by kernel_rfl) (fun R970 => ?_)
        have e98 := n88.ne rfl (n87.ne rfl (n79.ne rfl (n78.ne rfl (n76.ne rfl e75))))
        have R971 := R970.snoc (n' := 1) rfl rfl (fun vJ _ => vJ = .slice ka K.length kc) rfl (fun _ _ _ _ h => h) (fun aS wS pS => by
            exact Does.val (wn _ rfl) (o_mv ((pS.old 3 rfl).trans e98)) (Gr.refl _) rfl rfl)
        have e99 := n88.ne rfl (n87.ne rfl (n79.ne rfl (n78.ne rfl (n76.ne rfl (n56.ne rfl (n55.ne rfl (n48.ne rfl (n47.ne rfl (n45.ne rfl (n44.ne rfl n29.at_))))))))))
        have R972 := R971.snoc (n' := 2) rfl rfl (fun vJ _ => vJ = .agg #[.slice xh26.fa xh26.fn xh26.fc, .slice xh26.va xh26.vn xh26.vc, .slice xh26.ma xh26.mn xh26.mc]) rfl (fun _ _ _ _ h => h) (fun aS wS pS => by
            exact Does.val (wn _ rfl) (o_ldR ((pS.old 5 rfl).trans e99) (Bk.grown_ne B83 (gb_drew pS.gr) l34) Try.underlying38 rfl (by kernel_rfl)) (Gr.refl _) rfl rfl)
        have R973 := R972.snoc (n' := 3) rfl rfl (fun vJ wJ => ∃ (c2 : Nat), vJ = .func (.func 106) #[] #[.pointer (some ⟨c2, 0, none⟩)] ∧ (w80.heap.size ≤ c2) ∧ (Bk wJ c2 #[.slice xh26.fa xh26.fn xh26.fc, .slice xh26.va xh26.vn xh26.vc, .slice xh26.ma xh26.mn xh26.mc] 38)) rfl (fun _ _ _ g ⟨c2, h, q0, q1⟩ => ⟨c2, h, q0, q1.grown_ne g (fun k e => Nat.lt_of_lt_of_le (ow_in O85 k e) q0)⟩) (fun aS wS pS => by
            have eR97_1 : aS.eval (.tmp 24) = .agg #[.slice xh26.fa xh26.fn xh26.fc, .slice xh26.va xh26.vn xh26.vc, .slice xh26.ma xh26.mn xh26.mc] := pS.pre 1 rfl
            exact Does.call (wn _ rfl) (o_f1 Try.func84 rfl rfl rfl (eR97_1)) (impliedBy_any xh26 wS) (by rintro _ w2 ⟨c2, rfl, hge2, hbk2, g⟩; exact ⟨_, rfl, g, ⟨c2, rfl, Nat.le_trans pS.gr.size hge2, hbk2⟩⟩) rfl)
        have R974 := R973.snocC (n' := 4) rfl rfl (fun vJ wJ => ∃ (da : Option Addr) (dc : Nat), vJ = .slice da ((K.filter fun y => !underP y xh26).length) dc ∧ (Value.ownBlock (.slice da (K.filter fun y => !underP y xh26).length dc) = Value.ownBlock (.slice ka K.length kc)) ∧ (World.ownsRow wJ base 38 3 (.slice da (K.filter fun y => !underP y xh26).length dc) (K.filter fun y => !underP y xh26).length (flatE encP (K.filter fun y => !underP y xh26)))) rfl (fun _ _ _ g ⟨da, dc, h, q0, q1⟩ => ⟨da, dc, h, q0, ow_gr q1 g⟩) (fun aS wS pS => by
            have eR97_0 : aS.eval (.tmp 23) = .slice ka K.length kc := pS.pre 0 rfl
            obtain ⟨c2, eR97_2, hge2, hbk2⟩ := pS.pre 2 rfl
            have eR97_2 : aS.eval (.tmp 25) = .func (.func 106) #[] #[.pointer (some ⟨c2, 0, none⟩)] := eR97_2
            exact DoesC.call (wn _ rfl) (o_f2 Try.func86 rfl rfl rfl (eR97_0) (eR97_2)) (deleteP K (.slice ka K.length kc) base _ [.pointer (some ⟨c2, 0, none⟩)] (fun y => underP y xh26) ⟨_, Try.func106, rfl, rfl⟩ (by omega) w wS (G82.trans (gr_drew (pS.gr0 rfl))) l2 (Nat.le_trans z84 pS.gr.size) (ow_gr O85 (gr_drew (pS.gr0 rfl))) (fun y hy w1 g1 => impliedBy1_any y xh26 c2 w1 ((hKm y hy).gr (Gr.grown (G82.trans (gr_drew (pS.gr0 rfl))) g1 (fun k e => Nat.le_trans l2 (ow_lt O85 k e)))) ((hm _ (List.mem_of_getElem? h26x)).gr (Gr.grown (G82.trans (gr_drew (pS.gr0 rfl))) g1 (fun k e => Nat.le_trans l2 (ow_lt O85 k e)))) (hbk2.grown_ne g1 (fun k e => Nat.lt_of_lt_of_le (ow_in O85 k e) hge2)))) (by rintro _ w2 ⟨u2, rfl, hob2, ho2, g⟩; obtain ⟨da, dc, rfl, -⟩ := ow_form ho2; exact ⟨_, rfl, g, ⟨da, dc, rfl, hob2, ho2⟩⟩) rfl)
        have R975 := R974.snoc (n' := 5) rfl rfl (fun vJ _ => vJ = .agg #[.slice xh26.fa xh26.fn xh26.fc, .slice xh26.va xh26.vn xh26.vc, .slice xh26.ma xh26.mn xh26.mc]) rfl (fun _ _ _ _ h => h) (fun aS wS pS => by
            exact Does.val (wn _ rfl) (o_ldR ((pS.old 5 rfl).trans e99) (Bk.grown_ne B83 (gb_drew pS.gr) l34) Try.underlying38 rfl (by kernel_rfl)) (Gr.refl _) rfl rfl)
        have R976 := R975.snoc (n' := 6) rfl rfl (fun vJ wJ => ∃ b101 : Nat, vJ = .slice (some ⟨b101, 0, none⟩) 1 1 ∧ w80.heap.size ≤ b101 ∧ Bk wJ b101 #[.slice xh26.fa xh26.fn xh26.fc, .slice xh26.va xh26.vn xh26.vc, .slice xh26.ma xh26.mn xh26.mc] 38) rfl (fun _ _ _ g ⟨b, h1, h2, h3⟩ => ⟨b, h1, h2, h3.grown_ne g (fun k e => Nat.lt_of_lt_of_le (ow_in O85 k e) h2)⟩) (fun aS wS pS => by
            have eR97_4 : aS.eval (.tmp 27) = .agg #[.slice xh26.fa xh26.fn xh26.fc, .slice xh26.va xh26.vn xh26.vc, .slice xh26.ma xh26.mn xh26.mc] := pS.pre 4 rfl
            obtain ⟨i100, i100a, i100b, i100c⟩ := info3_of (show (Try.prog.info? 38).map (fun i => (i.zero, i.size)) = some (some (.agg #[.slice none 0 0, .slice none 0 0, .slice none 0 0]), 3) by kernel_rfl)
            exact Does.val (wn _ rfl) (o_bs (vs := [(0, .agg #[.slice xh26.fa xh26.fn xh26.fc, .slice xh26.va xh26.vn xh26.vc, .slice xh26.ma xh26.mn xh26.mc])]) (by simp [(eR97_4), ev_const]) Try.underlying22 i100a i100b (by rw [i100c]; rfl) (by rw [i100c]; rfl) (by rw [i100c]; kernel_rfl)) ((Gr.refl _).alloc _) ⟨_, rfl, pS.gr.size, (New.mk' _ _ _).bk⟩ rfl)
        refine R976.run (k := 2) (L := #[true, true, true, true, true, true, false, false]) (by kernel_rfl) (by kernel_rfl) (by kernel_rfl) n88.ok (by kernel_rfl) (by kernel_rfl) (fun ap103 w104 p103 => ?_)
        have gg105 := gb_drew p103.gr
        have G106 := Gr.grown G82 gg105 (fun k e => Nat.le_trans l2 (ow_lt O85 k e))
        have B107 := B83.grown_ne gg105 l34
        have z108 := Nat.le_trans z84 gg105.size
        obtain ⟨c2, ep103_2, hge2, hbk2⟩ := p103.js 2 rfl
        have ep103_2 : ap103.eval (.tmp 25) = .func (.func 106) #[] #[.pointer (some ⟨c2, 0, none⟩)] := ep103_2
        obtain ⟨da, dc, ep103_3, hob2, ho2⟩ := p103.js 3 rfl
        have ep103_3 : ap103.eval (.tmp 26) = .slice da ((K.filter fun y => !underP y xh26).length) dc := ep103_3
        obtain ⟨b101, ep103_5, geb101, bkb101⟩ := p103.js 5 rfl
        have ep103_5 : ap103.eval (.tmp 28) = .slice (some ⟨b101, 0, none⟩) 1 1 := ep103_5
        have l109 : b30 < b101 := Nat.lt_of_lt_of_le B83.lt geb101
        have l110 : w.heap.size ≤ b101 := Nat.le_trans G82.size geb101
        have l111 : ∀ k, Value.ownBlock (.slice da ((K.filter fun y => !underP y xh26).length) dc) = some k → k < b30 := fun k e => l34 k (hob2.symm.trans e)
        have l112 : ∀ k, Value.ownBlock (.slice da ((K.filter fun y => !underP y xh26).length) dc) = some k → k < b101 := fun k e => Nat.lt_of_lt_of_le (ow_in O85 k (hob2.symm.trans e)) geb101
        have hFl := List.length_filter_le (fun y => !underP y xh26) K
        obtain ⟨i113, i113a, i113b, i113c, i113d⟩ := info_of (show (Try.prog.info? 38).map (fun i => (i.zero, i.size, i.bytes)) = some (some (.agg #[.slice none 0 0, .slice none 0 0, .slice none 0 0]), 3, 72) by kernel_rfl)
        refine t_app (i := 6) (base := base) (n := (K.filter fun y => !underP y xh26).length) (xs := (flatE encP (K.filter fun y => !underP y xh26))) (m := 1) (news := encP xh26) (by kernel_rfl) rfl p103.ok (wn _ rfl) rfl Try.underlying22 i113a i113b i113c i113d rfl (by omega) ep103_3 ho2 ep103_5 rfl ((fun j u hu => by rw [add_n]; exact bk_part bkb101 (k := 0) rfl j u hu)) (encP_ok.one xh26) (by simp only [maxLen]; omega) (by omega) z108 (fun an114 w115 v116 O119 gg120 n114 => ?_)
        obtain ⟨a117, c118, rfl, c118l⟩ := ow_form O119
        have G121 := Gr.grown G106 gg120 (fun k e => Nat.le_trans l2 (ow_lt ho2 k e))
        have B122 := B107.grown_ne gg120 l111
        have B123 := bkb101.grown_ne gg120 l112
        have z124 := Nat.le_trans z108 gg120.size
        have O125 : w115.ownsRow base 38 3 (.slice a117 (((K.filter fun y => !underP y xh26).length + 1)) c118) (((K.filter fun y => !underP y xh26).length + 1)) ((flatE encP ((K.filter fun y => !underP y xh26) ++ [xh26]))) := by have h := O119; rw [← flatE_one (enc := encP) xh26, ← flatE_app] at h; exact h
        refine t_val (i := 7) (by kernel_rfl) rfl n114.ok rfl (wn _ rfl) rfl (o_as n114.at_) (fun an126 n126 => ?_)
        refine wpAny_done (by kernel_rfl) ?_ _
        refine ib_n ?_
        refine th_n (hK24 _ _ ?_)
        refine wp_region_lit ?_
        have e127 := n126.ne rfl (n114.ne rfl ((p103.old 9 rfl).trans (n88.ne rfl (n87.ne rfl (n79.ne rfl (n78.ne rfl (n76.ne rfl (n56.ne rfl (n55.ne rfl (n48.ne rfl (n47.ne rfl (n45.ne rfl (n44.ne rfl (n29.ne rfl (n28.ne rfl (n27.ne rfl (n21.ne rfl s9I14)))))))))))))))))
        refine sv n126.ok rfl (wn _ rfl) rfl (o_add (r := ((i + 1 : Nat) : Int)) e127 ev_const (by omega) (by omega)) (fun an128 n128 => ?_)
        refine sv n128.ok rfl (wn _ rfl) rfl (o_mv n128.at_) (fun an129 n129 => ?_)
        refine wpList_nil ?_
        have e130 := n129.ne rfl (n128.ne rfl (n126.ne rfl (n114.ne rfl ((p103.old 2 rfl).trans (n88.ne rfl (n87.ne rfl (n79.ne rfl (n78.ne rfl (n76.ne rfl (n56.ne rfl (n55.ne rfl (n48.ne rfl (n47.ne rfl (n45.ne rfl (n44.ne rfl (n29.ne rfl (n28.ne rfl (n27.ne rfl (n21.ne rfl s2I14)))))))))))))))))))
        have e131 := n129.ne rfl (n128.ne rfl (n126.ne rfl (n114.ne rfl ((p103.old 7 rfl).trans (n88.ne rfl (n87.ne rfl (n79.ne rfl (n78.ne rfl (n76.ne rfl (n56.ne rfl (n55.ne rfl (n48.ne rfl (n47.ne rfl (n45.ne rfl (n44.ne rfl (n29.ne rfl (n28.ne rfl (n27.ne rfl (n21.ne rfl s7I14)))))))))))))))))))
        have e132 := n129.ne rfl (n128.ne rfl (n126.ne rfl (n114.ne rfl ((p103.old 8 rfl).trans (n88.ne rfl (n87.ne rfl (n79.ne rfl (n78.ne rfl (n76.ne rfl (n56.ne rfl (n55.ne rfl (n48.ne rfl (n47.ne rfl (n45.ne rfl (n44.ne rfl (n29.ne rfl (n28.ne rfl (n27.ne rfl (n21.ne rfl s8I14)))))))))))))))))))
        exact th_n (hKI14 _ _ _ (by omega) ⟨i + 1, ((K.filter fun y => !underP y xh26) ++ [xh26]), a117, c118, rfl, n129.ok, G121, e130, (by simpa using (n129.ne rfl (n128.ne rfl n126.at_))), e131, e132, n129.at_, (by simpa using O125), z124, by omega, by rw [fewP_take h26x, ← hfkI14]; unfold stepP; rw [if_pos (by simp [c57, c89])], fun y hy => by
            rcases List.mem_append.1 hy with hy | hy
            · exact hKmI14 y (List.mem_filter.1 hy).1
            · rw [List.mem_singleton.1 hy]; exact hm _ (List.mem_of_getElem? h26x)⟩)
  · refine wp_cond_false ((n21.at_).trans (congrArg Value.bool (decide_eq_false c23))) ?_
    refine wp_exit ?_
    refine th_x ?_
    refine th_x ?_
    refine ib_x ?_
    refine th_n (hK9 _ _ ?_)
    refine wp_seq_k (fun K133 hK133 => ?_)
    refine wp_region_lit ?_
    refine sv n21.ok rfl (wn _ rfl) rfl (o_mv (n21.ne rfl s3I14)) (fun an134 n134 => ?_)
    refine sv n134.ok rfl (wn _ rfl) rfl (o_as n134.at_) (fun an135 n135 => ?_)
    refine wpList_nil ?_
    refine th_n (hK133 _ _ ?_)
    refine wp_ret ?_
    exact ret1 n135.ok rfl (n135.at_) ⟨.slice ka (fewP L).length kc, by rw [hfkI14, List.take_of_length_le (by omega)], by have h := okrI14; rw [hfkI14, List.take_of_length_le (by omega), z1] at h; exact h, GI14⟩
end Go.Proofs.Ytghjfakellaecaa

/- The contracts of slices.Grow at nil and of slices.Concat, over parts. -/
namespace Go.Proofs.Ytghjfakellaecaa
open Go.RowKit Rm
set_option linter.unusedVariables false

theorem ccp_info : (Try.prog.info? 38).map (fun i => (i.zero, i.size, i.bytes)) = some (some (.agg #[.slice none 0 0, .slice none 0 0, .slice none 0 0]), 3, 72) := by kernel_rfl
theorem own_formP {w : World} {base : Nat} {e : TypeId} {s n : Nat} {v : Value} {xs : List Value} (h : w.ownsRow base e s v n xs) : ∃ a c, v = .slice a n c ∧ n ≤ c := by
  rcases h.2 with ⟨rfl, rfl⟩ | ⟨g, cap, cur, rfl, _, _, hn, _⟩
  · exact ⟨none, 0, rfl, Nat.le_refl _⟩
  · exact ⟨_, cap, rfl, hn⟩
/-- an empty slice with room, in new memory -/
def RoomP (w w' : World) (v : Value) : Prop := Gr w w' ∧ w'.ownsRow w.heap.size 38 3 v 0 []

set_option maxHeartbeats 1000000 in
set_option maxRecDepth 100000 in
theorem growP_nil (n : Nat) (w : World) (hn : n ≤ 1000) :
    Calls Try.prog 88 #[.slice none 0 0, .int .i64 (n : Int)] w fun e w' => ∃ v, e = .returned v ∧ RoomP w w' v := by
  obtain ⟨i0, hi0, hz0, hz1, hz2⟩ := info_parts ccp_info
  by_cases h0 : n = 0
  · subst h0
    go_enter Try.func88, Try.ntmps88
    go_wp2
    go_ret
    exact ⟨_, rfl, Gr.refl _, World.ownsRow_nil _ _ _ _⟩
  · have hold : (Builtin.firstCells i0.size 0 (.slice none 0 0)).run Try.prog w.drew = .ok ([] : List Value).toArray w.drew := run_firstCells_none w.drew i0.size 0 0 0
    have hrz : ∀ ty, (Builtin.append_ #[22, 3] ty #[.slice none 0 0, .int .i64 (n : Int)]).run Try.prog w = _ := fun ty =>
      Lib.run_append_grow_zeros w 22 3 ty 38 i0 _ .i64 .i64 Try.underlying22 Try.underlying3 hi0 hz0 none 0 0 [] hold n (by omega) (by rw [hz1]; omega) (by omega) (by omega)
        (by rw [hz2]; omega) (by rw [hz2]; exact growslice_fits (by omega) (by omega))
    have HRZ := Lib.hid hrz
    have hGn : 0 + n ≤ grownCap w (0 + n) 0 38 := grownCap_ge w _ _ _
    have hGm : grownCap w (0 + n) 0 38 ≤ maxLen := grownCap_le_maxLen w (0 + n) 0 38 (by unfold maxLen; omega)
    rw [Nat.zero_add] at hGn hGm
    have h1 : (0 : Int) < (n : Int) := by omega
    have h2 : ¬ ((n : Int) < 0) := by omega
    clear hold hrz hz0 hi0
    go_enter Try.func88, Try.ntmps88
    go_wp2_with (at_builtin; refine Lib.wpList_append_run _ rfl _ _ _ _ rfl _ _ rfl rfl _ _ (HRZ.out _) ?_)
    go_ret
    refine ⟨_, rfl, ((Gr.refl w).drew).alloc _, ?_⟩
    have hb : w.heap.size ≤ w.drew.heap.size := Nat.le_refl _
    refine World.ownsRow_made (base := w.heap.size) (e := 38) (size := 3) w.drew _ _ hb hGm ?_
    simp only [Array.size_append, size_zeroCells]
    show n * 3 + (grownCap w n 0 38 - n) * 3 = grownCap w n 0 38 * 3
    omega

/-- what is handed to Concat: the lengths and the cells of each slice -/
def SrcP (w : World) (bb : Nat) (X : List (Nat × List Value)) : Prop :=
  bb < w.heap.size ∧ ∀ i p, X[i]? = some p → ∃ v, w.cell? ⟨bb, i, none⟩ = some v ∧ RdC 3 w v p.1 p.2
def sumP (X : List (Nat × List Value)) : Nat := (X.map (·.1)).sum
def catP (X : List (Nat × List Value)) : List Value := (X.map (·.2)).flatten
theorem sumP_take {X : List (Nat × List Value)} {k : Nat} {p : Nat × List Value} (h : X[k]? = some p) : sumP (X.take (k + 1)) = sumP (X.take k) + p.1 := by
  obtain ⟨hk, e⟩ := List.getElem?_eq_some_iff.1 h
  rw [List.take_succ_eq_append_getElem hk, e]
  simp [sumP]
theorem catP_take {X : List (Nat × List Value)} {k : Nat} {p : Nat × List Value} (h : X[k]? = some p) : catP (X.take (k + 1)) = catP (X.take k) ++ p.2 := by
  obtain ⟨hk, e⟩ := List.getElem?_eq_some_iff.1 h
  rw [List.take_succ_eq_append_getElem hk, e]
  simp [catP]
theorem sumP_app (a b : List (Nat × List Value)) : sumP (a ++ b) = sumP a + sumP b := by simp [sumP]
theorem sumP_le (X : List (Nat × List Value)) (k : Nat) : sumP (X.take k) ≤ sumP X := by
  have h := sumP_app (X.take k) (X.drop k)
  rw [List.take_append_drop] at h
  omega

set_option maxHeartbeats 2000000 in
set_option maxRecDepth 100000 in
theorem concatP (X : List (Nat × List Value)) (bb cap : Nat) (w : World) (hX : SrcP w bb X) (hs : sumP X ≤ 1000) (hl : X.length ≤ 10) :
    Calls Try.prog 54 #[.slice (some ⟨bb, 0, none⟩) X.length cap] w fun e w' => ∃ v, e = .returned v ∧ Gr w w' ∧ w'.ownsRow w.heap.size 38 3 v (sumP X) (catP X) := by
  obtain ⟨i0, hi0, hz0, hz1, hz2⟩ := info_parts ccp_info
  have HX := Lib.hid hX
  have HSL := Lib.hid (sumP_le X)
  have hl' : (X.length : Int) ≤ 10 := by omega
  have hbb := hX.1
  clear hX
  go_enter Try.func54, Try.ntmps54
  go_wp2
  go_loop [3, 11] (fun a i => ∃ k : Nat, k ≤ X.length ∧ i = .int .i64 k ∧ a = .int .i64 (sumP (X.take k) : Nat)) (fun _ i => X.length - (intOf i).toNat)
  case atStart => exact ⟨0, by omega, rfl, rfl⟩
  case round =>
    obtain ⟨k, hk, rfl, rfl⟩ := hrel
    by_cases hlt : k < X.length
    · obtain ⟨p, hp⟩ : ∃ p, X[k]? = some p := ⟨_, List.getElem?_eq_getElem hlt⟩
      obtain ⟨v0, c1, pl, p1, hv0⟩ := HX.out.2 k p hp
      have HS := Lib.hid (sumP_take hp)
      have hs1 := HSL.out (k + 1)
      have hs2 : sumP (X.take k) + p.1 ≤ 1000 := by rw [← sumP_take hp]; omega
      have hk10 : (k : Int) < 10 := by omega
      obtain ⟨ao, c, rfl⟩ : ∃ ao c, v0 = .slice ao p.1 c := by
        rcases hv0 with ⟨rfl, z⟩ | ⟨ad, c, rfl, _⟩
        · exact ⟨none, 0, by rw [z]⟩
        · exact ⟨some ad, c, rfl⟩
      clear hp hs1 hv0
      generalize sumP (X.take k) = sk at *
      have hs3 : (sk : Int) + (p.1 : Int) ≤ 1000 := by omega
      have hs4 : ¬ ((sk : Int) + (p.1 : Int) < 0) := by omega
      go_wp2_with fail
      go_round
      case rel => exact ⟨k + 1, by omega, by go_num, by rw [HS.out]; simp⟩
      case measure => simp [intOf]; omega
    · obtain rfl : k = X.length := by omega
      rw [List.take_length]
      go_wp2_with fail
      refine (growP_nil (sumP X) _ hs).mono ?_
      rintro e w1 ⟨v, rfl, hg1, ho1⟩
      have HO1 := Lib.hid ho1
      have HG1 := Lib.hid hg1
      clear hg1 ho1
      go_wp2_with fail
      go_loopw [6, 27] (fun v i wr => ∃ k : Nat, k ≤ X.length ∧ i = .int .i64 k ∧ Gr w wr ∧ wr.ownsRow w.heap.size 38 3 v (sumP (X.take k)) (catP (X.take k))) (fun _ i _ => X.length - (intOf i).toNat)
      case atStart => exact ⟨0, by omega, rfl, HG1.out, HO1.out⟩
      case round =>
        obtain ⟨k, hk, rfl, hg, hown⟩ := hrel
        by_cases hlt : k < X.length
        · obtain ⟨p, hp⟩ : ∃ p, X[k]? = some p := ⟨_, List.getElem?_eq_getElem hlt⟩
          obtain ⟨v0, c1, hv0⟩ := HX.out.2 k p hp
          obtain ⟨pl, p1, ⟨rfl, z1⟩ | ⟨ad, c, rfl, hnc, hb, hc⟩⟩ := hv0.gr hg
          · rw [← hg.cells.1 bb _ hbb] at c1
            have HS := Lib.hid (sumP_take hp)
            have HC := Lib.hid (catP_take hp)
            have z2 : p.2 = [] := List.eq_nil_of_length_eq_zero (by simp [pl, z1])
            rw [z1] at HS
            rw [z2] at HC
            have hk10 : (k : Int) < 10 := by omega
            have HO := Lib.hid hown
            obtain ⟨va, vc, rfl, hvc⟩ := own_formP hown
            clear hp hown z1 z2 hv0 pl p1
            go_wp2_with (at_builtin; refine wpList_append_own_none rfl (.tmp 31) (.tmp 32) 22 rfl w.heap.size 38 i0 3 Try.underlying22 hi0 _ _ _ rfl HO.out rfl ?_)
            go_roundw
            case rel => exact ⟨k + 1, by omega, by go_num, hg, by rw [HS.out, HC.out, List.append_nil]; exact HO.out⟩
            case measure => simp [intOf]; omega
          · rw [← hg.cells.1 bb _ hbb] at c1
            have HP := Lib.hid hc
            have HS := Lib.hid (sumP_take hp)
            have HC := Lib.hid (catP_take hp)
            have hs1 := HSL.out (k + 1)
            have hs2 : sumP (X.take k) + p.1 ≤ 1000 := by rw [← sumP_take hp]; omega
            have hk10 : (k : Int) < 10 := by omega
            have HPL := Lib.hid pl
            have HP1 := Lib.hid p1
            have HO := Lib.hid hown
            obtain ⟨va, vc, rfl, hvc⟩ := own_formP hown
            clear hp hs1 hc pl p1 hown hv0 hb
            generalize sumP (X.take k) = sk at *
            go_wp2_with (at_builtin; refine wpList_append_own _ rfl (.tmp 31) (.tmp 32) 22 rfl w.heap.size 38 i0 _ 3 72 Try.underlying22 hi0 hz0 hz1 hz2 rfl (by omega) _ _ _ rfl HO.out ad p.1 c p.2 rfl HPL.out HP.out HP1.out (by simp only [maxLen]; omega) (by omega) hg.le ?_; intro v1 w2 hown hg1 _)
            go_roundw
            case rel => exact ⟨k + 1, by omega, by go_num, hg.grown hg1 (fun k hk => (HO.out.lt k hk).1), by rw [HS.out, HC.out]; exact hown⟩
            case measure => simp [intOf]; omega
        · obtain rfl : k = X.length := by omega
          rw [List.take_length] at hown
          go_wp2_with fail
          go_ret
          exact ⟨_, rfl, hg, hown⟩
end Go.Proofs.Ytghjfakellaecaa

/- part.Join, Narrow. -/
set_option linter.unusedVariables false
set_option linter.unusedSimpArgs false
namespace Gx
open Go Go.RowKit Rm
theorem flatE_inv {E : Type} {enc : E → List Value} {s : Nat} (h : EncOk enc s) : ∀ (K : List E) (j : Nat) (u : Value), (flatE enc K)[j]? = some u → ∃ i x r, K[i]? = some x ∧ (enc x)[r]? = some u ∧ j = i * s + r := by
  intro K
  induction K with
  | nil => intro j u hj; simp [flatE] at hj
  | cons a K ih =>
    intro j u hj
    have e : flatE enc (a :: K) = enc a ++ flatE enc K := by simp [flatE]
    rw [e] at hj
    by_cases q : j < (enc a).length
    · rw [List.getElem?_append_left q] at hj
      exact ⟨0, a, j, by simp, hj, by omega⟩
    · rw [List.getElem?_append_right (by omega)] at hj
      obtain ⟨i, x, r, h1, h2, h3⟩ := ih _ _ hj
      rw [h.len] at q h3
      exact ⟨i + 1, x, r, by simpa using h1, h2, by rw [Nat.add_mul]; omega⟩
end Gx
namespace Go.Proofs.Ytghjfakellaecaa
open Go.RowKit Rm Gx
theorem rdc_of {E : Type} {enc : E → List Value} {s : Nat} (h : EncOk enc s) {w : World} {a : Option Addr} {K : List E} {c : Nat} (hr : RdA enc s w a K) (hc : K.length ≤ c) (hn : a = none → c = 0) : RdC s w (.slice a K.length c) K.length (flatE enc K) := by
  refine ⟨flatE_len h K, flatE_ones h K, ?_⟩
  cases a with
  | none =>
    have := hn rfl
    subst this
    have : K.length = 0 := by omega
    exact .inl ⟨by rw [this], this⟩
  | some ad =>
    refine .inr ⟨ad, c, rfl, hc, fun h0 => ?_, fun j u hj => ?_⟩
    · obtain ⟨b, off, e, hb, -⟩ := hr (by intro q; rw [q] at h0; exact h0 rfl)
      injection e with e
      subst e
      exact hb
    · obtain ⟨i, x, r, h1, h2, rfl⟩ := flatE_inv h K j u hj
      obtain ⟨b, off, e, hb, hx⟩ := hr (by intro q; rw [q] at h1; simp at h1)
      injection e with e
      subst e
      rw [add_n, show off + (i * s + r) = off + i * s + r by omega]
      exact hx i x h1 r u h2
theorem concatK (K L : List PtX) (va vb : Option Addr) (vc vd b : Nat) (t : TypeId) (w : World) (hl : K.length ≤ 30) (hl' : L.length ≤ 30) (hc : K.length ≤ vc) (hc' : L.length ≤ vd) (hn : va = none → vc = 0) (hn' : vb = none → vd = 0)
    (hv : RdA encP 3 w va K) (hv' : RdA encP 3 w vb L) (hb : Bk w b #[.slice va K.length vc, .slice vb L.length vd] t) :
    Calls Try.prog 54 #[.slice (some ⟨b, 0, none⟩) 2 2] w fun e w' => ∃ a c, e = .returned (.slice a (K ++ L).length c) ∧ w'.ownsRow w.heap.size 38 3 (.slice a (K ++ L).length c) (K ++ L).length (flatE encP (K ++ L)) ∧ Gr w w' := by
  have hS : SrcP w b [(K.length, flatE encP K), (L.length, flatE encP L)] := by
    refine ⟨hb.lt, fun i p hp => ?_⟩
    match i, hp with
    | 0, hp =>
      simp at hp; subst hp
      exact ⟨_, hb.cell 0 rfl, rdc_of encP_ok hv hc hn⟩
    | 1, hp =>
      simp at hp; subst hp
      exact ⟨_, hb.cell 1 rfl, rdc_of encP_ok hv' hc' hn'⟩
    | i + 2, hp => simp at hp
  refine (concatP _ b 2 w hS (by simp [sumP]; omega) (by simp)).mono ?_
  rintro e w' ⟨v, rfl, g, h⟩
  have e1 : sumP [(K.length, flatE encP K), (L.length, flatE encP L)] = (K ++ L).length := by simp [sumP]
  have e2 : catP [(K.length, flatE encP K), (L.length, flatE encP L)] = flatE encP (K ++ L) := by simp [catP, flatE_app]
  rw [e1, e2] at h
  obtain ⟨a, c, rfl, -⟩ := ow_form h
  exact ⟨a, c, rfl, h, g⟩
/-- what Join answers -/
def ResP (base : Nat) (w : World) (e : Ending) (F : List PtX) : Prop :=
  (F.length ≤ 30 ∧ ∃ v, e = .returned (.tuple #[v, .int .i64 0]) ∧ w.ownsRow base 38 3 v F.length (flatE encP F) ∧ OwnsP base w F) ∨ (30 < F.length ∧ e = .returned (.tuple #[.slice none 0 0, .int .i64 2]))
theorem ow_lessP {w : World} {base base' s n : Nat} {t : TypeId} {v : Value} {xs : List Value} (h : w.ownsRow base t s v n xs) (hb : base' ≤ base) : w.ownsRow base' t s v n xs := by
  obtain ⟨h1, h2 | ⟨g, cap, cur, e, h3, h4⟩⟩ := h
  · exact ⟨h1, .inl h2⟩
  · exact ⟨h1, .inr ⟨g, cap, cur, e, Nat.le_trans hb h3, h4⟩⟩
set_option maxHeartbeats 8000000 in
set_option maxRecDepth 100000 in
theorem pjoin_ok (K L : List PtX) (va vb : Option Addr) (vc vd : Nat) (hl : K.length ≤ 30) (hl2 : L.length ≤ 30) (hc : K.length ≤ vc) (hc2 : L.length ≤ vd) (hn : va = none → vc = 0) (hn2 : vb = none → vd = 0) (w : World) (hv : RdA encP 3 w va K) (hv2 : RdA encP 3 w vb L) (hm : MeansP w K) (hm2 : MeansP w L) :
    Calls Try.prog 16 #[.slice va K.length vc, .slice vb L.length vd] w fun e w' => ∃ R : List PtX, R.map PtX.m = (K ++ L).map (nar fullT) ∧ ResP w.heap.size w' e (fewP R) ∧ Gr w w' := by
  refine enter (N := 25) Try.func16 rfl rfl rfl (fun a0 ok0 h0 => ?_)
  have e0_0 : a0.eval (.tmp 0) = .slice va K.length vc := h0 0 _ rfl
  have e0_1 : a0.eval (.tmp 1) = .slice vb L.length vd := h0 1 _ rfl
  clear h0
  have G0 := Gr.refl w
  refine wp_seq_k (fun K1 hK1 => ?_)
  refine wp_region_lit ?_
  refine sv ok0 rfl (wn _ rfl) rfl (o_as ev_const) (fun an2 n2 => ?_)
  refine sv n2.ok rfl (wn _ rfl) rfl (o_as ev_const) (fun an3 n3 => ?_)
  refine wpList_nil ?_
  refine th_n (hK1 _ _ ?_)
  refine wp_seq_k (fun K4 hK4 => ?_)
  refine wp_seq_k (fun K5 hK5 => ?_)
  refine wp_region_lit ?_
  refine sv n3.ok rfl (wn _ rfl) rfl (o_mv (n3.ne rfl (n2.ne rfl e0_0))) (fun an6 n6 => ?_)
  have e7 := n6.ne rfl (n3.ne rfl (n2.ne rfl e0_1))
  refine sv n6.ok rfl (wn _ rfl) rfl (o_mv e7) (fun an8 n8 => ?_)
  refine sc n8.ok rfl (wn _ rfl) rfl (o_f2 Try.func35 rfl rfl rfl (n8.ne rfl n6.at_) n8.at_) (pcheckBoth_ok K L va vb vc vd w hl hl2 (hv.gr G0) (hv2.gr G0) (hm.gr G0) (hm2.gr G0)) ?_
  rintro _ w10 ⟨rfl, g11⟩
  refine ⟨_, rfl, fun an9 n9 => ?_⟩
  have G12 := G0.trans g11
  refine sv n9.ok rfl (wn _ rfl) rfl (o_as n9.at_) (fun an13 n13 => ?_)
  refine wpList_nil ?_
  refine th_n (hK5 _ _ ?_)
  refine wp_seq_k (fun K14 hK14 => ?_)
  refine wp_region_lit ?_
  refine sv n13.ok rfl (wn _ rfl) rfl (o_mv n13.at_) (fun an15 n15 => ?_)
  refine sv n15.ok rfl (wn _ rfl) rfl (o_neq (b := false) n15.at_ ev_const (by decide)) (fun an16 n16 => ?_)
  refine wpList_nil ?_
  refine th_n (hK14 _ _ ?_)
  refine wp_cond_false (n16.at_) ?_
  refine wp_skip ?_
  refine th_n (hK4 _ _ ?_)
  refine wp_seq_k (fun K17 hK17 => ?_)
  refine wp_region_lit ?_
  have e18 := n16.ne rfl (n15.ne rfl (n13.ne rfl (n9.ne rfl (n8.ne rfl (n6.ne rfl (n3.ne rfl (n2.ne rfl e0_0)))))))
  refine sv n16.ok rfl (wn _ rfl) rfl (o_mv e18) (fun an19 n19 => ?_)
  have e20 := n19.ne rfl (n16.ne rfl (n15.ne rfl (n13.ne rfl (n9.ne rfl (n8.ne rfl e7)))))
  refine sv n19.ok rfl (wn _ rfl) rfl (o_mv e20) (fun an21 n21 => ?_)
  obtain ⟨i22, i22a, i22b, i22c⟩ := info3_of (show (Try.prog.info? 22).map (fun i => (i.zero, i.size)) = some (some (.slice none 0 0), 1) by kernel_rfl)
  refine sals (cs := #[.slice va K.length vc, .slice vb L.length vd]) n21.ok rfl (wn _ rfl) rfl (o_bs (vs := [(0, .slice va K.length vc), (1, .slice vb L.length vd)]) (by simp [(n21.ne rfl n19.at_), n21.at_, ev_const]) Try.underlying140 i22a i22b (by rw [i22c]; rfl) (by rw [i22c]; rfl) (by rw [i22c]; kernel_rfl)) (fun an23 w25 b24 W26 n23 => ?_)
  have l27 : w.heap.size ≤ b24 := by rw [W26.eq]; exact G12.size
  have G28 := G12.trans W26.gr
  refine sc n23.ok rfl (wn _ rfl) rfl (o_f1 Try.func54 rfl rfl rfl n23.at_) (concatK K L va vb vc vd b24 _ w25 hl hl2 hc hc2 hn hn2 (hv.gr G28) (hv2.gr G28) W26.bk) ?_
  rintro _ w30 ⟨ca, cc, rfl, hO0, g31⟩
  refine ⟨_, rfl, fun an29 n29 => ?_⟩
  have G32 := G28.trans g31
  have B33 := W26.bk.gr g31
  refine sc n29.ok rfl (wn _ rfl) rfl (o_f0 Try.func51 rfl rfl rfl ) (fevery w30) ?_
  rintro _ w35 ⟨ev, rfl, hev, g36⟩
  refine ⟨_, rfl, fun an34 n34 => ?_⟩
  have G37 := G32.trans g36
  have B38 := B33.gr g36
  have F39 := ow_gr hO0 g36
  have hGn := G37.size
  refine sc n34.ok rfl (wn _ rfl) rfl (o_f2 Try.func53 rfl rfl rfl (n34.ne rfl n29.at_) n34.at_) (narrow_any (K ++ L) ca cc _ fullT (by rw [List.length_append]; omega) w35 (RdA.own encP_ok F39 rfl) (fun x hx => (List.mem_append.1 hx).elim (fun h => (hm x h).gr G37) (fun h => (hm2 x h).gr G37)) (hev.le (by decide))) ?_
  rintro _ w41 ⟨R, v1, rfl, hR, hO1, hP1, g42⟩
  obtain ⟨ra, rc, rfl, hrc⟩ := ow_form hO1
  have hRl : R.length = ((K ++ L)).length := by have := congrArg List.length hR; simpa using this
  refine ⟨_, rfl, fun an40 n40 => ?_⟩
  have G43 := G37.trans g42
  have B44 := B38.gr g42
  have F45 := ow_gr F39 g42
  have F46 := hev.gr g42
  refine sc n40.ok rfl (wn _ rfl) rfl (o_f1 Try.func52 rfl rfl rfl n40.at_) (reduce_any R ra rc (by rw [hRl, List.length_append]; omega) w41 (RdA.own encP_ok hO1 rfl) (OwnsP.mean hP1)) ?_
  rintro _ w48 ⟨v2, rfl, hO2, g49⟩
  obtain ⟨qa, qc, rfl, hqc⟩ := ow_form hO2
  refine ⟨_, rfl, fun an47 n47 => ?_⟩
  have G50 := G43.trans g49
  have B51 := B44.gr g49
  have F52 := ow_gr F45 g49
  have F53 := F46.gr g49
  have F54 := ow_gr hO1 g49
  have F55 := hP1.tk (tk_gr g49)
  refine sv n47.ok rfl (wn _ rfl) rfl (o_as n47.at_) (fun an56 n56 => ?_)
  refine wpList_nil ?_
  refine th_n (hK17 _ _ ?_)
  refine wp_seq_k (fun K57 hK57 => ?_)
  refine wp_seq_k (fun K58 hK58 => ?_)
  refine wp_region_lit ?_
  refine sv n56.ok rfl (wn _ rfl) rfl (o_mv n56.at_) (fun an59 n59 => ?_)
  refine sv n59.ok rfl (wn _ rfl) rfl (o_len n59.at_ Try.underlying22) (fun an60 n60 => ?_)
  refine sv n60.ok rfl (wn _ rfl) rfl (o_gtI n60.at_ ev_const) (fun an61 n61 => ?_)
  refine wpList_nil ?_
  refine th_n (hK58 _ _ ?_)
  by_cases c62 : (30 : Int) < (((fewP R).length : Nat) : Int)
  · refine wp_cond_true ((n61.at_).trans (congrArg Value.bool (decide_eq_true c62))) ?_
    refine wp_seq_k (fun K63 hK63 => ?_)
    refine wp_region_lit ?_
    refine sv n61.ok rfl (wn _ rfl) rfl (o_as ev_const) (fun an64 n64 => ?_)
    refine sv n64.ok rfl (wn _ rfl) rfl (o_as ev_const) (fun an65 n65 => ?_)
    refine wpList_nil ?_
    refine th_n (hK63 _ _ ?_)
    refine wp_ret ?_
    refine th_r ?_
    exact ret2 n65.ok rfl ((n65.ne rfl n64.at_)) (n65.at_) ⟨R, hR, .inr ⟨by have := c62; omega, rfl⟩, G50⟩
  · refine wp_cond_false ((n61.at_).trans (congrArg Value.bool (decide_eq_false c62))) ?_
    refine wp_skip ?_
    refine th_n (hK57 _ _ ?_)
    refine wp_seq_k (fun K66 hK66 => ?_)
    refine wp_region_lit ?_
    have e67 := n61.ne rfl (n60.ne rfl (n59.ne rfl n56.at_))
    refine sv n61.ok rfl (wn _ rfl) rfl (o_mv e67) (fun an68 n68 => ?_)
    refine sv n68.ok rfl (wn _ rfl) rfl (o_as n68.at_) (fun an69 n69 => ?_)
    refine sv n69.ok rfl (wn _ rfl) rfl (o_as ev_const) (fun an70 n70 => ?_)
    refine wpList_nil ?_
    refine th_n (hK66 _ _ ?_)
    refine wp_ret ?_
    exact ret2 n70.ok rfl ((n70.ne rfl n69.at_)) (n70.at_) ⟨R, hR, .inl ⟨by have := c62; omega, _, rfl, (ow_lessP hO2 G43.size), fun x hx => (F55 x (fewP_mem hx)).base hGn⟩, G50⟩
end Go.Proofs.Ytghjfakellaecaa

/- reedkeep.parts, partBegun, both; small lists of parts. -/
set_option linter.unusedVariables false
set_option linter.unusedSimpArgs false
namespace Gx
open Go Go.RowKit Rm
/-- a slice of values, each read in its way -/
def RdV {α : Type} (R : World → Value → α → Prop) (w : World) (a : Option Addr) (L : List α) : Prop :=
  L ≠ [] → ∃ b off, a = some ⟨b, off, none⟩ ∧ b < w.heap.size ∧ ∀ i x, L[i]? = some x → ∃ u, w.cell? ⟨b, off + i * 1, none⟩ = some u ∧ R w u x
theorem RdV.gr {α : Type} {R : World → Value → α → Prop} (hR : ∀ w w' u x, Gr w w' → R w u x → R w' u x) {w w' : World} {a : Option Addr} {L : List α} (h : RdV R w a L) (g : Gr w w') : RdV R w' a L := fun hn => by
  obtain ⟨b, off, e, hb, hx⟩ := h hn
  refine ⟨b, off, e, Nat.lt_of_lt_of_le hb g.le, fun i x hi => ?_⟩
  obtain ⟨u, h1, h2⟩ := hx i x hi
  exact ⟨u, (g.cells.1 b _ hb).trans h1, hR _ _ _ _ g h2⟩
end Gx
namespace Rm
open Go Go.RowKit Gx
/-- two lists say the same -/
def EqP (K L : List PtX) : Prop := ∀ t n a c, t < 16 → n < 32 → inR a c → hasP K t n a c = hasP L t n a c
theorem EqP.sub {K L : List PtX} (h : EqP K L) : subP K L := fun t n a c h1 h2 h3 hk => by rw [← h t n a c h1 h2 h3]; exact hk
theorem EqP.symm {K L : List PtX} (h : EqP K L) : EqP L K := fun t n a c h1 h2 h3 => (h t n a c h1 h2 h3).symm
theorem EqP.trans {K L M : List PtX} (h : EqP K L) (k : EqP L M) : EqP K M := fun t n a c h1 h2 h3 => (h t n a c h1 h2 h3).trans (k t n a c h1 h2 h3)
theorem EqP.refl (K : List PtX) : EqP K K := fun _ _ _ _ _ _ _ => rfl
theorem hasP_app (K L : List PtX) (t n a c : Nat) : hasP (K ++ L) t n a c = (hasP K t n a c || hasP L t n a c) := by simp [hasP]
theorem empty_no {x : PtX} (hT : OkT x.T) (h : emptyP x = true) {t n a c : Nat} (ht : t < 16) (hn : n < 32) (hi : inR a c) : ((x.T t).testBit n && x.D a c) = false := by
  unfold emptyP at h
  rw [Bool.or_eq_true] at h
  rcases h with h | h
  · have h0 := cntTo_none hT 16 (Nat.le_refl _) (show cntT x.T = 0 by simpa using h) t ht
    rw [h0]; simp
  · have hd : x.D a c = false := by
      cases q : x.D a c
      · rfl
      · exfalso
        rw [← form_mem x.D a c hi] at q
        have h1 : cntD (memB (formV x.D) (formM x.D)) = 0 := by simpa using h
        have h2 : kcntTo (memB (formV x.D) (formM x.D) a) 1024 = 0 := by
          have h5 := hi.1
          generalize memB (formV x.D) (formM x.D) = E at h1 ⊢
          have : cntS E a = 0 := by
            unfold cntD at h1
            have ha : a = 0 ∨ a = 1 ∨ a = 2 ∨ a = 3 ∨ a = 4 := by omega
            rcases ha with rfl | rfl | rfl | rfl | rfl <;> omega
          exact this
        have key : ∀ n, kcntTo (memB (formV x.D) (formM x.D) a) n = 0 → ∀ i, i < n → memB (formV x.D) (formM x.D) a i = false := by
          intro n
          induction n with
          | zero => intro _ i hi; omega
          | succ n ih =>
            intro h i hi
            unfold kcntTo at h
            rcases Nat.lt_or_ge i n with q | q
            · exact ih (by split at h <;> omega) i q
            · obtain rfl : i = n := by omega
              cases q3 : memB (formV x.D) (formM x.D) a i
              · rfl
              · rw [q3] at h; simp at h
        rw [key 1024 h2 c (by have := hi.2.2; omega)] at q
        cases q
    rw [hd]; simp
theorem under_has {x y : PtX} (hx : OkT x.T) (hy : OkT y.T) (h : underP x y = true) {t n a c : Nat} (ht : t < 16) (hn : n < 32) (hi : inR a c) (hk : ((x.T t).testBit n && x.D a c) = true) : ((y.T t).testBit n && y.D a c) = true := by
  unfold underP at h
  rw [Bool.and_eq_true] at h hk ⊢
  exact ⟨within_bit hx hy h.2 ht hn hk.1, (wS_iff _ _).1 h.1 a c hi hk.2⟩
theorem stepP_has {K : List PtX} {x : PtX} (hK : ∀ y ∈ K, OkT y.T) (hx : OkT x.T) {t n a c : Nat} (ht : t < 16) (hn : n < 32) (hi : inR a c) : hasP (stepP K x) t n a c = hasP (K ++ [x]) t n a c := by
  unfold stepP
  split
  · rename_i h
    rw [hasP_app, hasP_app, Bool.eq_iff_iff]
    simp only [Bool.or_eq_true]
    constructor
    · rintro (q | q)
      · obtain ⟨y, hy, hq⟩ := List.any_eq_true.1 q
        exact .inl (List.any_eq_true.2 ⟨y, (List.mem_filter.1 hy).1, hq⟩)
      · exact .inr q
    · rintro (q | q)
      · obtain ⟨y, hy, hq⟩ := List.any_eq_true.1 q
        cases hu : underP y x
        · exact .inl (List.any_eq_true.2 ⟨y, List.mem_filter.2 ⟨hy, by simp [hu]⟩, hq⟩)
        · exact .inr (List.any_eq_true.2 ⟨x, List.mem_singleton.2 rfl, under_has (hK y hy) hx hu ht hn hi hq⟩)
      · exact .inr q
  · rename_i h
    rw [hasP_app, Bool.eq_iff_iff, Bool.or_eq_true]
    constructor
    · exact .inl
    · rintro (q | q)
      · exact q
      · obtain ⟨y, hy, hq⟩ := List.any_eq_true.1 q
        rw [List.mem_singleton.1 hy] at hq
        cases he : emptyP x
        · rw [he] at h
          simp only [Bool.not_false, Bool.true_and, Bool.not_eq_true', Bool.not_eq_false] at h
          obtain ⟨z, hz, hu⟩ := List.any_eq_true.1 h
          exact List.any_eq_true.2 ⟨z, hz, under_has hx (hK z hz) hu ht hn hi hq⟩
        · rw [empty_no hx he ht hn hi] at hq; cases hq
theorem fewP_has {L : List PtX} (hL : ∀ y ∈ L, OkT y.T) : EqP (fewP L) L := fun t n a c ht hn hi => by
  have key : ∀ (L K : List PtX), (∀ y ∈ L, OkT y.T) → (∀ y ∈ K, OkT y.T) → hasP (L.foldl stepP K) t n a c = hasP (K ++ L) t n a c := by
    intro L
    induction L with
    | nil => intro K _ _; simp
    | cons x L ih =>
      intro K hL hK
      have hx := hL x (List.mem_cons_self ..)
      rw [List.foldl_cons, ih _ (fun y hy => hL y (List.mem_cons_of_mem _ hy)) (fun y hy => by
        rcases stepP_mem hy with h | rfl
        · exact hK y h
        · exact hx), hasP_app, stepP_has hK hx ht hn hi, hasP_app, Bool.or_assoc, ← hasP_app, ← hasP_app]
      rfl
  exact key L [] hL (fun y hy => by cases hy)
/-- what a reduced list is -/
structure FewP (K : List PtX) : Prop where
  ne : ∀ x ∈ K, emptyP x = false
  no : ∀ (i j : Nat) (x y : PtX), K[i]? = some x → K[j]? = some y → i ≠ j → underP x y = false
theorem stepP_few {K : List PtX} {x : PtX} (h : FewP K) : FewP (stepP K x) := by
  unfold stepP
  split
  · rename_i hc
    rw [Bool.and_eq_true, Bool.not_eq_true', Bool.not_eq_true'] at hc
    have hany := List.any_eq_false.1 hc.2
    have hsub : ∀ i y, (K.filter (fun y => !underP y x))[i]? = some y → ∃ i', K[i']? = some y ∧ underP y x = false := fun i y hy => by
      have hm := List.mem_of_getElem? hy
      obtain ⟨h1, h2⟩ := List.mem_filter.1 hm
      obtain ⟨i', hi'⟩ := List.getElem?_of_mem h1
      exact ⟨i', hi', by simpa using h2⟩
    refine ⟨fun y hy => ?_, fun i j y z hi hj hij => ?_⟩
    · rcases List.mem_append.1 hy with hy | hy
      · exact h.ne y (List.mem_filter.1 hy).1
      · rw [List.mem_singleton.1 hy]; exact hc.1
    · by_cases q1 : i < (K.filter (fun y => !underP y x)).length
      · rw [List.getElem?_append_left q1] at hi
        by_cases q2 : j < (K.filter (fun y => !underP y x)).length
        · rw [List.getElem?_append_left q2] at hj
          -- both are kept: their places in the list differ
          have hp : (K.filter (fun y => !underP y x)).Pairwise (fun a b => underP a b = false ∧ underP b a = false) := by
            refine List.Pairwise.filter _ ?_
            rw [List.pairwise_iff_getElem]
            intro a b ha hb hab
            exact ⟨h.no a b _ _ (List.getElem?_eq_getElem ha) (List.getElem?_eq_getElem hb) (by omega), h.no b a _ _ (List.getElem?_eq_getElem hb) (List.getElem?_eq_getElem ha) (by omega)⟩
          rw [List.pairwise_iff_getElem] at hp
          obtain ⟨_, e1⟩ := List.getElem?_eq_some_iff.1 hi
          obtain ⟨_, e2⟩ := List.getElem?_eq_some_iff.1 hj
          rcases Nat.lt_or_ge i j with q | q
          · have := (hp i j q1 q2 q).1; rwa [e1, e2] at this
          · have := (hp j i q2 q1 (by omega)).2; rwa [e1, e2] at this
        · rw [List.getElem?_append_right (by omega)] at hj
          have : z = x := by
            have := List.mem_of_getElem? hj
            simpa using this
          subst this
          obtain ⟨_, _, hu⟩ := hsub i y hi
          exact hu
      · rw [List.getElem?_append_right (by omega)] at hi
        have hyx : y = x := by
          have := List.mem_of_getElem? hi
          simpa using this
        subst hyx
        have hi0 : i = (K.filter (fun z => !underP z y)).length := by
          have := (List.getElem?_eq_some_iff.1 hi).1
          simp only [List.length_singleton] at this
          omega
        by_cases q2 : j < (K.filter (fun z => !underP z y)).length
        · rw [List.getElem?_append_left q2] at hj
          have := hany z (List.mem_filter.1 (List.mem_of_getElem? hj)).1
          simpa using this
        · rw [List.getElem?_append_right (by omega)] at hj
          have := (List.getElem?_eq_some_iff.1 hj).1
          simp only [List.length_singleton] at this
          omega
  · exact h
theorem fewP_few (L : List PtX) : FewP (fewP L) := by
  have key : ∀ (L K : List PtX), FewP K → FewP (L.foldl stepP K) := by
    intro L
    induction L with
    | nil => intro K h; exact h
    | cons x L ih => intro K h; exact ih _ (stepP_few h)
  exact key L [] ⟨(fun x hx => by cases hx), fun i j x y hi => by simp at hi⟩
end Rm
namespace Go.Proofs.Ytghjfakellaecaa
open Go.RowKit Rm Gx
theorem FSn.okT {n : Nat} {w : World} {v : Value} {T : Nat → Nat} (h : FSn n w v T) : OkT T := fun t ht => h.lt t ht
/-- lists whose meanings go with one another say the same, where the numbers are left or cut -/
theorem nar_has {U : Nat → Nat} {R L : List PtX} (h : R.map PtX.m = L.map (nar U)) (t n a c : Nat) : hasP R t n a c = ((U t).testBit n && hasP L t n a c) := by
  induction R generalizing L with
  | nil =>
    have : L = [] := by simpa using h.symm
    subst this; simp [hasP]
  | cons x R ih =>
    cases L with
    | nil => simp at h
    | cons y L =>
      simp only [List.map_cons, List.cons.injEq] at h
      have h1 := ih h.2
      have hx : x.T t = y.T t &&& U t ∧ x.D = y.D := by
        have := h.1
        unfold PtX.m nar at this
        simp only [Prod.mk.injEq] at this
        exact ⟨congrFun this.1 t, this.2⟩
      unfold hasP at h1 ⊢
      simp only [List.any_cons, h1, hx.1, hx.2, Nat.testBit_and]
      cases (y.T t).testBit n <;> cases (U t).testBit n <;> cases y.D a c <;> simp
theorem full_has {R L : List PtX} (h : R.map PtX.m = L.map (nar fullT)) : EqP R L := fun t n a c ht hn hi => by
  rw [nar_has h]
  have : (fullT t).testBit n = true := by
    unfold fullT
    rw [show (4294967295 : Nat) = 2 ^ 32 - 1 from rfl, Nat.testBit_two_pow_sub_one]
    simpa using hn
  rw [this, Bool.true_and]
theorem KnO.form3 {base : Nat} {w : World} {k : Value} {v : List Nat} {m : List (Nat × Nat)} (h : KnO base w k v m) : ∃ va vn vc ma mn mc, k = .agg #[.slice va vn vc, .slice ma mn mc] := by
  obtain ⟨va, vc, ma, mc, h⟩ := h.form
  exact ⟨va, _, vc, ma, _, mc, h⟩
/-- a part whose filter was there at first and whose dots are owned -/
structure PartAt (w0 w : World) (x : PtX) : Prop where
  fs : FS w0 x.f x.T
  kn : KnO w0.heap.size w x.k (formV x.D) (formM x.D)
  few : (formM x.D).length ≤ 60
def PartsAt (w0 w : World) (K : List PtX) : Prop := ∀ x ∈ K, PartAt w0 w x
theorem PartAt.tk {w0 w w' : World} {x : PtX} (h : PartAt w0 w x) (k : Tk w w') : PartAt w0 w' x := ⟨h.fs, h.kn.tk k, h.few⟩
theorem PartsAt.tk {w0 w w' : World} {K : List PtX} (h : PartsAt w0 w K) (k : Tk w w') : PartsAt w0 w' K := fun x hx => (h x hx).tk k
theorem PartsAt.snoc {w0 w : World} {K : List PtX} {x : PtX} (h : PartsAt w0 w K) (hx : PartAt w0 w x) : PartsAt w0 w (K ++ [x]) := fun y hy => by
  rcases List.mem_append.1 hy with hy | hy
  · exact h y hy
  · rw [List.mem_singleton.1 hy]; exact hx
theorem PartsAt.mean {w0 w : World} {K : List PtX} (h : PartsAt w0 w K) (g : Gr w0 w) : MeansP w K := fun x hx => ⟨(h x hx).fs.gr g, (h x hx).kn.rd, (h x hx).few⟩
theorem ok0 : OkV [] [] := ⟨by simp, by simp, by simp, by simp, by simp⟩
theorem knO_nil {base : Nat} {w : World} : KnO base w (.agg #[.slice none 0 0, .slice none 0 0]) (formV (memB [] [])) (formM (memB [] [])) := by
  rw [(form_self ok0).1, (form_self ok0).2]
  exact ⟨_, _, rfl, World.ownsRow_nil _ _ _ _, World.ownsRow_nil _ _ _ _⟩
theorem few_nil : (formM (memB [] [])).length ≤ 60 := by rw [(form_self ok0).2]; simp
set_option maxHeartbeats 8000000 in
set_option maxRecDepth 100000 in
theorem parts_any (Fs : List (List BoxI)) (Ls : List (List (List Int))) (va vb : Option Addr) (vc vd : Nat) (hc : Fs.length ≤ vc) (w : World) (hF : RdV (fun w u x => RdF w u x) w va Fs) (hLs : RdV (fun w u x => RdLL w u x) w vb Ls) :
    Calls Try.prog 17 #[.slice va Fs.length vc, .slice vb Ls.length vd] w fun e w' => ∃ (K : List PtX) (v : Value), e = .returned v ∧ K.length ≤ 10 ∧ w'.ownsRow w.heap.size 38 3 v K.length (flatE encP K) ∧ MeansP w' K ∧ Gr w w' := by
  refine enter (N := 41) Try.func17 rfl rfl rfl (fun a0 ok0 h0 => ?_)
  have e0_0 : a0.eval (.tmp 0) = .slice va Fs.length vc := h0 0 _ rfl
  have e0_1 : a0.eval (.tmp 1) = .slice vb Ls.length vd := h0 1 _ rfl
  clear h0
  have G0 := Gr.refl w
  obtain ⟨base, z1⟩ : ∃ n, n = w.heap.size := ⟨_, rfl⟩
  have l2 : w.heap.size ≤ base := by rw [z1]; exact G0.size
  have z3 : base ≤ w.heap.size := Nat.le_of_eq z1
  have O4 := World.ownsRow_nil w base 38 3
  have hps : PartsAt w w ([] : List PtX) := fun x hx => by cases hx
  refine wp_seq_k (fun K5 hK5 => ?_)
  refine wp_region_lit ?_
  refine sv ok0 rfl (wn _ rfl) rfl (o_as ev_const) (fun an6 n6 => ?_)
  refine wpList_nil ?_
  refine th_n (hK5 _ _ ?_)
  refine wp_seq_k (fun K7 hK7 => ?_)
  refine wp_region_lit ?_
  refine sv n6.ok rfl (wn _ rfl) rfl (o_as ev_const) (fun an8 n8 => ?_)
  refine wpList_nil ?_
  refine th_n (hK7 _ _ ?_)
  refine wp_seq_k (fun K9 hK9 => ?_)
  refine wp_seq_k (fun K10 hK10 => ?_)
  refine wp_region_lit ?_
  refine sv n8.ok rfl (wn _ rfl) rfl (o_mv (n8.ne rfl (n6.ne rfl e0_0))) (fun an11 n11 => ?_)
  have e12 := n11.ne rfl (n8.ne rfl (n6.ne rfl e0_0))
  refine sv n11.ok rfl (wn _ rfl) rfl (o_mv e12) (fun an13 n13 => ?_)
  refine sv n13.ok rfl (wn _ rfl) rfl (o_len n13.at_ Try.underlying46) (fun an14 n14 => ?_)
  refine sv n14.ok rfl (wn _ rfl) rfl (o_min n14.at_ ev_const (nmin_int _ _)) (fun an15 n15 => ?_)
  have e16 := n15.ne rfl (n14.ne rfl (n13.ne rfl n11.at_))
  refine sv n15.ok rfl (wn _ rfl) rfl (o_cut (k := min (Fs.length) (10)) (s := 1) e16 n15.at_ Try.underlying46 (by kernel_rfl) (by omega)) (fun an17 n17 => ?_)
  refine sv n17.ok rfl (wn _ rfl) rfl (o_len n17.at_ Try.underlying46) (fun an18 n18 => ?_)
  refine sv n18.ok rfl (wn _ rfl) rfl (o_mv ev_const) (fun an19 n19 => ?_)
  refine wpList_nil ?_
  refine th_n (hK10 _ _ ?_)
  refine wp_block ?_
  have e21 := n19.ne rfl (n18.ne rfl (n17.ne rfl (n15.ne rfl (n14.ne rfl (n13.ne rfl (n11.ne rfl (n8.ne rfl (n6.ne rfl e0_1))))))))
  have e22 := n19.ne rfl (n18.ne rfl (n17.ne rfl (n15.ne rfl (n14.ne rfl (n13.ne rfl (n11.ne rfl (n8.ne rfl n6.at_)))))))
  have e23 := n19.ne rfl (n18.ne rfl (n17.ne rfl (n15.ne rfl (n14.ne rfl (n13.ne rfl (n11.ne rfl n8.at_))))))
  refine lp (fun (nL : Nat) (aL : Act) (wL : World) => ∃ i : Nat, ∃ K : List PtX, ∃ ra : Option Addr, ∃ rc : Nat, nL = min (Fs.length) 10 - i ∧ Ok 41 aL ∧ Gr w wL ∧ (aL.eval (.tmp 1) = .slice vb Ls.length vd) ∧ (aL.eval (.tmp 4) = .slice none 0 0) ∧ (aL.eval (.tmp 5) = .slice ra K.length rc) ∧ (aL.eval (.tmp 13) = .slice va (min (Fs.length) (10)) vc) ∧ (aL.eval (.tmp 14) = .int .i64 ((min (Fs.length) (10) : Nat) : Int)) ∧ (aL.eval (.tmp 15) = .int .i64 (i : Int)) ∧ (PartsAt w wL K) ∧ (World.ownsRow wL base 38 3 (.slice ra K.length rc) (K.length) ((flatE encP K))) ∧ (base ≤ wL.heap.size) ∧ (i ≤ min (Fs.length) 10) ∧ (K.length ≤ i)) _ ⟨0, [], none, 0, rfl, n19.ok, G0, e21, e22, e23, (n19.ne rfl (n18.ne rfl n17.at_)), (n19.ne rfl n18.at_), n19.at_, hps, O4, z3, by omega, by simp⟩ ?_
  rintro m24 aI20 w26 ⟨i, K, ra, rc, hmI20, okI20, GI20, s1I20, s4I20, s5I20, s13I20, s14I20, s15I20, fpsI20, orI20, zbaseI20, hiI20, hKlI20⟩ KI20 hKI20
  refine wp_seq_k (fun K27 hK27 => ?_)
  refine wp_region_lit ?_
  refine sv okI20 rfl (wn _ rfl) rfl (o_ltI s15I20 s14I20) (fun an28 n28 => ?_)
  refine wpList_nil ?_
  refine th_n (hK27 _ _ ?_)
  refine wp_seq_k (fun K29 hK29 => ?_)
  by_cases c30 : (i : Int) < ((min (Fs.length) (10) : Nat) : Int)
  · refine wp_cond_true ((n28.at_).trans (congrArg Value.bool (decide_eq_true c30))) ?_
    refine wp_skip ?_
    refine th_n (hK29 _ _ ?_)
    refine wp_seq_k (fun K31 hK31 => ?_)
    refine wp_block ?_
    refine wp_seq_k (fun K32 hK32 => ?_)
    refine wp_region_lit ?_
    refine sv n28.ok rfl (wn _ rfl) rfl (o_mv (n28.ne rfl s15I20)) (fun an33 n33 => ?_)
    have h34l : i < List.length Fs := by omega
    obtain ⟨bh34, fh34, h34a, h34b, h34c⟩ := hF (ne_nil_of_lt h34l)
    obtain ⟨xh34, h34x⟩ : ∃ x, (Fs)[i]? = some x := ⟨_, List.getElem?_eq_getElem h34l⟩
    obtain ⟨uh34, h34d, h34e⟩ := h34c _ _ h34x
    obtain ⟨fah34, fch34, rfl, -, -⟩ := id h34e
    refine sv n33.ok rfl (wn _ rfl) rfl (o_iaV (i := i) (s := 1) h34a (n33.ne rfl (n28.ne rfl s13I20)) (n33.ne rfl (n28.ne rfl s15I20)) Try.underlying46 (by kernel_rfl) (by omega)) (fun an35 n35 => ?_)
    refine sv n35.ok rfl (wn _ rfl) rfl (o_ld n35.at_ (Try.isAgg36 _) ((Below.cell GI20 h34b).trans h34d)) (fun an36 n36 => ?_)
    refine sv n36.ok rfl (wn _ rfl) rfl (o_as (n36.ne rfl (n35.ne rfl n33.at_))) (fun an37 n37 => ?_)
    refine sv n37.ok rfl (wn _ rfl) rfl (o_as (n37.ne rfl n36.at_)) (fun an38 n38 => ?_)
    refine wpList_nil ?_
    refine th_n (hK32 _ _ ?_)
    refine wp_seq_k (fun K39 hK39 => ?_)
    refine wp_seq_k (fun K40 hK40 => ?_)
    refine wp_region_lit ?_
    refine sv n38.ok rfl (wn _ rfl) rfl (o_mv n38.at_) (fun an41 n41 => ?_)
    refine sc n41.ok rfl (wn _ rfl) rfl (o_f1 Try.func42 rfl rfl rfl n41.at_) (fcheck_any _ _ w26 (h34e.gr GI20)) ?_
    rintro _ w43 ⟨rfl, g44⟩
    refine ⟨_, rfl, fun an42 n42 => ?_⟩
    have G45 := GI20.trans g44
    have z46 := Nat.le_trans zbaseI20 g44.size
    have O47 := ow_gr orI20 g44
    have F48 := fpsI20.tk (tk_gr g44)
    refine sv n42.ok rfl (wn _ rfl) rfl (o_neI n42.at_ ev_const) (fun an49 n49 => ?_)
    refine wpList_nil ?_
    refine th_n (hK40 _ _ ?_)
    by_cases c50 : ¬ (chkF xh34) = 0
    · refine wp_cond_true ((n49.at_).trans (congrArg Value.bool (decide_eq_true c50))) ?_
      refine wp_exit ?_
      refine th_x ?_
      refine ib_x ?_
      refine th_n (hK31 _ _ ?_)
      refine wp_region_lit ?_
      have e51 := n49.ne rfl (n42.ne rfl (n41.ne rfl (n38.ne rfl (n37.ne rfl (n36.ne rfl (n35.ne rfl (n33.ne rfl (n28.ne rfl s15I20))))))))
      refine sv n49.ok rfl (wn _ rfl) rfl (o_add (r := ((i + 1 : Nat) : Int)) e51 ev_const (by omega) (by omega)) (fun an52 n52 => ?_)
      refine sv n52.ok rfl (wn _ rfl) rfl (o_mv n52.at_) (fun an53 n53 => ?_)
      refine wpList_nil ?_
      have e54 := n53.ne rfl (n52.ne rfl (n49.ne rfl (n42.ne rfl (n41.ne rfl (n38.ne rfl (n37.ne rfl (n36.ne rfl (n35.ne rfl (n33.ne rfl (n28.ne rfl s1I20))))))))))
      have e55 := n53.ne rfl (n52.ne rfl (n49.ne rfl (n42.ne rfl (n41.ne rfl (n38.ne rfl (n37.ne rfl (n36.ne rfl (n35.ne rfl (n33.ne rfl (n28.ne rfl s4I20))))))))))
      have e56 := n53.ne rfl (n52.ne rfl (n49.ne rfl (n42.ne rfl (n41.ne rfl (n38.ne rfl (n37.ne rfl (n36.ne rfl (n35.ne rfl (n33.ne rfl (n28.ne rfl s5I20))))))))))
      have e57 := n53.ne rfl (n52.ne rfl (n49.ne rfl (n42.ne rfl (n41.ne rfl (n38.ne rfl (n37.ne rfl (n36.ne rfl (n35.ne rfl (n33.ne rfl (n28.ne rfl s13I20))))))))))
      have e58 := n53.ne rfl (n52.ne rfl (n49.ne rfl (n42.ne rfl (n41.ne rfl (n38.ne rfl (n37.ne rfl (n36.ne rfl (n35.ne rfl (n33.ne rfl (n28.ne rfl s14I20))))))))))
      exact th_n (hKI20 _ _ _ (by omega) ⟨i + 1, K, ra, rc, rfl, n53.ok, G45, e54, e55, e56, e57, e58, n53.at_, F48, O47, z46, by omega, by omega⟩)
    · refine wp_cond_false ((n49.at_).trans (congrArg Value.bool (decide_eq_false c50))) ?_
      obtain ⟨Fh34, hFh341, hFh342, hFh343⟩ := okF_of (Decidable.of_not_not c50)
      refine wp_skip ?_
      refine th_n (hK39 _ _ ?_)
      refine wp_seq_k (fun K59 hK59 => ?_)
      refine wp_region_lit ?_
      have e60 := n49.ne rfl (n42.ne rfl (n41.ne rfl n38.at_))
      refine sv n49.ok rfl (wn _ rfl) rfl (o_mv e60) (fun an61 n61 => ?_)
      refine sv n61.ok rfl (wn _ rfl) rfl (o_bd (cells := #[.slice fah34 (xh34.length) fch34, .slice none 0 0, .slice none 0 0]) (vs := [(0, .slice fah34 (xh34.length) fch34)]) (by simp [n61.at_, ev_const]) (by kernel_rfl)) (fun an62 n62 => ?_)
      refine sal (cs := #[.slice none 0 0, .slice none 0 0, .slice none 0 0]) n62.ok rfl (wn _ rfl) rfl (o_al (z := .agg #[.slice none 0 0, .slice none 0 0, .slice none 0 0]) (by kernel_rfl)) (fun an63 w65 b64 W66 n63 => ?_)
      have l67 : w.heap.size ≤ b64 := by rw [W66.eq]; exact G45.size
      have l68 : ∀ k, Value.ownBlock (.slice ra K.length rc) = some k → k < b64 := fun k e => by rw [W66.eq]; exact ow_in O47 k e
      have G69 := G45.trans W66.gr
      have z70 := Nat.le_trans z46 W66.gr.size
      have O71 := ow_gr O47 W66.gr
      have F72 := F48.tk (tk_gr W66.gr)
      refine ssR rfl (wn _ rfl) (o_stR n63.at_ (n63.ne rfl n62.at_) W66.bk (by kernel_rfl) rfl (by simp [Value.oneCell'])) W66.bk (fun w73 u74 u74b => ?_)
      have G75 : Gr w w73 := Below.upd G69 l67 u74
      have z76 : base ≤ w73.heap.size := by rw [u74.size]; exact z70
      have O77 := ow_upd_ne O71 u74 l68
      have F78 := F72.tk (tk_upd u74 W66.bk (by decide))
      refine wpList_nil ?_
      refine th_n (hK59 _ _ ?_)
      refine wp_seq_k (fun K79 hK79 => ?_)
      refine wp_seq_k (fun K80 hK80 => ?_)
      refine wp_region_lit ?_
      have e81 := n63.ne rfl (n62.ne rfl (n61.ne rfl (n49.ne rfl (n42.ne rfl (n41.ne rfl (n38.ne rfl n37.at_))))))
      refine sv n63.ok rfl (wn _ rfl) rfl (o_mv e81) (fun an82 n82 => ?_)
      have e83 := n82.ne rfl (n63.ne rfl (n62.ne rfl (n61.ne rfl (n49.ne rfl (n42.ne rfl (n41.ne rfl (n38.ne rfl (n37.ne rfl (n36.ne rfl (n35.ne rfl (n33.ne rfl (n28.ne rfl s1I20))))))))))))
      refine sv n82.ok rfl (wn _ rfl) rfl (o_mv e83) (fun an84 n84 => ?_)
      refine sv n84.ok rfl (wn _ rfl) rfl (o_len n84.at_ Try.underlying47) (fun an85 n85 => ?_)
      refine sv n85.ok rfl (wn _ rfl) rfl (o_ltI (n85.ne rfl (n84.ne rfl n82.at_)) n85.at_) (fun an86 n86 => ?_)
      refine wpList_nil ?_
      refine th_n (hK80 _ _ ?_)
      by_cases c87 : (i : Int) < ((Ls.length : Nat) : Int)
      · refine wp_cond_true ((n86.at_).trans (congrArg Value.bool (decide_eq_true c87))) ?_
        refine wp_region_lit ?_
        have e88 := n86.ne rfl (n85.ne rfl (n84.ne rfl e83))
        refine sv n86.ok rfl (wn _ rfl) rfl (o_mv e88) (fun an89 n89 => ?_)
        have e90 := n89.ne rfl (n86.ne rfl (n85.ne rfl (n84.ne rfl (n82.ne rfl e81))))
        refine sv n89.ok rfl (wn _ rfl) rfl (o_mv e90) (fun an91 n91 => ?_)
        have h92l : i < List.length Ls := by omega
        obtain ⟨bh92, fh92, h92a, h92b, h92c⟩ := hLs (ne_nil_of_lt h92l)
        obtain ⟨xh92, h92x⟩ : ∃ x, (Ls)[i]? = some x := ⟨_, List.getElem?_eq_getElem h92l⟩
        obtain ⟨uh92, h92d, h92e⟩ := h92c _ _ h92x
        refine sv n91.ok rfl (wn _ rfl) rfl (o_iaV (i := i) (s := 1) h92a (n91.ne rfl n89.at_) n91.at_ Try.underlying47 (by kernel_rfl) (by omega)) (fun an93 n93 => ?_)
        refine sv n93.ok rfl (wn _ rfl) rfl (o_ld n93.at_ (Try.isAgg98 _) ((Below.cell G75 h92b).trans h92d)) (fun an94 n94 => ?_)
        refine sc n94.ok rfl (wn _ rfl) rfl (o_f1 Try.func55 rfl rfl rfl n94.at_) (kset_any _ xh92 w73 (h92e.gr G75)) ?_
        rintro _ w96 ⟨k1, rfl, hk1, g97⟩
        obtain ⟨va1, vn1, vc1, ma1, mn1, mc1, rfl⟩ := hk1.form3
        refine ⟨_, rfl, fun an95 n95 => ?_⟩
        have G98 := G75.trans g97
        have B99 := u74b.gr g97
        have z100 := Nat.le_trans z76 g97.size
        have O101 := ow_gr O77 g97
        have F102 := F78.tk (tk_gr g97)
        have e103 := n95.ne rfl (n94.ne rfl (n93.ne rfl (n91.ne rfl (n89.ne rfl (n86.ne rfl (n85.ne rfl (n84.ne rfl (n82.ne rfl n63.at_))))))))
        refine sv n95.ok rfl (wn _ rfl) rfl (o_fa (z := 2) e103 Try.underlying38 rfl (by kernel_rfl) rfl rfl) (fun an104 n104 => ?_)
        refine ssP (vs := [.slice va1 vn1 vc1, .slice ma1 mn1 mc1]) (cs' := #[.slice fah34 (xh34.length) fch34, .slice va1 vn1 vc1, .slice ma1 mn1 mc1]) (wn _ rfl) n104.at_ (n104.ne rfl n95.at_) (by kernel_rfl) B99 rfl (by simp [Value.oneCell']) rfl (fun w105 u106 u106b => ?_)
        have G107 : Gr w w105 := Below.upd G98 l67 u106
        have z108 : base ≤ w105.heap.size := by rw [u106.size]; exact z100
        have O109 := ow_upd_ne O101 u106 l68
        have F110 := F102.tk (tk_upd u106 B99 (by decide))
        have F111 := (hk1.less G75.size).tk (tk_upd u106 B99 (by decide))
        refine wpList_nil ?_
        refine th_n (hK79 _ _ ?_)
        refine wp_region_lit ?_
        have e112 := n104.ne rfl (n95.ne rfl (n94.ne rfl (n93.ne rfl (n91.ne rfl (n89.ne rfl (n86.ne rfl (n85.ne rfl (n84.ne rfl (n82.ne rfl (n63.ne rfl (n62.ne rfl (n61.ne rfl (n49.ne rfl (n42.ne rfl (n41.ne rfl (n38.ne rfl (n37.ne rfl (n36.ne rfl (n35.ne rfl (n33.ne rfl (n28.ne rfl s5I20)))))))))))))))))))))
        refine sv n104.ok rfl (wn _ rfl) rfl (o_mv e112) (fun an113 n113 => ?_)
        refine sv n113.ok rfl (wn _ rfl) rfl (o_ldR (n113.ne rfl (n104.ne rfl e103)) u106b Try.underlying38 rfl (by kernel_rfl)) (fun an114 n114 => ?_)
        obtain ⟨i115, i115a, i115b, i115c⟩ := info3_of (show (Try.prog.info? 38).map (fun i => (i.zero, i.size)) = some (some (.agg #[.slice none 0 0, .slice none 0 0, .slice none 0 0]), 3) by kernel_rfl)
        refine sals (cs := #[.slice fah34 (xh34.length) fch34, .slice va1 vn1 vc1, .slice ma1 mn1 mc1]) n114.ok rfl (wn _ rfl) rfl (o_bs (vs := [(0, .agg #[.slice fah34 (xh34.length) fch34, .slice va1 vn1 vc1, .slice ma1 mn1 mc1])]) (by simp [n114.at_, ev_const]) Try.underlying22 i115a i115b (by rw [i115c]; rfl) (by rw [i115c]; rfl) (by rw [i115c]; kernel_rfl)) (fun an116 w118 b117 W119 n116 => ?_)
        have l120 : b64 < b117 := by rw [W119.eq]; exact u106b.lt
        have l121 : w.heap.size ≤ b117 := by rw [W119.eq]; exact G107.size
        have l122 : ∀ k, Value.ownBlock (.slice ra K.length rc) = some k → k < b117 := fun k e => by rw [W119.eq]; exact ow_in O109 k e
        have G123 := G107.trans W119.gr
        have B124 := u106b.gr W119.gr
        have z125 := Nat.le_trans z108 W119.gr.size
        have O126 := ow_gr O109 W119.gr
        have F127 := F110.tk (tk_gr W119.gr)
        have F128 := F111.gr W119.gr
        obtain ⟨y129, hy130⟩ : ∃ y : PtX, y = ⟨fah34, xh34.length, fch34, va1, vn1, vc1, ma1, mn1, mc1, tabF Fh34, setD xh92⟩ := ⟨_, rfl⟩
        have q131 : PartAt w w118 y129 := by subst hy130; exact ⟨⟨Fh34, hFh341 ▸ h34e, hFh342, hFh343, fun _ _ => rfl⟩, F128, small_form (setD_small _)⟩
        obtain ⟨i132, i132a, i132b, i132c, i132d⟩ := info_of (show (Try.prog.info? 38).map (fun i => (i.zero, i.size, i.bytes)) = some (some (.agg #[.slice none 0 0, .slice none 0 0, .slice none 0 0]), 3, 72) by kernel_rfl)
        refine s_app (base := base) (n := K.length) (xs := (flatE encP K)) (m := 1) (news := encP y129) n116.ok (wn _ rfl) rfl Try.underlying22 i132a i132b i132c i132d rfl (by omega) (n116.ne rfl (n114.ne rfl n113.at_)) O126 n116.at_ rfl ((by subst hy130; exact fun j u hu => by rw [add_n]; exact bk_part W119.bk (k := 0) rfl j u hu)) (encP_ok.one y129) (by simp only [maxLen]; omega) (by omega) z125 (fun an133 w134 v135 O138 gg139 n133 => ?_)
        obtain ⟨a136, c137, rfl, c137l⟩ := ow_form O138
        have G140 := Gr.grown G123 gg139 (fun k e => Nat.le_trans l2 (ow_lt O126 k e))
        have B141 := B124.grown_ne gg139 l68
        have B142 := W119.bk.grown_ne gg139 l122
        have z143 := Nat.le_trans z125 gg139.size
        have F144 := F127.tk (tk_grown O126 gg139 (by decide))
        have F145 := q131.tk (tk_grown O126 gg139 (by decide))
        have O146 : w134.ownsRow base 38 3 (.slice a136 ((K.length + 1)) c137) ((K.length + 1)) ((flatE encP (K ++ [y129]))) := by have h := O138; rw [← flatE_one (enc := encP) y129, ← flatE_app] at h; exact h
        have hps147 := F144.snoc F145
        refine sv n133.ok rfl (wn _ rfl) rfl (o_as n133.at_) (fun an148 n148 => ?_)
        refine wpList_nil ?_
        refine ib_n ?_
        refine th_n (hK31 _ _ ?_)
        refine wp_region_lit ?_
        have e149 := n148.ne rfl (n133.ne rfl (n116.ne rfl (n114.ne rfl (n113.ne rfl (n104.ne rfl (n95.ne rfl (n94.ne rfl (n93.ne rfl (n91.ne rfl (n89.ne rfl (n86.ne rfl (n85.ne rfl (n84.ne rfl (n82.ne rfl (n63.ne rfl (n62.ne rfl (n61.ne rfl (n49.ne rfl (n42.ne rfl (n41.ne rfl (n38.ne rfl (n37.ne rfl (n36.ne rfl (n35.ne rfl (n33.ne rfl (n28.ne rfl s15I20))))))))))))))))))))))))))
        refine sv n148.ok rfl (wn _ rfl) rfl (o_add (r := ((i + 1 : Nat) : Int)) e149 ev_const (by omega) (by omega)) (fun an150 n150 => ?_)
        refine sv n150.ok rfl (wn _ rfl) rfl (o_mv n150.at_) (fun an151 n151 => ?_)
        refine wpList_nil ?_
        have e152 := n151.ne rfl (n150.ne rfl (n148.ne rfl (n133.ne rfl (n116.ne rfl (n114.ne rfl (n113.ne rfl (n104.ne rfl (n95.ne rfl (n94.ne rfl (n93.ne rfl (n91.ne rfl (n89.ne rfl e88))))))))))))
        have e153 := n151.ne rfl (n150.ne rfl (n148.ne rfl (n133.ne rfl (n116.ne rfl (n114.ne rfl (n113.ne rfl (n104.ne rfl (n95.ne rfl (n94.ne rfl (n93.ne rfl (n91.ne rfl (n89.ne rfl (n86.ne rfl (n85.ne rfl (n84.ne rfl (n82.ne rfl (n63.ne rfl (n62.ne rfl (n61.ne rfl (n49.ne rfl (n42.ne rfl (n41.ne rfl (n38.ne rfl (n37.ne rfl (n36.ne rfl (n35.ne rfl (n33.ne rfl (n28.ne rfl s4I20))))))))))))))))))))))))))))
        have e154 := n151.ne rfl (n150.ne rfl (n148.ne rfl (n133.ne rfl (n116.ne rfl (n114.ne rfl (n113.ne rfl (n104.ne rfl (n95.ne rfl (n94.ne rfl (n93.ne rfl (n91.ne rfl (n89.ne rfl (n86.ne rfl (n85.ne rfl (n84.ne rfl (n82.ne rfl (n63.ne rfl (n62.ne rfl (n61.ne rfl (n49.ne rfl (n42.ne rfl (n41.ne rfl (n38.ne rfl (n37.ne rfl (n36.ne rfl (n35.ne rfl (n33.ne rfl (n28.ne rfl s13I20))))))))))))))))))))))))))))
        have e155 := n151.ne rfl (n150.ne rfl (n148.ne rfl (n133.ne rfl (n116.ne rfl (n114.ne rfl (n113.ne rfl (n104.ne rfl (n95.ne rfl (n94.ne rfl (n93.ne rfl (n91.ne rfl (n89.ne rfl (n86.ne rfl (n85.ne rfl (n84.ne rfl (n82.ne rfl (n63.ne rfl (n62.ne rfl (n61.ne rfl (n49.ne rfl (n42.ne rfl (n41.ne rfl (n38.ne rfl (n37.ne rfl (n36.ne rfl (n35.ne rfl (n33.ne rfl (n28.ne rfl s14I20))))))))))))))))))))))))))))
        exact th_n (hKI20 _ _ _ (by omega) ⟨i + 1, K ++ [y129], a136, c137, rfl, n151.ok, G140, e152, e153, (by simpa using (n151.ne rfl (n150.ne rfl n148.at_))), e154, e155, n151.at_, hps147, (by simpa using O146), z143, by omega, by rw [List.length_append, List.length_singleton]; omega⟩)
      · refine wp_cond_false ((n86.at_).trans (congrArg Value.bool (decide_eq_false c87))) ?_
        refine wp_skip ?_
        refine th_n (hK79 _ _ ?_)
        refine wp_region_lit ?_
        have e156 := n86.ne rfl (n85.ne rfl (n84.ne rfl (n82.ne rfl (n63.ne rfl (n62.ne rfl (n61.ne rfl (n49.ne rfl (n42.ne rfl (n41.ne rfl (n38.ne rfl (n37.ne rfl (n36.ne rfl (n35.ne rfl (n33.ne rfl (n28.ne rfl s5I20)))))))))))))))
        refine sv n86.ok rfl (wn _ rfl) rfl (o_mv e156) (fun an157 n157 => ?_)
        have e158 := n157.ne rfl (n86.ne rfl (n85.ne rfl (n84.ne rfl (n82.ne rfl n63.at_))))
        refine sv n157.ok rfl (wn _ rfl) rfl (o_ldR e158 u74b Try.underlying38 rfl (by kernel_rfl)) (fun an159 n159 => ?_)
        obtain ⟨i160, i160a, i160b, i160c⟩ := info3_of (show (Try.prog.info? 38).map (fun i => (i.zero, i.size)) = some (some (.agg #[.slice none 0 0, .slice none 0 0, .slice none 0 0]), 3) by kernel_rfl)
        refine sals (cs := #[.slice fah34 (xh34.length) fch34, .slice none 0 0, .slice none 0 0]) n159.ok rfl (wn _ rfl) rfl (o_bs (vs := [(0, .agg #[.slice fah34 (xh34.length) fch34, .slice none 0 0, .slice none 0 0])]) (by simp [n159.at_, ev_const]) Try.underlying22 i160a i160b (by rw [i160c]; rfl) (by rw [i160c]; rfl) (by rw [i160c]; kernel_rfl)) (fun an161 w163 b162 W164 n161 => ?_)
        have l165 : b64 < b162 := by rw [W164.eq]; exact u74b.lt
        have l166 : w.heap.size ≤ b162 := by rw [W164.eq]; exact G75.size
        have l167 : ∀ k, Value.ownBlock (.slice ra K.length rc) = some k → k < b162 := fun k e => by rw [W164.eq]; exact ow_in O77 k e
        have G168 := G75.trans W164.gr
        have B169 := u74b.gr W164.gr
        have z170 := Nat.le_trans z76 W164.gr.size
        have O171 := ow_gr O77 W164.gr
        have F172 := F78.tk (tk_gr W164.gr)
        obtain ⟨y173, hy174⟩ : ∃ y : PtX, y = ⟨fah34, xh34.length, fch34, none, 0, 0, none, 0, 0, tabF Fh34, memB [] []⟩ := ⟨_, rfl⟩
        have q175 : PartAt w w163 y173 := by subst hy174; exact ⟨⟨Fh34, hFh341 ▸ h34e, hFh342, hFh343, fun _ _ => rfl⟩, knO_nil, few_nil⟩
        obtain ⟨i176, i176a, i176b, i176c, i176d⟩ := info_of (show (Try.prog.info? 38).map (fun i => (i.zero, i.size, i.bytes)) = some (some (.agg #[.slice none 0 0, .slice none 0 0, .slice none 0 0]), 3, 72) by kernel_rfl)
        refine s_app (base := base) (n := K.length) (xs := (flatE encP K)) (m := 1) (news := encP y173) n161.ok (wn _ rfl) rfl Try.underlying22 i176a i176b i176c i176d rfl (by omega) (n161.ne rfl (n159.ne rfl n157.at_)) O171 n161.at_ rfl ((by subst hy174; exact fun j u hu => by rw [add_n]; exact bk_part W164.bk (k := 0) rfl j u hu)) (encP_ok.one y173) (by simp only [maxLen]; omega) (by omega) z170 (fun an177 w178 v179 O182 gg183 n177 => ?_)
        obtain ⟨a180, c181, rfl, c181l⟩ := ow_form O182
        have G184 := Gr.grown G168 gg183 (fun k e => Nat.le_trans l2 (ow_lt O171 k e))
        have B185 := B169.grown_ne gg183 l68
        have B186 := W164.bk.grown_ne gg183 l167
        have z187 := Nat.le_trans z170 gg183.size
        have F188 := F172.tk (tk_grown O171 gg183 (by decide))
        have F189 := q175.tk (tk_grown O171 gg183 (by decide))
        have O190 : w178.ownsRow base 38 3 (.slice a180 ((K.length + 1)) c181) ((K.length + 1)) ((flatE encP (K ++ [y173]))) := by have h := O182; rw [← flatE_one (enc := encP) y173, ← flatE_app] at h; exact h
        have hps191 := F188.snoc F189
        refine sv n177.ok rfl (wn _ rfl) rfl (o_as n177.at_) (fun an192 n192 => ?_)
        refine wpList_nil ?_
        refine ib_n ?_
        refine th_n (hK31 _ _ ?_)
        refine wp_region_lit ?_
        have e193 := n192.ne rfl (n177.ne rfl (n161.ne rfl (n159.ne rfl (n157.ne rfl (n86.ne rfl (n85.ne rfl (n84.ne rfl (n82.ne rfl (n63.ne rfl (n62.ne rfl (n61.ne rfl (n49.ne rfl (n42.ne rfl (n41.ne rfl (n38.ne rfl (n37.ne rfl (n36.ne rfl (n35.ne rfl (n33.ne rfl (n28.ne rfl s15I20))))))))))))))))))))
        refine sv n192.ok rfl (wn _ rfl) rfl (o_add (r := ((i + 1 : Nat) : Int)) e193 ev_const (by omega) (by omega)) (fun an194 n194 => ?_)
        refine sv n194.ok rfl (wn _ rfl) rfl (o_mv n194.at_) (fun an195 n195 => ?_)
        refine wpList_nil ?_
        have e196 := n195.ne rfl (n194.ne rfl (n192.ne rfl (n177.ne rfl (n161.ne rfl (n159.ne rfl (n157.ne rfl (n86.ne rfl (n85.ne rfl (n84.ne rfl e83)))))))))
        have e197 := n195.ne rfl (n194.ne rfl (n192.ne rfl (n177.ne rfl (n161.ne rfl (n159.ne rfl (n157.ne rfl (n86.ne rfl (n85.ne rfl (n84.ne rfl (n82.ne rfl (n63.ne rfl (n62.ne rfl (n61.ne rfl (n49.ne rfl (n42.ne rfl (n41.ne rfl (n38.ne rfl (n37.ne rfl (n36.ne rfl (n35.ne rfl (n33.ne rfl (n28.ne rfl s4I20))))))))))))))))))))))
        have e198 := n195.ne rfl (n194.ne rfl (n192.ne rfl (n177.ne rfl (n161.ne rfl (n159.ne rfl (n157.ne rfl (n86.ne rfl (n85.ne rfl (n84.ne rfl (n82.ne rfl (n63.ne rfl (n62.ne rfl (n61.ne rfl (n49.ne rfl (n42.ne rfl (n41.ne rfl (n38.ne rfl (n37.ne rfl (n36.ne rfl (n35.ne rfl (n33.ne rfl (n28.ne rfl s13I20))))))))))))))))))))))
        have e199 := n195.ne rfl (n194.ne rfl (n192.ne rfl (n177.ne rfl (n161.ne rfl (n159.ne rfl (n157.ne rfl (n86.ne rfl (n85.ne rfl (n84.ne rfl (n82.ne rfl (n63.ne rfl (n62.ne rfl (n61.ne rfl (n49.ne rfl (n42.ne rfl (n41.ne rfl (n38.ne rfl (n37.ne rfl (n36.ne rfl (n35.ne rfl (n33.ne rfl (n28.ne rfl s14I20))))))))))))))))))))))
        exact th_n (hKI20 _ _ _ (by omega) ⟨i + 1, K ++ [y173], a180, c181, rfl, n195.ok, G184, e196, e197, (by simpa using (n195.ne rfl (n194.ne rfl n192.at_))), e198, e199, n195.at_, hps191, (by simpa using O190), z187, by omega, by rw [List.length_append, List.length_singleton]; omega⟩)
  · refine wp_cond_false ((n28.at_).trans (congrArg Value.bool (decide_eq_false c30))) ?_
    refine wp_exit ?_
    refine th_x ?_
    refine th_x ?_
    refine ib_x ?_
    refine th_n (hK9 _ _ ?_)
    refine wp_seq_k (fun K200 hK200 => ?_)
    refine wp_region_lit ?_
    refine sv n28.ok rfl (wn _ rfl) rfl (o_mv (n28.ne rfl s5I20)) (fun an201 n201 => ?_)
    refine sv n201.ok rfl (wn _ rfl) rfl (o_as n201.at_) (fun an202 n202 => ?_)
    refine wpList_nil ?_
    refine th_n (hK200 _ _ ?_)
    refine wp_ret ?_
    exact ret1 n202.ok rfl (n202.at_) ⟨K, _, rfl, by omega, z1 ▸ orI20, fpsI20.mean GI20, GI20⟩
/-- small lists joined -/
theorem pjoin_small (K L : List PtX) (va vb : Option Addr) (vc vd : Nat) (hl : K.length + L.length ≤ 30) (hc : K.length ≤ vc) (hc2 : L.length ≤ vd) (hn : va = none → vc = 0) (hn2 : vb = none → vd = 0) (w : World) (hv : RdA encP 3 w va K) (hv2 : RdA encP 3 w vb L) (hm : MeansP w K) (hm2 : MeansP w L) :
    Calls Try.prog 16 #[.slice va K.length vc, .slice vb L.length vd] w fun e w' => ∃ (F : List PtX) (a : Option Addr) (c : Nat), e = .returned (.tuple #[.slice a F.length c, .int .i64 0]) ∧ F.length ≤ c ∧ (a = none → c = 0) ∧ F.length ≤ K.length + L.length ∧ EqP F (K ++ L) ∧ FewP F ∧ RdA encP 3 w' a F ∧ MeansP w' F ∧ Gr w w' := by
  refine (pjoin_ok K L va vb vc vd (by omega) (by omega) hc hc2 hn hn2 w hv hv2 hm hm2).mono ?_
  rintro e w' ⟨R, hR, hres, g⟩
  have hRl : R.length = K.length + L.length := by have := congrArg List.length hR; simpa using this
  have hF := fewP_len R
  rcases hres with ⟨h1, v, rfl, h2, h3⟩ | ⟨h1, -⟩
  · have hOk : ∀ y ∈ R, OkT y.T := fun y hy => by
      have : y.m ∈ (K ++ L).map (nar fullT) := hR ▸ List.mem_map_of_mem hy
      obtain ⟨x, hx, e⟩ := List.mem_map.1 this
      have hT : OkT x.T := (List.mem_append.1 hx).elim (fun q => (hm x q).fs.okT) (fun q => (hm2 x q).fs.okT)
      have e1 : y.T = fun t => x.T t &&& fullT t := (congrArg Prod.fst e).symm
      rw [e1]
      exact okT_and hT
    obtain ⟨a, c, rfl, hac⟩ := ow_form h2
    refine ⟨fewP R, a, c, rfl, hac, fun q => ?_, by omega, (fewP_has hOk).trans (full_has hR), fewP_few R, RdA.own encP_ok h2 rfl, h3.mean, g⟩
    subst q
    obtain ⟨-, ⟨e1, -⟩ | ⟨g', cap, cur, e1, -⟩⟩ := h2
    · injection e1
    · injection e1 with e1; cases e1
  · omega
theorem FSn.form {n : Nat} {w : World} {v : Value} {T : Nat → Nat} (h : FSn n w v T) : ∃ a l c, v = .slice a l c := by
  obtain ⟨F, ⟨a, c, rfl, -⟩, -⟩ := h
  exact ⟨a, _, c, rfl⟩
theorem pbegun_join (b bi : Nat) (fa : Option Addr) (fn fc : Nat) (t t' : TypeId) (w : World) (hb : Bk w b #[.slice fa fn fc, .slice (some ⟨bi, 0, none⟩) 1 1, .slice none 0 0] t) (hbi : Bk w bi #[.int .i64 1] t') (hev : FS w (.slice fa fn fc) fullT) :
    Calls Try.prog 16 #[.slice none 0 0, .slice (some ⟨b, 0, none⟩) 1 1] w fun e w' => ∃ a c, e = .returned (.tuple #[.slice a 1 c, .int .i64 0]) ∧ Gr w w' := by
  have ok1 : OkV [1] [] := ⟨by simp, by simp, by simp, by simp, by simp⟩
  obtain ⟨q1, q2⟩ := form_self ok1
  have hm : MeanP w ⟨fa, fn, fc, some ⟨bi, 0, none⟩, 1, 1, none, 0, 0, fullT, memB [1] []⟩ := by
    refine ⟨hev, ?_, ?_⟩
    · show KnR w _ (ints (formV (memB [1] []))) (pairs (formM (memB [1] [])))
      rw [q1, q2]
      exact knR_vec1 hbi
    · show (formM (memB [1] [])).length ≤ 60
      rw [q2]; simp
  obtain ⟨x, hx⟩ : ∃ x : PtX, x = ⟨fa, fn, fc, some ⟨bi, 0, none⟩, 1, 1, none, 0, 0, fullT, memB [1] []⟩ := ⟨_, rfl⟩
  rw [← hx] at hm
  have hr : RdA encP 3 w (some ⟨b, 0, none⟩) [x] := fun _ => ⟨b, 0, rfl, hb.lt, fun i y hy j u hu => by
    match i, hy with
    | 0, hy =>
      simp at hy
      subst hy
      rw [hx] at hu
      have := bk_part hb (k := 0) (l := [.slice fa fn fc, .slice (some ⟨bi, 0, none⟩) 1 1, .slice none 0 0]) rfl j u hu
      simpa using this
    | i + 1, hy => simp at hy⟩
  have h := pjoin_ok [] [x] none (some ⟨b, 0, none⟩) 0 1 (by simp) (by simp) (by simp) (by simp) (fun _ => rfl) (fun q => by cases q) w (fun q => absurd rfl q) hr (fun y hy => by cases hy) (fun y hy => by rw [List.mem_singleton.1 hy]; exact hm)
  refine h.mono ?_
  rintro e w' ⟨R, hR, hres, g⟩
  obtain ⟨y, rfl, hy⟩ : ∃ y, R = [y] ∧ y.m = nar fullT x := by
    match R, hR with
    | [y], hR => exact ⟨y, rfl, by simpa using hR⟩
    | [], hR => simp at hR
    | a :: c :: r, hR => simp at hR
  have hyT : y.T = fun t => fullT t &&& fullT t := by have := congrArg Prod.fst hy; rw [hx] at this; exact this
  have hyD : y.D = memB [1] [] := by have := congrArg Prod.snd hy; rw [hx] at this; exact this
  have he : emptyP y = false := by
    unfold emptyP
    rw [hyT, hyD, q1, q2, ok1.count]
    have : (cntT fun t => fullT t &&& fullT t) = 512 := by decide +kernel
    rw [this]
    rfl
  have hf : fewP [y] = [y] := by
    unfold fewP
    simp only [List.foldl_cons, List.foldl_nil, stepP, he]
    rfl
  rw [hf] at hres
  rcases hres with ⟨-, v, rfl, h2, -⟩ | ⟨h1, -⟩
  · obtain ⟨a, c, rfl, -⟩ := ow_form h2
    exact ⟨a, c, rfl, g⟩
  · simp at h1
set_option maxHeartbeats 8000000 in
set_option maxRecDepth 100000 in
theorem partBegun_any  (w : World) :
    Calls Try.prog 15 #[] w fun e w' => e = .returned (.bool true) ∧ Gr w w' := by
  refine enter (N := 19) Try.func15 rfl rfl rfl (fun a0 ok0 h0 => ?_)
  clear h0
  have G0 := Gr.refl w
  refine wp_seq_k (fun K1 hK1 => ?_)
  refine wp_region_lit ?_
  refine sv ok0 rfl (wn _ rfl) rfl (o_as ev_const) (fun an2 n2 => ?_)
  refine wpList_nil ?_
  refine th_n (hK1 _ _ ?_)
  refine wp_seq_k (fun K3 hK3 => ?_)
  refine wp_region_lit ?_
  refine sc n2.ok rfl (wn _ rfl) rfl (o_f0 Try.func51 rfl rfl rfl ) (fevery w) ?_
  rintro _ w5 ⟨ev, rfl, hev, g6⟩
  obtain ⟨fa, fn, fc, rfl⟩ := hev.form
  refine ⟨_, rfl, fun an4 n4 => ?_⟩
  have G7 := G0.trans g6
  obtain ⟨i8, i8a, i8b, i8c⟩ := info3_of (show (Try.prog.info? 3).map (fun i => (i.zero, i.size)) = some (some (.int .i64 0), 1) by kernel_rfl)
  refine sals (cs := #[.int .i64 1]) n4.ok rfl (wn _ rfl) rfl (o_bs (vs := [(0, .int .i64 1)]) (by simp [ev_const]) Try.underlying32 i8a i8b (by rw [i8c]; rfl) (by rw [i8c]; rfl) (by rw [i8c]; kernel_rfl)) (fun an9 w11 b10 W12 n9 => ?_)
  have l13 : w.heap.size ≤ b10 := by rw [W12.eq]; exact G7.size
  have G14 := G7.trans W12.gr
  have F15 := hev.gr W12.gr
  refine sv n9.ok rfl (wn _ rfl) rfl (o_bd (cells := #[.slice (some ⟨b10, 0, none⟩) 1 1, .slice none 0 0]) (vs := [(0, .slice (some ⟨b10, 0, none⟩) 1 1)]) (by simp [n9.at_, ev_const]) (by kernel_rfl)) (fun an16 n16 => ?_)
  refine sv n16.ok rfl (wn _ rfl) rfl (o_bd (cells := #[.slice fa fn fc, .slice (some ⟨b10, 0, none⟩) 1 1, .slice none 0 0]) (vs := [(0, .slice fa fn fc), (1, .agg #[.slice (some ⟨b10, 0, none⟩) 1 1, .slice none 0 0])]) (by simp [(n16.ne rfl (n9.ne rfl n4.at_)), n16.at_, ev_const]) (by kernel_rfl)) (fun an17 n17 => ?_)
  obtain ⟨i18, i18a, i18b, i18c⟩ := info3_of (show (Try.prog.info? 38).map (fun i => (i.zero, i.size)) = some (some (.agg #[.slice none 0 0, .slice none 0 0, .slice none 0 0]), 3) by kernel_rfl)
  refine sals (cs := #[.slice fa fn fc, .slice (some ⟨b10, 0, none⟩) 1 1, .slice none 0 0]) n17.ok rfl (wn _ rfl) rfl (o_bs (vs := [(0, .agg #[.slice fa fn fc, .slice (some ⟨b10, 0, none⟩) 1 1, .slice none 0 0])]) (by simp [n17.at_, ev_const]) Try.underlying22 i18a i18b (by rw [i18c]; rfl) (by rw [i18c]; rfl) (by rw [i18c]; kernel_rfl)) (fun an19 w21 b20 W22 n19 => ?_)
  have l23 : b10 < b20 := by rw [W22.eq]; exact W12.bk.lt
  have l24 : w.heap.size ≤ b20 := by rw [W22.eq]; exact G14.size
  have G25 := G14.trans W22.gr
  have B26 := W12.bk.gr W22.gr
  have F27 := F15.gr W22.gr
  refine sc n19.ok rfl (wn _ rfl) rfl (o_f2 Try.func16 rfl rfl rfl ev_const n19.at_) (pbegun_join b20 b10 fa fn fc _ _ w21 W22.bk B26 (F27.le (by decide))) ?_
  rintro _ w29 ⟨ja, jc, rfl, g30⟩
  refine ⟨_, rfl, fun an28 n28 => ?_⟩
  have G31 := G25.trans g30
  have B32 := B26.gr g30
  have B33 := W22.bk.gr g30
  have F34 := F27.gr g30
  refine sv n28.ok rfl (wn _ rfl) rfl (o_mv n28.at_) (fun an35 n35 => ?_)
  refine sv n35.ok rfl (wn _ rfl) rfl (o_ex n35.at_ rfl) (fun an36 n36 => ?_)
  refine sv n36.ok rfl (wn _ rfl) rfl (o_ex (n36.ne rfl n35.at_) rfl) (fun an37 n37 => ?_)
  refine sv n37.ok rfl (wn _ rfl) rfl (o_as (n37.ne rfl n36.at_)) (fun an38 n38 => ?_)
  refine sv n38.ok rfl (wn _ rfl) rfl (o_as (n38.ne rfl n37.at_)) (fun an39 n39 => ?_)
  refine wpList_nil ?_
  refine th_n (hK3 _ _ ?_)
  refine wp_seq_k (fun K40 hK40 => ?_)
  refine wp_region_lit ?_
  refine sv n39.ok rfl (wn _ rfl) rfl (o_mv n39.at_) (fun an41 n41 => ?_)
  refine sv n41.ok rfl (wn _ rfl) rfl (o_eq (b := true) n41.at_ ev_const (by decide)) (fun an42 n42 => ?_)
  refine sv n42.ok rfl (wn _ rfl) rfl (o_mv n42.at_) (fun an43 n43 => ?_)
  have e44 := n43.ne rfl (n42.ne rfl (n41.ne rfl (n39.ne rfl n38.at_)))
  refine sv n43.ok rfl (wgT rfl (yl 2 true rfl n43.at_) rfl) rfl (o_mv e44) (fun an45 n45 => ?_)
  refine sv n45.ok rfl (wgT rfl (yl 2 true rfl (n45.ne rfl n43.at_)) rfl) rfl (o_len n45.at_ Try.underlying22) (fun an46 n46 => ?_)
  refine sv n46.ok rfl (wgT rfl (yl 2 true rfl (n46.ne rfl (n45.ne rfl n43.at_))) rfl) rfl (o_eq (b := true) n46.at_ ev_const (by decide)) (fun an47 n47 => ?_)
  have e48 := n47.ne rfl (n46.ne rfl (n45.ne rfl n43.at_))
  refine sv n47.ok rfl (wn _ rfl) rfl (o_pkT e48 n47.at_) (fun an49 n49 => ?_)
  refine sv n49.ok rfl (wn _ rfl) rfl (o_as n49.at_) (fun an50 n50 => ?_)
  refine wpList_nil ?_
  refine th_n (hK40 _ _ ?_)
  refine wp_ret ?_
  exact ret1 n50.ok rfl (n50.at_) ⟨rfl, G31⟩
end Go.Proofs.Ytghjfakellaecaa

/- What the laws on parts need. -/
set_option linter.unusedVariables false
set_option linter.unusedSimpArgs false
namespace Rm
open Go Go.RowKit Gx
end Rm
namespace Go.Proofs.Ytghjfakellaecaa
open Go.RowKit Rm Gx
theorem ow_nil {w : World} {base s n c : Nat} {t : TypeId} {a : Option Addr} {xs : List Value} (h : w.ownsRow base t s (.slice a n c) n xs) : a = none → c = 0 := by
  rintro rfl
  obtain ⟨-, ⟨e1, -⟩ | ⟨g', cap, cur, e1, -⟩⟩ := h
  · injection e1
  · injection e1 with e1; cases e1
theorem rdf_gr (w w' : World) (u : Value) (x : List BoxI) (g : Gr w w') (h : RdF w u x) : RdF w' u x := h.gr g
theorem rdll_gr (w w' : World) (u : Value) (x : List (List Int)) (g : Gr w w') (h : RdLL w u x) : RdLL w' u x := h.gr g
end Go.Proofs.Ytghjfakellaecaa

/- An argument that is a slice of boxes reads as a list. -/
namespace Go.Proofs.Ytghjfakellaecaa
open Go.ChangeShapes Go.WideShapes Go.ChangeAt Go.RowKit Go.Deep Rm
set_option linter.unusedVariables false

section
variable {H : Type} {enc : TypeId × Value → H} {W : World} {base : Nat} {spare : Nat → Bool} {held : Bool}
set_option maxRecDepth 100000 in
theorem spans_trod {fuel : Nat} {cs : List Value} {x : DataW H × List MemPlace} (h : DataW.trod enc Try.prog W base spare held fuel 122 cs = some x) : ∃ v l, cs = [v] ∧ Rd2 W v l := by
  rcases open_slice_pairs Try.underlying122 Try.underlying135 (by kernel_rfl) rfl rfl (by kernel_rfl) (by kernel_rfl) h with ⟨rfl, _⟩ | ⟨a, len, cap, m, n, V0, V1, D0, D1, P0, P1, rfl, hb, hl, hm, hmm, hx, hcell⟩
  · exact ⟨_, [], rfl, Rd2.nil W⟩
  · have hlm : len ≤ m := by rw [hmm]; split <;> omega
    obtain ⟨l, hl', _⟩ := rd2_of (W := W) (a := a) (V0 := V0) (V1 := V1) hl (fun i hi => ⟨(hcell i (by omega)).1, (hcell i (by omega)).2.1⟩) (fun i hi => by
      obtain ⟨_, _, t0, t1⟩ := hcell i (by omega)
      obtain ⟨x, ex, _, _⟩ := DataW.trod_int Try.underlying3 t0
      obtain ⟨y, ey, _, _⟩ := DataW.trod_int Try.underlying3 t1
      simp at ex ey
      exact ⟨x, y, ex, ey⟩)
    exact ⟨_, l, rfl, hl'⟩
theorem box_cells : Try.prog.cellsOf 124 = 3 := by kernel_rfl
theorem cube_cells : Try.prog.cellsOf 121 = 2 := by kernel_rfl
theorem int_cells : Try.prog.cellsOf 3 = 1 := by kernel_rfl
theorem spans_cells : Try.prog.cellsOf 122 = 1 := by kernel_rfl
set_option maxRecDepth 100000 in
theorem box_trod {fuel : Nat} {cs : List Value} {x : DataW H × List MemPlace} (h : DataW.trod enc Try.prog W base spare held fuel 124 cs = some x) : ∃ (p : BoxI) (sv : Value), cs = [.int .i64 p.1.1, .int .i64 p.1.2, sv] ∧ Rd2 W sv p.2 := by
  obtain ⟨xs, k, _, _, hlen, hxl, hf⟩ := DataW.trod_struct Try.underlying124 h
  rw [box_cells] at hlen
  have g0 : DataW.trod enc Try.prog W base spare held k 121 ((cs.drop 0).take (Try.prog.cellsOf 121)) = xs[0]? := hf 0 _ rfl
  have g1 : DataW.trod enc Try.prog W base spare held k 122 ((cs.drop 2).take (Try.prog.cellsOf 122)) = xs[1]? := hf 1 _ rfl
  rw [cube_cells] at g0
  rw [spans_cells] at g1
  match xs, hxl, cs, hlen with
  | [y0, y1], _, [v0, v1, v2], _ =>
    simp at g0 g1
    obtain ⟨ys, k', _, _, hlen', hyl, hf'⟩ := DataW.trod_struct Try.underlying121 g0
    have q0 : DataW.trod enc Try.prog W base spare held k' 3 (([v0, v1].drop 0).take (Try.prog.cellsOf 3)) = ys[0]? := hf' 0 _ rfl
    have q1 : DataW.trod enc Try.prog W base spare held k' 3 (([v0, v1].drop 1).take (Try.prog.cellsOf 3)) = ys[1]? := hf' 1 _ rfl
    rw [int_cells] at q0 q1
    match ys, hyl with
    | [z0, z1], _ =>
      simp at q0 q1
      obtain ⟨a, ea, _, _⟩ := DataW.trod_int Try.underlying3 q0
      obtain ⟨b, eb, _, _⟩ := DataW.trod_int Try.underlying3 q1
      simp at ea eb
      obtain ⟨sv, s, es, hs⟩ := spans_trod g1
      simp at es
      subst ea eb es
      exact ⟨((a, b), s), v2, rfl, hs⟩
set_option maxRecDepth 100000 in
theorem boxes_trod {fuel : Nat} {cs : List Value} {x : DataW H × List MemPlace} (h : DataW.trod enc Try.prog W base spare held fuel 36 cs = some x) : ∃ v l, cs = [v] ∧ RdF W v l := by
  rcases open_slice Try.underlying36 h with ⟨rfl, _⟩ | ⟨a, len, cap, m, n, D, Pl, rfl, hb, hl, hm, hmm, hx, hcell⟩
  · exact ⟨_, [], rfl, RdF.nil W⟩
  · have hlm : len ≤ m := by rw [hmm]; split <;> omega
    obtain ⟨q, hq⟩ := choose_lt (α := BoxI) (n := len) (p := fun i p => ∃ sv, W.cell? (a.add (i * 3)) = some (.int .i64 p.1.1) ∧ W.cell? (a.add (i * 3 + 1)) = some (.int .i64 p.1.2) ∧ W.cell? (a.add (i * 3 + 2)) = some sv ∧ Rd2 W sv p.2) (fun i hi => by
        obtain ⟨cs', h1, h2⟩ := hcell i (by omega)
        rw [box_cells] at h1
        obtain ⟨p, sv, rfl, hs⟩ := box_trod h2
        obtain ⟨_, _, hc⟩ := World.cells?_some h1
        have e0 := hc 0 (by omega)
        have e1 := hc 1 (by omega)
        have e2 := hc 2 (by omega)
        rw [add_add] at e0 e1 e2
        exact ⟨p, sv, by simpa using e0, by simpa using e1, by simpa using e2, hs⟩)
    refine ⟨_, (List.range len).map q, rfl, ⟨some a, cap, by simp, by simpa using hl, fun hne => ?_⟩⟩
    have h0 : 0 < len := by
      rcases Nat.eq_zero_or_pos len with h | h
      · subst h; simp at hne
      · exact h
    obtain ⟨b, off, spot⟩ := a
    obtain ⟨_, hc0, _⟩ := hq 0 h0
    have hspot : spot = none := by simpa [Addr.add] using World.cell?_spot hc0
    subst hspot
    have hlt : b < W.heap.size := by
      have := block_lt_of_cell hc0
      simpa [Addr.add] using this
    refine ⟨b, off, rfl, hlt, fun i p hp => ?_⟩
    have hil : i < len := by
      have := (List.getElem?_eq_some_iff.1 hp).1
      simpa using this
    have hp' : p = q i := by
      simp [List.getElem?_map, List.getElem?_range hil] at hp
      exact hp.symm
    subst hp'
    obtain ⟨sv, q1, q2, q3, q4⟩ := hq i hil
    rw [add_none] at q1 q2 q3
    exact ⟨sv, q1, by rw [Nat.add_assoc]; exact q2, by rw [Nat.add_assoc]; exact q3, q4⟩
end
end Go.Proofs.Ytghjfakellaecaa

/- Arguments: slices of slices of boxes, slices of slices of slices of integers. -/
set_option linter.unusedVariables false
namespace Go.Proofs.Ytghjfakellaecaa
open Go.ChangeShapes Go.WideShapes Go.ChangeAt Go.RowKit Go.Deep Rm Gx
section
variable {H : Type} {enc : TypeId × Value → H} {W : World} {base : Nat} {spare : Nat → Bool} {held : Bool}
set_option maxRecDepth 100000 in
theorem vals_trod {α : Type} [Inhabited α] {R : World → Value → α → Prop} {S E : TypeId} (hu : Try.prog.underlying S = some (.slice E)) (hc1 : Try.prog.cellsOf E = 1)
    (hE : ∀ (fuel : Nat) (cs : List Value) (x : DataW H × List MemPlace), DataW.trod enc Try.prog W base spare held fuel E cs = some x → ∃ u l, cs = [u] ∧ R W u l)
    {fuel : Nat} {cs : List Value} {x : DataW H × List MemPlace} (h : DataW.trod enc Try.prog W base spare held fuel S cs = some x) : ∃ (a : Option Addr) (L : List α) (c : Nat), cs = [.slice a L.length c] ∧ L.length ≤ c ∧ (a = none → c = 0) ∧ RdV R W a L := by
  rcases open_slice hu h with ⟨rfl, _⟩ | ⟨a, len, cap, m, n, D, Pl, rfl, hb, hl, hm, hmm, hx, hcell⟩
  · exact ⟨none, [], 0, rfl, Nat.le_refl _, fun _ => rfl, fun hn => absurd rfl hn⟩
  · have hlm : len ≤ m := by rw [hmm]; split <;> omega
    obtain ⟨q, hq⟩ := choose_lt (α := α) (n := len) (p := fun i p => ∃ u, W.cell? (a.add i) = some u ∧ R W u p) (fun i hi => by
        obtain ⟨cs', h1, h2⟩ := hcell i (by omega)
        rw [hc1] at h1
        obtain ⟨u, p, rfl, hs⟩ := hE _ _ _ h2
        obtain ⟨_, _, hc⟩ := World.cells?_some h1
        have e0 := hc 0 (by omega)
        rw [add_add] at e0
        exact ⟨p, u, by simpa using e0, hs⟩)
    refine ⟨some a, (List.range len).map q, cap, by simp, by simpa using hl, (fun e => by cases e), fun hne => ?_⟩
    have h0 : 0 < len := by
      rcases Nat.eq_zero_or_pos len with h | h
      · subst h; simp at hne
      · exact h
    obtain ⟨b, off, spot⟩ := a
    obtain ⟨_, hc0, _⟩ := hq 0 h0
    have hspot : spot = none := by simpa [Addr.add] using World.cell?_spot hc0
    subst hspot
    have hlt : b < W.heap.size := by
      have := block_lt_of_cell hc0
      simpa [Addr.add] using this
    refine ⟨b, off, rfl, hlt, fun i p hp => ?_⟩
    have hil : i < len := by
      have := (List.getElem?_eq_some_iff.1 hp).1
      simpa using this
    have hp' : p = q i := by
      simp [List.getElem?_map, List.getElem?_range hil] at hp
      exact hp.symm
    subst hp'
    obtain ⟨u, q1, q2⟩ := hq i hil
    rw [add_none] at q1
    exact ⟨u, by rw [Nat.mul_one]; exact q1, q2⟩
theorem boxrows_cells : Try.prog.cellsOf 36 = 1 := by kernel_rfl
theorem introws_cells : Try.prog.cellsOf 98 = 1 := by kernel_rfl
set_option maxRecDepth 100000 in
theorem open_boxrows {r : Reach} {b0 : Nat} {v : Value} {d : DataW H} {p : List MemPlace}
    (hv : Value.okWide Try.prog W r b0 46 v) (h : DataW.Trod enc Try.prog W base spare held 46 v d p) : ∃ (a : Option Addr) (L : List (List BoxI)) (c : Nat), v = .slice a L.length c ∧ L.length ≤ c ∧ RdV (fun w u x => RdF w u x) W a L := by
  obtain ⟨a0, len0, cap0, rfl⟩ := okWide_slice Try.underlying46 hv
  obtain ⟨fuel, hf⟩ := h
  obtain ⟨a, L, c, e, h1, -, h2⟩ := vals_trod (R := fun w u x => RdF w u x) Try.underlying46 boxrows_cells (fun _ _ _ q => boxes_trod q) hf
  simp [Value.cells] at e
  exact ⟨a, L, c, by simp [e], h1, h2⟩
set_option maxRecDepth 100000 in
theorem open_rows3 {r : Reach} {b0 : Nat} {v : Value} {d : DataW H} {p : List MemPlace}
    (hv : Value.okWide Try.prog W r b0 47 v) (h : DataW.Trod enc Try.prog W base spare held 47 v d p) : ∃ (a : Option Addr) (L : List (List (List Int))) (c : Nat), v = .slice a L.length c ∧ RdV (fun w u x => RdLL w u x) W a L := by
  obtain ⟨a0, len0, cap0, rfl⟩ := okWide_slice Try.underlying47 hv
  obtain ⟨fuel, hf⟩ := h
  obtain ⟨a, L, c, e, h1, -, h2⟩ := vals_trod (R := fun w u x => RdLL w u x) Try.underlying47 introws_cells (fun _ _ _ q => rows_trod q) hf
  simp [Value.cells] at e
  exact ⟨a, L, c, by simp [e], h2⟩
end
end Go.Proofs.Ytghjfakellaecaa

