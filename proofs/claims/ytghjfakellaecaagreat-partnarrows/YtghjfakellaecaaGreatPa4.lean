/- Joined: FilK, FilDB, FilL, FilS, PtC, PtD, PtE, MkSort, MkComp, PtK, PtF, PtG. -/
import Derived.Test.YtghjfakellaecaaGreatPa3
import Derived.Laws.Bits128
import Derived.ChangeKeysEq
/- Joined: FilO, FilK. -/
/- The contract of math/bits.OnesCount64 over words of 32 bits. -/
namespace Rm
open Go Go.RowKit
set_option linter.unusedVariables false
theorem and_split (a b c d : Nat) (ha : a < 256) (hc : c < 256) : (a + 256 * b) &&& (c + 256 * d) = (a &&& c) + 256 * (b &&& d) := by
  have hac : a &&& c < 256 := Nat.lt_of_le_of_lt Nat.and_le_left ha
  have key : ∀ x y, x < 256 → (x + 256 * y) = 2 ^ 8 * y + x := fun x y _ => by omega
  rw [key a b ha, key c d hc, key (a &&& c) (b &&& d) hac]
  apply Nat.eq_of_testBit_eq
  intro i
  rw [Nat.testBit_and, Nat.testBit_two_pow_mul_add _ (by omega), Nat.testBit_two_pow_mul_add _ (by omega), Nat.testBit_two_pow_mul_add _ (by omega)]
  by_cases h : i < 8
  · simp [h]
  · simp [h]
/-- the steps of the reckoning, in a byte -/
def s1 (a : Nat) : Nat := ((a / 2) &&& 85) + (a &&& 85)
def s2 (a : Nat) : Nat := ((a / 4) &&& 51) + (a &&& 51)
def s3 (a : Nat) : Nat := (a / 16 + a) &&& 15
def stTab : Bool := (List.range 256).all fun a => (List.range 16).all fun r =>
  ((a / 2 + 128 * (r % 2)) &&& 85 == (a / 2) &&& 85) && (((a / 4 + 64 * (r % 4)) &&& 51) == (a / 4) &&& 51) && decide (s1 a < 256) && decide (s2 a < 256) &&
  (!(decide (r ≤ 4)) || ((s2 (s1 a) / 16 + 16 * r + s2 (s1 a)) &&& 15 == s3 (s2 (s1 a)))) && decide (s2 (s1 a) % 16 ≤ 4) && decide (s2 (s1 a) / 16 ≤ 4) && (s3 (s2 (s1 a)) == popTo a 8) && decide (s2 (s1 a) / 16 + 16 * 4 + s2 (s1 a) < 256)
theorem stTab_true : stTab = true := by decide +kernel
theorem stTab_at (a r : Nat) (ha : a < 256) (hr : r < 16) : ((a / 2 + 128 * (r % 2)) &&& 85 = (a / 2) &&& 85) ∧ (((a / 4 + 64 * (r % 4)) &&& 51) = (a / 4) &&& 51) ∧ s1 a < 256 ∧ s2 a < 256 ∧
    (r ≤ 4 → (s2 (s1 a) / 16 + 16 * r + s2 (s1 a)) &&& 15 = s3 (s2 (s1 a))) ∧ s2 (s1 a) % 16 ≤ 4 ∧ s2 (s1 a) / 16 ≤ 4 ∧ s3 (s2 (s1 a)) = popTo a 8 ∧ s2 (s1 a) / 16 + 16 * 4 + s2 (s1 a) < 256 := by
  have H := stTab_true
  unfold stTab at H
  rw [List.all_eq_true] at H
  have H1 := H a (List.mem_range.2 ha)
  rw [List.all_eq_true] at H1
  have H2 := H1 r (List.mem_range.2 hr)
  simp only [Bool.and_eq_true, beq_iff_eq, decide_eq_true_eq, Bool.or_eq_true, Bool.not_eq_true', decide_eq_false_iff_not] at H2
  obtain ⟨⟨⟨⟨⟨⟨⟨⟨h1, h2⟩, h3⟩, h4⟩, h5⟩, h6⟩, h7⟩, h8⟩, h9⟩ := H2
  exact ⟨h1, h2, h3, h4, fun hr => by rcases h5 with h | h; · exact absurd hr h
                                      · exact h, h6, h7, h8, h9⟩
/-- four bytes -/
def by4 (a b c d : Nat) : Nat := a + 256 * (b + 256 * (c + 256 * d))
theorem by4_of (x : Nat) (h : x < 2 ^ 32) : x = by4 (x % 256) (x / 256 % 256) (x / 65536 % 256) (x / 16777216 % 256) := by unfold by4; omega
theorem and4 (a b c d m r : Nat) (ha : a < 256) (hb : b < 256) (hc : c < 256) (hd : d < 256) (hm : m < 256) : by4 a b c d &&& (m + 256 * (m + 256 * (m + 256 * (m + 256 * r)))) = by4 (a &&& m) (b &&& m) (c &&& m) (d &&& m) := by
  unfold by4
  rw [and_split _ _ _ _ ha hm, and_split _ _ _ _ hb hm, and_split _ _ _ _ hc hm]
  have := and_split d 0 m r hd hm
  simp only [Nat.mul_zero, Nat.add_zero, Nat.zero_and] at this
  rw [this]
theorem half4 (a b c d : Nat) (ha : a < 256) (hb : b < 256) (hc : c < 256) (hd : d < 256) : by4 a b c d / 2 = by4 (a / 2 + 128 * (b % 2)) (b / 2 + 128 * (c % 2)) (c / 2 + 128 * (d % 2)) (d / 2) := by unfold by4; omega
theorem quar4 (a b c d : Nat) (ha : a < 256) (hb : b < 256) (hc : c < 256) (hd : d < 256) : by4 a b c d / 4 = by4 (a / 4 + 64 * (b % 4)) (b / 4 + 64 * (c % 4)) (c / 4 + 64 * (d % 4)) (d / 4) := by unfold by4; omega
theorem add4 (a b c d a' b' c' d' : Nat) : by4 a b c d + by4 a' b' c' d' = by4 (a + a') (b + b') (c + c') (d + d') := by unfold by4; omega
theorem six4 (a b c d : Nat) (ha : a < 256) (hb : b < 256) (hc : c < 256) (hd : d < 256) : by4 a b c d / 16 = by4 (a / 16 + 16 * (b % 16)) (b / 16 + 16 * (c % 16)) (c / 16 + 16 * (d % 16)) (d / 16) := by unfold by4; omega
theorem step1 (a b c d : Nat) (ha : a < 256) (hb : b < 256) (hc : c < 256) (hd : d < 256) : (by4 a b c d / 2 &&& 6148914691236517205) + (by4 a b c d &&& 6148914691236517205) = by4 (s1 a) (s1 b) (s1 c) (s1 d) := by
  have e : (6148914691236517205 : Nat) = 85 + 256 * (85 + 256 * (85 + 256 * (85 + 256 * 1431655765))) := by decide
  rw [e, half4 a b c d ha hb hc hd, and4 _ _ _ _ 85 _ (by omega) (by omega) (by omega) (by omega) (by omega), and4 a b c d 85 _ ha hb hc hd (by omega), add4]
  have ta := (stTab_at a (b % 16) ha (by omega)).1
  have tb := (stTab_at b (c % 16) hb (by omega)).1
  have tc := (stTab_at c (d % 16) hc (by omega)).1
  rw [show b % 16 % 2 = b % 2 by omega] at ta
  rw [show c % 16 % 2 = c % 2 by omega] at tb
  rw [show d % 16 % 2 = d % 2 by omega] at tc
  rw [ta, tb, tc]
  rfl
theorem step2 (a b c d : Nat) (ha : a < 256) (hb : b < 256) (hc : c < 256) (hd : d < 256) : (by4 a b c d / 4 &&& 3689348814741910323) + (by4 a b c d &&& 3689348814741910323) = by4 (s2 a) (s2 b) (s2 c) (s2 d) := by
  have e : (3689348814741910323 : Nat) = 51 + 256 * (51 + 256 * (51 + 256 * (51 + 256 * 858993459))) := by decide
  rw [e, quar4 a b c d ha hb hc hd, and4 _ _ _ _ 51 _ (by omega) (by omega) (by omega) (by omega) (by omega), and4 a b c d 51 _ ha hb hc hd (by omega), add4]
  have ta := (stTab_at a (b % 16) ha (by omega)).2.1
  have tb := (stTab_at b (c % 16) hb (by omega)).2.1
  have tc := (stTab_at c (d % 16) hc (by omega)).2.1
  rw [show b % 16 % 4 = b % 4 by omega] at ta
  rw [show c % 16 % 4 = c % 4 by omega] at tb
  rw [show d % 16 % 4 = d % 4 by omega] at tc
  rw [ta, tb, tc]
  rfl
theorem step3 (a b c d : Nat) (ha : a < 256) (hb : b < 256) (hc : c < 256) (hd : d < 256) :
    ((by4 (s2 (s1 a)) (s2 (s1 b)) (s2 (s1 c)) (s2 (s1 d)) / 16 + by4 (s2 (s1 a)) (s2 (s1 b)) (s2 (s1 c)) (s2 (s1 d))) &&& 1085102592571150095) = by4 (popTo a 8) (popTo b 8) (popTo c 8) (popTo d 8) := by
  have e : (1085102592571150095 : Nat) = 15 + 256 * (15 + 256 * (15 + 256 * (15 + 256 * 252645135))) := by decide
  obtain ⟨_, _, _, _, _, ma, qa, pa, za⟩ := stTab_at a 0 ha (by omega)
  obtain ⟨_, _, _, _, _, mb, qb, pb, zb⟩ := stTab_at b 0 hb (by omega)
  obtain ⟨_, _, _, _, _, mc, qc, pc, zc⟩ := stTab_at c 0 hc (by omega)
  obtain ⟨_, _, _, _, r0, md, qd, pd, zd⟩ := stTab_at d 0 hd (by omega)
  have ra := (stTab_at a (s2 (s1 b) % 16) ha (by omega)).2.2.2.2.1 mb
  have rb := (stTab_at b (s2 (s1 c) % 16) hb (by omega)).2.2.2.2.1 mc
  have rc := (stTab_at c (s2 (s1 d) % 16) hc (by omega)).2.2.2.2.1 md
  have rd := r0 (by omega)
  rw [e, six4 _ _ _ _ (by omega) (by omega) (by omega) (by omega), add4, and4 _ _ _ _ 15 _ (by omega) (by omega) (by omega) (by omega) (by omega), ra, rb, rc, pa, pb, pc]
  rw [Nat.mul_zero, Nat.add_zero] at rd
  rw [rd, pd]
theorem pop_end (p q r s : Nat) (hp : p ≤ 8) (hq : q ≤ 8) (hr : r ≤ 8) (hs : s ≤ 8) : ∀ x y z, x = by4 p q r s + by4 p q r s / 256 → y = x + x / 65536 → z = y + y / 4294967296 → z % 128 = p + q + r + s := by
  intro x y z hx hy hz
  have d1 : by4 p q r s / 256 = q + 256 * (r + 256 * s) := by unfold by4; omega
  rw [d1] at hx
  unfold by4 at hx
  have d2 : x / 65536 = r + s + 256 * s := by omega
  rw [d2] at hy
  have d3 : y / 4294967296 = 0 := by omega
  rw [d3] at hz
  omega
end Rm
namespace Go.Proofs.YtghjfakellaecaaGreat
open Go.RowKit Rm
set_option linter.unusedVariables false

theorem u64_small (n : Nat) (h : n < 18446744073709551616) : IntKind.u64.wrap (n : Int) = (n : Int) := by rw [IntKind.wrap_u64]; omega
theorem ones_eqs (x : Nat) (hx : x < 2 ^ 32) : ∃ y1 y2 y3 y4 y5 y6 : Nat,
    IntKind.u64.wrap (bits .and .u64 ((x : Int) / 2) 6148914691236517205 + bits .and .u64 (x : Int) 6148914691236517205) = (y1 : Int) ∧
    IntKind.u64.wrap (bits .and .u64 ((y1 : Int) / 4) 3689348814741910323 + bits .and .u64 (y1 : Int) 3689348814741910323) = (y2 : Int) ∧
    bits .and .u64 (IntKind.u64.wrap ((y2 : Int) / 16 + (y2 : Int))) 1085102592571150095 = (y3 : Int) ∧
    IntKind.u64.wrap ((y3 : Int) + (y3 : Int) / 256) = (y4 : Int) ∧ IntKind.u64.wrap ((y4 : Int) + (y4 : Int) / 65536) = (y5 : Int) ∧ IntKind.u64.wrap ((y5 : Int) + (y5 : Int) / 4294967296) = (y6 : Int) ∧
    (y6 : Int) < 17179869184 ∧ bits .and .i64 (y6 : Int) 127 = ((popc x : Nat) : Int) := by
  have ha : x % 256 < 256 := by omega
  have hb : x / 256 % 256 < 256 := by omega
  have hc : x / 65536 % 256 < 256 := by omega
  have hd : x / 16777216 % 256 < 256 := by omega
  have hp := popc_bytes x
  have q1 := step1 _ _ _ _ ha hb hc hd
  rw [← by4_of x hx] at q1
  have la := (stTab_at _ 0 ha (by omega))
  have lb := (stTab_at _ 0 hb (by omega))
  have lc := (stTab_at _ 0 hc (by omega))
  have ld := (stTab_at _ 0 hd (by omega))
  have q2 := step2 _ _ _ _ la.2.2.1 lb.2.2.1 lc.2.2.1 ld.2.2.1
  have q3 := step3 _ _ _ _ ha hb hc hd
  generalize x % 256 = a at *
  generalize x / 256 % 256 = b at *
  generalize x / 65536 % 256 = c at *
  generalize x / 16777216 % 256 = d at *
  have pa := popTo_le a 8
  have pb := popTo_le b 8
  have pc := popTo_le c 8
  have pd := popTo_le d 8
  have z1 : by4 (s1 a) (s1 b) (s1 c) (s1 d) < 4294967296 := by have := la.2.2.1; have := lb.2.2.1; have := lc.2.2.1; have := ld.2.2.1; unfold by4; omega
  have z2 : by4 (s2 (s1 a)) (s2 (s1 b)) (s2 (s1 c)) (s2 (s1 d)) < 4294967296 := by
    have := la.2.2.2.2.2.2.2.2; have := lb.2.2.2.2.2.2.2.2; have := lc.2.2.2.2.2.2.2.2; have := ld.2.2.2.2.2.2.2.2
    unfold by4; omega
  have z3 : by4 (popTo a 8) (popTo b 8) (popTo c 8) (popTo d 8) < 4294967296 := by unfold by4; omega
  have hfin := pop_end _ _ _ _ pa pb pc pd _ _ _ rfl rfl rfl
  clear la lb lc ld
  generalize by4 (s1 a) (s1 b) (s1 c) (s1 d) = y1 at *
  generalize by4 (s2 (s1 a)) (s2 (s1 b)) (s2 (s1 c)) (s2 (s1 d)) = y2 at *
  generalize by4 (popTo a 8) (popTo b 8) (popTo c 8) (popTo d 8) = y3 at *
  have l1 : x / 2 &&& 6148914691236517205 ≤ x / 2 := Nat.and_le_left
  have l2 : x &&& 6148914691236517205 ≤ x := Nat.and_le_left
  have l3 : y1 / 4 &&& 3689348814741910323 ≤ y1 / 4 := Nat.and_le_left
  have l4 : y1 &&& 3689348814741910323 ≤ y1 := Nat.and_le_left
  have h32 : x < 4294967296 := hx
  refine ⟨y1, y2, y3, y3 + y3 / 256, y3 + y3 / 256 + (y3 + y3 / 256) / 65536,
    y3 + y3 / 256 + (y3 + y3 / 256) / 65536 + (y3 + y3 / 256 + (y3 + y3 / 256) / 65536) / 4294967296, ?_, ?_, ?_, ?_, ?_, ?_, ?_, ?_⟩
  · have e1 := u64_and_nat (x / 2) 6148914691236517205 (by omega) (by omega)
    have e2 := u64_and_nat x 6148914691236517205 (by omega) (by omega)
    rw [show ((x / 2 : Nat) : Int) = (x : Int) / 2 by omega] at e1
    rw [show (((6148914691236517205 : Nat)) : Int) = 6148914691236517205 from rfl] at e1 e2
    rw [e1, e2, ← Int.natCast_add, q1]
    exact u64_small _ (by omega)
  · have e1 := u64_and_nat (y1 / 4) 3689348814741910323 (by omega) (by omega)
    have e2 := u64_and_nat y1 3689348814741910323 (by omega) (by omega)
    rw [show ((y1 / 4 : Nat) : Int) = (y1 : Int) / 4 by omega] at e1
    rw [show (((3689348814741910323 : Nat)) : Int) = 3689348814741910323 from rfl] at e1 e2
    rw [e1, e2, ← Int.natCast_add, q2]
    exact u64_small _ (by omega)
  · rw [show (y2 : Int) / 16 + (y2 : Int) = ((y2 / 16 + y2 : Nat) : Int) by omega, u64_small _ (by omega)]
    have e1 := u64_and_nat (y2 / 16 + y2) 1085102592571150095 (by omega) (by omega)
    rw [q3] at e1
    exact e1
  · rw [show (y3 : Int) + (y3 : Int) / 256 = ((y3 + y3 / 256 : Nat) : Int) by omega]
    exact u64_small _ (by omega)
  · have z4 : y3 + y3 / 256 < 8589934592 := by omega
    generalize y3 + y3 / 256 = y4 at *
    rw [show (y4 : Int) + (y4 : Int) / 65536 = ((y4 + y4 / 65536 : Nat) : Int) by omega]
    exact u64_small _ (by omega)
  · have z5 : y3 + y3 / 256 + (y3 + y3 / 256) / 65536 < 17179869184 := by omega
    generalize y3 + y3 / 256 + (y3 + y3 / 256) / 65536 = y5 at *
    rw [show (y5 : Int) + (y5 : Int) / 4294967296 = ((y5 + y5 / 4294967296 : Nat) : Int) by omega]
    exact u64_small _ (by omega)
  · omega
  · rw [i64_and127, hp, ← hfin]
    omega

set_option maxHeartbeats 1000000 in
set_option maxRecDepth 100000 in
theorem ones64_mask (x : Nat) (w : World) (hx : x < 2 ^ 32) :
    Calls Tryz.prog 151 #[.int .u64 x] w fun e w' => e = .returned (.int .i64 (popc x : Nat)) ∧ w = w' := by
  obtain ⟨y1, y2, y3, y4, y5, y6, e1, e2, e3, e4, e5, e6, e7, e8⟩ := ones_eqs x hx
  have hx' : (x : Int) < 4294967296 := by omega
  clear hx
  go_enter Tryz.func151, Tryz.ntmps151
  go_wp2
  go_ret
  exact ⟨rfl, rfl⟩
end Go.Proofs.YtghjfakellaecaaGreat
/- Package filter by tables: what each function does to filters that are told by the numbers of each combination of tags. -/
namespace Rm
open Go Go.RowKit
/-- have two tables the same numbers? -/
def eqT (T U : Nat → Nat) : Bool := (List.range 16).all fun i => ((T i : Nat) : Int) == ((U i : Nat) : Int)
def allT (P : Nat → Bool) : Bool := (List.range 16).all P
theorem allT_iff {P : Nat → Bool} : allT P = true ↔ ∀ t, t < 16 → P t = true := by simp [allT]
theorem allT_congr {P Q : Nat → Bool} (h : ∀ t, t < 16 → P t = Q t) : allT P = allT Q := by
  rw [Bool.eq_iff_iff, allT_iff, allT_iff]
  exact ⟨fun a t ht => by rw [← h t ht]; exact a t ht, fun a t ht => by rw [h t ht]; exact a t ht⟩
def withinT (T U : Nat → Nat) : Bool := allT fun t => lessM (T t) (U t) == 0
theorem eqT_zero (T : Nat → Nat) : eqT T (fun _ => 0) = allT fun t => T t == 0 := by
  refine allT_congr fun t _ => ?_
  rw [Bool.eq_iff_iff]
  simp
end Rm
namespace Go.Proofs.YtghjfakellaecaaGreat
open Go.RowKit Rm
set_option linter.unusedVariables false

theorem eqItems_tArr (d : Nat) (T U : Nat → Nat) (w : World) : ∀ is : List Nat, (∀ i ∈ is, i < 16) → (Op.eqItems (d + 1) 126 1 (tArr T) (tArr U) is).run Tryz.prog w = .ok (is.all fun i => ((T i : Nat) : Int) == ((U i : Nat) : Int)) w
  | [], _ => by simp [Op.eqItems]
  | i :: is, h => by
    have hi : i < 16 := h i (List.mem_cons_self ..)
    have ih := eqItems_tArr d T U w is (fun j hj => h j (List.mem_cons_of_mem _ hj))
    have ha : (isAgg 126).run Tryz.prog w = .ok false w := by
      unfold isAgg
      rw [Sem.run_bind, run_underlying Tryz.underlying126 w]
      rfl
    have p1 : (part 126 (tArr T) (i * 1)).run Tryz.prog w = .ok (.int .u64 (T i : Nat)) w := by
      unfold part
      rw [Sem.run_bind, ha]
      simp [tArr_at T i hi]
    have p2 : (part 126 (tArr U) (i * 1)).run Tryz.prog w = .ok (.int .u64 (U i : Nat)) w := by
      unfold part
      rw [Sem.run_bind, ha]
      simp [tArr_at U i hi]
    have p3 : (Op.equalIn (d + 1) 126 (.int .u64 (T i : Nat)) (.int .u64 (U i : Nat))).run Tryz.prog w = .ok (((T i : Nat) : Int) == ((U i : Nat) : Int)) w := by
      simp [Op.equalIn, Sem.run_bind, run_underlying Tryz.underlying126]
    simp only [Op.eqItems, Sem.run_bind, p1, p2, p3, Result.andThen_ok]
    cases hc : (((T i : Nat) : Int) == ((U i : Nat) : Int))
    · simp [hc]
    · simp [hc, ih]
theorem set_cells : Tryz.prog.cellsOf 126 = 1 := by kernel_rfl
theorem eq_tables (T U : Nat → Nat) (w : World) : (Op.equalIn 10000 128 (.agg (tArr T)) (.agg (tArr U))).run Tryz.prog w = .ok (eqT T U) w := by
  obtain ⟨i, hi⟩ : ∃ i, Tryz.prog.info? 126 = some i := by
    cases hq : Tryz.prog.info? 126 with
    | none => have := set_info; rw [hq] at this; simp at this
    | some i => exact ⟨i, rfl⟩
  rw [run_equalIn_array (P := Tryz.prog) w 9999 (tArr T) (tArr U) Tryz.underlying128 hi, set_cells]
  exact eqItems_tArr 9998 T U w (List.range 16) (fun i hi => List.mem_range.1 hi)

/-- a slice that is the filter of a table -/
def FSn (n : Nat) (w : World) (v : Value) (T : Nat → Nat) : Prop := ∃ F, RdF w v (F.map boxI) ∧ OkF F ∧ F.length ≤ n ∧ ∀ t, t < 16 → tabF F t = T t
abbrev FS (w : World) (v : Value) (T : Nat → Nat) : Prop := FSn 40 w v T
theorem FSn.gr {n : Nat} {w w' : World} {v : Value} {T : Nat → Nat} (h : FSn n w v T) (g : Gr w w') : FSn n w' v T := by
  obtain ⟨F, h1, h2⟩ := h
  exact ⟨F, h1.gr g, h2⟩
theorem FSn.alloc {n : Nat} {w : World} {v : Value} {T : Nat → Nat} (h : FSn n w v T) (o : Obj) : FSn n (w.alloc o) v T := h.gr ((Gr.refl w).alloc o)
theorem FSn.le {n m : Nat} {w : World} {v : Value} {T : Nat → Nat} (h : FSn n w v T) (hn : n ≤ m) : FSn m w v T := by
  obtain ⟨F, h1, h2, h3, h4⟩ := h
  exact ⟨F, h1, h2, by omega, h4⟩
theorem FSn.lt {n : Nat} {w : World} {v : Value} {T : Nat → Nat} (h : FSn n w v T) (t : Nat) (ht : t < 16) : T t < 2 ^ 32 := by
  obtain ⟨F, h1, h2, h3, h4⟩ := h
  rw [← h4 t ht]
  exact tabF_lt h2 t
theorem FSn.ext {n : Nat} {w : World} {v : Value} {T U : Nat → Nat} (h : FSn n w v T) (e : ∀ t, t < 16 → T t = U t) : FSn n w v U := by
  obtain ⟨F, h1, h2, h3, h4⟩ := h
  exact ⟨F, h1, h2, h3, fun t ht => (h4 t ht).trans (e t ht)⟩
/-- a filter in new memory: the slice, and the slices of its boxes, own what they hold -/
def FO (base n : Nat) (w : World) (v : Value) (T : Nat → Nat) : Prop :=
  ∃ O : List (Bx × Value), w.ownsRow base 96 3 v O.length (flatO O) ∧ (∀ p ∈ O, w.ownsRow base 91 2 p.2 (pairs (canon p.1.2)).length (flat (pairs (canon p.1.2)))) ∧ OkF (O.map (·.1)) ∧ O.length ≤ n ∧ ∀ t, t < 16 → tabF (O.map (·.1)) t = T t
theorem own_base {w : World} {base base' : Nat} {e : TypeId} {size : Nat} {v : Value} {n : Nat} {xs : List Value} (h : w.ownsRow base e size v n xs) (hb : base' ≤ base) : w.ownsRow base' e size v n xs := by
  refine ⟨h.1, ?_⟩
  rcases h.2 with ⟨a, b⟩ | ⟨g, cap, cur, a, b, c⟩
  · exact .inl ⟨a, b⟩
  · exact .inr ⟨g, cap, cur, a, Nat.le_trans hb b, c⟩
theorem FO.gr {base n : Nat} {w w' : World} {v : Value} {T : Nat → Nat} (h : FO base n w v T) (g : Gr w w') : FO base n w' v T := by
  obtain ⟨O, h1, h2, h3⟩ := h
  exact ⟨O, own_gr h1 g, fun p hp => own_gr (h2 p hp) g, h3⟩
theorem FO.base {base base' n : Nat} {w : World} {v : Value} {T : Nat → Nat} (h : FO base n w v T) (hb : base' ≤ base) : FO base' n w v T := by
  obtain ⟨O, h1, h2, h3⟩ := h
  exact ⟨O, own_base h1 hb, fun p hp => own_base (h2 p hp) hb, h3⟩
theorem FO.le {base n m : Nat} {w : World} {v : Value} {T : Nat → Nat} (h : FO base n w v T) (hn : n ≤ m) : FO base m w v T := by
  obtain ⟨O, h1, h2, h3, h4, h5⟩ := h
  exact ⟨O, h1, h2, h3, by omega, h5⟩
theorem FO.ext {base n : Nat} {w : World} {v : Value} {T U : Nat → Nat} (h : FO base n w v T) (e : ∀ t, t < 16 → T t = U t) : FO base n w v U := by
  obtain ⟨O, h1, h2, h3, h4, h5⟩ := h
  exact ⟨O, h1, h2, h3, h4, fun t ht => (h5 t ht).trans (e t ht)⟩
theorem FO.fs {base n : Nat} {w : World} {v : Value} {T : Nat → Nat} (h : FO base n w v T) : FSn n w v T := by
  obtain ⟨O, h1, h2, h3, h4, h5⟩ := h
  exact ⟨O.map (·.1), rd_own h1 h2, h3, by simpa using h4, h5⟩
theorem boxes_own {T : Nat → Nat} {w : World} (hT : ∀ t, t < 16 → T t < 2 ^ 32) : Calls Tryz.prog 73 #[.agg (tArr T)] w fun e w' => ∃ u, e = .returned u ∧ FO w.heap.size 16 w' u T ∧ Gr w w' :=
  (boxes_any T w hT).mono fun e w' ⟨u, O, he, hg, ⟨wl, hl1, ho⟩, hok, hl, ht⟩ => ⟨u, he, ⟨O, own_base ho.2.1 hl1.le, fun p hp => own_base (ho.2.2 p hp).1 hl1.le, hok, by have := blkT_len T 16; omega, ht⟩, hg⟩
theorem boxes_none {w : World} : Calls Tryz.prog 73 #[.agg (tArr fun _ => 0)] w fun e w' => ∃ a c, e = .returned (.slice a 0 c) ∧ Gr w w' :=
  (boxes_any (fun _ => 0) w (fun t _ => by decide)).mono fun e w' ⟨u, O, he, hg, ⟨wl, _, ho⟩, hok, hl, ht⟩ => by
    have h0 : O.length = 0 := by
      have : (blkT (fun _ => 0) 16).length = 0 := by decide
      omega
    obtain ⟨a, c, rfl, _⟩ := own_form ho.2.1
    exact ⟨a, c, by rw [he, h0], hg⟩

set_option maxHeartbeats 1000000 in
set_option maxRecDepth 100000 in
theorem fjoin_own {v v' : Value} {T U : Nat → Nat} {w : World} (h : FS w v T) (h' : FS w v' U) :
    Calls Tryz.prog 29 #[v, v'] w fun e w' => ∃ u, e = .returned (.tuple #[u, .int .i64 0]) ∧ FO w.heap.size 16 w' u (fun t => T t ||| U t) ∧ Gr w w' := by
  obtain ⟨F, h1, hF, hl1, t1⟩ := h
  obtain ⟨G, h2, hG, hl2, t2⟩ := h'
  obtain ⟨R, hR⟩ : ∃ R : Nat → Nat, R = fun t => tabF F t ||| tabF G t := ⟨_, rfl⟩
  have HS : Hid ((Tryz.prog.info? 128).map (·.size) = some (tArr R).size) := by rw [tArr_size]; exact table_info
  have HSZ : Hid ((tArr fun _ => 0).size = (tArr R).size) := by rw [tArr_size, tArr_size]; rfl
  have H1 := Lib.hid (tArr_one R)
  have HLT : Hid (∀ t, t < 16 → R t < 2 ^ 32) := fun t _ => by rw [hR]; exact Nat.or_lt_two_pow (tabF_lt hF t) (tabF_lt hG t)
  have HT : Hid (∀ t, t < 16 → R t = T t ||| U t) := fun t ht => by rw [hR]; simp only; rw [t1 t ht, t2 t ht]
  have HCC := Lib.hid (fcombine_join v v' F G w h1 h2 hF hG hl1 hl2)
  rw [← hR] at HCC
  clear h1 h2 hF hG hl1 hl2 t1 t2 hR
  go_enter Tryz.func29, Tryz.ntmps29
  go_wp2_with fail
  refine HCC.out.mono ?_
  rintro e w1 ⟨rfl, g1⟩
  go_wp2_with (first
    | (refine wpList_store_row rfl 128 (.tmp 6) (.tmp 12) rfl w1.heap.size (tArr R) rfl rfl 128 _ (heap_alloc_new _ _) HS.out HSZ.out H1.out ?_)
    | (refine wpList_load_row rfl 128 _ rfl w1.heap.size rfl 128 (tArr R) (0, 0) _ (setRow_heap _ _ _ _ _ _ (heap_alloc_new _ _)) Tryz.underlying128 rfl HS.out ?_))
  refine (boxes_own HLT.out).mono ?_
  rintro e w2 ⟨u, rfl, hu, g2⟩
  go_wp2_with fail
  go_ret2
  exact ⟨u, rfl, (hu.ext HT.out).base ((g1.alloc _).setRow g1.le _).le, ((g1.alloc _).setRow g1.le _).trans g2⟩
theorem fjoin_ok {v v' : Value} {T U : Nat → Nat} {w : World} (h : FS w v T) (h' : FS w v' U) :
    Calls Tryz.prog 29 #[v, v'] w fun e w' => ∃ u, e = .returned (.tuple #[u, .int .i64 0]) ∧ FSn 16 w' u (fun t => T t ||| U t) ∧ Gr w w' :=
  (fjoin_own h h').mono fun e w' ⟨u, he, hu, g⟩ => ⟨u, he, hu.fs, g⟩

set_option maxHeartbeats 1000000 in
set_option maxRecDepth 100000 in
theorem fmeet_own {v v' : Value} {T U : Nat → Nat} {w : World} (h : FS w v T) (h' : FS w v' U) :
    Calls Tryz.prog 28 #[v, v'] w fun e w' => ∃ u, e = .returned (.tuple #[u, .int .i64 0]) ∧ FO w.heap.size 16 w' u (fun t => T t &&& U t) ∧ Gr w w' := by
  obtain ⟨F, h1, hF, hl1, t1⟩ := h
  obtain ⟨G, h2, hG, hl2, t2⟩ := h'
  obtain ⟨R, hR⟩ : ∃ R : Nat → Nat, R = fun t => tabF F t &&& tabF G t := ⟨_, rfl⟩
  have HS : Hid ((Tryz.prog.info? 128).map (·.size) = some (tArr R).size) := by rw [tArr_size]; exact table_info
  have HSZ : Hid ((tArr fun _ => 0).size = (tArr R).size) := by rw [tArr_size, tArr_size]; rfl
  have H1 := Lib.hid (tArr_one R)
  have HLT : Hid (∀ t, t < 16 → R t < 2 ^ 32) := fun t _ => by rw [hR]; exact Nat.lt_of_le_of_lt Nat.and_le_left (tabF_lt hF t)
  have HT : Hid (∀ t, t < 16 → R t = T t &&& U t) := fun t ht => by rw [hR]; simp only; rw [t1 t ht, t2 t ht]
  have HCC := Lib.hid (fcombine_meet v v' F G w h1 h2 hF hG hl1 hl2)
  rw [← hR] at HCC
  clear h1 h2 hF hG hl1 hl2 t1 t2 hR
  go_enter Tryz.func28, Tryz.ntmps28
  go_wp2_with fail
  refine HCC.out.mono ?_
  rintro e w1 ⟨rfl, g1⟩
  go_wp2_with (first
    | (refine wpList_store_row rfl 128 (.tmp 6) (.tmp 12) rfl w1.heap.size (tArr R) rfl rfl 128 _ (heap_alloc_new _ _) HS.out HSZ.out H1.out ?_)
    | (refine wpList_load_row rfl 128 _ rfl w1.heap.size rfl 128 (tArr R) (0, 0) _ (setRow_heap _ _ _ _ _ _ (heap_alloc_new _ _)) Tryz.underlying128 rfl HS.out ?_))
  refine (boxes_own HLT.out).mono ?_
  rintro e w2 ⟨u, rfl, hu, g2⟩
  go_wp2_with fail
  go_ret2
  exact ⟨u, rfl, (hu.ext HT.out).base ((g1.alloc _).setRow g1.le _).le, ((g1.alloc _).setRow g1.le _).trans g2⟩
theorem fmeet_ok {v v' : Value} {T U : Nat → Nat} {w : World} (h : FS w v T) (h' : FS w v' U) :
    Calls Tryz.prog 28 #[v, v'] w fun e w' => ∃ u, e = .returned (.tuple #[u, .int .i64 0]) ∧ FSn 16 w' u (fun t => T t &&& U t) ∧ Gr w w' :=
  (fmeet_own h h').mono fun e w' ⟨u, he, hu, g⟩ => ⟨u, he, hu.fs, g⟩

end Go.Proofs.YtghjfakellaecaaGreat

/- Joined: FilDWithin, FilDSame. -/
/- The contract of package filter's combine, as Within calls it. -/
namespace Go.Proofs.YtghjfakellaecaaGreat
open Go.RowKit Rm
set_option linter.unusedVariables false

set_option maxHeartbeats 1000000 in
set_option maxRecDepth 100000 in
theorem fcombine_within (v v' : Value) (F G : List Bx) (w : World) (hl : RdF w v (F.map boxI)) (hr : RdF w v' (G.map boxI)) (hF : OkF F) (hG : OkF G) (hlF : F.length ≤ 40) (hlG : G.length ≤ 40) :
    Calls Tryz.prog 71 #[v, v', .func (.func 150) #[] #[]] w fun e w' => e = .returned (.tuple #[.agg (tArr fun t => lessM (tabF F t) (tabF G t)), .int .i64 0]) ∧ Gr w w' := by
  have HS : ∀ T, Hid ((Tryz.prog.info? 128).map (·.size) = some (tArr T).size) := fun T => by unfold Hid; rw [tArr_size]; exact table_info
  have hc1 := chkF_of hF hlF
  have hc2 := chkF_of hG hlG
  have HL := Lib.hid hl
  have HR := Lib.hid hr
  have HF := Lib.hid hF
  have HG := Lib.hid hG
  have HOP := Lib.hid uop_within
  obtain ⟨g, hge⟩ : ∃ g : Nat → Nat → Nat, g = (fun a b => lessM a b) := ⟨_, rfl⟩
  have HOPg : Hid (OpU 150 g) := by rw [hge]; exact HOP.out
  have HGE := Lib.hid hge
  clear hge HOP
  have HSZ := Lib.hid (fun (T U : Nat → Nat) => show (tArr T).size = (tArr U).size by rw [tArr_size, tArr_size])
  have H1 := Lib.hid tArr_one
  have HTF := Lib.hid (fun t => tabF_lt hF t)
  have HTG := Lib.hid (fun t => tabF_lt hG t)
  clear hl hr hF hG
  go_enter Tryz.func71, Tryz.ntmps71
  go_wp2_with fail
  refine (fcheck_any _ _ _ (HL.out.alloc _)).mono ?_
  rw [hc1]
  rintro e w1 ⟨rfl, g1⟩
  have HB1 : Hid (w1.heap[w.heap.size]? = some (.cells (tArr fun _ => 0) 128 (0, 0))) := (Below.block g1 _ (by simp)).trans (heap_alloc_new _ _)
  have G1 := ((Gr.refl w).alloc _).trans g1
  clear g1
  go_wp2_with fail
  refine (fcheck_any _ _ _ (HR.out.gr G1)).mono ?_
  rw [hc2]
  rintro e w2 ⟨rfl, g2⟩
  have HB2 : Hid (w2.heap[w.heap.size]? = some (.cells (tArr fun _ => 0) 128 (0, 0))) := (Below.block g2 _ (Blk_lt HB1.out)).trans HB1.out
  have G2 := G1.trans g2
  clear g2 HB1 G1
  go_wp2_with fail
  refine (tableOf_any _ _ _ (HL.out.gr G2) HF.out hlF).mono ?_
  rintro e w3 ⟨rfl, g3⟩
  have HB3 : Hid (w3.heap[w.heap.size]? = some (.cells (tArr fun _ => 0) 128 (0, 0))) := (Below.block g3 _ (Blk_lt HB2.out)).trans HB2.out
  have G3 := G2.trans g3
  clear g3 HB2 G2
  go_wp2_with fail
  refine (tableOf_any _ _ _ (HR.out.gr G3) HG.out hlG).mono ?_
  rintro e w4 ⟨rfl, g4⟩
  have HB4 : Hid (w4.heap[w.heap.size]? = some (.cells (tArr fun _ => 0) 128 (0, 0))) := (Below.block g4 _ (Blk_lt HB3.out)).trans HB3.out
  have G4 := G3.trans g4
  clear g4 HB3 G3
  have HLT := Lib.hid (Blk_lt HB4.out)
  go_wp2_with (first
    | (refine wpList_store_row rfl 128 (.tmp 10) (.tmp 26) rfl w4.heap.size _ rfl rfl 128 _ (heap_alloc2_old _ _ _) (HS _).out (HSZ.out (fun _ => 0) _) (H1.out _) ?_)
    | (refine wpList_store_row rfl 128 (.tmp 11) (.tmp 28) rfl (w4.heap.size + 1) _ rfl rfl 128 _ ((setRow_other _ _ _ _ (by omega)).trans (heap_alloc2_new _ _ _)) (HS _).out (HSZ.out (fun _ => 0) _) (H1.out _) ?_))
  have A0 := Lib.hid (combAt_start (T := tabF F) (U := tabF G) (A := tArr fun _ => 0) (B := tArr fun _ => 0) G4 HLT.out HB4.out)
  go_loopw [29] (fun jj wi => ∃ j : Nat, j ≤ 16 ∧ jj = .int .i64 j ∧ CombAt w wi w4.heap.size (midC g (tabF F) (tabF G) j) (tabF G)) (fun jj _ => 16 - (intOf jj).toNat)
  case atStart => exact ⟨0, by omega, rfl, A0.out.ext (fun i _ => by simp [midC])⟩
  case round =>
    clear A0
    obtain ⟨j, hj, rfl, hat⟩ := hrel
    generalize w4.heap.size = BB at *
    have HA := Lib.hid hat
    by_cases hjt : j < 16
    · have hj16 : (j : Int) < 16 := by omega
      have c1 : wr.cell? ⟨BB, j, none⟩ = some (.int .u64 (tabF F j : Nat)) := by
        rw [cell_of_row _ _ _ _ _ _ hat.2.2.2.1, tArr_at _ j hjt]
        simp [midC]
      have c2 : wr.cell? ⟨BB + 1, j, none⟩ = some (.int .u64 (tabF G j : Nat)) := by
        rw [cell_of_row _ _ _ _ _ _ hat.2.2.2.2, tArr_at _ j hjt]
      have hfz := frozen_of_row _ _ j _ _ hat.2.2.2.1
      have E : Hid (∀ i, i < 16 → (if i = j then g (tabF F j) (tabF G j) else midC g (tabF F) (tabF G) j i) = midC g (tabF F) (tabF G) (j + 1) i) := by
        intro i hi
        unfold midC
        by_cases e1 : i < j
        · rw [if_neg (by omega), if_pos e1, if_pos (by omega)]
        · by_cases e2 : i < j + 1
          · obtain rfl : i = j := by omega
            rw [if_pos rfl, if_pos e2]
          · rw [if_neg (by omega), if_neg e1, if_neg e2]
      clear hat
      go_wp2_with fail
      go_still_tail 10, (by kernel_rfl)
      still_call (HOPg.out _ _ (HTF.out j) (HTG.out j) _)
      repeat still_step
      refine wpStill_nil ?_
      change wpList _ _ _ _ _ wr.drew
      go_wp2_with fail
      go_roundw
      case rel => exact ⟨j + 1, by omega, by go_num, (HA.out.set j _ hjt).ext E.out⟩
      case measure => simp [intOf]; omega
    · obtain rfl : j = 16 := by omega
      have HA2 := Lib.hid (hat.ext (fun i hi => show midC g (tabF F) (tabF G) 16 i = g (tabF F i) (tabF G i) by simp [midC, hi]))
      have hg := hat.1
      clear hat HA
      go_wp2_with (first | (refine wpList_load_row rfl 128 _ rfl BB rfl 128 _ (0, 0) _ HA2.out.2.2.2.1 Tryz.underlying128 rfl (HS _).out ?_) | (refine wpList_store_row rfl 128 _ _ rfl w.heap.size _ rfl rfl 128 _ HA2.out.2.2.1 (HS _).out (HSZ.out (fun _ => 0) _) (H1.out _) ?_))
      refine bodyPost_ret (v := .tuple #[.agg (tArr fun t => g (tabF F t) (tabF G t)), .int .i64 0]) (results_row_tmp Tryz.results71 _ _ w.heap.size 128 _ (0, 0) _ _ rfl rfl (setRow_heap _ _ _ _ _ _ HA2.out.2.2.1) Tryz.underlying128 rfl (HS _).out) rfl ⟨by rw [HGE.out], ?_⟩
      exact hg.setRow (Nat.le_refl _) _
end Go.Proofs.YtghjfakellaecaaGreat
/- The contract of package filter's combine, as Same calls it. -/
namespace Go.Proofs.YtghjfakellaecaaGreat
open Go.RowKit Rm
set_option linter.unusedVariables false

end Go.Proofs.YtghjfakellaecaaGreat

/- Joined: FilL, FilN, FilQ, FilR. -/
/- Package filter by tables: Join, Meet, Less where Check refuses; Within and Same. -/
namespace Rm
open Go
/-- a whole array read where a guard said yes -/
theorem wpList_load_row_g {P : Program} {ops : Array Oper} {rest : List Oper} {o : Oper} {a : Act} {w : World} {Q : Exit → Act → World → Prop} (hw : Region.wanted o (yielded ops a.tmps) = true) (ty : TypeId) (x : Operand) (ho : o.op = .load ty x)
    (g : Nat) (hx : a.eval x = .pointer (some ⟨g, 0, none⟩)) (t : TypeId) (cs : Array Value) (fr : Nat × Nat) (d : TypeDesc) (hg : w.heap[g]? = some (.cells cs t fr))
    (hu : P.underlying ty = some d) (hd : (match d with | .struct _ | .array _ _ => true | _ => false) = true) (hi : (P.info? ty).map (·.size) = some cs.size)
    (h : wpList P ops Q rest (a.put o.dst (.agg cs)) w) : wpList P ops Q (o :: rest) a w :=
  wpList_step fun K hK => by rw [if_pos hw]; exact wp_load_row ty x ho g hx t cs fr d hg hu hd hi (hK _ _ h)
end Rm
namespace Go.Proofs.YtghjfakellaecaaGreat
open Go.RowKit Rm
set_option linter.unusedVariables false

set_option maxHeartbeats 1000000 in
set_option maxRecDepth 100000 in
theorem fjoin_bad {v v' : Value} {l r : List BoxI} {w : World} (hl : RdF w v l) (hr : RdF w v' r) (hc : (chkF2 l r == 0) = false) :
    Calls Tryz.prog 29 #[v, v'] w fun e w' => ∃ a c, e = .returned (.tuple #[.slice a 0 c, .int .i64 (chkF2 l r)]) ∧ Gr w w' := by
  have HS : Hid ((Tryz.prog.info? 128).map (·.size) = some (tArr fun _ => 0).size) := by rw [tArr_size]; exact table_info
  have H1 := Lib.hid (tArr_one fun _ => 0)
  have HCC := Lib.hid (fcombine_bad 74 v v' l r w hl hr hc)
  clear hl hr hc
  go_enter Tryz.func29, Tryz.ntmps29
  go_wp2_with fail
  refine HCC.out.mono ?_
  rintro e w1 ⟨rfl, g1⟩
  go_wp2_with (first
    | (refine wpList_store_row rfl 128 (.tmp 6) (.tmp 12) rfl w1.heap.size (tArr fun _ => 0) rfl rfl 128 _ (heap_alloc_new _ _) HS.out rfl H1.out ?_)
    | (refine wpList_load_row rfl 128 _ rfl w1.heap.size rfl 128 (tArr fun _ => 0) (0, 0) _ (setRow_heap _ _ _ _ _ _ (heap_alloc_new _ _)) Tryz.underlying128 rfl HS.out ?_))
  refine boxes_none.mono ?_
  rintro e w2 ⟨a, c, rfl, g2⟩
  go_wp2_with fail
  go_ret2
  exact ⟨a, c, rfl, ((g1.alloc _).setRow g1.le _).trans g2⟩

set_option maxHeartbeats 1000000 in
set_option maxRecDepth 100000 in
theorem fmeet_bad {v v' : Value} {l r : List BoxI} {w : World} (hl : RdF w v l) (hr : RdF w v' r) (hc : (chkF2 l r == 0) = false) :
    Calls Tryz.prog 28 #[v, v'] w fun e w' => ∃ a c, e = .returned (.tuple #[.slice a 0 c, .int .i64 (chkF2 l r)]) ∧ Gr w w' := by
  have HS : Hid ((Tryz.prog.info? 128).map (·.size) = some (tArr fun _ => 0).size) := by rw [tArr_size]; exact table_info
  have H1 := Lib.hid (tArr_one fun _ => 0)
  have HCC := Lib.hid (fcombine_bad 72 v v' l r w hl hr hc)
  clear hl hr hc
  go_enter Tryz.func28, Tryz.ntmps28
  go_wp2_with fail
  refine HCC.out.mono ?_
  rintro e w1 ⟨rfl, g1⟩
  go_wp2_with (first
    | (refine wpList_store_row rfl 128 (.tmp 6) (.tmp 12) rfl w1.heap.size (tArr fun _ => 0) rfl rfl 128 _ (heap_alloc_new _ _) HS.out rfl H1.out ?_)
    | (refine wpList_load_row rfl 128 _ rfl w1.heap.size rfl 128 (tArr fun _ => 0) (0, 0) _ (setRow_heap _ _ _ _ _ _ (heap_alloc_new _ _)) Tryz.underlying128 rfl HS.out ?_))
  refine boxes_none.mono ?_
  rintro e w2 ⟨a, c, rfl, g2⟩
  go_wp2_with fail
  go_ret2
  exact ⟨a, c, rfl, ((g1.alloc _).setRow g1.le _).trans g2⟩

set_option maxHeartbeats 1000000 in
set_option maxRecDepth 100000 in
theorem fwithin_ok {v v' : Value} {T U : Nat → Nat} {w : World} (h : FS w v T) (h' : FS w v' U) :
    Calls Tryz.prog 133 #[v, v'] w fun e w' => e = .returned (.tuple #[.bool (withinT T U), .int .i64 0]) ∧ Gr w w' := by
  obtain ⟨F, h1, hF, hl1, t1⟩ := h
  obtain ⟨G, h2, hG, hl2, t2⟩ := h'
  obtain ⟨R, hR0⟩ : ∃ R : Nat → Nat, R = fun t => lessM (tabF F t) (tabF G t) := ⟨_, rfl⟩
  have hR : ∀ t, R t = lessM (tabF F t) (tabF G t) := fun t => by rw [hR0]
  have HS : Hid ((Tryz.prog.info? 128).map (·.size) = some (tArr R).size) := by rw [tArr_size]; exact table_info
  have HSZ : Hid ((tArr fun _ => 0).size = (tArr R).size) := by rw [tArr_size, tArr_size]; rfl
  have H1 := Lib.hid (tArr_one R)
  have HE : eqT R (fun _ => 0) = withinT T U := by
    rw [eqT_zero]
    exact allT_congr fun t ht => by rw [hR, t1 t ht, t2 t ht]
  have hq : ∀ wx : World, (Op.equalIn 10000 128 (.agg (tArr R)) (.agg #[.int .u64 0, .int .u64 0, .int .u64 0, .int .u64 0, .int .u64 0, .int .u64 0, .int .u64 0, .int .u64 0, .int .u64 0, .int .u64 0, .int .u64 0, .int .u64 0, .int .u64 0, .int .u64 0, .int .u64 0, .int .u64 0])).run Tryz.prog wx = .ok (withinT T U) wx := fun wx => by
    rw [← HE]
    exact eq_tables R (fun _ => 0) wx
  have HCC := Lib.hid (fcombine_within v v' F G w h1 h2 hF hG hl1 hl2)
  rw [← hR0] at HCC
  clear h1 h2 hF hG hl1 hl2 t1 t2 hR hR0 HE
  go_enter Tryz.func133, Tryz.ntmps133
  go_wp2_with fail
  refine HCC.out.mono ?_
  rintro e w1 ⟨rfl, g1⟩
  go_wp2_with (first
    | (refine wpList_store_row rfl 128 (.tmp 6) (.tmp 12) rfl w1.heap.size (tArr R) rfl rfl 128 _ (heap_alloc_new _ _) HS.out HSZ.out H1.out ?_)
    | (refine wpList_load_row_g rfl 128 (.tmp 6) rfl w1.heap.size rfl 128 (tArr R) (0, 0) _ (setRow_heap _ _ _ _ _ _ (heap_alloc_new _ _)) Tryz.underlying128 rfl HS.out ?_))
  go_ret2
  exact ⟨rfl, (g1.alloc _).setRow g1.le _⟩

end Go.Proofs.YtghjfakellaecaaGreat
/- Package filter by tables: Point, Has, Count, Every; the statements' same and filterBegun. -/
namespace Rm
open Go Go.RowKit
/-- is it a point? -/
def pointB (t n : Int) : Bool := decide (0 ≤ t) && decide (t < 16) && (decide (0 ≤ n) && decide (n < 32))
theorem point_of {t n : Int} (h : pointB t n = true) : ∃ a b : Nat, a < 16 ∧ b < 32 ∧ t = a ∧ n = b := by
  simp [pointB] at h
  exact ⟨t.toNat, n.toNat, by omega, by omega, by omega, by omega⟩
theorem pointB_nat {a b : Nat} (ha : a < 16) (hb : b < 32) : pointB a b = true := by simp [pointB]; omega
/-- what Has answers -/
def bitT (T : Nat → Nat) (t n : Int) : Bool := pointB t n && (T t.toNat).testBit n.toNat
def errP (t n : Int) : Int := if pointB t n then 0 else 1
/-- how many points below a combination of tags -/
def cntTo (T : Nat → Nat) : Nat → Nat
  | 0 => 0
  | k + 1 => cntTo T k + popc (T k)
def cntT (T : Nat → Nat) : Nat := cntTo T 16
theorem cntTo_le (T : Nat → Nat) : ∀ k, cntTo T k ≤ 32 * k
  | 0 => Nat.le_refl _
  | k + 1 => by have := cntTo_le T k; have := popc_le (T k); simp only [cntTo]; omega
theorem cntTo_congr {T U : Nat → Nat} : ∀ k, (∀ t, t < k → T t = U t) → cntTo T k = cntTo U k
  | 0, _ => rfl
  | k + 1, h => by simp only [cntTo]; rw [cntTo_congr k (fun t ht => h t (by omega)), h k (by omega)]
end Rm
namespace Go.Proofs.YtghjfakellaecaaGreat
open Go.RowKit Rm
set_option linter.unusedVariables false
attribute [local go_sem ↓] Go.wp_at_zero Go.wp_at_succ

set_option maxHeartbeats 1000000 in
set_option maxRecDepth 100000 in
theorem point_any (t n : Int) (w : World) :
    Calls Tryz.prog 26 #[.agg #[.int .i64 t, .int .i64 n]] w fun e w' => e = .returned (.bool (pointB t n)) ∧ Gr w w' := by
  by_cases h1 : 0 ≤ t
  · by_cases h2 : t < 16
    · by_cases h3 : 0 ≤ n
      · by_cases h4 : n < 32
        · have e : pointB t n = true := by simp [pointB, h1, h2, h3, h4]
          rw [e]
          go_enter Tryz.func26, Tryz.ntmps26
          go_wp2
          go_ret
          exact ⟨rfl, (Gr.refl _).alloc _⟩
        · have e : pointB t n = false := by simp [pointB, h4]
          rw [e]
          go_enter Tryz.func26, Tryz.ntmps26
          go_wp2
          go_ret
          exact ⟨rfl, (Gr.refl _).alloc _⟩
      · have e : pointB t n = false := by simp [pointB, h3]
        rw [e]
        go_enter Tryz.func26, Tryz.ntmps26
        go_wp2
        go_ret
        exact ⟨rfl, (Gr.refl _).alloc _⟩
    · have e : pointB t n = false := by simp [pointB, h2]
      rw [e]
      go_enter Tryz.func26, Tryz.ntmps26
      go_wp2
      go_ret
      exact ⟨rfl, (Gr.refl _).alloc _⟩
  · have e : pointB t n = false := by simp [pointB, h1]
    rw [e]
    go_enter Tryz.func26, Tryz.ntmps26
    go_wp2
    go_ret
    exact ⟨rfl, (Gr.refl _).alloc _⟩

set_option maxHeartbeats 1000000 in
set_option maxRecDepth 100000 in
theorem fcount_ok {v : Value} {T : Nat → Nat} {w : World} (h : FS w v T) :
    Calls Tryz.prog 134 #[v] w fun e w' => e = .returned (.tuple #[.int .i64 (cntT T : Nat), .int .i64 0]) ∧ Gr w w' := by
  obtain ⟨F, h1, hF, hl1, t1⟩ := h
  have hc := chkF_of hF hl1
  have HL := Lib.hid h1
  have HF := Lib.hid hF
  have HT : Hid (cntT T = cntTo (tabF F) 16) := (cntTo_congr 16 t1).symm
  clear h1 hF t1
  go_enter Tryz.func134, Tryz.ntmps134
  go_wp2_with fail
  refine (fcheck_any _ _ _ HL.out).mono ?_
  rw [hc]
  rintro e w1 ⟨rfl, g1⟩
  go_wp2_with fail
  refine (tableOf_any _ _ _ (HL.out.gr g1) HF.out hl1).mono ?_
  rintro e w2 ⟨rfl, g2⟩
  have G2 := g1.trans g2
  clear g1 g2
  go_wp2_with fail
  go_loop [5, 15] (fun a i => ∃ k : Nat, k ≤ 16 ∧ i = .int .i64 k ∧ a = .int .i64 (cntTo (tabF F) k : Nat)) (fun _ i => 16 - (intOf i).toNat)
  case atStart => exact ⟨0, by omega, rfl, rfl⟩
  case round =>
    obtain ⟨k, hk, rfl, rfl⟩ := hrel
    by_cases hlt : k < 16
    · have hix := fun wx => index_table (tabF F) k hlt wx
      have hk16 : (k : Int) < 16 := by omega
      have hcl : ((cntTo (tabF F) k : Nat) : Int) ≤ 512 := by have := cntTo_le (tabF F) k; omega
      have hpl : ((popc (tabF F k) : Nat) : Int) ≤ 32 := by have := popc_le (tabF F k); omega
      have HS : Hid (((cntTo (tabF F) (k + 1) : Nat) : Int) = ((cntTo (tabF F) k : Nat) : Int) + ((popc (tabF F k) : Nat) : Int)) := by simp only [cntTo]; unfold Hid; omega
      have HLT := Lib.hid (tabF_lt HF.out k)
      generalize cntTo (tabF F) k = cc at *
      generalize tabF F k = tk at *
      go_wp2_with fail
      refine (ones64_mask tk _ HLT.out).mono ?_
      rintro e w3 ⟨rfl, rfl⟩
      go_wp2_with fail
      go_round
      case rel => exact ⟨k + 1, by omega, by go_num, by rw [HS.out]⟩
      case measure => simp [intOf]; omega
    · obtain rfl : k = 16 := by omega
      go_wp2_with fail
      go_ret2
      exact ⟨by rw [HT.out]; rfl, G2⟩

theorem tableOf_at (B : Nat) (t n : Int) (v : Value) (F : List Bx) (w : World) (hr : RdF w v (F.map boxI)) (hF : OkF F) (hl : F.length ≤ 40) (h : Two w B t n) :
    Calls Tryz.prog 70 #[v] w fun e w' => e = .returned (.agg (tArr (tabF F))) ∧ Gr w w' ∧ w'.cell? ⟨B, 0, none⟩ = some (.int .i64 t) ∧ w'.cell? ⟨B, 1, none⟩ = some (.int .i64 n) :=
  (tableOf_any v F w hr hF hl).mono fun e w' ⟨he, g⟩ => ⟨he, g, (h.gr g).2⟩

set_option maxHeartbeats 1000000 in
set_option maxRecDepth 100000 in
theorem fhas_ok {v : Value} {T : Nat → Nat} {w : World} (h : FS w v T) (t n : Int) :
    Calls Tryz.prog 25 #[v, .agg #[.int .i64 t, .int .i64 n]] w fun e w' => e = .returned (.tuple #[.bool (bitT T t n), .int .i64 (errP t n)]) ∧ Gr w w' := by
  obtain ⟨F, h1, hF, hl1, t1⟩ := h
  have hc := chkF_of hF hl1
  have HL := Lib.hid h1
  have HF := Lib.hid hF
  cases hp : pointB t n
  · have e1 : bitT T t n = false := by simp [bitT, hp]
    have e2 : errP t n = 1 := by simp [errP, hp]
    rw [e1, e2]
    clear h1 hF t1 e1 e2
    go_enter Tryz.func25, Tryz.ntmps25
    go_wp2_with fail
    refine (fcheck_any _ _ _ (HL.out.alloc _)).mono ?_
    rw [hc]
    rintro e w1 ⟨rfl, g1⟩
    obtain ⟨k1, k2⟩ := g1.cells
    go_wp2_with fail
    refine (point_any _ _ _).mono ?_
    rw [hp]
    rintro e w2 ⟨rfl, g2⟩
    go_wp2_with fail
    go_ret2
    exact ⟨rfl, (((Gr.refl _).alloc _).trans g1).trans g2⟩
  · obtain ⟨a, b, ha, hb, rfl, rfl⟩ := point_of hp
    have e1 : bitT T a b = (tabF F a).testBit b := by simp [bitT, hp, t1 a ha]
    have e2 : errP a b = 0 := by simp [errP, hp]
    rw [e1, e2]
    have HLT := Lib.hid (tabF_lt hF a)
    have hix := fun wx => index_table (tabF F) a ha wx
    have ha16 : (a : Int) < 16 := by omega
    have hb32 : (b : Int) < 32 := by omega
    clear h1 hF t1 e1 e2
    go_enter Tryz.func25, Tryz.ntmps25
    go_wp2_with fail
    refine (fcheck_any _ _ _ (HL.out.alloc _)).mono ?_
    rw [hc]
    rintro e w1 ⟨rfl, g1⟩
    obtain ⟨k1, k2⟩ := g1.cells
    go_wp2_with fail
    refine (point_any _ _ _).mono ?_
    rw [hp]
    rintro e w2 ⟨rfl, g2⟩
    have T2 := Lib.hid (((Two.new w a b 56).gr g1).gr g2)
    have G2 := (((Gr.refl w).alloc (.cells #[.int .i64 (a : Int), .int .i64 (b : Int)] 56)).trans g1).trans g2
    have T2d : Hid (Two w2.drew w.heap.size a b) := T2.out.gr ((Gr.refl _).drew)
    have R2 := Lib.hid (HL.out.gr G2.drew)
    clear k1 k2 g1 g2
    obtain ⟨q1, q2, q3⟩ := T2.out
    go_wp2_with fail
    go_region_held3 (fun x => x.cell? ⟨w.heap.size, 0, none⟩ = some (.int .i64 (a : Int)) ∧ x.cell? ⟨w.heap.size, 1, none⟩ = some (.int .i64 (b : Int))) (go_keep)
      (first
        | (go_at_call 70; refine (tableOf_at w.heap.size _ _ _ F _ R2.out HF.out hl1 T2d.out).mono ?_; rintro e w3 ⟨rfl, g3, k1, k2⟩)
        | (go_at_call 69; refine (fhas_any _ b _ HLT.out hb).mono ?_; rintro e w4 ⟨rfl, rfl⟩))
    go_wp2_with fail
    go_ret2
    exact ⟨rfl, G2.drew.trans g3⟩
end Go.Proofs.YtghjfakellaecaaGreat
/- Package filter's Every; the statements' same and filterBegun; filters that are written out. -/
namespace Go.Proofs.YtghjfakellaecaaGreat
open Go.RowKit Rm
set_option linter.unusedVariables false

theorem vld00 : Vld 0 0 := by refine ⟨?_, ?_, ?_⟩ <;> decide
theorem canonFull : canon 4294967295 = [(0, 32)] := by decide +kernel
theorem tabFull : ∀ t < 16, tabF [((0, 0), 4294967295)] t = 4294967295 := by decide +kernel
/-- all numbers, for every combination of tags -/
def fullT : Nat → Nat := fun _ => 4294967295

/-- the same, in new memory -/
theorem lit_own (w : World) (y n f t : Nat) (m : Nat) (hc : canon m = [(f, t)]) (hm : m < 2 ^ 32) (hv : Vld y n) :
    FO w.heap.size 1 ((w.alloc (.cells #[.int .i64 f, .int .i64 t] 91)).alloc (.cells #[.int .i64 y, .int .i64 n, .slice (some ⟨w.heap.size, 0, none⟩) 1 1] 96)) (.slice (some ⟨w.heap.size + 1, 0, none⟩) 1 1) (tabF [((y, n), m)]) := by
  refine ⟨[(((y, n), m), .slice (some ⟨w.heap.size, 0, none⟩) 1 1)], ?_, ?_, ?_, by simp, fun _ _ => rfl⟩
  · have h := World.ownsRow_lit (base := w.heap.size) (e := 96) (size := 3) (w.alloc (.cells #[.int .i64 f, .int .i64 t] 91)) #[.int .i64 y, .int .i64 n, .slice (some ⟨w.heap.size, 0, none⟩) 1 1] 1 (by simp) (by simp [maxLen]) rfl
    simpa [flatO] using h
  · intro p hp
    obtain rfl : p = (((y, n), m), .slice (some ⟨w.heap.size, 0, none⟩) 1 1) := by simpa using hp
    simp only
    rw [hc]
    have h := World.ownsRow_lit (base := w.heap.size) (e := 91) (size := 2) w #[.int .i64 f, .int .i64 t] 1 (Nat.le_refl _) (by simp [maxLen]) rfl
    exact h.alloc _
  · intro b hb
    obtain rfl : b = ((y, n), m) := by simpa using hb
    exact ⟨hv, hm⟩

set_option maxHeartbeats 400000 in
set_option maxRecDepth 100000 in
theorem fevery_own (w : World) : Calls Tryz.prog 12 #[] w fun e w' => ∃ v, e = .returned v ∧ FO w.heap.size 1 w' v fullT ∧ Gr w w' := by
  have HB := Lib.hid ((lit_own w 0 0 0 32 4294967295 canonFull (by decide) vld00).ext tabFull)
  go_enter Tryz.func12, Tryz.ntmps12
  go_wp2
  go_ret
  exact ⟨_, rfl, HB.out, ((Gr.refl _).alloc _).alloc _⟩
theorem fevery (w : World) : Calls Tryz.prog 12 #[] w fun e w' => ∃ v, e = .returned v ∧ FSn 1 w' v fullT ∧ Gr w w' :=
  (fevery_own w).mono fun e w' ⟨v, he, hv, g⟩ => ⟨v, he, hv.fs, g⟩

end Go.Proofs.YtghjfakellaecaaGreat
/- The plain mathematics of tables: what the statements on filters say of them. -/
namespace Rm
open Go Go.RowKit
theorem withinT_iff {T U : Nat → Nat} : withinT T U = true ↔ ∀ t, t < 16 → lessM (T t) (U t) = 0 := by
  unfold withinT
  rw [allT_iff]
  simp
/-- tables whose sets are of numbers below 32 -/
def OkT (T : Nat → Nat) : Prop := ∀ t, t < 16 → T t < 2 ^ 32
theorem popTo_zero : ∀ k, popTo 0 k = 0
  | 0 => rfl
  | k + 1 => by simp [popTo, popTo_zero k]
theorem cntTo_zero {T : Nat → Nat} : ∀ k, (∀ t, t < k → T t = 0) → cntTo T k = 0
  | 0, _ => rfl
  | k + 1, h => by simp only [cntTo]; rw [cntTo_zero k (fun t ht => h t (by omega)), h k (by omega)]; simp [popc, popTo_zero]
theorem popTo_none {m : Nat} : ∀ k, popTo m k = 0 → ∀ i, i < k → m.testBit i = false
  | 0, _, i, hi => by omega
  | k + 1, h, i, hi => by
    simp only [popTo] at h
    rcases Nat.lt_or_ge i k with c | c
    · exact popTo_none k (by omega) i c
    · obtain rfl : i = k := by omega
      cases hb : m.testBit i
      · rfl
      · rw [hb] at h; simp at h
open Go.Proofs.YtghjfakellaecaaGreat in
theorem popc_none {m : Nat} (hm : m < 2 ^ 32) (h : popc m = 0) : m = 0 :=
  mask_ext hm (by decide) fun i hi => by rw [popTo_none 32 h i hi, Nat.zero_testBit]
theorem cntTo_none {T : Nat → Nat} (hT : OkT T) : ∀ k, k ≤ 16 → cntTo T k = 0 → ∀ t, t < k → T t = 0
  | 0, _, _, t, ht => by omega
  | k + 1, hk, h, t, ht => by
    simp only [cntTo] at h
    rcases Nat.lt_or_ge t k with c | c
    · exact cntTo_none hT k (by omega) (by omega) t c
    · obtain rfl : t = k := by omega
      exact popc_none (hT t (by omega)) (by omega)
open Go.Proofs.YtghjfakellaecaaGreat in
theorem within_bit {T U : Nat → Nat} (hT : OkT T) (hU : OkT U) (h : withinT T U = true) {t i : Nat} (ht : t < 16) (hi : i < 32) (hb : (T t).testBit i = true) : (U t).testBit i = true := by
  rw [withinT_iff] at h
  exact (sub_iff (hT t ht) (hU t ht)).1 (by simpa [subM] using h t ht) i hi hb
theorem okT_and {T U : Nat → Nat} (hT : OkT T) : OkT (fun t => T t &&& U t) := fun t ht => Nat.lt_of_le_of_lt Nat.and_le_left (hT t ht)
end Rm
namespace Go.Proofs.YtghjfakellaecaaGreat
open Go.RowKit Rm
set_option linter.unusedVariables false
theorem fs_of {w : World} {v : Value} {l : List BoxI} (hl : RdF w v l) (h : (chkF l == 0) = true) : ∃ T, FS w v T ∧ OkT T := by
  obtain ⟨F, rfl, hF, hn⟩ := okF_of (by simpa using h)
  exact ⟨tabF F, ⟨F, hl, hF, hn, fun _ _ => rfl⟩, fun t _ => tabF_lt hF t⟩
set_option maxHeartbeats 400000 in
set_option maxRecDepth 100000 in
theorem fcheck_ok {w : World} {v : Value} {T : Nat → Nat} (h : FS w v T) : Calls Tryz.prog 47 #[v] w fun e w' => e = .returned (.int .i64 0) ∧ Gr w w' := by
  obtain ⟨F, h1, hF, hl, _⟩ := h
  have := fcheck_any v _ w h1
  rw [chkF_of hF hl] at this
  exact this
theorem fs2_of {w : World} {v v' : Value} {l r : List BoxI} (hl : RdF w v l) (hr : RdF w v' r) (h : (chkF2 l r == 0) = true) : ∃ T U, FS w v T ∧ FS w v' U ∧ OkT T ∧ OkT U := by
  unfold chkF2 at h
  split at h
  · rename_i h0
    obtain ⟨T, a, b⟩ := fs_of hl h0
    obtain ⟨U, c, d⟩ := fs_of hr h
    exact ⟨T, U, a, c, b, d⟩
  · rename_i h0
    exact absurd h h0
end Go.Proofs.YtghjfakellaecaaGreat

/- The plain mathematics of filters of one box. -/
namespace Rm
open Go Go.RowKit
end Rm
namespace Go.Proofs.YtghjfakellaecaaGreat
open Go.RowKit Rm
set_option linter.unusedVariables false
theorem Three.alloc {w : World} {b : Nat} {y n : Int} {s : Value} (h : Three w b y n s) (o : Obj) : Three (w.alloc o) b y n s := h.gr ((Gr.refl w).alloc o)
theorem Three.new2 (w : World) (o : Obj) (y n : Int) (s : Value) (t : TypeId) : Three ((w.alloc o).alloc (.cells #[.int .i64 y, .int .i64 n, s] t)) (w.heap.size + 1) y n s := by
  have h := Three.new (w.alloc o) y n s t
  rw [World.size_alloc] at h
  exact h
theorem MS.form {w : World} {v : Value} {a : Nat} (h : MS w v a) : ∃ x c, v = .slice x (pairs (canon a)).length c := rd2_form h.1
end Go.Proofs.YtghjfakellaecaaGreat

/- What parts say: the meaning of a part, of lists of parts. -/
set_option linter.unusedVariables false
set_option linter.unusedSimpArgs false
namespace Rm
open Go Go.RowKit Gx
def PtX.f (x : PtX) : Value := .slice x.fa x.fn x.fc
def PtX.k (x : PtX) : Value := .agg #[.slice x.va x.vn x.vc, .slice x.ma x.mn x.mc]
def emptyP (x : PtX) : Bool := cntT x.T == 0 || cntD (memB (formV x.D) (formM x.D)) == 0
def underP (x y : PtX) : Bool := wS x.D y.D && withinT x.T y.T
/-- what a list of parts says -/
def hasP (K : List PtX) (t n a b : Nat) : Bool := K.any fun x => (x.T t).testBit n && x.D a b
/-- the bits of the elements where a predicate holds -/
def mkTo {E : Type} (p : E → Bool) (K : List E) : Nat → Nat
  | 0 => 0
  | i + 1 => if (K[i]?).any p then mkTo p K i ||| 2 ^ i else mkTo p K i
theorem mkTo_lt {E : Type} (p : E → Bool) (K : List E) : ∀ i, mkTo p K i < 2 ^ i
  | 0 => by simp [mkTo]
  | i + 1 => by
    have h := mkTo_lt p K i
    have h2 : (2 : Nat) ^ i < 2 ^ (i + 1) := Nat.pow_lt_pow_right (by omega) (by omega)
    unfold mkTo
    split
    · exact Nat.or_lt_two_pow (by omega) h2
    · omega
theorem mkTo_bit {E : Type} (p : E → Bool) (K : List E) (j : Nat) : ∀ i, (mkTo p K i).testBit j = (decide (j < i) && (K[j]?).any p)
  | 0 => by simp [mkTo]
  | i + 1 => by
    have h := mkTo_bit p K j i
    unfold mkTo
    by_cases q : (K[i]?).any p = true
    · rw [if_pos q, Nat.testBit_or, h, Nat.testBit_two_pow]
      by_cases e : i = j
      · subst e
        rw [q]; simp
      · rw [Bool.eq_iff_iff]
        simp only [Bool.or_eq_true, Bool.and_eq_true, decide_eq_true_eq]
        constructor
        · rintro (⟨h1, h2⟩ | h1)
          · exact ⟨by omega, h2⟩
          · exact absurd h1 e
        · rintro ⟨h1, h2⟩
          exact .inl ⟨by omega, h2⟩
    · rw [if_neg q, h]
      by_cases e : i = j
      · subst e
        simp only [Bool.not_eq_true] at q
        rw [q]; simp
      · rw [Bool.eq_iff_iff]
        simp only [Bool.and_eq_true, decide_eq_true_eq]
        constructor
        · rintro ⟨h1, h2⟩; exact ⟨by omega, h2⟩
        · rintro ⟨h1, h2⟩; exact ⟨by omega, h2⟩
def mkL {E : Type} (p : E → Bool) (K : List E) : Nat := mkTo p K K.length
theorem mkL_lt {E : Type} (p : E → Bool) (K : List E) (h : K.length ≤ 30) : mkL p K < 4294967296 := by
  have h1 := mkTo_lt p K K.length
  have h2 : (2 : Nat) ^ K.length ≤ 2 ^ 30 := Nat.pow_le_pow_right (by omega) h
  unfold mkL; omega
theorem mkL_bit {E : Type} (p : E → Bool) (K : List E) (j : Nat) : (mkL p K).testBit j = (K[j]?).any p := by
  unfold mkL
  rw [mkTo_bit]
  by_cases h : j < K.length
  · simp [h]
  · simp [List.getElem?_eq_none (show K.length ≤ j by omega)]
theorem mkL_and {E : Type} (p q : E → Bool) (K : List E) : (mkL p K &&& mkL q K = 0) ↔ (K.any fun x => p x && q x) = false := by
  constructor
  · intro h
    rw [List.any_eq_false]
    intro x hx hpq
    obtain ⟨j, hj⟩ := List.getElem?_of_mem hx
    have := congrArg (fun n => Nat.testBit n j) h
    simp only [Nat.testBit_and, mkL_bit, hj, Option.any_some, Nat.zero_testBit] at this
    rw [this] at hpq
    cases hpq
  · intro h
    apply Nat.eq_of_testBit_eq
    intro j
    rw [Nat.testBit_and, mkL_bit, mkL_bit, Nat.zero_testBit]
    cases e : K[j]? with
    | none => rfl
    | some x =>
      rw [List.any_eq_false] at h
      have := h x (List.mem_of_getElem? e)
      simpa using this
/-- the parts that a reduced list keeps -/
def stepP (K : List PtX) (x : PtX) : List PtX := if !emptyP x && !K.any (fun y => underP x y) then K.filter (fun y => !underP y x) ++ [x] else K
def fewP (L : List PtX) : List PtX := L.foldl stepP []
theorem fewP_take {L : List PtX} {i : Nat} {x : PtX} (h : L[i]? = some x) : fewP (L.take (i + 1)) = stepP (fewP (L.take i)) x := by
  unfold fewP
  rw [List.take_add_one, h, List.foldl_append]
  rfl
theorem stepP_len (K : List PtX) (x : PtX) : (stepP K x).length ≤ K.length + 1 := by
  unfold stepP
  split
  · rw [List.length_append, List.length_singleton]
    have := List.length_filter_le (fun y => !underP y x) K
    omega
  · omega
theorem fewP_len (L : List PtX) : (fewP L).length ≤ L.length := by
  have key : ∀ (L K : List PtX), (L.foldl stepP K).length ≤ K.length + L.length := by
    intro L
    induction L with
    | nil => intro K; simp
    | cons a L ih =>
      intro K
      rw [List.foldl_cons]
      have h1 := ih (stepP K a)
      have h2 := stepP_len K a
      rw [List.length_cons]
      omega
  have := key L []
  unfold fewP
  simpa using this
theorem stepP_mem {K : List PtX} {x y : PtX} (h : y ∈ stepP K x) : y ∈ K ∨ y = x := by
  unfold stepP at h
  split at h
  · rcases List.mem_append.1 h with h | h
    · exact .inl (List.mem_filter.1 h).1
    · exact .inr (List.mem_singleton.1 h)
  · exact .inl h
theorem fewP_mem {L : List PtX} {y : PtX} (h : y ∈ fewP L) : y ∈ L := by
  have key : ∀ (L K : List PtX), y ∈ L.foldl stepP K → y ∈ K ∨ y ∈ L := by
    intro L
    induction L with
    | nil => intro K h; exact .inl h
    | cons a L ih =>
      intro K h
      rcases ih _ h with h | h
      · rcases stepP_mem h with h | rfl
        · exact .inl h
        · exact .inr (List.mem_cons_self ..)
      · exact .inr (List.mem_cons_of_mem _ h)
  rcases key L [] h with h | h
  · cases h
  · exact h
end Rm
namespace Go.Proofs.YtghjfakellaecaaGreat
open Go.RowKit Rm Gx
/-- what a part says -/
structure MeanP (w : World) (x : PtX) : Prop where
  fs : FS w x.f x.T
  kn : KnD w x.k x.D
  few : (formM x.D).length ≤ 60
theorem MeanP.gr {w w' : World} {x : PtX} (h : MeanP w x) (g : Gr w w') : MeanP w' x := ⟨h.fs.gr g, h.kn.gr g, h.few⟩
def MeansP (w : World) (K : List PtX) : Prop := ∀ x ∈ K, MeanP w x
theorem MeansP.gr {w w' : World} {K : List PtX} (h : MeansP w K) (g : Gr w w') : MeansP w' K := fun x hx => (h x hx).gr g
theorem khas (k : Value) (D : DS) (x y : Int) (w : World) (hk : KnD w k D) (hl : (formM D).length ≤ 60) :
    Calls Tryz.prog 112 #[k, .agg #[.int .i64 x, .int .i64 y]] w fun e w' => e = .returned (.tuple #[.bool (hasD D x y), .int .i64 (dotE x y)]) ∧ Gr w w' := by
  have hE : chkK (ints (formV D)) (pairs (formM D)) = 0 := (form_ok D).chk hl
  cases hd : dotB (x, y)
  · have h := hasf_any k _ _ (x, y) w hk (by rw [chkA_1 hE hd]; decide)
    rw [chkA_1 hE hd] at h
    have e1 : hasD D x y = false := by unfold hasD; rw [hd]; rfl
    have e2 : dotE x y = 1 := by unfold dotE; rw [hd]; rfl
    rw [e1, e2]
    exact h
  · obtain ⟨h1, h2, h3, h4⟩ := (dotB_iff _).1 hd
    simp only at h1 h2 h3 h4
    obtain ⟨s, rfl⟩ : ∃ n : Nat, x = n := ⟨x.toNat, by omega⟩
    obtain ⟨c, rfl⟩ : ∃ n : Nat, y = n := ⟨y.toNat, by omega⟩
    have hi : inR s c := ⟨by omega, by omega, by omega⟩
    have h := hasf_ok k _ _ s c w hk (form_ok D) hl hi
    rw [form_mem D s c hi] at h
    have e1 : hasD D (s : Int) (c : Int) = D s c := by unfold hasD; rw [hd]; simp
    have e2 : dotE (s : Int) (c : Int) = 0 := by unfold dotE; rw [hd]; rfl
    rw [e1, e2]
    exact h
theorem kcount (k : Value) (D : DS) (w : World) (hk : KnD w k D) (hl : (formM D).length ≤ 60) :
    Calls Tryz.prog 135 #[k] w fun e w' => e = .returned (.tuple #[.int .i64 ((cntD (memB (formV D) (formM D)) : Nat) : Int), .int .i64 0]) ∧ Gr w w' := by
  have h := count_ok k _ _ w hk (form_ok D) hl
  rw [← (form_ok D).count] at h
  exact h
theorem kwithin (k k' : Value) (D E : DS) (w : World) (hk : KnD w k D) (hk' : KnD w k' E) (hl : (formM D).length ≤ 60) (hl' : (formM E).length ≤ 60) :
    Calls Tryz.prog 132 #[k, k'] w fun e w' => e = .returned (.tuple #[.bool (wS D E), .int .i64 0]) ∧ Gr w w' :=
  within_ok k k' _ _ _ _ w hk hk' (form_ok D) (form_ok E) hl hl'
end Go.Proofs.YtghjfakellaecaaGreat

/- package part: what it does with single parts. -/
set_option linter.unusedVariables false
set_option linter.unusedSimpArgs false
namespace Go.Proofs.YtghjfakellaecaaGreat
open Go.RowKit Rm Gx
set_option maxHeartbeats 8000000 in
set_option maxRecDepth 100000 in
theorem hasPoint_any (x : PtX) (t n : Int) (w : World) (hx : MeanP w x) :
    Calls Tryz.prog 63 #[.agg #[.slice x.fa x.fn x.fc, .slice x.va x.vn x.vc, .slice x.ma x.mn x.mc], .agg #[.int .i64 (t), .int .i64 (n)]] w fun e w' => e = .returned (.bool (bitT x.T t n)) ∧ Gr w w' := by
  refine enter (N := 15) Tryz.func63 rfl rfl rfl (fun a0 ok0 h0 => ?_)
  have e0_0 : a0.eval (.tmp 0) = .agg #[.slice x.fa x.fn x.fc, .slice x.va x.vn x.vc, .slice x.ma x.mn x.mc] := h0 0 _ rfl
  have e0_1 : a0.eval (.tmp 1) = .agg #[.int .i64 (t), .int .i64 (n)] := h0 1 _ rfl
  clear h0
  have G0 := Gr.refl w
  refine wp_seq_k (fun K1 hK1 => ?_)
  refine wp_region_lit ?_
  refine sal (cs := #[.slice x.fa x.fn x.fc, .slice x.va x.vn x.vc, .slice x.ma x.mn x.mc]) ok0 rfl (wn _ rfl) rfl (o_box e0_0) (fun an2 w4 b3 W5 n2 => ?_)
  have l6 : w.heap.size ≤ b3 := by rw [W5.eq]; exact G0.size
  have G7 := G0.trans W5.gr
  refine sal (cs := #[.int .i64 (t), .int .i64 (n)]) n2.ok rfl (wn _ rfl) rfl (o_box (n2.ne rfl e0_1)) (fun an8 w10 b9 W11 n8 => ?_)
  have l12 : b3 < b9 := by rw [W11.eq]; exact W5.bk.lt
  have l13 : w.heap.size ≤ b9 := by rw [W11.eq]; exact G7.size
  have G14 := G7.trans W11.gr
  have B15 := W5.bk.gr W11.gr
  refine sv n8.ok rfl (wn _ rfl) rfl (o_as ev_const) (fun an16 n16 => ?_)
  refine wpList_nil ?_
  refine th_n (hK1 _ _ ?_)
  refine wp_seq_k (fun K17 hK17 => ?_)
  refine wp_region_lit ?_
  refine sv n16.ok rfl (wn _ rfl) rfl (o_fa (z := 1) (n16.ne rfl (n8.ne rfl n2.at_)) Tryz.underlying35 rfl (by kernel_rfl) rfl rfl) (fun an18 n18 => ?_)
  refine sv n18.ok rfl (wn _ rfl) rfl (o_ld n18.at_ (Tryz.isAgg23 _) (B15.cell _ rfl)) (fun an19 n19 => ?_)
  have e20 := n19.ne rfl (n18.ne rfl (n16.ne rfl n8.at_))
  refine sv n19.ok rfl (wn _ rfl) rfl (o_ldR e20 W11.bk Tryz.underlying56 rfl (by kernel_rfl)) (fun an21 n21 => ?_)
  refine sc n21.ok rfl (wn _ rfl) rfl (o_f2 Tryz.func25 rfl rfl rfl (n21.ne rfl n19.at_) n21.at_) (fhas_ok (T := x.T) (hx.gr G14).fs t n) ?_
  rintro _ w23 ⟨rfl, g24⟩
  refine ⟨_, rfl, fun an22 n22 => ?_⟩
  have G25 := G14.trans g24
  have B26 := B15.gr g24
  have B27 := W11.bk.gr g24
  refine sv n22.ok rfl (wn _ rfl) rfl (o_mv n22.at_) (fun an28 n28 => ?_)
  refine sv n28.ok rfl (wn _ rfl) rfl (o_ex n28.at_ rfl) (fun an29 n29 => ?_)
  refine sv n29.ok rfl (wn _ rfl) rfl (o_ex (n29.ne rfl n28.at_) rfl) (fun an30 n30 => ?_)
  refine sv n30.ok rfl (wn _ rfl) rfl (o_as (n30.ne rfl n29.at_)) (fun an31 n31 => ?_)
  refine sv n31.ok rfl (wn _ rfl) rfl (o_as (n31.ne rfl n30.at_)) (fun an32 n32 => ?_)
  refine wpList_nil ?_
  refine th_n (hK17 _ _ ?_)
  refine wp_seq_k (fun K33 hK33 => ?_)
  refine wp_region_lit ?_
  refine sv n32.ok rfl (wn _ rfl) rfl (o_mv (n32.ne rfl n31.at_)) (fun an34 n34 => ?_)
  refine sv n34.ok rfl (wn _ rfl) rfl (o_as n34.at_) (fun an35 n35 => ?_)
  refine wpList_nil ?_
  refine th_n (hK33 _ _ ?_)
  refine wp_ret ?_
  exact ret1 n35.ok rfl (n35.at_) ⟨rfl, G25⟩
set_option maxHeartbeats 8000000 in
set_option maxRecDepth 100000 in
theorem hasDot_any (x : PtX) (a c : Int) (w : World) (hx : MeanP w x) :
    Calls Tryz.prog 64 #[.agg #[.slice x.fa x.fn x.fc, .slice x.va x.vn x.vc, .slice x.ma x.mn x.mc], .agg #[.int .i64 (a), .int .i64 (c)]] w fun e w' => e = .returned (.bool (hasD x.D a c)) ∧ Gr w w' := by
  refine enter (N := 15) Tryz.func64 rfl rfl rfl (fun a0 ok0 h0 => ?_)
  have e0_0 : a0.eval (.tmp 0) = .agg #[.slice x.fa x.fn x.fc, .slice x.va x.vn x.vc, .slice x.ma x.mn x.mc] := h0 0 _ rfl
  have e0_1 : a0.eval (.tmp 1) = .agg #[.int .i64 (a), .int .i64 (c)] := h0 1 _ rfl
  clear h0
  have G0 := Gr.refl w
  refine wp_seq_k (fun K1 hK1 => ?_)
  refine wp_region_lit ?_
  refine sal (cs := #[.slice x.fa x.fn x.fc, .slice x.va x.vn x.vc, .slice x.ma x.mn x.mc]) ok0 rfl (wn _ rfl) rfl (o_box e0_0) (fun an2 w4 b3 W5 n2 => ?_)
  have l6 : w.heap.size ≤ b3 := by rw [W5.eq]; exact G0.size
  have G7 := G0.trans W5.gr
  refine sal (cs := #[.int .i64 (a), .int .i64 (c)]) n2.ok rfl (wn _ rfl) rfl (o_box (n2.ne rfl e0_1)) (fun an8 w10 b9 W11 n8 => ?_)
  have l12 : b3 < b9 := by rw [W11.eq]; exact W5.bk.lt
  have l13 : w.heap.size ≤ b9 := by rw [W11.eq]; exact G7.size
  have G14 := G7.trans W11.gr
  have B15 := W5.bk.gr W11.gr
  refine sv n8.ok rfl (wn _ rfl) rfl (o_as ev_const) (fun an16 n16 => ?_)
  refine wpList_nil ?_
  refine th_n (hK1 _ _ ?_)
  refine wp_seq_k (fun K17 hK17 => ?_)
  refine wp_region_lit ?_
  refine sv n16.ok rfl (wn _ rfl) rfl (o_fa (z := 2) (n16.ne rfl (n8.ne rfl n2.at_)) Tryz.underlying35 rfl (by kernel_rfl) rfl rfl) (fun an18 n18 => ?_)
  refine sv n18.ok rfl (wn _ rfl) rfl (o_ldA (k := 1) (cs := [.slice x.va x.vn x.vc, .slice x.ma x.mn x.mc]) n18.at_ (bk_part B15 rfl) Tryz.underlying33 rfl (by kernel_rfl)) (fun an19 n19 => ?_)
  have e20 := n19.ne rfl (n18.ne rfl (n16.ne rfl n8.at_))
  refine sv n19.ok rfl (wn _ rfl) rfl (o_ldR e20 W11.bk Tryz.underlying58 rfl (by kernel_rfl)) (fun an21 n21 => ?_)
  refine sc n21.ok rfl (wn _ rfl) rfl (o_f2 Tryz.func112 rfl rfl rfl (n21.ne rfl n19.at_) n21.at_) (khas _ x.D a c w10 (hx.gr G14).kn hx.few) ?_
  rintro _ w23 ⟨rfl, g24⟩
  refine ⟨_, rfl, fun an22 n22 => ?_⟩
  have G25 := G14.trans g24
  have B26 := B15.gr g24
  have B27 := W11.bk.gr g24
  refine sv n22.ok rfl (wn _ rfl) rfl (o_mv n22.at_) (fun an28 n28 => ?_)
  refine sv n28.ok rfl (wn _ rfl) rfl (o_ex n28.at_ rfl) (fun an29 n29 => ?_)
  refine sv n29.ok rfl (wn _ rfl) rfl (o_ex (n29.ne rfl n28.at_) rfl) (fun an30 n30 => ?_)
  refine sv n30.ok rfl (wn _ rfl) rfl (o_as (n30.ne rfl n29.at_)) (fun an31 n31 => ?_)
  refine sv n31.ok rfl (wn _ rfl) rfl (o_as (n31.ne rfl n30.at_)) (fun an32 n32 => ?_)
  refine wpList_nil ?_
  refine th_n (hK17 _ _ ?_)
  refine wp_seq_k (fun K33 hK33 => ?_)
  refine wp_region_lit ?_
  refine sv n32.ok rfl (wn _ rfl) rfl (o_mv (n32.ne rfl n31.at_)) (fun an34 n34 => ?_)
  refine sv n34.ok rfl (wn _ rfl) rfl (o_as n34.at_) (fun an35 n35 => ?_)
  refine wpList_nil ?_
  refine th_n (hK33 _ _ ?_)
  refine wp_ret ?_
  exact ret1 n35.ok rfl (n35.at_) ⟨rfl, G25⟩
theorem emptyP_eq (x : PtX) : emptyP x = (decide (((cntT x.T : Nat) : Int) = 0) || decide (((cntD (memB (formV x.D) (formM x.D)) : Nat) : Int) = 0)) := by
  unfold emptyP
  rw [Bool.eq_iff_iff]
  simp
set_option maxHeartbeats 8000000 in
set_option maxRecDepth 100000 in
theorem empty_any (x : PtX) (w : World) (hx : MeanP w x) :
    Calls Tryz.prog 100 #[.agg #[.slice x.fa x.fn x.fc, .slice x.va x.vn x.vc, .slice x.ma x.mn x.mc]] w fun e w' => e = .returned (.bool (emptyP x)) ∧ Gr w w' := by
  refine enter (N := 25) Tryz.func100 rfl rfl rfl (fun a0 ok0 h0 => ?_)
  have e0_0 : a0.eval (.tmp 0) = .agg #[.slice x.fa x.fn x.fc, .slice x.va x.vn x.vc, .slice x.ma x.mn x.mc] := h0 0 _ rfl
  clear h0
  have G0 := Gr.refl w
  refine wp_seq_k (fun K1 hK1 => ?_)
  refine wp_region_lit ?_
  refine sal (cs := #[.slice x.fa x.fn x.fc, .slice x.va x.vn x.vc, .slice x.ma x.mn x.mc]) ok0 rfl (wn _ rfl) rfl (o_box e0_0) (fun an2 w4 b3 W5 n2 => ?_)
  have l6 : w.heap.size ≤ b3 := by rw [W5.eq]; exact G0.size
  have G7 := G0.trans W5.gr
  refine sv n2.ok rfl (wn _ rfl) rfl (o_as ev_const) (fun an8 n8 => ?_)
  refine wpList_nil ?_
  refine th_n (hK1 _ _ ?_)
  refine wp_seq_k (fun K9 hK9 => ?_)
  refine wp_region_lit ?_
  refine sv n8.ok rfl (wn _ rfl) rfl (o_fa (z := 1) (n8.ne rfl n2.at_) Tryz.underlying35 rfl (by kernel_rfl) rfl rfl) (fun an10 n10 => ?_)
  refine sv n10.ok rfl (wn _ rfl) rfl (o_ld n10.at_ (Tryz.isAgg23 _) (W5.bk.cell _ rfl)) (fun an11 n11 => ?_)
  refine sc n11.ok rfl (wn _ rfl) rfl (o_f1 Tryz.func134 rfl rfl rfl n11.at_) (fcount_ok (T := x.T) (hx.gr G7).fs) ?_
  rintro _ w13 ⟨rfl, g14⟩
  refine ⟨_, rfl, fun an12 n12 => ?_⟩
  have G15 := G7.trans g14
  have B16 := W5.bk.gr g14
  refine sv n12.ok rfl (wn _ rfl) rfl (o_mv n12.at_) (fun an17 n17 => ?_)
  refine sv n17.ok rfl (wn _ rfl) rfl (o_ex n17.at_ rfl) (fun an18 n18 => ?_)
  refine sv n18.ok rfl (wn _ rfl) rfl (o_ex (n18.ne rfl n17.at_) rfl) (fun an19 n19 => ?_)
  refine sv n19.ok rfl (wn _ rfl) rfl (o_as (n19.ne rfl n18.at_)) (fun an20 n20 => ?_)
  refine sv n20.ok rfl (wn _ rfl) rfl (o_as (n20.ne rfl n19.at_)) (fun an21 n21 => ?_)
  refine wpList_nil ?_
  refine th_n (hK9 _ _ ?_)
  refine wp_seq_k (fun K22 hK22 => ?_)
  refine wp_region_lit ?_
  have e23 := n21.ne rfl (n20.ne rfl (n19.ne rfl (n18.ne rfl (n17.ne rfl (n12.ne rfl (n11.ne rfl (n10.ne rfl (n8.ne rfl n2.at_))))))))
  refine sv n21.ok rfl (wn _ rfl) rfl (o_fa (z := 2) e23 Tryz.underlying35 rfl (by kernel_rfl) rfl rfl) (fun an24 n24 => ?_)
  refine sv n24.ok rfl (wn _ rfl) rfl (o_ldA (k := 1) (cs := [.slice x.va x.vn x.vc, .slice x.ma x.mn x.mc]) n24.at_ (bk_part B16 rfl) Tryz.underlying33 rfl (by kernel_rfl)) (fun an25 n25 => ?_)
  refine sc n25.ok rfl (wn _ rfl) rfl (o_f1 Tryz.func135 rfl rfl rfl n25.at_) (kcount _ x.D w13 (hx.gr G15).kn hx.few) ?_
  rintro _ w27 ⟨rfl, g28⟩
  refine ⟨_, rfl, fun an26 n26 => ?_⟩
  have G29 := G15.trans g28
  have B30 := B16.gr g28
  refine sv n26.ok rfl (wn _ rfl) rfl (o_mv n26.at_) (fun an31 n31 => ?_)
  refine sv n31.ok rfl (wn _ rfl) rfl (o_ex n31.at_ rfl) (fun an32 n32 => ?_)
  refine sv n32.ok rfl (wn _ rfl) rfl (o_ex (n32.ne rfl n31.at_) rfl) (fun an33 n33 => ?_)
  refine sv n33.ok rfl (wn _ rfl) rfl (o_as (n33.ne rfl n32.at_)) (fun an34 n34 => ?_)
  refine sv n34.ok rfl (wn _ rfl) rfl (o_as (n34.ne rfl n33.at_)) (fun an35 n35 => ?_)
  refine wpList_nil ?_
  refine th_n (hK22 _ _ ?_)
  refine wp_seq_k (fun K36 hK36 => ?_)
  refine wp_region_lit ?_
  have e37 := n35.ne rfl (n34.ne rfl (n33.ne rfl (n32.ne rfl (n31.ne rfl (n26.ne rfl (n25.ne rfl (n24.ne rfl (n21.ne rfl n20.at_))))))))
  refine sv n35.ok rfl (wn _ rfl) rfl (o_mv e37) (fun an38 n38 => ?_)
  refine sv n38.ok rfl (wn _ rfl) rfl (o_eqI n38.at_ ev_const) (fun an39 n39 => ?_)
  refine sv n39.ok rfl (wn _ rfl) rfl (o_mv n39.at_) (fun an40 n40 => ?_)
  by_cases c41 : ((cntT x.T : Nat) : Int) = 0
  · have e42 := (n40.at_).trans (congrArg Value.bool (decide_eq_true c41))
    have e43 := ((n40.ne rfl n39.at_)).trans (congrArg Value.bool (decide_eq_true c41))
    refine sn n40.ok rfl (wgF rfl (yl 2 true rfl e42) rfl) rfl (fun an44 n44 => ?_)
    refine sn n44.ok rfl (wgF rfl (yl 2 true rfl (n44.ne rfl e42)) rfl) rfl (fun an45 n45 => ?_)
    refine sv n45.ok rfl (wn _ rfl) rfl (o_pkT (n45.ne rfl (n44.ne rfl e42)) ev_const) (fun an46 n46 => ?_)
    refine sv n46.ok rfl (wn _ rfl) rfl (o_as n46.at_) (fun an47 n47 => ?_)
    refine wpList_nil ?_
    refine th_n (hK36 _ _ ?_)
    refine wp_ret ?_
    exact ret1 n47.ok rfl (n47.at_) ⟨congrArg (fun b => Ending.returned (Value.bool b)) (by rw [emptyP_eq, decide_eq_true c41, Bool.true_or]), G29⟩
  · have e48 := (n40.at_).trans (congrArg Value.bool (decide_eq_false c41))
    have e49 := ((n40.ne rfl n39.at_)).trans (congrArg Value.bool (decide_eq_false c41))
    have e50 := n40.ne rfl (n39.ne rfl (n38.ne rfl (n35.ne rfl n34.at_)))
    refine sv n40.ok rfl (wgT rfl (yl 2 false rfl e48) rfl) rfl (o_mv e50) (fun an51 n51 => ?_)
    refine sv n51.ok rfl (wgT rfl (yl 2 false rfl (n51.ne rfl e48)) rfl) rfl (o_eqI n51.at_ ev_const) (fun an52 n52 => ?_)
    refine sv n52.ok rfl (wn _ rfl) rfl (o_pkF (n52.ne rfl (n51.ne rfl e48)) n52.at_) (fun an53 n53 => ?_)
    refine sv n53.ok rfl (wn _ rfl) rfl (o_as n53.at_) (fun an54 n54 => ?_)
    refine wpList_nil ?_
    refine th_n (hK36 _ _ ?_)
    refine wp_ret ?_
    exact ret1 n54.ok rfl (n54.at_) ⟨congrArg (fun b => Ending.returned (Value.bool b)) (by rw [emptyP_eq, decide_eq_false c41, Bool.false_or]), G29⟩
set_option maxHeartbeats 8000000 in
set_option maxRecDepth 100000 in
theorem impliedBy1_any (y x : PtX) (b : Nat) (w : World) (hy : MeanP w y) (hx : MeanP w x) (hb : Bk w b #[.slice x.fa x.fn x.fc, .slice x.va x.vn x.vc, .slice x.ma x.mn x.mc] 35) :
    Calls Tryz.prog 131 #[.agg #[.slice y.fa y.fn y.fc, .slice y.va y.vn y.vc, .slice y.ma y.mn y.mc], .pointer (some ⟨b, 0, none⟩)] w fun e w' => e = .returned (.bool (underP y x)) ∧ Gr w w' := by
  refine enter (N := 28) Tryz.func131 rfl rfl rfl (fun a0 ok0 h0 => ?_)
  have e0_0 : a0.eval (.tmp 0) = .agg #[.slice y.fa y.fn y.fc, .slice y.va y.vn y.vc, .slice y.ma y.mn y.mc] := h0 0 _ rfl
  have e0_1 : a0.eval (.tmp 1) = .pointer (some ⟨b, 0, none⟩) := h0 1 _ rfl
  clear h0
  have G0 := Gr.refl w
  refine wp_seq_k (fun K1 hK1 => ?_)
  refine wp_region_lit ?_
  refine sal (cs := #[.slice y.fa y.fn y.fc, .slice y.va y.vn y.vc, .slice y.ma y.mn y.mc]) ok0 rfl (wn _ rfl) rfl (o_box e0_0) (fun an2 w4 b3 W5 n2 => ?_)
  have l6 : b < b3 := by rw [W5.eq]; exact hb.lt
  have l7 : w.heap.size ≤ b3 := by rw [W5.eq]; exact G0.size
  have G8 := G0.trans W5.gr
  have B9 := hb.gr W5.gr
  refine sv n2.ok rfl (wn _ rfl) rfl (o_as ev_const) (fun an10 n10 => ?_)
  refine wpList_nil ?_
  refine th_n (hK1 _ _ ?_)
  refine wp_seq_k (fun K11 hK11 => ?_)
  refine wp_region_lit ?_
  refine sv n10.ok rfl (wn _ rfl) rfl (o_fa (z := 2) (n10.ne rfl n2.at_) Tryz.underlying35 rfl (by kernel_rfl) rfl rfl) (fun an12 n12 => ?_)
  refine sv n12.ok rfl (wn _ rfl) rfl (o_ldA (k := 1) (cs := [.slice y.va y.vn y.vc, .slice y.ma y.mn y.mc]) n12.at_ (bk_part W5.bk rfl) Tryz.underlying33 rfl (by kernel_rfl)) (fun an13 n13 => ?_)
  have e14 := n13.ne rfl (n12.ne rfl (n10.ne rfl (n2.ne rfl e0_1)))
  refine sv n13.ok rfl (wn _ rfl) rfl (o_fa (z := 2) e14 Tryz.underlying35 rfl (by kernel_rfl) rfl rfl) (fun an15 n15 => ?_)
  refine sv n15.ok rfl (wn _ rfl) rfl (o_ldA (k := 1) (cs := [.slice x.va x.vn x.vc, .slice x.ma x.mn x.mc]) n15.at_ (bk_part B9 rfl) Tryz.underlying33 rfl (by kernel_rfl)) (fun an16 n16 => ?_)
  refine sc n16.ok rfl (wn _ rfl) rfl (o_f2 Tryz.func132 rfl rfl rfl (n16.ne rfl (n15.ne rfl n13.at_)) n16.at_) (kwithin _ _ y.D x.D w4 (hy.gr G8).kn (hx.gr G8).kn hy.few hx.few) ?_
  rintro _ w18 ⟨rfl, g19⟩
  refine ⟨_, rfl, fun an17 n17 => ?_⟩
  have G20 := G8.trans g19
  have B21 := B9.gr g19
  have B22 := W5.bk.gr g19
  refine sv n17.ok rfl (wn _ rfl) rfl (o_mv n17.at_) (fun an23 n23 => ?_)
  refine sv n23.ok rfl (wn _ rfl) rfl (o_ex n23.at_ rfl) (fun an24 n24 => ?_)
  refine sv n24.ok rfl (wn _ rfl) rfl (o_ex (n24.ne rfl n23.at_) rfl) (fun an25 n25 => ?_)
  refine sv n25.ok rfl (wn _ rfl) rfl (o_as (n25.ne rfl n24.at_)) (fun an26 n26 => ?_)
  refine sv n26.ok rfl (wn _ rfl) rfl (o_as (n26.ne rfl n25.at_)) (fun an27 n27 => ?_)
  refine wpList_nil ?_
  refine th_n (hK11 _ _ ?_)
  refine wp_seq_k (fun K28 hK28 => ?_)
  refine wp_region_lit ?_
  have e29 := n27.ne rfl (n26.ne rfl (n25.ne rfl (n24.ne rfl (n23.ne rfl (n17.ne rfl (n16.ne rfl (n15.ne rfl (n13.ne rfl (n12.ne rfl (n10.ne rfl n2.at_))))))))))
  refine sv n27.ok rfl (wn _ rfl) rfl (o_fa (z := 1) e29 Tryz.underlying35 rfl (by kernel_rfl) rfl rfl) (fun an30 n30 => ?_)
  refine sv n30.ok rfl (wn _ rfl) rfl (o_ld n30.at_ (Tryz.isAgg23 _) (B22.cell _ rfl)) (fun an31 n31 => ?_)
  have e32 := n31.ne rfl (n30.ne rfl (n27.ne rfl (n26.ne rfl (n25.ne rfl (n24.ne rfl (n23.ne rfl (n17.ne rfl (n16.ne rfl (n15.ne rfl e14)))))))))
  refine sv n31.ok rfl (wn _ rfl) rfl (o_fa (z := 1) e32 Tryz.underlying35 rfl (by kernel_rfl) rfl rfl) (fun an33 n33 => ?_)
  refine sv n33.ok rfl (wn _ rfl) rfl (o_ld n33.at_ (Tryz.isAgg23 _) (B21.cell _ rfl)) (fun an34 n34 => ?_)
  refine sc n34.ok rfl (wn _ rfl) rfl (o_f2 Tryz.func133 rfl rfl rfl (n34.ne rfl (n33.ne rfl n31.at_)) n34.at_) (fwithin_ok (T := y.T) (U := x.T) (hy.gr G20).fs (hx.gr G20).fs) ?_
  rintro _ w36 ⟨rfl, g37⟩
  refine ⟨_, rfl, fun an35 n35 => ?_⟩
  have G38 := G20.trans g37
  have B39 := B21.gr g37
  have B40 := B22.gr g37
  refine sv n35.ok rfl (wn _ rfl) rfl (o_mv n35.at_) (fun an41 n41 => ?_)
  refine sv n41.ok rfl (wn _ rfl) rfl (o_ex n41.at_ rfl) (fun an42 n42 => ?_)
  refine sv n42.ok rfl (wn _ rfl) rfl (o_ex (n42.ne rfl n41.at_) rfl) (fun an43 n43 => ?_)
  refine sv n43.ok rfl (wn _ rfl) rfl (o_as (n43.ne rfl n42.at_)) (fun an44 n44 => ?_)
  refine sv n44.ok rfl (wn _ rfl) rfl (o_as (n44.ne rfl n43.at_)) (fun an45 n45 => ?_)
  refine wpList_nil ?_
  refine th_n (hK28 _ _ ?_)
  refine wp_seq_k (fun K46 hK46 => ?_)
  refine wp_region_lit ?_
  have e47 := n45.ne rfl (n44.ne rfl (n43.ne rfl (n42.ne rfl (n41.ne rfl (n35.ne rfl (n34.ne rfl (n33.ne rfl (n31.ne rfl (n30.ne rfl (n27.ne rfl n26.at_))))))))))
  refine sv n45.ok rfl (wn _ rfl) rfl (o_mv e47) (fun an48 n48 => ?_)
  refine sv n48.ok rfl (wn _ rfl) rfl (o_mv n48.at_) (fun an49 n49 => ?_)
  cases c50 : (wS y.D x.D)
  · have e51 := (n49.at_).trans (congrArg Value.bool (c50))
    have e52 := n49.ne rfl (n48.ne rfl (n45.ne rfl (n44.ne rfl (n43.ne rfl (n42.ne rfl (n41.ne rfl (n35.ne rfl (n34.ne rfl (n33.ne rfl (n31.ne rfl (n30.ne rfl (n27.ne rfl (n26.ne rfl (n25.ne rfl n24.at_))))))))))))))
    have e53 := (e52).trans (congrArg Value.bool (c50))
    have e54 := ((n49.ne rfl (n48.ne rfl e47))).trans (congrArg Value.bool (c50))
    have e55 := ((n49.ne rfl n48.at_)).trans (congrArg Value.bool (c50))
    refine sn n49.ok rfl (wgF rfl (yl 1 false rfl e51) rfl) rfl (fun an56 n56 => ?_)
    refine sv n56.ok rfl (wn _ rfl) rfl (o_pkF (n56.ne rfl e51) ev_const) (fun an57 n57 => ?_)
    refine sv n57.ok rfl (wn _ rfl) rfl (o_as n57.at_) (fun an58 n58 => ?_)
    refine wpList_nil ?_
    refine th_n (hK46 _ _ ?_)
    refine wp_ret ?_
    exact ret1 n58.ok rfl (n58.at_) ⟨congrArg (fun b => Ending.returned (Value.bool b)) (by simp [underP, c50]), G38⟩
  · have e59 := (n49.at_).trans (congrArg Value.bool (c50))
    have e60 := n49.ne rfl (n48.ne rfl (n45.ne rfl (n44.ne rfl (n43.ne rfl (n42.ne rfl (n41.ne rfl (n35.ne rfl (n34.ne rfl (n33.ne rfl (n31.ne rfl (n30.ne rfl (n27.ne rfl (n26.ne rfl (n25.ne rfl n24.at_))))))))))))))
    have e61 := (e60).trans (congrArg Value.bool (c50))
    have e62 := ((n49.ne rfl (n48.ne rfl e47))).trans (congrArg Value.bool (c50))
    have e63 := ((n49.ne rfl n48.at_)).trans (congrArg Value.bool (c50))
    have e64 := n49.ne rfl (n48.ne rfl (n45.ne rfl n44.at_))
    refine sv n49.ok rfl (wgT rfl (yl 1 true rfl e59) rfl) rfl (o_mv e64) (fun an65 n65 => ?_)
    refine sv n65.ok rfl (wn _ rfl) rfl (o_pkT (n65.ne rfl e59) n65.at_) (fun an66 n66 => ?_)
    refine sv n66.ok rfl (wn _ rfl) rfl (o_as n66.at_) (fun an67 n67 => ?_)
    refine wpList_nil ?_
    refine th_n (hK46 _ _ ?_)
    refine wp_ret ?_
    exact ret1 n67.ok rfl (n67.at_) ⟨congrArg (fun b => Ending.returned (Value.bool b)) (by simp [underP, c50]), G38⟩
set_option maxHeartbeats 8000000 in
set_option maxRecDepth 100000 in
theorem impliedBy_any (x : PtX) (w : World) :
    Calls Tryz.prog 99 #[.agg #[.slice x.fa x.fn x.fc, .slice x.va x.vn x.vc, .slice x.ma x.mn x.mc]] w fun e w' => ∃ b : Nat, e = .returned (.func (.func 131) #[] #[.pointer (some ⟨b, 0, none⟩)]) ∧ w.heap.size ≤ b ∧ Bk w' b #[.slice x.fa x.fn x.fc, .slice x.va x.vn x.vc, .slice x.ma x.mn x.mc] 35 ∧ Gr w w' := by
  refine enter (N := 4) Tryz.func99 rfl rfl rfl (fun a0 ok0 h0 => ?_)
  have e0_0 : a0.eval (.tmp 0) = .agg #[.slice x.fa x.fn x.fc, .slice x.va x.vn x.vc, .slice x.ma x.mn x.mc] := h0 0 _ rfl
  clear h0
  have G0 := Gr.refl w
  refine wp_seq_k (fun K1 hK1 => ?_)
  refine wp_region_lit ?_
  refine sal (cs := #[.slice x.fa x.fn x.fc, .slice x.va x.vn x.vc, .slice x.ma x.mn x.mc]) ok0 rfl (wn _ rfl) rfl (o_box e0_0) (fun an2 w4 b3 W5 n2 => ?_)
  have l6 : w.heap.size ≤ b3 := by rw [W5.eq]; exact G0.size
  have G7 := G0.trans W5.gr
  refine sv n2.ok rfl (wn _ rfl) rfl (o_as ev_const) (fun an8 n8 => ?_)
  refine wpList_nil ?_
  refine th_n (hK1 _ _ ?_)
  refine wp_seq_k (fun K9 hK9 => ?_)
  refine wp_region_lit ?_
  refine sv n8.ok rfl (wn _ rfl) rfl (o_mf (fs := []) (cs := [.pointer (some ⟨b3, 0, none⟩)]) (by simp) (by simp [(n8.ne rfl n2.at_)])) (fun an10 n10 => ?_)
  refine sv n10.ok rfl (wn _ rfl) rfl (o_as n10.at_) (fun an11 n11 => ?_)
  refine wpList_nil ?_
  refine th_n (hK9 _ _ ?_)
  refine wp_ret ?_
  exact ret1 n11.ok rfl (n11.at_) ⟨b3, rfl, l6, W5.bk, G7⟩
set_option maxHeartbeats 8000000 in
set_option maxRecDepth 100000 in
theorem reduce1_any (y x : PtX) (b : Nat) (w : World) (hy : MeanP w y) (hx : MeanP w x) (hb : Bk w b #[.slice x.fa x.fn x.fc, .slice x.va x.vn x.vc, .slice x.ma x.mn x.mc] 35) :
    Calls Tryz.prog 98 #[.agg #[.slice y.fa y.fn y.fc, .slice y.va y.vn y.vc, .slice y.ma y.mn y.mc], .pointer (some ⟨b, 0, none⟩)] w fun e w' => e = .returned (.bool (underP x y)) ∧ Gr w w' := by
  refine enter (N := 8) Tryz.func98 rfl rfl rfl (fun a0 ok0 h0 => ?_)
  have e0_0 : a0.eval (.tmp 0) = .agg #[.slice y.fa y.fn y.fc, .slice y.va y.vn y.vc, .slice y.ma y.mn y.mc] := h0 0 _ rfl
  have e0_1 : a0.eval (.tmp 1) = .pointer (some ⟨b, 0, none⟩) := h0 1 _ rfl
  clear h0
  have G0 := Gr.refl w
  refine wp_seq_k (fun K1 hK1 => ?_)
  refine wp_region_lit ?_
  refine sal (cs := #[.slice y.fa y.fn y.fc, .slice y.va y.vn y.vc, .slice y.ma y.mn y.mc]) ok0 rfl (wn _ rfl) rfl (o_box e0_0) (fun an2 w4 b3 W5 n2 => ?_)
  have l6 : b < b3 := by rw [W5.eq]; exact hb.lt
  have l7 : w.heap.size ≤ b3 := by rw [W5.eq]; exact G0.size
  have G8 := G0.trans W5.gr
  have B9 := hb.gr W5.gr
  refine sv n2.ok rfl (wn _ rfl) rfl (o_as ev_const) (fun an10 n10 => ?_)
  refine wpList_nil ?_
  refine th_n (hK1 _ _ ?_)
  refine wp_seq_k (fun K11 hK11 => ?_)
  refine reg_start (N := 8) (m := 5) (by kernel_rfl) (fun R120 => ?_)
  have R121 := R120.snoc (n' := 1) rfl (fun vJ _ => vJ = .agg #[.slice y.fa y.fn y.fc, .slice y.va y.vn y.vc, .slice y.ma y.mn y.mc]) rfl (fun _ _ _ _ h => h) (fun aS wS pS => by
      exact Does.val (wn _ rfl) (o_ldR ((pS.old 2 rfl).trans (n10.ne rfl n2.at_)) (Bk.gr W5.bk (gr_drew pS.gr)) Tryz.underlying35 rfl (by kernel_rfl)) (Gr.refl _) rfl rfl)
  have R122 := R121.snoc (n' := 2) rfl (fun vJ wJ => ∃ (c2 : Nat), vJ = .func (.func 131) #[] #[.pointer (some ⟨c2, 0, none⟩)] ∧ (Bk wJ c2 #[.slice y.fa y.fn y.fc, .slice y.va y.vn y.vc, .slice y.ma y.mn y.mc] 35)) rfl (fun _ _ _ g ⟨c2, h, q0⟩ => ⟨c2, h, q0.gr g⟩) (fun aS wS pS => by
      have eR12_0 : aS.eval (.tmp 4) = .agg #[.slice y.fa y.fn y.fc, .slice y.va y.vn y.vc, .slice y.ma y.mn y.mc] := pS.pre 0 rfl
      exact Does.call (wn _ rfl) (o_f1 Tryz.func99 rfl rfl rfl (eR12_0)) (impliedBy_any y wS) (by rintro _ w2 ⟨c2, rfl, -, hbk2, g⟩; exact ⟨_, rfl, g, ⟨c2, rfl, hbk2⟩⟩) rfl)
  have R123 := R122.snoc (n' := 3) rfl (fun vJ _ => vJ = .agg #[.slice x.fa x.fn x.fc, .slice x.va x.vn x.vc, .slice x.ma x.mn x.mc]) rfl (fun _ _ _ _ h => h) (fun aS wS pS => by
      exact Does.val (wn _ rfl) (o_ldR ((pS.old 1 rfl).trans (n10.ne rfl (n2.ne rfl e0_1))) (Bk.gr B9 (gr_drew pS.gr)) Tryz.underlying35 rfl (by kernel_rfl)) (Gr.refl _) rfl rfl)
  have R124 := R123.snoc (n' := 4) rfl (fun vJ _ => vJ = .bool (underP x y)) rfl (fun _ _ _ _ h => h) (fun aS wS pS => by
      obtain ⟨c2, eR12_1, hbk2⟩ := pS.pre 1 rfl
      have eR12_1 : aS.eval (.tmp 5) = .func (.func 131) #[] #[.pointer (some ⟨c2, 0, none⟩)] := eR12_1
      have eR12_2 : aS.eval (.tmp 6) = .agg #[.slice x.fa x.fn x.fc, .slice x.va x.vn x.vc, .slice x.ma x.mn x.mc] := pS.pre 2 rfl
      exact Does.call (wn _ rfl) (o_fv1 (caps := [.pointer (some ⟨c2, 0, none⟩)]) ⟨_, Tryz.func131, rfl, rfl⟩ (eR12_1) (eR12_2)) (impliedBy1_any x y c2 wS (hx.gr (G8.trans (gr_drew pS.gr))) (hy.gr (G8.trans (gr_drew pS.gr))) hbk2) (by rintro _ w2 ⟨rfl, g⟩; exact ⟨_, rfl, g, rfl⟩) rfl)
  have R125 := R124.snoc (n' := 5) rfl (fun vJ _ => vJ = .bool (underP x y)) rfl (fun _ _ _ _ h => h) (fun aS wS pS => by
      have eR12_3 : aS.eval (.tmp 7) = .bool (underP x y) := pS.pre 3 rfl
      exact Does.val (wn _ rfl) (o_as (eR12_3)) (Gr.refl _) rfl rfl)
  refine R125.run (k := 0) (L := #[true, true, true, true, true]) (by kernel_rfl) (by kernel_rfl) (by kernel_rfl) n10.ok (by kernel_rfl) (by kernel_rfl) (fun ap14 w15 p14 => ?_)
  have g16 := gr_drew p14.gr
  have G17 := G8.trans g16
  have B18 := B9.gr g16
  have B19 := W5.bk.gr g16
  obtain ⟨c2, ep14_1, hbk2⟩ := p14.js 1 rfl
  have ep14_1 : ap14.eval (.tmp 5) = .func (.func 131) #[] #[.pointer (some ⟨c2, 0, none⟩)] := ep14_1
  refine wpAny_done (by kernel_rfl) ?_ _
  refine th_n (hK11 _ _ ?_)
  refine wp_ret ?_
  have ep14_4 : ap14.eval (.tmp 3) = .bool (underP x y) := p14.js 4 rfl
  exact ret1 p14.ok rfl (ep14_4) ⟨rfl, G17⟩
set_option maxHeartbeats 8000000 in
set_option maxRecDepth 100000 in
theorem has1_any (x : PtX) (b b2 : Nat) (t n a c : Int) (w : World) (hx : MeanP w x) (hb : Bk w b #[.int .i64 (t), .int .i64 (n)] 56) (hb2 : Bk w b2 #[.int .i64 (a), .int .i64 (c)] 58) :
    Calls Tryz.prog 62 #[.agg #[.slice x.fa x.fn x.fc, .slice x.va x.vn x.vc, .slice x.ma x.mn x.mc], .pointer (some ⟨b, 0, none⟩), .pointer (some ⟨b2, 0, none⟩)] w fun e w' => e = .returned (.bool (bitT x.T t n && hasD x.D a c)) ∧ Gr w w' := by
  refine enter (N := 13) Tryz.func62 rfl rfl rfl (fun a0 ok0 h0 => ?_)
  have e0_0 : a0.eval (.tmp 0) = .agg #[.slice x.fa x.fn x.fc, .slice x.va x.vn x.vc, .slice x.ma x.mn x.mc] := h0 0 _ rfl
  have e0_1 : a0.eval (.tmp 1) = .pointer (some ⟨b, 0, none⟩) := h0 1 _ rfl
  have e0_2 : a0.eval (.tmp 2) = .pointer (some ⟨b2, 0, none⟩) := h0 2 _ rfl
  clear h0
  have G0 := Gr.refl w
  refine wp_seq_k (fun K1 hK1 => ?_)
  refine wp_region_lit ?_
  refine sal (cs := #[.slice x.fa x.fn x.fc, .slice x.va x.vn x.vc, .slice x.ma x.mn x.mc]) ok0 rfl (wn _ rfl) rfl (o_box e0_0) (fun an2 w4 b3 W5 n2 => ?_)
  have l6 : b < b3 := by rw [W5.eq]; exact hb.lt
  have l7 : b2 < b3 := by rw [W5.eq]; exact hb2.lt
  have l8 : w.heap.size ≤ b3 := by rw [W5.eq]; exact G0.size
  have G9 := G0.trans W5.gr
  have B10 := hb.gr W5.gr
  have B11 := hb2.gr W5.gr
  refine sv n2.ok rfl (wn _ rfl) rfl (o_as ev_const) (fun an12 n12 => ?_)
  refine wpList_nil ?_
  refine th_n (hK1 _ _ ?_)
  refine wp_seq_k (fun K13 hK13 => ?_)
  refine wp_region_lit ?_
  refine sv n12.ok rfl (wn _ rfl) rfl (o_ldR (n12.ne rfl n2.at_) W5.bk Tryz.underlying35 rfl (by kernel_rfl)) (fun an14 n14 => ?_)
  have e15 := n14.ne rfl (n12.ne rfl (n2.ne rfl e0_1))
  refine sv n14.ok rfl (wn _ rfl) rfl (o_ldR e15 B10 Tryz.underlying56 rfl (by kernel_rfl)) (fun an16 n16 => ?_)
  refine sc n16.ok rfl (wn _ rfl) rfl (o_f2 Tryz.func63 rfl rfl rfl (n16.ne rfl n14.at_) n16.at_) (hasPoint_any x t n w4 (hx.gr G9)) ?_
  rintro _ w18 ⟨rfl, g19⟩
  refine ⟨_, rfl, fun an17 n17 => ?_⟩
  have G20 := G9.trans g19
  have B21 := B10.gr g19
  have B22 := B11.gr g19
  have B23 := W5.bk.gr g19
  refine sv n17.ok rfl (wn _ rfl) rfl (o_mv n17.at_) (fun an24 n24 => ?_)
  cases c25 : (bitT x.T t n)
  · have e26 := (n24.at_).trans (congrArg Value.bool (c25))
    have e27 := ((n24.ne rfl n17.at_)).trans (congrArg Value.bool (c25))
    refine sn n24.ok rfl (wgF rfl (yl 3 false rfl e26) rfl) rfl (fun an28 n28 => ?_)
    refine sn n28.ok rfl (wgF rfl (yl 3 false rfl (n28.ne rfl e26)) rfl) rfl (fun an29 n29 => ?_)
    refine sn n29.ok rfl (wgF rfl (yl 3 false rfl (n29.ne rfl (n28.ne rfl e26))) rfl) rfl (fun an30 n30 => ?_)
    have e31 := n30.ne rfl (n29.ne rfl (n28.ne rfl e26))
    refine sv n30.ok rfl (wn _ rfl) rfl (o_pkF e31 ev_const) (fun an32 n32 => ?_)
    refine sv n32.ok rfl (wn _ rfl) rfl (o_as n32.at_) (fun an33 n33 => ?_)
    refine wpList_nil ?_
    refine th_n (hK13 _ _ ?_)
    refine wp_ret ?_
    exact ret1 n33.ok rfl (n33.at_) ⟨congrArg (fun b => Ending.returned (Value.bool b)) (by simp [c25]), G20⟩
  · have e34 := (n24.at_).trans (congrArg Value.bool (c25))
    have e35 := ((n24.ne rfl n17.at_)).trans (congrArg Value.bool (c25))
    have e36 := n24.ne rfl (n17.ne rfl (n16.ne rfl (n14.ne rfl (n12.ne rfl n2.at_))))
    refine sv n24.ok rfl (wgT rfl (yl 3 true rfl e34) rfl) rfl (o_ldR e36 B23 Tryz.underlying35 rfl (by kernel_rfl)) (fun an37 n37 => ?_)
    have e38 := n37.ne rfl (n24.ne rfl (n17.ne rfl (n16.ne rfl (n14.ne rfl (n12.ne rfl (n2.ne rfl e0_2))))))
    refine sv n37.ok rfl (wgT rfl (yl 3 true rfl (n37.ne rfl e34)) rfl) rfl (o_ldR e38 B22 Tryz.underlying58 rfl (by kernel_rfl)) (fun an39 n39 => ?_)
    refine sc n39.ok rfl (wgT rfl (yl 3 true rfl (n39.ne rfl (n37.ne rfl e34))) rfl) rfl (o_f2 Tryz.func64 rfl rfl rfl (n39.ne rfl n37.at_) n39.at_) (hasDot_any x a c w18 (hx.gr G20)) ?_
    rintro _ w41 ⟨rfl, g42⟩
    refine ⟨_, rfl, fun an40 n40 => ?_⟩
    have G43 := G20.trans g42
    have B44 := B21.gr g42
    have B45 := B22.gr g42
    have B46 := B23.gr g42
    have e47 := n40.ne rfl (n39.ne rfl (n37.ne rfl e34))
    refine sv n40.ok rfl (wn _ rfl) rfl (o_pkT e47 n40.at_) (fun an48 n48 => ?_)
    refine sv n48.ok rfl (wn _ rfl) rfl (o_as n48.at_) (fun an49 n49 => ?_)
    refine wpList_nil ?_
    refine th_n (hK13 _ _ ?_)
    refine wp_ret ?_
    exact ret1 n49.ok rfl (n49.at_) ⟨congrArg (fun b => Ending.returned (Value.bool b)) (by simp [c25]), G43⟩
set_option maxHeartbeats 8000000 in
set_option maxRecDepth 100000 in
theorem mop1_any (x : PtX) (b : Nat) (t n : Int) (w : World) (hx : MeanP w x) (hb : Bk w b #[.int .i64 (t), .int .i64 (n)] 56) :
    Calls Tryz.prog 116 #[.agg #[.slice x.fa x.fn x.fc, .slice x.va x.vn x.vc, .slice x.ma x.mn x.mc], .pointer (some ⟨b, 0, none⟩)] w fun e w' => e = .returned (.bool (bitT x.T t n)) ∧ Gr w w' := by
  refine enter (N := 7) Tryz.func116 rfl rfl rfl (fun a0 ok0 h0 => ?_)
  have e0_0 : a0.eval (.tmp 0) = .agg #[.slice x.fa x.fn x.fc, .slice x.va x.vn x.vc, .slice x.ma x.mn x.mc] := h0 0 _ rfl
  have e0_1 : a0.eval (.tmp 1) = .pointer (some ⟨b, 0, none⟩) := h0 1 _ rfl
  clear h0
  have G0 := Gr.refl w
  refine wp_seq_k (fun K1 hK1 => ?_)
  refine wp_region_lit ?_
  refine sal (cs := #[.slice x.fa x.fn x.fc, .slice x.va x.vn x.vc, .slice x.ma x.mn x.mc]) ok0 rfl (wn _ rfl) rfl (o_box e0_0) (fun an2 w4 b3 W5 n2 => ?_)
  have l6 : b < b3 := by rw [W5.eq]; exact hb.lt
  have l7 : w.heap.size ≤ b3 := by rw [W5.eq]; exact G0.size
  have G8 := G0.trans W5.gr
  have B9 := hb.gr W5.gr
  refine sv n2.ok rfl (wn _ rfl) rfl (o_as ev_const) (fun an10 n10 => ?_)
  refine wpList_nil ?_
  refine th_n (hK1 _ _ ?_)
  refine wp_seq_k (fun K11 hK11 => ?_)
  refine wp_region_lit ?_
  refine sv n10.ok rfl (wn _ rfl) rfl (o_ldR (n10.ne rfl n2.at_) W5.bk Tryz.underlying35 rfl (by kernel_rfl)) (fun an12 n12 => ?_)
  have e13 := n12.ne rfl (n10.ne rfl (n2.ne rfl e0_1))
  refine sv n12.ok rfl (wn _ rfl) rfl (o_ldR e13 B9 Tryz.underlying56 rfl (by kernel_rfl)) (fun an14 n14 => ?_)
  refine sc n14.ok rfl (wn _ rfl) rfl (o_f2 Tryz.func63 rfl rfl rfl (n14.ne rfl n12.at_) n14.at_) (hasPoint_any x t n w4 (hx.gr G8)) ?_
  rintro _ w16 ⟨rfl, g17⟩
  refine ⟨_, rfl, fun an15 n15 => ?_⟩
  have G18 := G8.trans g17
  have B19 := B9.gr g17
  have B20 := W5.bk.gr g17
  refine sv n15.ok rfl (wn _ rfl) rfl (o_as n15.at_) (fun an21 n21 => ?_)
  refine wpList_nil ?_
  refine th_n (hK11 _ _ ?_)
  refine wp_ret ?_
  exact ret1 n21.ok rfl (n21.at_) ⟨rfl, G18⟩
set_option maxHeartbeats 8000000 in
set_option maxRecDepth 100000 in
theorem mod1_any (x : PtX) (b : Nat) (a c : Int) (w : World) (hx : MeanP w x) (hb : Bk w b #[.int .i64 (a), .int .i64 (c)] 58) :
    Calls Tryz.prog 114 #[.agg #[.slice x.fa x.fn x.fc, .slice x.va x.vn x.vc, .slice x.ma x.mn x.mc], .pointer (some ⟨b, 0, none⟩)] w fun e w' => e = .returned (.bool (hasD x.D a c)) ∧ Gr w w' := by
  refine enter (N := 7) Tryz.func114 rfl rfl rfl (fun a0 ok0 h0 => ?_)
  have e0_0 : a0.eval (.tmp 0) = .agg #[.slice x.fa x.fn x.fc, .slice x.va x.vn x.vc, .slice x.ma x.mn x.mc] := h0 0 _ rfl
  have e0_1 : a0.eval (.tmp 1) = .pointer (some ⟨b, 0, none⟩) := h0 1 _ rfl
  clear h0
  have G0 := Gr.refl w
  refine wp_seq_k (fun K1 hK1 => ?_)
  refine wp_region_lit ?_
  refine sal (cs := #[.slice x.fa x.fn x.fc, .slice x.va x.vn x.vc, .slice x.ma x.mn x.mc]) ok0 rfl (wn _ rfl) rfl (o_box e0_0) (fun an2 w4 b3 W5 n2 => ?_)
  have l6 : b < b3 := by rw [W5.eq]; exact hb.lt
  have l7 : w.heap.size ≤ b3 := by rw [W5.eq]; exact G0.size
  have G8 := G0.trans W5.gr
  have B9 := hb.gr W5.gr
  refine sv n2.ok rfl (wn _ rfl) rfl (o_as ev_const) (fun an10 n10 => ?_)
  refine wpList_nil ?_
  refine th_n (hK1 _ _ ?_)
  refine wp_seq_k (fun K11 hK11 => ?_)
  refine wp_region_lit ?_
  refine sv n10.ok rfl (wn _ rfl) rfl (o_ldR (n10.ne rfl n2.at_) W5.bk Tryz.underlying35 rfl (by kernel_rfl)) (fun an12 n12 => ?_)
  have e13 := n12.ne rfl (n10.ne rfl (n2.ne rfl e0_1))
  refine sv n12.ok rfl (wn _ rfl) rfl (o_ldR e13 B9 Tryz.underlying58 rfl (by kernel_rfl)) (fun an14 n14 => ?_)
  refine sc n14.ok rfl (wn _ rfl) rfl (o_f2 Tryz.func64 rfl rfl rfl (n14.ne rfl n12.at_) n14.at_) (hasDot_any x a c w4 (hx.gr G8)) ?_
  rintro _ w16 ⟨rfl, g17⟩
  refine ⟨_, rfl, fun an15 n15 => ?_⟩
  have G18 := G8.trans g17
  have B19 := B9.gr g17
  have B20 := W5.bk.gr g17
  refine sv n15.ok rfl (wn _ rfl) rfl (o_as n15.at_) (fun an21 n21 => ?_)
  refine wpList_nil ?_
  refine th_n (hK11 _ _ ?_)
  refine wp_ret ?_
  exact ret1 n21.ok rfl (n21.at_) ⟨rfl, G18⟩
end Go.Proofs.YtghjfakellaecaaGreat

/- part.Check, checkBoth, Has. -/
set_option linter.unusedVariables false
set_option linter.unusedSimpArgs false
namespace Rm
open Go Go.RowKit Gx
/-- a part, as it is read -/
structure PtI where
  fa : Option Addr
  fn : Nat
  fc : Nat
  va : Option Addr
  vn : Nat
  vc : Nat
  ma : Option Addr
  mn : Nat
  mc : Nat
  l : List BoxI
  V : List Int
  M : List (Int × Int)
def encR (x : PtI) : List Value := [.slice x.fa x.fn x.fc, .slice x.va x.vn x.vc, .slice x.ma x.mn x.mc]
def PtI.f (x : PtI) : Value := .slice x.fa x.fn x.fc
def PtI.k (x : PtI) : Value := .agg #[.slice x.va x.vn x.vc, .slice x.ma x.mn x.mc]
/-- what Check says -/
def chkI (x : PtI) : Int := if chkF x.l = 0 then chkK x.V x.M else chkF x.l
def chkPGo : List PtI → Int
  | [] => 0
  | x :: r => if chkI x = 0 then chkPGo r else chkI x
def chkP (K : List PtI) : Int := if 30 < K.length then 2 else chkPGo K
theorem chkPGo_at {K : List PtI} {i : Nat} {x : PtI} (h : K[i]? = some x) : chkPGo (K.drop i) = if chkI x = 0 then chkPGo (K.drop (i + 1)) else chkI x := by
  obtain ⟨hi, e⟩ := List.getElem?_eq_some_iff.1 h
  rw [List.drop_eq_getElem_cons hi, e]
  rfl
theorem chkPGo_zero {K : List PtI} : chkPGo K = 0 ↔ ∀ x ∈ K, chkI x = 0 := by
  induction K with
  | nil => simp [chkPGo]
  | cons a K ih =>
    unfold chkPGo
    by_cases h : chkI a = 0
    · rw [if_pos h, ih]
      simp [h]
    · rw [if_neg h]
      simp [h]
end Rm
namespace Go.Proofs.YtghjfakellaecaaGreat
open Go.RowKit Rm Gx
structure MeanI (w : World) (x : PtI) : Prop where
  fs : RdF w x.f x.l
  kn : KnR w x.k x.V x.M
theorem MeanI.gr {w w' : World} {x : PtI} (h : MeanI w x) (g : Gr w w') : MeanI w' x := ⟨h.fs.gr g, h.kn.gr g⟩
def MeansI (w : World) (K : List PtI) : Prop := ∀ x ∈ K, MeanI w x
theorem MeansI.gr {w w' : World} {K : List PtI} (h : MeansI w K) (g : Gr w w') : MeansI w' K := fun x hx => (h x hx).gr g
/-- a part that passes says something -/
theorem MeanI.x {w : World} {x : PtI} (h : MeanI w x) (hc : chkI x = 0) : ∃ y : PtX, encP y = encR x ∧ MeanP w y := by
  unfold chkI at hc
  by_cases h0 : chkF x.l = 0
  · rw [if_pos h0] at hc
    obtain ⟨F, h1, h2, h3⟩ := okF_of h0
    obtain ⟨v, m, h4, h5, h6, h7⟩ := chkK_zero hc
    obtain ⟨q1, q2⟩ := form_self h6
    refine ⟨⟨x.fa, x.fn, x.fc, x.va, x.vn, x.vc, x.ma, x.mn, x.mc, tabF F, memB v m⟩, rfl, ⟨F, h1 ▸ h.fs, h2, h3, fun _ _ => rfl⟩, ?_, ?_⟩
    · show KnR w _ (ints (formV (memB v m))) (pairs (formM (memB v m)))
      rw [q1, q2, ← h4, ← h5]
      exact h.kn
    · show (formM (memB v m)).length ≤ 60
      rw [q2]; exact h7
  · rw [if_neg h0] at hc
    exact absurd hc h0
theorem MeanP.i {w : World} {y : PtX} (h : MeanP w y) : ∃ x : PtI, encR x = encP y ∧ MeanI w x ∧ chkI x = 0 := by
  obtain ⟨F, h1, h2, h3, h4⟩ := h.fs
  have h5 : KnR w y.k (ints (formV y.D)) (pairs (formM y.D)) := h.kn
  have h6 : chkK (ints (formV y.D)) (pairs (formM y.D)) = 0 := (form_ok y.D).chk h.few
  generalize ints (formV y.D) = V at h5 h6
  generalize pairs (formM y.D) = M at h5 h6
  refine ⟨⟨y.fa, y.fn, y.fc, y.va, y.vn, y.vc, y.ma, y.mn, y.mc, F.map boxI, V, M⟩, rfl, ⟨h1, h5⟩, ?_⟩
  unfold chkI
  rw [if_pos (chkF_of h2 h3)]
  exact h6
/-- lists: from what is read to what it says, and back -/
theorem MeansI.xs {w : World} {K : List PtI} (h : MeansI w K) (hc : ∀ x ∈ K, chkI x = 0) : ∃ L : List PtX, L.map encP = K.map encR ∧ MeansP w L := by
  induction K with
  | nil => exact ⟨[], rfl, fun x hx => by cases hx⟩
  | cons a K ih =>
    obtain ⟨y, h1, h2⟩ := (h a (List.mem_cons_self ..)).x (hc a (List.mem_cons_self ..))
    obtain ⟨L, h3, h4⟩ := ih (fun x hx => h x (List.mem_cons_of_mem _ hx)) (fun x hx => hc x (List.mem_cons_of_mem _ hx))
    refine ⟨y :: L, by simp [h1, h3], fun x hx => ?_⟩
    rcases List.mem_cons.1 hx with rfl | hx
    · exact h2
    · exact h4 x hx
theorem MeansP.is {w : World} {L : List PtX} (h : MeansP w L) : ∃ K : List PtI, K.map encR = L.map encP ∧ MeansI w K ∧ ∀ x ∈ K, chkI x = 0 := by
  induction L with
  | nil => exact ⟨[], rfl, (fun x hx => by cases hx), fun x hx => by cases hx⟩
  | cons a L ih =>
    obtain ⟨y, h1, h2, h3⟩ := (h a (List.mem_cons_self ..)).i
    obtain ⟨K, h4, h5, h6⟩ := ih (fun x hx => h x (List.mem_cons_of_mem _ hx))
    refine ⟨y :: K, by simp [h1, h4], fun x hx => ?_, fun x hx => ?_⟩
    · rcases List.mem_cons.1 hx with rfl | hx
      · exact h2
      · exact h5 x hx
    · rcases List.mem_cons.1 hx with rfl | hx
      · exact h3
      · exact h6 x hx
theorem rd_map {E F : Type} {enc : E → List Value} {enc' : F → List Value} {s : Nat} {w : World} {a : Option Addr} {K : List E} {L : List F} (h : RdA enc s w a K) (e : L.map enc' = K.map enc) : RdA enc' s w a L := by
  intro hn
  have hl : L.length = K.length := by simpa using congrArg List.length e
  obtain ⟨b, off, h1, h2, h3⟩ := h (by intro q; rw [q] at hl; exact hn (List.eq_nil_of_length_eq_zero (by simpa using hl)))
  refine ⟨b, off, h1, h2, fun i y hy j u hu => ?_⟩
  have hi : i < K.length := by rw [← hl]; exact (List.getElem?_eq_some_iff.1 hy).1
  have e2 : (L.map enc')[i]? = (K.map enc)[i]? := by rw [e]
  rw [List.getElem?_map, List.getElem?_map, hy, List.getElem?_eq_getElem hi] at e2
  simp only [Option.map_some, Option.some.injEq] at e2
  rw [e2] at hu
  exact h3 i _ (List.getElem?_eq_getElem hi) j u hu
set_option maxHeartbeats 8000000 in
set_option maxRecDepth 100000 in
theorem pcheck_any (K : List PtI) (va : Option Addr) (vc : Nat) (w : World) (hl : K.length ≤ 1000000000) (hv : RdA encR 3 w va K) (hm : MeansI w K) :
    Calls Tryz.prog 46 #[.slice va K.length vc] w fun e w' => e = .returned (.int .i64 (chkP K)) ∧ Gr w w' := by
  refine enter (N := 29) Tryz.func46 rfl rfl rfl (fun a0 ok0 h0 => ?_)
  have e0_0 : a0.eval (.tmp 0) = .slice va K.length vc := h0 0 _ rfl
  clear h0
  have G0 := Gr.refl w
  refine wp_seq_k (fun K1 hK1 => ?_)
  refine wp_region_lit ?_
  refine sv ok0 rfl (wn _ rfl) rfl (o_as ev_const) (fun an2 n2 => ?_)
  refine wpList_nil ?_
  refine th_n (hK1 _ _ ?_)
  refine wp_seq_k (fun K3 hK3 => ?_)
  refine wp_seq_k (fun K4 hK4 => ?_)
  refine wp_region_lit ?_
  refine sv n2.ok rfl (wn _ rfl) rfl (o_mv (n2.ne rfl e0_0)) (fun an5 n5 => ?_)
  refine sv n5.ok rfl (wn _ rfl) rfl (o_len n5.at_ Tryz.underlying22) (fun an6 n6 => ?_)
  refine sv n6.ok rfl (wn _ rfl) rfl (o_gtI n6.at_ ev_const) (fun an7 n7 => ?_)
  refine wpList_nil ?_
  refine th_n (hK4 _ _ ?_)
  by_cases c8 : (30 : Int) < ((K.length : Nat) : Int)
  · refine wp_cond_true ((n7.at_).trans (congrArg Value.bool (decide_eq_true c8))) ?_
    refine wp_seq_k (fun K9 hK9 => ?_)
    refine wp_region_lit ?_
    refine sv n7.ok rfl (wn _ rfl) rfl (o_as ev_const) (fun an10 n10 => ?_)
    refine wpList_nil ?_
    refine th_n (hK9 _ _ ?_)
    refine wp_ret ?_
    refine th_r ?_
    exact ret1 n10.ok rfl (n10.at_) ⟨congrArg (fun n => Ending.returned (Value.int .i64 n)) (by unfold chkP; rw [if_pos (by omega)]), G0⟩
  · refine wp_cond_false ((n7.at_).trans (congrArg Value.bool (decide_eq_false c8))) ?_
    refine wp_skip ?_
    refine th_n (hK3 _ _ ?_)
    refine wp_seq_k (fun K11 hK11 => ?_)
    refine wp_seq_k (fun K12 hK12 => ?_)
    refine wp_region_lit ?_
    have e13 := n7.ne rfl (n6.ne rfl (n5.ne rfl (n2.ne rfl e0_0)))
    refine sv n7.ok rfl (wn _ rfl) rfl (o_mv e13) (fun an14 n14 => ?_)
    refine sv n14.ok rfl (wn _ rfl) rfl (o_len n14.at_ Tryz.underlying22) (fun an15 n15 => ?_)
    refine sv n15.ok rfl (wn _ rfl) rfl (o_mv ev_const) (fun an16 n16 => ?_)
    refine wpList_nil ?_
    refine th_n (hK12 _ _ ?_)
    refine wp_block ?_
    have e18 := n16.ne rfl (n15.ne rfl (n14.ne rfl (n7.ne rfl (n6.ne rfl (n5.ne rfl n2.at_)))))
    refine lp (fun (nL : Nat) (aL : Act) (wL : World) => ∃ i : Nat, nL = K.length - i ∧ Ok 29 aL ∧ Gr w wL ∧ (aL.eval (.tmp 2) = .int .i64 0) ∧ (aL.eval (.tmp 10) = .slice va K.length vc) ∧ (aL.eval (.tmp 11) = .int .i64 ((K.length : Nat) : Int)) ∧ (aL.eval (.tmp 12) = .int .i64 (i : Int)) ∧ (i ≤ K.length) ∧ (chkPGo K = chkPGo (K.drop i))) _ ⟨0, rfl, n16.ok, G0, e18, (n16.ne rfl (n15.ne rfl n14.at_)), (n16.ne rfl n15.at_), n16.at_, by omega, rfl⟩ ?_
    rintro m19 aI17 w21 ⟨i, hmI17, okI17, GI17, s2I17, s10I17, s11I17, s12I17, hiI17, hgI17⟩ KI17 hKI17
    refine wp_seq_k (fun K22 hK22 => ?_)
    refine wp_region_lit ?_
    refine sv okI17 rfl (wn _ rfl) rfl (o_ltI s12I17 s11I17) (fun an23 n23 => ?_)
    refine wpList_nil ?_
    refine th_n (hK22 _ _ ?_)
    refine wp_seq_k (fun K24 hK24 => ?_)
    by_cases c25 : (i : Int) < ((K.length : Nat) : Int)
    · refine wp_cond_true ((n23.at_).trans (congrArg Value.bool (decide_eq_true c25))) ?_
      refine wp_skip ?_
      refine th_n (hK24 _ _ ?_)
      refine wp_seq_k (fun K26 hK26 => ?_)
      refine wp_block ?_
      refine wp_seq_k (fun K27 hK27 => ?_)
      refine wp_region_lit ?_
      have h28l : i < List.length K := by omega
      obtain ⟨bh28, fh28, h28a, h28b, h28c⟩ := hv (ne_nil_of_lt h28l)
      obtain ⟨xh28, h28x⟩ : ∃ x, (K)[i]? = some x := ⟨_, List.getElem?_eq_getElem h28l⟩
      refine sv n23.ok rfl (wn _ rfl) rfl (o_iaV (i := i) (s := 3) h28a (n23.ne rfl s10I17) (n23.ne rfl s12I17) Tryz.underlying22 (by kernel_rfl) h28l) (fun an29 n29 => ?_)
      refine sv n29.ok rfl (wn _ rfl) rfl (o_ldA (k := fh28 + i * 3) n29.at_ (cs := [.slice xh28.fa xh28.fn xh28.fc, .slice xh28.va xh28.vn xh28.vc, .slice xh28.ma xh28.mn xh28.mc]) (fun j v hv => (Below.cell GI17 h28b).trans (h28c _ _ h28x j v hv)) Tryz.underlying35 rfl (by kernel_rfl)) (fun an30 n30 => ?_)
      refine sal (cs := #[.slice none 0 0, .slice none 0 0, .slice none 0 0]) n30.ok rfl (wn _ rfl) rfl (o_al (z := .agg #[.slice none 0 0, .slice none 0 0, .slice none 0 0]) (by kernel_rfl)) (fun an31 w33 b32 W34 n31 => ?_)
      have l35 : w.heap.size ≤ b32 := by rw [W34.eq]; exact GI17.size
      have G36 := GI17.trans W34.gr
      refine ssR rfl (wn _ rfl) (o_stR n31.at_ (n31.ne rfl n30.at_) W34.bk (by kernel_rfl) rfl (by simp [Value.oneCell'])) W34.bk (fun w37 u38 u38b => ?_)
      have G39 : Gr w w37 := Below.upd G36 l35 u38
      refine wpList_nil ?_
      refine th_n (hK27 _ _ ?_)
      refine wp_seq_k (fun K40 hK40 => ?_)
      refine wp_seq_k (fun K41 hK41 => ?_)
      refine wp_region_lit ?_
      refine sv n31.ok rfl (wn _ rfl) rfl (o_fa (z := 1) n31.at_ Tryz.underlying35 rfl (by kernel_rfl) rfl rfl) (fun an42 n42 => ?_)
      refine sv n42.ok rfl (wn _ rfl) rfl (o_ld n42.at_ (Tryz.isAgg23 _) (u38b.cell _ rfl)) (fun an43 n43 => ?_)
      refine sc n43.ok rfl (wn _ rfl) rfl (o_f1 Tryz.func47 rfl rfl rfl n43.at_) (fcheck_any _ _ w37 ((hm _ (List.mem_of_getElem? h28x)).gr G39).fs) ?_
      rintro _ w45 ⟨rfl, g46⟩
      refine ⟨_, rfl, fun an44 n44 => ?_⟩
      have G47 := G39.trans g46
      have B48 := u38b.gr g46
      refine sv n44.ok rfl (wn _ rfl) rfl (o_as n44.at_) (fun an49 n49 => ?_)
      refine wpList_nil ?_
      refine th_n (hK41 _ _ ?_)
      refine wp_seq_k (fun K50 hK50 => ?_)
      refine wp_region_lit ?_
      refine sv n49.ok rfl (wn _ rfl) rfl (o_mv n49.at_) (fun an51 n51 => ?_)
      refine sv n51.ok rfl (wn _ rfl) rfl (o_neI n51.at_ ev_const) (fun an52 n52 => ?_)
      refine wpList_nil ?_
      refine th_n (hK50 _ _ ?_)
      by_cases c53 : ¬ (chkF xh28.l) = 0
      · refine wp_cond_true ((n52.at_).trans (congrArg Value.bool (decide_eq_true c53))) ?_
        refine wp_seq_k (fun K54 hK54 => ?_)
        refine wp_region_lit ?_
        refine sv n52.ok rfl (wn _ rfl) rfl (o_mv (n52.ne rfl (n51.ne rfl n49.at_))) (fun an55 n55 => ?_)
        refine sv n55.ok rfl (wn _ rfl) rfl (o_as n55.at_) (fun an56 n56 => ?_)
        refine wpList_nil ?_
        refine th_n (hK54 _ _ ?_)
        refine wp_ret ?_
        refine th_r ?_
        refine ib_r ?_
        refine th_r ?_
        refine th_r ?_
        refine ib_r ?_
        refine th_r ?_
        exact ret1 n56.ok rfl (n56.at_) ⟨congrArg (fun n => Ending.returned (Value.int .i64 n)) (by unfold chkP; rw [if_neg (by omega), hgI17, chkPGo_at h28x]; unfold chkI; rw [if_neg c53, if_neg c53]), G47⟩
      · refine wp_cond_false ((n52.at_).trans (congrArg Value.bool (decide_eq_false c53))) ?_
        refine wp_skip ?_
        refine th_n (hK40 _ _ ?_)
        refine wp_seq_k (fun K57 hK57 => ?_)
        refine wp_region_lit ?_
        have e58 := n52.ne rfl (n51.ne rfl (n49.ne rfl (n44.ne rfl (n43.ne rfl (n42.ne rfl n31.at_)))))
        refine sv n52.ok rfl (wn _ rfl) rfl (o_fa (z := 2) e58 Tryz.underlying35 rfl (by kernel_rfl) rfl rfl) (fun an59 n59 => ?_)
        refine sv n59.ok rfl (wn _ rfl) rfl (o_ldA (k := 1) (cs := [.slice xh28.va xh28.vn xh28.vc, .slice xh28.ma xh28.mn xh28.mc]) n59.at_ (bk_part B48 rfl) Tryz.underlying33 rfl (by kernel_rfl)) (fun an60 n60 => ?_)
        refine sc n60.ok rfl (wn _ rfl) rfl (o_f1 Tryz.func79 rfl rfl rfl n60.at_) (kcheck_any _ _ _ w45 ((hm _ (List.mem_of_getElem? h28x)).gr G47).kn) ?_
        rintro _ w62 ⟨rfl, g63⟩
        refine ⟨_, rfl, fun an61 n61 => ?_⟩
        have G64 := G47.trans g63
        have B65 := B48.gr g63
        refine sv n61.ok rfl (wn _ rfl) rfl (o_as n61.at_) (fun an66 n66 => ?_)
        refine wpList_nil ?_
        refine th_n (hK57 _ _ ?_)
        refine wp_seq_k (fun K67 hK67 => ?_)
        refine wp_region_lit ?_
        refine sv n66.ok rfl (wn _ rfl) rfl (o_mv n66.at_) (fun an68 n68 => ?_)
        refine sv n68.ok rfl (wn _ rfl) rfl (o_neI n68.at_ ev_const) (fun an69 n69 => ?_)
        refine wpList_nil ?_
        refine th_n (hK67 _ _ ?_)
        by_cases c70 : ¬ (chkK xh28.V xh28.M) = 0
        · refine wp_cond_true ((n69.at_).trans (congrArg Value.bool (decide_eq_true c70))) ?_
          refine wp_seq_k (fun K71 hK71 => ?_)
          refine wp_region_lit ?_
          refine sv n69.ok rfl (wn _ rfl) rfl (o_mv (n69.ne rfl (n68.ne rfl n66.at_))) (fun an72 n72 => ?_)
          refine sv n72.ok rfl (wn _ rfl) rfl (o_as n72.at_) (fun an73 n73 => ?_)
          refine wpList_nil ?_
          refine th_n (hK71 _ _ ?_)
          refine wp_ret ?_
          refine ib_r ?_
          refine th_r ?_
          refine th_r ?_
          refine ib_r ?_
          refine th_r ?_
          exact ret1 n73.ok rfl (n73.at_) ⟨congrArg (fun n => Ending.returned (Value.int .i64 n)) (by unfold chkP; rw [if_neg (by omega), hgI17, chkPGo_at h28x]; unfold chkI; rw [if_pos (Decidable.of_not_not c53), if_neg c70]), G64⟩
        · refine wp_cond_false ((n69.at_).trans (congrArg Value.bool (decide_eq_false c70))) ?_
          refine wp_skip ?_
          refine ib_n ?_
          refine th_n (hK26 _ _ ?_)
          refine wp_region_lit ?_
          have e74 := n69.ne rfl (n68.ne rfl (n66.ne rfl (n61.ne rfl (n60.ne rfl (n59.ne rfl (n52.ne rfl (n51.ne rfl (n49.ne rfl (n44.ne rfl (n43.ne rfl (n42.ne rfl (n31.ne rfl (n30.ne rfl (n29.ne rfl (n23.ne rfl s12I17)))))))))))))))
          refine sv n69.ok rfl (wn _ rfl) rfl (o_add (r := ((i + 1 : Nat) : Int)) e74 ev_const (by omega) (by omega)) (fun an75 n75 => ?_)
          refine sv n75.ok rfl (wn _ rfl) rfl (o_mv n75.at_) (fun an76 n76 => ?_)
          refine wpList_nil ?_
          have e77 := n76.ne rfl (n75.ne rfl (n69.ne rfl (n68.ne rfl (n66.ne rfl (n61.ne rfl (n60.ne rfl (n59.ne rfl (n52.ne rfl (n51.ne rfl (n49.ne rfl (n44.ne rfl (n43.ne rfl (n42.ne rfl (n31.ne rfl (n30.ne rfl (n29.ne rfl (n23.ne rfl s2I17)))))))))))))))))
          have e78 := n76.ne rfl (n75.ne rfl (n69.ne rfl (n68.ne rfl (n66.ne rfl (n61.ne rfl (n60.ne rfl (n59.ne rfl (n52.ne rfl (n51.ne rfl (n49.ne rfl (n44.ne rfl (n43.ne rfl (n42.ne rfl (n31.ne rfl (n30.ne rfl (n29.ne rfl (n23.ne rfl s10I17)))))))))))))))))
          have e79 := n76.ne rfl (n75.ne rfl (n69.ne rfl (n68.ne rfl (n66.ne rfl (n61.ne rfl (n60.ne rfl (n59.ne rfl (n52.ne rfl (n51.ne rfl (n49.ne rfl (n44.ne rfl (n43.ne rfl (n42.ne rfl (n31.ne rfl (n30.ne rfl (n29.ne rfl (n23.ne rfl s11I17)))))))))))))))))
          exact th_n (hKI17 _ _ _ (by omega) ⟨i + 1, rfl, n76.ok, G64, e77, e78, e79, n76.at_, by omega, by rw [hgI17, chkPGo_at h28x, if_pos]; unfold chkI; rw [if_pos (Decidable.of_not_not c53)]; exact Decidable.of_not_not c70⟩)
    · refine wp_cond_false ((n23.at_).trans (congrArg Value.bool (decide_eq_false c25))) ?_
      refine wp_exit ?_
      refine th_x ?_
      refine th_x ?_
      refine ib_x ?_
      refine th_n (hK11 _ _ ?_)
      refine wp_seq_k (fun K80 hK80 => ?_)
      refine wp_region_lit ?_
      refine sv n23.ok rfl (wn _ rfl) rfl (o_as ev_const) (fun an81 n81 => ?_)
      refine wpList_nil ?_
      refine th_n (hK80 _ _ ?_)
      refine wp_ret ?_
      exact ret1 n81.ok rfl (n81.at_) ⟨congrArg (fun n => Ending.returned (Value.int .i64 n)) (by unfold chkP; rw [if_neg (by omega), hgI17, List.drop_eq_nil_of_le (by omega)]; rfl), GI17⟩
theorem pcheck_ok (L : List PtX) (va : Option Addr) (vc : Nat) (w : World) (hl : L.length ≤ 30) (hv : RdA encP 3 w va L) (hm : MeansP w L) : Calls Tryz.prog 46 #[.slice va L.length vc] w fun e w' => e = .returned (.int .i64 0) ∧ Gr w w' := by
  obtain ⟨K, h1, h2, h3⟩ := hm.is
  have hlen : K.length = L.length := by simpa using congrArg List.length h1
  have h := pcheck_any K va vc w (by omega) (rd_map hv h1) h2
  have e : chkP K = 0 := by unfold chkP; rw [if_neg (by omega)]; exact chkPGo_zero.2 h3
  rw [e, hlen] at h
  exact h
def chkP2 (K L : List PtI) : Int := if chkP K = 0 then chkP L else chkP K
set_option maxHeartbeats 8000000 in
set_option maxRecDepth 100000 in
theorem pcheckBoth_any (K L : List PtI) (va vb : Option Addr) (vc vd : Nat) (w : World) (hl1 : K.length ≤ 1000000000) (hl2 : L.length ≤ 1000000000) (h1 : RdA encR 3 w va K) (h2 : RdA encR 3 w vb L) (hm1 : MeansI w K) (hm2 : MeansI w L) :
    Calls Tryz.prog 43 #[.slice va K.length vc, .slice vb L.length vd] w fun e w' => e = .returned (.int .i64 (chkP2 K L)) ∧ Gr w w' := by
  refine enter (N := 13) Tryz.func43 rfl rfl rfl (fun a0 ok0 h0 => ?_)
  have e0_0 : a0.eval (.tmp 0) = .slice va K.length vc := h0 0 _ rfl
  have e0_1 : a0.eval (.tmp 1) = .slice vb L.length vd := h0 1 _ rfl
  clear h0
  have G0 := Gr.refl w
  refine wp_seq_k (fun K1 hK1 => ?_)
  refine wp_region_lit ?_
  refine sv ok0 rfl (wn _ rfl) rfl (o_as ev_const) (fun an2 n2 => ?_)
  refine wpList_nil ?_
  refine th_n (hK1 _ _ ?_)
  refine wp_seq_k (fun K3 hK3 => ?_)
  refine wp_seq_k (fun K4 hK4 => ?_)
  refine wp_region_lit ?_
  refine sv n2.ok rfl (wn _ rfl) rfl (o_mv (n2.ne rfl e0_0)) (fun an5 n5 => ?_)
  refine sc n5.ok rfl (wn _ rfl) rfl (o_f1 Tryz.func46 rfl rfl rfl n5.at_) (pcheck_any K va vc w hl1 (h1.gr G0) (hm1.gr G0)) ?_
  rintro _ w7 ⟨rfl, g8⟩
  refine ⟨_, rfl, fun an6 n6 => ?_⟩
  have G9 := G0.trans g8
  refine sv n6.ok rfl (wn _ rfl) rfl (o_as n6.at_) (fun an10 n10 => ?_)
  refine wpList_nil ?_
  refine th_n (hK4 _ _ ?_)
  refine wp_seq_k (fun K11 hK11 => ?_)
  refine wp_region_lit ?_
  refine sv n10.ok rfl (wn _ rfl) rfl (o_mv n10.at_) (fun an12 n12 => ?_)
  refine sv n12.ok rfl (wn _ rfl) rfl (o_neI n12.at_ ev_const) (fun an13 n13 => ?_)
  refine wpList_nil ?_
  refine th_n (hK11 _ _ ?_)
  by_cases c14 : ¬ (chkP K) = 0
  · refine wp_cond_true ((n13.at_).trans (congrArg Value.bool (decide_eq_true c14))) ?_
    refine wp_seq_k (fun K15 hK15 => ?_)
    refine wp_region_lit ?_
    refine sv n13.ok rfl (wn _ rfl) rfl (o_mv (n13.ne rfl (n12.ne rfl n10.at_))) (fun an16 n16 => ?_)
    refine sv n16.ok rfl (wn _ rfl) rfl (o_as n16.at_) (fun an17 n17 => ?_)
    refine wpList_nil ?_
    refine th_n (hK15 _ _ ?_)
    refine wp_ret ?_
    refine th_r ?_
    exact ret1 n17.ok rfl (n17.at_) ⟨congrArg (fun n => Ending.returned (Value.int .i64 n)) (by unfold chkP2; rw [if_neg c14]), G9⟩
  · refine wp_cond_false ((n13.at_).trans (congrArg Value.bool (decide_eq_false c14))) ?_
    refine wp_skip ?_
    refine th_n (hK3 _ _ ?_)
    refine wp_seq_k (fun K18 hK18 => ?_)
    refine wp_region_lit ?_
    have e19 := n13.ne rfl (n12.ne rfl (n10.ne rfl (n6.ne rfl (n5.ne rfl (n2.ne rfl e0_1)))))
    refine sv n13.ok rfl (wn _ rfl) rfl (o_mv e19) (fun an20 n20 => ?_)
    refine sc n20.ok rfl (wn _ rfl) rfl (o_f1 Tryz.func46 rfl rfl rfl n20.at_) (pcheck_any L vb vd w7 hl2 (h2.gr G9) (hm2.gr G9)) ?_
    rintro _ w22 ⟨rfl, g23⟩
    refine ⟨_, rfl, fun an21 n21 => ?_⟩
    have G24 := G9.trans g23
    refine sv n21.ok rfl (wn _ rfl) rfl (o_as n21.at_) (fun an25 n25 => ?_)
    refine wpList_nil ?_
    refine th_n (hK18 _ _ ?_)
    refine wp_ret ?_
    exact ret1 n25.ok rfl (n25.at_) ⟨congrArg (fun n => Ending.returned (Value.int .i64 n)) (by unfold chkP2; rw [if_pos (Decidable.of_not_not c14)]), G24⟩
theorem pcheckBoth_ok (K L : List PtX) (va vb : Option Addr) (vc vd : Nat) (w : World) (hl : K.length ≤ 30) (hl' : L.length ≤ 30) (hv : RdA encP 3 w va K) (hv' : RdA encP 3 w vb L) (hm : MeansP w K) (hm' : MeansP w L) : Calls Tryz.prog 43 #[.slice va K.length vc, .slice vb L.length vd] w fun e w' => e = .returned (.int .i64 0) ∧ Gr w w' := by
  obtain ⟨K', h1, h2, h3⟩ := hm.is
  obtain ⟨L', h4, h5, h6⟩ := hm'.is
  have hlen : K'.length = K.length := by simpa using congrArg List.length h1
  have hlen' : L'.length = L.length := by simpa using congrArg List.length h4
  have h := pcheckBoth_any K' L' va vb vc vd w (by omega) (by omega) (rd_map hv h1) (rd_map hv' h4) h2 h5
  have e : chkP K' = 0 := by unfold chkP; rw [if_neg (by omega)]; exact chkPGo_zero.2 h3
  have e' : chkP L' = 0 := by unfold chkP; rw [if_neg (by omega)]; exact chkPGo_zero.2 h6
  have e2 : chkP2 K' L' = 0 := by unfold chkP2; rw [if_pos e, e']
  rw [e2, hlen, hlen'] at h
  exact h
def hasE (t n a c : Int) : Int := if (pointB t n && dotB (a, c)) = true then 0 else 1
set_option maxHeartbeats 8000000 in
set_option maxRecDepth 100000 in
theorem phas_ok (K : List PtX) (va : Option Addr) (vc : Nat) (t n a c : Int) (w : World) (hl : K.length ≤ 30) (hv : RdA encP 3 w va K) (hm : MeansP w K) :
    Calls Tryz.prog 23 #[.slice va K.length vc, .agg #[.int .i64 (t), .int .i64 (n)], .agg #[.int .i64 (a), .int .i64 (c)]] w fun e w' => e = .returned (.tuple #[.bool (pointB t n && dotB (a, c) && K.any fun x => bitT x.T t n && hasD x.D a c), .int .i64 (hasE t n a c)]) ∧ Gr w w' := by
  refine enter (N := 25) Tryz.func23 rfl rfl rfl (fun a0 ok0 h0 => ?_)
  have e0_0 : a0.eval (.tmp 0) = .slice va K.length vc := h0 0 _ rfl
  have e0_1 : a0.eval (.tmp 1) = .agg #[.int .i64 (t), .int .i64 (n)] := h0 1 _ rfl
  have e0_2 : a0.eval (.tmp 2) = .agg #[.int .i64 (a), .int .i64 (c)] := h0 2 _ rfl
  clear h0
  have G0 := Gr.refl w
  refine wp_seq_k (fun K1 hK1 => ?_)
  refine wp_region_lit ?_
  refine sal (cs := #[.int .i64 (t), .int .i64 (n)]) ok0 rfl (wn _ rfl) rfl (o_box e0_1) (fun an2 w4 b3 W5 n2 => ?_)
  have l6 : w.heap.size ≤ b3 := by rw [W5.eq]; exact G0.size
  have G7 := G0.trans W5.gr
  refine sal (cs := #[.int .i64 (a), .int .i64 (c)]) n2.ok rfl (wn _ rfl) rfl (o_box (n2.ne rfl e0_2)) (fun an8 w10 b9 W11 n8 => ?_)
  have l12 : b3 < b9 := by rw [W11.eq]; exact W5.bk.lt
  have l13 : w.heap.size ≤ b9 := by rw [W11.eq]; exact G7.size
  have G14 := G7.trans W11.gr
  have B15 := W5.bk.gr W11.gr
  refine sv n8.ok rfl (wn _ rfl) rfl (o_as ev_const) (fun an16 n16 => ?_)
  refine sv n16.ok rfl (wn _ rfl) rfl (o_as ev_const) (fun an17 n17 => ?_)
  refine wpList_nil ?_
  refine th_n (hK1 _ _ ?_)
  refine wp_seq_k (fun K18 hK18 => ?_)
  refine wp_seq_k (fun K19 hK19 => ?_)
  refine wp_region_lit ?_
  have e20 := n17.ne rfl (n16.ne rfl (n8.ne rfl (n2.ne rfl e0_0)))
  refine sv n17.ok rfl (wn _ rfl) rfl (o_mv e20) (fun an21 n21 => ?_)
  refine sc n21.ok rfl (wn _ rfl) rfl (o_f1 Tryz.func46 rfl rfl rfl n21.at_) (pcheck_ok K va vc w10 hl (hv.gr G14) (hm.gr G14)) ?_
  rintro _ w23 ⟨rfl, g24⟩
  refine ⟨_, rfl, fun an22 n22 => ?_⟩
  have G25 := G14.trans g24
  have B26 := B15.gr g24
  have B27 := W11.bk.gr g24
  refine sv n22.ok rfl (wn _ rfl) rfl (o_as n22.at_) (fun an28 n28 => ?_)
  refine wpList_nil ?_
  refine th_n (hK19 _ _ ?_)
  refine wp_seq_k (fun K29 hK29 => ?_)
  refine wp_region_lit ?_
  refine sv n28.ok rfl (wn _ rfl) rfl (o_mv n28.at_) (fun an30 n30 => ?_)
  refine sv n30.ok rfl (wn _ rfl) rfl (o_neq (b := false) n30.at_ ev_const (by decide)) (fun an31 n31 => ?_)
  refine wpList_nil ?_
  refine th_n (hK29 _ _ ?_)
  refine wp_cond_false (n31.at_) ?_
  refine wp_skip ?_
  refine th_n (hK18 _ _ ?_)
  refine wp_seq_k (fun K32 hK32 => ?_)
  refine wp_seq_k (fun K33 hK33 => ?_)
  refine wp_region_lit ?_
  have e34 := n31.ne rfl (n30.ne rfl (n28.ne rfl (n22.ne rfl (n21.ne rfl (n17.ne rfl (n16.ne rfl (n8.ne rfl n2.at_)))))))
  refine sv n31.ok rfl (wn _ rfl) rfl (o_ldR e34 B26 Tryz.underlying56 rfl (by kernel_rfl)) (fun an35 n35 => ?_)
  refine sc n35.ok rfl (wn _ rfl) rfl (o_f1 Tryz.func26 rfl rfl rfl n35.at_) (point_any t n w23) ?_
  rintro _ w37 ⟨rfl, g38⟩
  refine ⟨_, rfl, fun an36 n36 => ?_⟩
  have G39 := G25.trans g38
  have B40 := B26.gr g38
  have B41 := B27.gr g38
  refine sv n36.ok rfl (wn _ rfl) rfl (o_notI n36.at_) (fun an42 n42 => ?_)
  refine sv n42.ok rfl (wn _ rfl) rfl (o_mv n42.at_) (fun an43 n43 => ?_)
  cases c44 : (!(pointB t n))
  · have e45 := (n43.at_).trans (congrArg Value.bool (c44))
    have e46 := ((n43.ne rfl n42.at_)).trans (congrArg Value.bool (c44))
    have e47 := n43.ne rfl (n42.ne rfl (n36.ne rfl (n35.ne rfl (n31.ne rfl (n30.ne rfl (n28.ne rfl (n22.ne rfl (n21.ne rfl (n17.ne rfl (n16.ne rfl n8.at_))))))))))
    refine sv n43.ok rfl (wgT rfl (yl 3 false rfl e45) rfl) rfl (o_ldR e47 B41 Tryz.underlying58 rfl (by kernel_rfl)) (fun an48 n48 => ?_)
    refine sc n48.ok rfl (wgT rfl (yl 3 false rfl (n48.ne rfl e45)) rfl) rfl (o_f1 Tryz.func27 rfl rfl rfl n48.at_) (dot_any (a, c) w37) ?_
    rintro _ w50 ⟨rfl, g51⟩
    refine ⟨_, rfl, fun an49 n49 => ?_⟩
    have G52 := G39.trans g51
    have B53 := B40.gr g51
    have B54 := B41.gr g51
    refine sv n49.ok rfl (wgT rfl (yl 3 false rfl (n49.ne rfl (n48.ne rfl e45))) rfl) rfl (o_notI n49.at_) (fun an55 n55 => ?_)
    have e56 := n55.ne rfl (n49.ne rfl (n48.ne rfl e45))
    refine sv n55.ok rfl (wn _ rfl) rfl (o_pkF e56 n55.at_) (fun an57 n57 => ?_)
    refine wpList_nil ?_
    refine th_n (hK33 _ _ ?_)
    cases c58 : (!(dotB (a, c)))
    · refine wp_cond_false ((n57.at_).trans (congrArg Value.bool (c58))) ?_
      refine wp_skip ?_
      refine th_n (hK32 _ _ ?_)
      refine wp_seq_k (fun K59 hK59 => ?_)
      refine wp_region_lit ?_
      have e60 := n57.ne rfl (n55.ne rfl (n49.ne rfl (n48.ne rfl (n43.ne rfl (n42.ne rfl (n36.ne rfl (n35.ne rfl (n31.ne rfl (n30.ne rfl (n28.ne rfl (n22.ne rfl (n21.ne rfl e20))))))))))))
      refine sv n57.ok rfl (wn _ rfl) rfl (o_mv e60) (fun an61 n61 => ?_)
      have e62 := n61.ne rfl (n57.ne rfl (n55.ne rfl (n49.ne rfl (n48.ne rfl (n43.ne rfl (n42.ne rfl (n36.ne rfl (n35.ne rfl e34))))))))
      have e63 := n61.ne rfl (n57.ne rfl (n55.ne rfl (n49.ne rfl (n48.ne rfl e47))))
      refine sv n61.ok rfl (wn _ rfl) rfl (o_mf (fs := []) (cs := [.pointer (some ⟨b3, 0, none⟩), .pointer (some ⟨b9, 0, none⟩)]) (by simp) (by simp [e62, e63])) (fun an64 n64 => ?_)
      refine sc n64.ok rfl (wn _ rfl) rfl (o_f2 Tryz.func61 rfl rfl rfl (n64.ne rfl n61.at_) n64.at_) (containsP K va vc _ [.pointer (some ⟨b3, 0, none⟩), .pointer (some ⟨b9, 0, none⟩)] (fun x => bitT x.T t n && hasD x.D a c) ⟨_, Tryz.func62, rfl, rfl⟩ (by omega) w50 (hv.gr G52) (fun x hx w1 g1 => has1_any x b3 b9 t n a c w1 ((hm x hx).gr (G52.trans g1)) (B53.gr g1) (B54.gr g1))) ?_
      rintro _ w66 ⟨rfl, g67⟩
      refine ⟨_, rfl, fun an65 n65 => ?_⟩
      have G68 := G52.trans g67
      have B69 := B53.gr g67
      have B70 := B54.gr g67
      refine sv n65.ok rfl (wn _ rfl) rfl (o_as n65.at_) (fun an71 n71 => ?_)
      refine sv n71.ok rfl (wn _ rfl) rfl (o_as ev_const) (fun an72 n72 => ?_)
      refine wpList_nil ?_
      refine th_n (hK59 _ _ ?_)
      refine wp_ret ?_
      exact ret2 n72.ok rfl ((n72.ne rfl n71.at_)) (n72.at_) ⟨by unfold hasE; rw [show pointB t n = true by simpa using c44, show dotB (a, c) = true by simpa using c58]; rfl, G68⟩
    · refine wp_cond_true ((n57.at_).trans (congrArg Value.bool (c58))) ?_
      refine wp_seq_k (fun K73 hK73 => ?_)
      refine wp_region_lit ?_
      refine sv n57.ok rfl (wn _ rfl) rfl (o_as ev_const) (fun an74 n74 => ?_)
      refine sv n74.ok rfl (wn _ rfl) rfl (o_as ev_const) (fun an75 n75 => ?_)
      refine wpList_nil ?_
      refine th_n (hK73 _ _ ?_)
      refine wp_ret ?_
      refine th_r ?_
      exact ret2 n75.ok rfl ((n75.ne rfl n74.at_)) (n75.at_) ⟨by unfold hasE; rw [show pointB t n = true by simpa using c44, show dotB (a, c) = false by simpa using c58]; rfl, G52⟩
  · have e76 := (n43.at_).trans (congrArg Value.bool (c44))
    have e77 := ((n43.ne rfl n42.at_)).trans (congrArg Value.bool (c44))
    refine sn n43.ok rfl (wgF rfl (yl 3 true rfl e76) rfl) rfl (fun an78 n78 => ?_)
    refine sn n78.ok rfl (wgF rfl (yl 3 true rfl (n78.ne rfl e76)) rfl) rfl (fun an79 n79 => ?_)
    refine sn n79.ok rfl (wgF rfl (yl 3 true rfl (n79.ne rfl (n78.ne rfl e76))) rfl) rfl (fun an80 n80 => ?_)
    have e81 := n80.ne rfl (n79.ne rfl (n78.ne rfl e76))
    refine sv n80.ok rfl (wn _ rfl) rfl (o_pkT e81 ev_const) (fun an82 n82 => ?_)
    refine wpList_nil ?_
    refine th_n (hK33 _ _ ?_)
    refine wp_cond_true (n82.at_) ?_
    refine wp_seq_k (fun K83 hK83 => ?_)
    refine wp_region_lit ?_
    refine sv n82.ok rfl (wn _ rfl) rfl (o_as ev_const) (fun an84 n84 => ?_)
    refine sv n84.ok rfl (wn _ rfl) rfl (o_as ev_const) (fun an85 n85 => ?_)
    refine wpList_nil ?_
    refine th_n (hK83 _ _ ?_)
    refine wp_ret ?_
    refine th_r ?_
    exact ret2 n85.ok rfl ((n85.ne rfl n84.at_)) (n85.at_) ⟨by unfold hasE; rw [show pointB t n = false by simpa using c44]; rfl, G39⟩
end Go.Proofs.YtghjfakellaecaaGreat

/- slices.SortFunc at part.marks: the same marks, in order. -/
namespace Rm
open Go Go.RowKit Gx
def encM (x : Nat × Nat) : List Value := [.int .u32 x.1, .int .u32 x.2]
theorem encM_ok : EncOk encM 2 := ⟨fun x => rfl, fun x u hu => by
  simp [encM] at hu
  rcases hu with rfl | rfl <;> rfl⟩
end Rm
namespace Go.Proofs
open Go.Shelf
def Tryz.sortMarks_ren : Go.Shelf.Ren := ⟨fun | 6 => 138 | 15 => 146 | 14 => 152 | 28 => 164 | 29 => 165 | 20 => 168 | 21 => 169 | 22 => 170 | 23 => 171 | 24 => 172 | 25 => 173 | 26 => 174 | 27 => 175 | 46 => 182 | 47 => 178 | 48 => 179 | 49 => 183 | 50 => 184 | 57 => 186 | n => n, fun | 22 => 118 | 24 => 122 | 25 => 197 | 3 => 3 | 39 => 203 | 0 => 0 | 53 => 120 | 55 => 46 | 4 => 4 | 46 => 212 | 45 => 211 | 50 => 216 | 5 => 5 | 9 => 9 | 66 => 226 | 70 => 230 | 76 => 234 | 77 => 235 | n => n, fun | n => n⟩
theorem Tryz.sortMarks : Go.Proofs.SlLaysF0.n6 Tryz.prog Tryz.sortMarks_ren := {
  mixed := by kernel_rfl
  f6 := ⟨Tryz.f138.name, by decide, Tryz.func138.trans (congrArg some (by kernel_rfl))⟩
  f14 := ⟨Tryz.f152.name, by decide, Tryz.func152.trans (congrArg some (by kernel_rfl))⟩
  f15 := Tryz.func146.trans (congrArg some (by kernel_rfl))
  f20 := ⟨Tryz.f168.name, by decide, Tryz.func168.trans (congrArg some (by kernel_rfl))⟩
  f21 := ⟨Tryz.f169.name, by decide, Tryz.func169.trans (congrArg some (by kernel_rfl))⟩
  f22 := ⟨Tryz.f170.name, by decide, Tryz.func170.trans (congrArg some (by kernel_rfl))⟩
  f23 := ⟨Tryz.f171.name, by decide, Tryz.func171.trans (congrArg some (by kernel_rfl))⟩
  f24 := ⟨Tryz.f172.name, by decide, Tryz.func172.trans (congrArg some (by kernel_rfl))⟩
  f25 := ⟨Tryz.f173.name, by decide, Tryz.func173.trans (congrArg some (by kernel_rfl))⟩
  f26 := ⟨Tryz.f174.name, by decide, Tryz.func174.trans (congrArg some (by kernel_rfl))⟩
  f27 := ⟨Tryz.f175.name, by decide, Tryz.func175.trans (congrArg some (by kernel_rfl))⟩
  f28 := Tryz.func164.trans (congrArg some (by kernel_rfl))
  f29 := Tryz.func165.trans (congrArg some (by kernel_rfl))
  f46 := ⟨Tryz.f182.name, by decide, Tryz.func182.trans (congrArg some (by kernel_rfl))⟩
  f47 := Tryz.func178.trans (congrArg some (by kernel_rfl))
  f48 := Tryz.func179.trans (congrArg some (by kernel_rfl))
  f49 := ⟨Tryz.f183.name, by decide, Tryz.func183.trans (congrArg some (by kernel_rfl))⟩
  f50 := ⟨Tryz.f184.name, by decide, Tryz.func184.trans (congrArg some (by kernel_rfl))⟩
  f57 := ⟨Tryz.f186.name, by decide, Tryz.func186.trans (congrArg some (by kernel_rfl))⟩
  t0 := Tryz.underlying0
  a0 := Tryz.isAgg0
  z0 := Tryz.sizeOf0
  v0 := Tryz.zeroValue0
  t3 := Tryz.underlying3
  a3 := Tryz.isAgg3
  z3 := Tryz.sizeOf3
  v3 := Tryz.zeroValue3
  t4 := Tryz.underlying4
  a4 := Tryz.isAgg4
  z4 := Tryz.sizeOf4
  v4 := Tryz.zeroValue4
  t5 := Tryz.underlying5
  a5 := Tryz.isAgg5
  z5 := Tryz.sizeOf5
  v5 := Tryz.zeroValue5
  t9 := Tryz.underlying9
  a9 := Tryz.isAgg9
  z9 := Tryz.sizeOf9
  v9 := Tryz.zeroValue9
  t22 := Tryz.underlying118
  a22 := Tryz.isAgg118
  z22 := Tryz.sizeOf118
  v22 := Tryz.zeroValue118
  t25 := Tryz.underlying197
  a25 := Tryz.isAgg197
  z25 := Tryz.sizeOf197
  v25 := Tryz.zeroValue197
  t39 := Tryz.underlying203
  a39 := Tryz.isAgg203
  z39 := Tryz.sizeOf203
  v39 := Tryz.zeroValue203
  t45 := Tryz.underlying211
  a45 := Tryz.isAgg211
  z45 := Tryz.sizeOf211
  v45 := Tryz.zeroValue211
  t46 := Tryz.underlying212
  a46 := Tryz.isAgg212
  z46 := Tryz.sizeOf212
  v46 := Tryz.zeroValue212
  t50 := Tryz.underlying216
  a50 := Tryz.isAgg216
  z50 := Tryz.sizeOf216
  v50 := Tryz.zeroValue216
  t53 := Tryz.underlying120
  a53 := Tryz.isAgg120
  z53 := Tryz.sizeOf120
  v53 := Tryz.zeroValue120
  t55 := Tryz.underlying46
  a55 := Tryz.isAgg46
  z55 := Tryz.sizeOf46
  v55 := Tryz.zeroValue46
  t66 := Tryz.underlying226
  a66 := Tryz.isAgg226
  z66 := Tryz.sizeOf226
  v66 := Tryz.zeroValue226
  t70 := Tryz.underlying230
  a70 := Tryz.isAgg230
  z70 := Tryz.sizeOf230
  v70 := Tryz.zeroValue230
  t76 := Tryz.underlying234
  a76 := Tryz.isAgg234
  z76 := Tryz.sizeOf234
  v76 := Tryz.zeroValue234
  t77 := Tryz.underlying235
  a77 := Tryz.isAgg235
  z77 := Tryz.sizeOf235
  v77 := Tryz.zeroValue235 }
end Go.Proofs
namespace Rm
open Go Go.RowKit Go.Sort Gx
theorem flatK_eqM (l : List (Nat × Nat)) : Go.Sort.flatK encM 2 l.toArray = (flatE encM l).toArray := by
  apply Array.ext_getElem?
  intro t
  have hl : (flatE encM l).length = l.length * 2 := flatE_len encM_ok l
  rcases Nat.lt_or_ge t (l.length * 2) with c | c
  · have h1 : t < (Go.Sort.flatK encM 2 l.toArray).size := by simpa using c
    have h2 := get_flatK encM 2 l.toArray t (by simpa using c)
    rw [getElem!_pos (Go.Sort.flatK encM 2 l.toArray) t h1] at h2
    rw [Array.getElem?_eq_getElem h1, h2]
    have hd : t / 2 < l.length := by omega
    obtain ⟨p, hp⟩ : ∃ p, l[t / 2]? = some p := ⟨_, List.getElem?_eq_getElem hd⟩
    have h4 : l.toArray[t / 2]! = p := by
      rw [getElem!_pos l.toArray (t / 2) (by simpa using hd)]
      have := List.getElem?_eq_some_iff.1 hp
      simpa using this.2
    rw [h4]
    have hm : t % 2 = 0 ∨ t % 2 = 1 := by omega
    rcases hm with e | e
    · have h3 := flatE_at encM_ok hp (j := 0) rfl
      have e' : t / 2 * 2 + 0 = t := by omega
      rw [e'] at h3
      rw [e]
      simpa [encM] using h3.symm
    · have h3 := flatE_at encM_ok hp (j := 1) rfl
      have e' : t / 2 * 2 + 1 = t := by omega
      rw [e'] at h3
      rw [e]
      simpa [encM] using h3.symm
  · rw [Array.getElem?_eq_none (by simpa using c), Array.getElem?_eq_none (by simp; omega)]
end Rm
namespace Go.Proofs.YtghjfakellaecaaGreat
open Go.RowKit Rm Go.Sort Gx
set_option linter.unusedVariables false
set_option linter.unusedSimpArgs false
theorem TwoU.new (w : World) (x1 x2 : Nat) (t : TypeId) : w.heap.size < (w.alloc (.cells #[.int .u32 (x1 : Int), .int .u32 (x2 : Int)] t)).heap.size ∧ (w.alloc (.cells #[.int .u32 (x1 : Int), .int .u32 (x2 : Int)] t)).cell? ⟨w.heap.size, 0, none⟩ = some (.int .u32 (x1 : Int)) ∧ (w.alloc (.cells #[.int .u32 (x1 : Int), .int .u32 (x2 : Int)] t)).cell? ⟨w.heap.size, 1, none⟩ = some (.int .u32 (x2 : Int)) := by
  refine ⟨by rw [World.size_alloc]; omega, ?_, ?_⟩ <;> simp [go_sem]
set_option maxHeartbeats 400000 in
set_option maxRecDepth 100000 in
theorem nanU_any (x : Int) (w : World) : Calls Tryz.prog 153 #[.int .u32 x] w fun e w' => e = .returned (.bool false) ∧ w' = w := by
  go_enter Tryz.func153, Tryz.ntmps153
  go_wp2
  go_ret
  exact ⟨by simp, rfl⟩
set_option maxHeartbeats 1000000 in
set_option maxRecDepth 100000 in
theorem cmpU_any (x y : Int) (w : World) : Calls Tryz.prog 141 #[.int .u32 x, .int .u32 y] w fun e w' => e = .returned (.int .i64 (Lib.compareInt x y)) ∧ w' = w := by
  go_enter Tryz.func141, Tryz.ntmps141
  go_wp2_with (go_at_call 153; refine (nanU_any _ _).mono ?_; rintro e w' ⟨rfl, hw⟩; rw [hw])
  all_goals (go_ret; refine ⟨?_, rfl⟩; unfold Lib.compareInt; (repeat' split) <;> first | rfl | (exfalso; omega))

set_option maxHeartbeats 1000000 in
set_option maxRecDepth 100000 in
theorem compareM_any (x y : Nat × Nat) (w : World) :
    Calls Tryz.prog 139 #[.agg #[.int .u32 x.1, .int .u32 x.2], .agg #[.int .u32 y.1, .int .u32 y.2]] w fun e w' => e = .returned (.int .i64 (cmpD x y)) ∧ GrD w w' := by
  have H1 := Lib.hid (cmpU_any (x.1 : Int) (y.1 : Int))
  have H2 := Lib.hid (cmpU_any (x.2 : Int) (y.2 : Int))
  have H3 := Lib.hid (or_any (Lib.compareInt (x.1 : Int) y.1) (Lib.compareInt (x.2 : Int) y.2))
  have HD : Hid (cmpD x y = if Lib.compareInt (x.1 : Int) y.1 != 0 then Lib.compareInt (x.1 : Int) y.1 else Lib.compareInt (x.2 : Int) y.2) := rfl
  generalize Lib.compareInt (x.1 : Int) y.1 = c1 at *
  generalize Lib.compareInt (x.2 : Int) y.2 = c2 at *
  generalize cmpD x y = r at *
  obtain ⟨x1, x2⟩ := x
  obtain ⟨y1, y2⟩ := y
  go_enter Tryz.func139, Tryz.ntmps139
  go_wp2_with fail
  have T0 : w.heap.size < ((w.alloc (.cells #[.int .u32 (x1 : Int), .int .u32 (x2 : Int)] 122)).alloc (.cells #[.int .u32 (y1 : Int), .int .u32 (y2 : Int)] 122)).heap.size ∧ ((w.alloc (.cells #[.int .u32 (x1 : Int), .int .u32 (x2 : Int)] 122)).alloc (.cells #[.int .u32 (y1 : Int), .int .u32 (y2 : Int)] 122)).cell? ⟨w.heap.size, 0, none⟩ = some (.int .u32 (x1 : Int)) ∧ ((w.alloc (.cells #[.int .u32 (x1 : Int), .int .u32 (x2 : Int)] 122)).alloc (.cells #[.int .u32 (y1 : Int), .int .u32 (y2 : Int)] 122)).cell? ⟨w.heap.size, 1, none⟩ = some (.int .u32 (x2 : Int)) := by
    obtain ⟨a1, a2, a3⟩ := TwoU.new w x1 x2 122
    exact ⟨by rw [World.size_alloc]; omega, Lib.cell?_alloc_some _ a2, Lib.cell?_alloc_some _ a3⟩
  have T1 := TwoU.new (w.alloc (.cells #[.int .u32 (x1 : Int), .int .u32 (x2 : Int)] 122)) y1 y2 122
  have G0 := Lib.hid (((GrD.refl w).alloc (.cells #[.int .u32 (x1 : Int), .int .u32 (x2 : Int)] 122)).alloc (.cells #[.int .u32 (y1 : Int), .int .u32 (y2 : Int)] 122))
  rw [World.size_alloc] at T1
  generalize (w.alloc (.cells #[.int .u32 (x1 : Int), .int .u32 (x2 : Int)] 122)).alloc (.cells #[.int .u32 (y1 : Int), .int .u32 (y2 : Int)] 122) = w2 at *
  obtain ⟨t1, t2, t3⟩ := T0
  obtain ⟨u1, u2, u3⟩ := T1
  clear t1 u1
  go_still_tail 10, (by kernel_rfl)
  still_call (H1.out _)
  repeat still_step
  still_call (H2.out _)
  repeat still_step
  refine wpStill_nil ?_
  change wpList _ _ _ _ _ w2.drew
  have G1 := Lib.hid (G0.out.drew)
  clear t2 t3 u2 u3 G0 H1 H2
  generalize w2.drew = w3 at *
  have HC : Hid (∀ c, Calls Tryz.prog 140 #[.slice (some ⟨w3.heap.size, 0, none⟩) 2 c] (w3.alloc (.cells #[.int .i64 c1, .int .i64 c2] 3)) fun e w' => e = .returned (.int .i64 r) ∧ w' = w3.alloc (.cells #[.int .i64 c1, .int .i64 c2] 3)) :=
    fun c => by rw [HD.out]; exact H3.out _ c _ (by simp [go_sem]) (by simp [go_sem])
  go_wp2_with (go_at_call 140; refine (HC.out _).mono ?_; rintro e w' ⟨rfl, rfl⟩)
  go_ret
  exact ⟨rfl, G1.out.alloc _⟩
theorem enter_compareM (args : Array Value) (w : World) : (callFunc 139 args).run Tryz.prog w = .ok (.enter 139 args) w := enters_of Tryz.func139 (by kernel_rfl) rfl _ _
theorem compareM_lays (blk off size : Nat) (w : World) : CmpLays Tryz.prog 139 #[] encM 2 cmpD blk off size w :=
  fun m os dk _ x y => (compareM_any x y _).mono fun e w' ⟨h1, h2⟩ => ⟨h1, h2.grow⟩

set_option maxHeartbeats 1000000 in
set_option maxRecDepth 100000 in
/-- a list of dots that owns its row is sorted where it lies -/
theorem sort_ownM (l : List (Nat × Nat)) (v : Value) (w : World) (base : Nat) (hl : l.length ≤ 5000) (ho : w.ownsRow base 122 2 v l.length (flatE encM l)) :
    Calls Tryz.prog 138 #[v, .func (.func 139) #[] #[]] w fun e w' => e = .returned (.tuple #[]) ∧
      ∃ l' : List (Nat × Nat), l'.Perm l ∧ l'.Pairwise (fun a b => ¬ ltD b a) ∧ w'.ownsRow base 122 2 v l'.length (flatE encM l') ∧ w.grownBy w' v.ownBlock := by
  obtain ⟨hxl, ⟨rfl, hn⟩ | ⟨g, cap, cur, rfl, hbg, hg, hnc, hcm, hcs, htake⟩⟩ := ho
  · obtain rfl : l = [] := List.eq_nil_of_length_eq_zero hn
    refine (AnyF.slices_SortFunc_none Tryz.sortMarks none 0 _ w).mono ?_
    rintro e w' ⟨rfl, rfl⟩
    exact ⟨rfl, [], List.Perm.refl _, List.Pairwise.nil, World.ownsRow_nil _ _ _ _, ⟨rfl, rfl, rfl, Nat.le_refl _, fun _ _ _ => rfl⟩⟩
  · have hlt : g < w.heap.size := (Array.getElem?_eq_some_iff.1 hg).1
    have hfl : (flatE encM l).length = l.length * 2 := by exact flatE_len encM_ok _
    have hH : HoldsK encM 2 w g 0 l.toArray := by
      unfold HoldsK
      rw [flatK_eqM]
      intro j hj
      have hj' : j < (flatE encM l).length := by simpa using hj
      refine ⟨?_, by simp [World.frozen?, hg]⟩
      have h1 : (cur.toList.take (l.length * 2))[j]? = (flatE encM l)[j]? := by rw [htake]
      rw [List.getElem?_take_of_lt (by omega)] at h1
      simp only [World.cell?, hg, Nat.zero_add]
      simp only [Option.isSome_none, Bool.false_eq_true, if_false]
      rw [← Array.getElem?_toList, h1]
      simp [hj']
    have hcon := AnyQ.slices_SortFunc Tryz.sortMarks 2 Tryz.isAgg122 Tryz.sizeOf122 encM (fun _ => rfl) (fun x v hv => by simp [encM] at hv; rcases hv with rfl | rfl <;> rfl) cmpD swoD 139 #[] g 0 cap l.toArray w enter_compareM (compareM_lays g 0 _ w) hH hlt (by simp; omega)
    refine hcon.mono ?_
    rintro e w' ⟨rfl, d', n, os, hp, hs, rfl⟩
    obtain ⟨hsz, -, hperm⟩ := hp
    have hsz' : d'.toList.length = l.length := by simpa using hsz
    have hpl : d'.toList.Perm l := by
      have e1 : (d'.extract 0 l.toArray.size) = d' := by rw [← hsz]; simp
      have e2 : (l.toArray.extract 0 l.toArray.size) = l.toArray := by simp
      rw [e1, e2] at hperm
      simpa using hperm
    refine ⟨rfl, d'.toList, hpl, ?_, ?_, ?_⟩
    · rw [List.pairwise_iff_getElem]
      intro i j hi hj hij hlt
      have h1 := hs i j (Nat.zero_le _) hij (by rw [← hsz]; simpa using hj)
      rw [Bool.eq_false_iff, ne_eq, cmpD_lt] at h1
      apply h1
      rw [getElem!_pos d' j (by simpa using hj), getElem!_pos d' i (by simpa using hi)]
      simpa using hlt
    · have hfk : Go.Sort.flatK encM 2 d' = (flatE encM d'.toList).toArray := by
        have := flatK_eqM d'.toList
        simpa using this
      have hfl' : (flatE encM d'.toList).length = l.length * 2 := by rw [flatE_len encM_ok, hsz']
      refine ⟨by exact flatE_len encM_ok _, .inr ⟨g, cap, putCells id 0 (Go.Sort.flatK encM 2 d') cur, by rw [hsz'], hbg, ?_, by omega, hcm, by simp [putCells, hcs], ?_⟩⟩
      · exact heap_put _ hg
      · rw [hfk, hsz', ← hfl']
        refine take_put cur _ ?_
        rw [hfl', hcs]
        exact Nat.mul_le_mul_right 2 hnc
    · exact grown_put _
end Go.Proofs.YtghjfakellaecaaGreat

/- slices.Compact at part.marks. -/
set_option linter.unusedVariables false
set_option linter.unusedSimpArgs false
namespace Rm
open Go Go.RowKit Gx
/-- a row that holds dots -/
def RowDM (e : TypeId) (w : World) (g cap : Nat) (c : List (Nat × Nat)) : Prop := c.length ≤ cap ∧ ∃ cur, w.heap[g]? = some (.cells cur e (0, 0)) ∧ cur.size = cap * 2 ∧ cur.toList.take (c.length * 2) = flatE encM c
theorem RowDM.cell {e : TypeId} {w : World} {g cap : Nat} {c : List (Nat × Nat)} (h : RowDM e w g cap c) {i : Nat} {d : Nat × Nat} (hd : c[i]? = some d) :
    w.cell? ⟨g, i * 2, none⟩ = some (.int .u32 (d.1 : Int)) ∧ w.cell? ⟨g, i * 2 + 1, none⟩ = some (.int .u32 (d.2 : Int)) ∧ w.frozen? ⟨g, i * 2, none⟩ = false ∧ w.frozen? ⟨g, i * 2 + 1, none⟩ = false := by
  obtain ⟨hl, cur, hg, hsz, ht⟩ := h
  have hi : i < c.length := (List.getElem?_eq_some_iff.1 hd).1
  have hf : (flatE encM c)[i * 2]? = some (.int .u32 (d.1 : Int)) ∧ (flatE encM c)[i * 2 + 1]? = some (.int .u32 (d.2 : Int)) := ⟨flatE_at encM_ok hd (j := 0) rfl, flatE_at encM_ok hd (j := 1) rfl⟩
  have hfl := flatE_len encM_ok c
  rw [← ht] at hf
  rw [List.getElem?_take_of_lt (by omega), List.getElem?_take_of_lt (by omega)] at hf
  refine ⟨?_, ?_, by simp [World.frozen?, hg], by simp [World.frozen?, hg]⟩
  · have := hf.1; simpa [World.cell?, hg] using this
  · have := hf.2; simpa [World.cell?, hg] using this
theorem flat_setDM (c : List (Nat × Nat)) (i : Nat) (d : Nat × Nat) (hi : i < c.length) : ((flatE encM c).set (i * 2) (.int .u32 (d.1 : Int))).set (i * 2 + 1) (.int .u32 (d.2 : Int)) = flatE encM (c.set i d) :=
  splL_flat encM_ok hi d
theorem RowDM.put {e : TypeId} {w : World} {g cap : Nat} {c : List (Nat × Nat)} (h : RowDM e w g cap c) {i : Nat} (d : Nat × Nat) (hi : i < c.length) :
    RowDM e ((w.setCell ⟨g, i * 2, none⟩ (.int .u32 (d.1 : Int))).setCell ⟨g, i * 2 + 1, none⟩ (.int .u32 (d.2 : Int))) g cap (c.set i d) := by
  obtain ⟨hl, cur, hg, hsz, ht⟩ := h
  refine ⟨by simpa using hl, _, hsc (hsc hg), by simpa using hsz, ?_⟩
  rw [← flat_setDM c i d hi, ← ht]
  simp only [Array.toList_setIfInBounds, List.length_set]
  exact take_set2 _ _ _ _ _ _
/-- the inner loop's state -/
def CmpAtM (l : List (Nat × Nat)) (w wr : World) (g cap k0 k j : Nat) (c : List (Nat × Nat)) : Prop :=
  k0 + j + 1 ≤ l.length ∧ k ≤ k0 + j ∧ c.length = l.length ∧ k = (ddT l (k0 + j + 1)).length ∧ c.take k = ddT l (k0 + j + 1) ∧ (∀ i, k0 + j ≤ i → c[i]? = l[i]?) ∧ RowDM 122 wr g cap c ∧ w.grownBy wr (some g)
theorem CmpAtM.same {l : List (Nat × Nat)} {w wr wr' : World} {g cap k0 k j : Nat} {c : List (Nat × Nat)} (h : CmpAtM l w wr g cap k0 k j c) (hlt : k0 + j + 1 < l.length) (he : l[k0 + j + 1]? = l[k0 + j]?) (hr : RowDM 122 wr' g cap c) (hg : wr.grownBy wr' (some g)) : CmpAtM l w wr' g cap k0 k (j + 1) c := by
  obtain ⟨h1, h2, h3, h4, h5, h6, h7, h8⟩ := h
  obtain ⟨d, hd⟩ : ∃ d, l[k0 + j + 1]? = some d := ⟨_, List.getElem?_eq_getElem hlt⟩
  have e : ddT l (k0 + (j + 1) + 1) = ddT l (k0 + j + 1) := ddT_same (i := k0 + j + 1) hd ⟨by omega, by rw [show k0 + j + 1 - 1 = k0 + j from rfl, ← he, hd]⟩
  exact ⟨by omega, by omega, h3, by rw [e]; exact h4, by rw [e]; exact h5, fun i hi => h6 i (by omega), hr, gb_trans h8 hg⟩
theorem CmpAtM.more {l : List (Nat × Nat)} {w wr wr' : World} {g cap k0 k j : Nat} {c : List (Nat × Nat)} {d : Nat × Nat} (h : CmpAtM l w wr g cap k0 k j c) (hd : l[k0 + j + 1]? = some d) (he : l[k0 + j]? ≠ some d) (hr : RowDM 122 wr' g cap (c.set k d)) (hg : wr.grownBy wr' (some g)) : CmpAtM l w wr' g cap k0 (k + 1) (j + 1) (c.set k d) := by
  obtain ⟨h1, h2, h3, h4, h5, h6, h7, h8⟩ := h
  have hlt : k0 + j + 1 < l.length := (List.getElem?_eq_some_iff.1 hd).1
  have e : ddT l (k0 + (j + 1) + 1) = ddT l (k0 + j + 1) ++ [d] := ddT_more (i := k0 + j + 1) hd (fun q => he q.2)
  refine ⟨by omega, by omega, by simpa using h3, by rw [e, h4]; simp, ?_, fun i hi => ?_, hr, gb_trans h8 hg⟩
  · rw [e, ← h5, List.take_set, List.take_add_one, List.getElem?_eq_getElem (by omega : k < c.length), List.set_append_right _ _ (by simp; omega)]
    have : k - (List.take k c).length = 0 := by simp; omega
    rw [this]
    rfl
  · rw [List.getElem?_set_ne (by omega)]; exact h6 i (by omega)
end Rm
namespace Go.Proofs.YtghjfakellaecaaGreat
open Gx Go.RowKit Rm
set_option linter.unusedVariables false
set_option linter.unusedSimpArgs false
def zsDM (n : Nat) : List Value := (Builtin.zeroCells #[.int .u32 0, .int .u32 0] n).toList
theorem zsD_oneM (n : Nat) : ∀ v ∈ zsDM n, v.oneCell' = true := by
  intro v hv
  simp only [zsDM, Builtin.zeroCells, Array.toList_map, List.mem_map] at hv
  obtain ⟨i, -, rfl⟩ := hv
  show ((#[.int .u32 0, .int .u32 0] : Array Value)[i % 2]!).oneCell' = true
  have h : i % 2 = 0 ∨ i % 2 = 1 := by omega
  rcases h with h | h <;> rw [h] <;> rfl
theorem run_clear_dotsM (w : World) (ty : TypeId) (b o n c : Nat) (hn : 0 < n) (hc : ∀ j, j < n * 2 → (w.cell? ⟨b, o + j, none⟩).isSome = true) (hf : ∀ j, j < n * 2 → w.frozen? ⟨b, o + j, none⟩ = false) :
    (Builtin.clear_ #[118] ty #[.slice (some ⟨b, o, none⟩) n c]).run Tryz.prog w = .ok (.tuple #[]) (w.setCells b o (zsDM n)) :=
  run_clear_row Tryz.prog w ty _ _ (.agg #[.int .u32 0, .int .u32 0]) b o n c hn Tryz.underlying118 (by kernel_rfl) (zsD_oneM n) hc hf
theorem flat_takePM (c : List (Nat × Nat)) (k : Nat) (hk : k ≤ c.length) : (flatE encM c).take (k * 2) = flatE encM (c.take k) := flatE_take encM_ok c k hk
theorem RowDM.drewN {e : TypeId} {w : World} {g cap : Nat} {c : List (Nat × Nat)} (h : RowDM e w g cap c) (q : Nat) : RowDM e (w.drewN q) g cap c := h
theorem RowDM.shrink {e : TypeId} {w : World} {g cap k : Nat} {c : List (Nat × Nat)} {vs : List Value} (h : RowDM e w g cap c) (hk : k ≤ c.length) : RowDM e (w.setCells g (k * 2) vs) g cap (c.take k) := by
  obtain ⟨hl, cur, hg, hsz, ht⟩ := h
  obtain ⟨cur', h1, h2, h3⟩ := setCells_block g vs (k * 2) w cur e hg
  refine ⟨by simp; omega, cur', h1, by rw [h2, hsz], ?_⟩
  have hlen : (c.take k).length = k := by simp; omega
  rw [hlen, h3 _ (Nat.le_refl _)]
  have : cur.toList.take (k * 2) = (cur.toList.take (c.length * 2)).take (k * 2) := by rw [List.take_take, Nat.min_eq_left (by omega)]
  rw [this, ht]
  exact flat_takePM _ _ hk
set_option maxHeartbeats 4000000 in
set_option maxRecDepth 100000 in
theorem compact_rowM (l : List (Nat × Nat)) (g cap : Nat) (w : World) (hr : RowDM 122 w g cap l) (hn : l.length ≤ 5000) :
    Calls Tryz.prog 142 #[.slice (some ⟨g, 0, none⟩) l.length cap] w fun e w' => e = .returned (.slice (some ⟨g, 0, none⟩) (ddT l l.length).length cap) ∧ RowDM 122 w' g cap (ddT l l.length) ∧ w.grownBy w' (some g) := by
  have HR := Lib.hid hr
  have hnI : (l.length : Int) ≤ 5000 := by omega
  have hcap : l.length ≤ cap := hr.1
  by_cases h2 : l.length < 2
  · have HE : Hid (ddT l l.length = l) := by
      show _ = _
      rw [ddT_all (Nat.le_refl _) (fun j h1 h3 => by omega)]; simp
    have h2I : (l.length : Int) < 2 := by omega
    clear hr
    go_enter Tryz.func142, Tryz.ntmps142
    go_wp2
    go_ret
    rw [HE.out]
    exact ⟨rfl, HR.out, gb_refl _ _⟩
  · have h2I : ¬ (l.length : Int) < 2 := by omega
    clear hr
    go_enter Tryz.func142, Tryz.ntmps142
    go_wp2
    go_loopg [3] l.length (fun gh s3 wr => ∃ k : Nat, 1 ≤ k ∧ k ≤ l.length ∧ l.length - k ≤ gh ∧ s3 = .int .i64 (k : Int) ∧ (∃ q, wr = w.drewN q) ∧ ∀ j, j < k → 0 < j → l[j]? ≠ l[j - 1]?)
    case atStart => exact ⟨1, by omega, by omega, by omega, rfl, ⟨0, rfl⟩, fun j h1 h3 => by omega⟩
    case round =>
      obtain ⟨k, hk1, hk, hg, rfl, ⟨q, hwr⟩, hall⟩ := hrel
      have HA := Lib.hid hall
      have HW := Lib.hid hwr
      have HRr : Hid (RowDM 122 wr g cap l) := by rw [hwr]; exact RowDM.drewN HR.out q
      clear hall hwr
      by_cases hlt : k < l.length
      · obtain ⟨p, hkp⟩ : ∃ p, k = p + 1 := ⟨k - 1, by omega⟩
        obtain ⟨x, hx⟩ : ∃ x, l[p]? = some x := ⟨_, List.getElem?_eq_getElem (by omega)⟩
        obtain ⟨y, hy⟩ : ∃ y, l[k]? = some y := ⟨_, List.getElem?_eq_getElem (by omega)⟩
        obtain ⟨a0, a1, a2, a3⟩ := RowDM.cell HRr.out hx
        obtain ⟨b0, b1, b2, b3⟩ := RowDM.cell HRr.out hy
        have hltI : (k : Int) < (l.length : Int) := by omega
        have hsub : (k : Int) - 1 = (p : Int) := by omega
        have hpI : (p : Int) < (l.length : Int) := by omega
        have hwp : IntKind.i64.wrap (p : Int) = (p : Int) := IntWalk.i64_in _ (by omega)
        have HX := Lib.hid hx
        have HY := Lib.hid hy
        have HK := Lib.hid hkp
        obtain ⟨x1, x2⟩ := x
        obtain ⟨y1, y2⟩ := y
        simp only at a0 a1 b0 b1
        clear hx hy a2 a3 b2 b3 hkp
        by_cases hdup : (y1, y2) = (x1, x2)
        · obtain ⟨rfl, rfl⟩ := Prod.mk.inj hdup
          clear hdup
          have HS : Hid (∀ m, CmpAtM l w (wr.drewN m) g cap k k 0 l) := by
            intro m
            have hks := HK.out
            have e1 : ddT l (k + 1) = ddT l k := ddT_same (i := k) HY.out ⟨by omega, by rw [show k - 1 = p by omega]; exact HX.out⟩
            have e2 : ddT l k = l.take k := ddT_all (by omega) HA.out
            refine ⟨by omega, by omega, rfl, ?_, ?_, fun i _ => rfl, RowDM.drewN HRr.out m, ?_⟩
            · show k = (ddT l (k + 1)).length
              rw [e1, e2]; simp; omega
            · show l.take k = ddT l (k + 1)
              rw [e1, e2]
            · rw [HW.out]; exact gb_trans (gb_drewN w g q) (gb_drewN _ g m)
          go_wp2_with fail
          go_quiet (fail)
          have HI := Lib.hid (HS.out nq)
          generalize (wr.drewN nq) = w1 at *
          clear HS a0 a1 b0 b1
          have hkc : k ≤ cap := by omega
          go_wp2
          generalize hn2 : l.length - k = n2 at *
          have HN2 := Lib.hid hn2
          clear hn2
          go_loopg [3, 5] l.length (fun gh s3 s5 wr => ∃ (i j j' : Nat) (c : List (Nat × Nat)), s3 = .int .i64 (i : Int) ∧ s5 = .int .i64 (j : Int) ∧ j = j' + 1 ∧ l.length - (k + j) ≤ gh ∧ CmpAtM l w wr g cap k i j' c)
          case atStart => exact ⟨k, 1, 0, l, rfl, rfl, rfl, by omega, HI.out⟩
          case round =>
            obtain ⟨i, j, j', c, rfl, rfl, hjj, hg2, hat⟩ := hrel
            have HT := Lib.hid hat
            have HJ := Lib.hid hjj
            have hij : i ≤ k + j' := hat.2.1
            have hcl : c.length = l.length := hat.2.2.1
            have hle : k + j ≤ l.length := by have := hat.1; omega
            clear hat hjj
            by_cases hjl : k + j < l.length
            · obtain ⟨x, hx⟩ : ∃ x, l[k + j]? = some x := ⟨_, List.getElem?_eq_getElem (by omega)⟩
              obtain ⟨y, hy⟩ : ∃ y, l[k + j']? = some y := ⟨_, List.getElem?_eq_getElem (by have := HJ.out; omega)⟩
              obtain ⟨z, hz⟩ : ∃ z, c[i]? = some z := ⟨_, List.getElem?_eq_getElem (by have := HJ.out; omega)⟩
              have hRow := HT.out.2.2.2.2.2.2.1
              have hhi := HT.out.2.2.2.2.2.1
              have hx' := (hhi (k + j) (by have := HJ.out; omega)).trans hx
              have hy' := (hhi (k + j') (by omega)).trans hy
              obtain ⟨a0, a1, a2, a3⟩ := RowDM.cell hRow hx'
              obtain ⟨b0, b1, b2, b3⟩ := RowDM.cell hRow hy'
              obtain ⟨d0, d1, d2, d3⟩ := RowDM.cell hRow hz
              have o1 : (k + j) * 2 = k * 2 + j * 2 := by omega
              have o2 : (k + j') * 2 = k * 2 + j' * 2 := by omega
              rw [o1] at a0 a1
              rw [o2] at b0 b1
              have HX2 := Lib.hid hx
              have HY2 := Lib.hid hy
              have hjI : (j : Int) < (n2 : Int) := by have := HN2.out; omega
              have hsub : (j : Int) - 1 = (j' : Int) := by have := HJ.out; omega
              have hj'I : (j' : Int) < (n2 : Int) := by omega
              have hiI : (i : Int) < (l.length : Int) := by have := HJ.out; omega
              have hjb : (j : Int) ≤ 5000 := by omega
              have hwj : IntKind.i64.wrap (j' : Int) = (j' : Int) := IntWalk.i64_in _ (by omega)
              have HRow := Lib.hid hRow
              have HIC : Hid (i < c.length) := by show _ < _; have := HJ.out; omega
              obtain ⟨x1, x2⟩ := x
              obtain ⟨y1, y2⟩ := y
              obtain ⟨z1, z2⟩ := z
              simp only at a0 a1 b0 b1 d0 d1
              clear hx hy hz hx' hy' hRow hhi a2 a3 b2 b3 o1 o2
              by_cases hsame : (x1, x2) = (y1, y2)
              · obtain ⟨rfl, rfl⟩ := Prod.mk.inj hsame
                clear hsame
                have HN : Hid (∀ m, CmpAtM l w (wr.drewN m) g cap k i (j' + 1) c) := fun m => CmpAtM.same HT.out (by have := HJ.out; omega) (by rw [show k + j' + 1 = k + j by have := HJ.out; omega, HX2.out, HY2.out]) (RowDM.drewN HRow.out m) (gb_drewN _ g m)
                go_wp2_with fail
                go_quiet (fail)
                go_wp2
                go_roundg (l.length - (k + (j + 1)))
                case measure => omega
                case rel => exact ⟨i, j + 1, j' + 1, c, rfl, by go_num, by rw [HJ.out], Nat.le_refl _, HN.out _⟩
              · have HN : Hid (∀ m, CmpAtM l w (((wr.drewN m).setCell ⟨g, i * 2, none⟩ (.int .u32 (x1 : Int))).setCell ⟨g, i * 2 + 1, none⟩ (.int .u32 (x2 : Int))) g cap k (i + 1) (j' + 1) (c.set i (x1, x2))) := fun m =>
                  CmpAtM.more (d := (x1, x2)) HT.out (by rw [show k + j' + 1 = k + j by have := HJ.out; omega, HX2.out]) (by rw [HY2.out]; intro e; exact hsame (Option.some.inj e).symm) (RowDM.put (RowDM.drewN HRow.out m) (x1, x2) HIC.out) (gb_trans (gb_drewN _ g m) (gb_trans (gset _ g _ _) (gset _ g _ _)))
                have hne : ¬ (x1 = y1 ∧ x2 = y2) := fun e => hsame (by rw [e.1, e.2])
                clear hsame
                have hcase : (¬ x1 = y1) ∨ (x1 = y1 ∧ ¬ x2 = y2) := by omega
                rcases hcase with h1 | ⟨rfl, h1⟩
                · clear hne
                  go_wp2_with fail
                  go_quiet (fail)
                  go_wp2
                  go_roundg (l.length - (k + (j + 1)))
                  case measure => omega
                  case rel => exact ⟨i + 1, j + 1, j' + 1, _, by go_num, by go_num, by rw [HJ.out], Nat.le_refl _, HN.out _⟩
                · clear hne
                  have h1I : ¬ (x2 : Int) = (y2 : Int) := by omega
                  go_wp2_with fail
                  go_quiet (fail)
                  go_wp2
                  go_roundg (l.length - (k + (j + 1)))
                  case measure => omega
                  case rel => exact ⟨i + 1, j + 1, j' + 1, _, by go_num, by go_num, by rw [HJ.out], Nat.le_refl _, HN.out _⟩
            · have hend : k + j = l.length := by omega
              have hjI : ¬ (j : Int) < (n2 : Int) := by have := HN2.out; omega
              have hil : i < l.length := by have := HJ.out; omega
              have hRow := HT.out.2.2.2.2.2.2.1
              have hblk := hRow.2
              have hclr : ∀ ty, (Builtin.clear_ #[118] ty #[.slice (some ⟨g, i * 2, none⟩) (l.length - i) (cap - i)]).run Tryz.prog wr = .ok (.tuple #[]) (wr.setCells g (i * 2) (zsDM (l.length - i))) := fun ty => by
                obtain ⟨cur, hgc, hsz, htk⟩ := hblk
                exact run_clear_dotsM wr ty g (i * 2) _ _ (by omega) (fun m hm => by simp only [World.cell?, hgc]; simp; omega) (fun m hm => by simp [World.frozen?, hgc])
              have HF : Hid ((ddT l l.length).length = i ∧ RowDM 122 (wr.setCells g (i * 2) (zsDM (l.length - i))) g cap (ddT l l.length) ∧ w.grownBy (wr.setCells g (i * 2) (zsDM (l.length - i))) (some g)) := by
                obtain ⟨q1, q2, q3, q4, q5, q6, q7, q8⟩ := HT.out
                have e : k + j' + 1 = l.length := by have := HJ.out; omega
                rw [e] at q4 q5
                refine ⟨q4.symm, ?_, gb_trans q8 (setCells_grown g _ _ _)⟩
                rw [← q5]
                exact RowDM.shrink q7 (by omega)
              have hiI : (i : Int) < (l.length : Int) := by omega
              clear hRow hblk
              go_wp2
              go_ret
              obtain ⟨f1, f2, f3⟩ := HF.out
              exact ⟨by rw [f1]; rfl, f2, f3⟩
        · have HN : Hid (∀ j, j < k + 1 → 0 < j → l[j]? ≠ l[j - 1]?) := fun j h1 h3 => by
            by_cases e : j = k
            · subst e
              rw [show j - 1 = p by have := HK.out; omega, HX.out, HY.out]
              intro e; exact hdup (Option.some.inj e)
            · exact HA.out j (by omega) h3
          have hcase : (¬ y1 = x1) ∨ (y1 = x1 ∧ ¬ y2 = x2) := by
            by_cases e : y1 = x1
            · exact .inr ⟨e, fun e' => hdup (by rw [e, e'])⟩
            · exact .inl e
          clear hdup
          rcases hcase with h1 | ⟨rfl, h1⟩
          · go_wp2_with fail
            go_quiet (fail)
            go_wp2
            go_roundg (l.length - (k + 1))
            case measure => omega
            case rel => exact ⟨k + 1, by omega, by omega, Nat.le_refl _, by go_num, ⟨q + nq, by rw [HW.out]; exact (drewN_add ..)⟩, HN.out⟩
          · have h1I : ¬ (y2 : Int) = (x2 : Int) := by omega
            go_wp2_with fail
            go_quiet (fail)
            go_wp2
            go_roundg (l.length - (k + 1))
            case measure => omega
            case rel => exact ⟨k + 1, by omega, by omega, Nat.le_refl _, by go_num, ⟨q + nq, by rw [HW.out]; exact (drewN_add ..)⟩, HN.out⟩
      · obtain rfl : k = l.length := by omega
        have HE : Hid (ddT l l.length = l) := by
          show _ = _
          rw [ddT_all (Nat.le_refl _) HA.out]; simp
        go_wp2
        go_ret
        rw [HE.out]
        exact ⟨rfl, HRr.out, by rw [HW.out]; exact gb_drewN w g q⟩
/-- over a row that is owned -/
theorem compact_ownM (l : List (Nat × Nat)) (v : Value) (w : World) (base : Nat) (hl : l.length ≤ 5000) (ho : w.ownsRow base 122 2 v l.length (flatE encM l)) :
    Calls Tryz.prog 142 #[v] w fun e w' => ∃ u, e = .returned u ∧ u.ownBlock = v.ownBlock ∧ w'.ownsRow base 122 2 u (ddT l l.length).length (flatE encM (ddT l l.length)) ∧ w.grownBy w' v.ownBlock := by
  obtain ⟨hxl, ⟨rfl, hn⟩ | ⟨g, cap, cur, rfl, hbg, hg, hnc, hcm, hcs, htake⟩⟩ := ho
  · obtain rfl : l = [] := List.eq_nil_of_length_eq_zero hn
    go_enter Tryz.func142, Tryz.ntmps142
    go_wp2
    go_ret
    exact ⟨_, rfl, rfl, World.ownsRow_nil _ _ _ _, ⟨rfl, rfl, rfl, Nat.le_refl _, fun _ _ _ => rfl⟩⟩
  · refine (compact_rowM l g cap w ⟨hnc, cur, hg, hcs, htake⟩ hl).mono ?_
    rintro e w' ⟨rfl, ⟨h1, cur', h2, h3, h4⟩, h5⟩
    exact ⟨_, rfl, rfl, ⟨flatE_len encM_ok _, .inr ⟨g, cap, cur', rfl, hbg, h2, h1, hcm, h3, h4⟩⟩, h5⟩
end Go.Proofs.YtghjfakellaecaaGreat

/- Marks; part.Within. -/
set_option linter.unusedVariables false
set_option linter.unusedSimpArgs false
namespace Rm
open Go Go.RowKit Gx
theorem mkTo_yes {E : Type} {p : E → Bool} {K : List E} {i : Nat} {x : E} (h : K[i]? = some x) (hp : p x = true) : mkTo p K (i + 1) = mkTo p K i ||| 2 ^ i := by
  show (if (K[i]?).any p then _ else _) = _
  rw [h]; simp [hp]
theorem mkTo_no {E : Type} {p : E → Bool} {K : List E} {i : Nat} {x : E} (h : K[i]? = some x) (hp : p x = false) : mkTo p K (i + 1) = mkTo p K i := by
  show (if (K[i]?).any p then _ else _) = _
  rw [h]; simp [hp]
theorem mkTo_lt32 {E : Type} (p : E → Bool) (K : List E) {i : Nat} (h : i ≤ 30) : mkTo p K i < 4294967296 := by
  have h1 := mkTo_lt p K i
  have h2 : (2 : Nat) ^ i ≤ 2 ^ 30 := Nat.pow_le_pow_right (by omega) h
  omega
theorem pow_lt32 {i : Nat} (h : i ≤ 30) : 2 ^ i < 4294967296 := by
  have h2 : (2 : Nat) ^ i ≤ 2 ^ 30 := Nat.pow_le_pow_right (by omega) h
  omega
def addM (M : List (Nat × Nat)) (a b : Nat) : List (Nat × Nat) := if a = 0 then M else M ++ [(a, b)]
/-- the marks of what was looked at: rows below i, and of row i what is below j -/
def MQ (q : Nat → Nat → List PtX → Nat) (W : Nat) (K L : List PtX) (i j : Nat) (m : Nat × Nat) : Prop := ∃ t n, (t < i ∨ t = i ∧ n < j) ∧ n < W ∧ q t n K ≠ 0 ∧ m = (q t n K, q t n L)
theorem mq_start {q : Nat → Nat → List PtX → Nat} {W : Nat} {K L : List PtX} : ∀ m, m ∈ ([] : List (Nat × Nat)) ↔ MQ q W K L 0 0 m := fun m => by
  constructor
  · intro h; cases h
  · rintro ⟨t, n, h, -⟩; omega
theorem mq_add {q : Nat → Nat → List PtX → Nat} {W : Nat} {K L : List PtX} {i j : Nat} {M : List (Nat × Nat)} (h : ∀ m, m ∈ M ↔ MQ q W K L i j m) (hj : j < W) : ∀ m, m ∈ addM M (q i j K) (q i j L) ↔ MQ q W K L i (j + 1) m := fun m => by
  unfold addM
  have step : MQ q W K L i (j + 1) m ↔ MQ q W K L i j m ∨ (q i j K ≠ 0 ∧ m = (q i j K, q i j L)) := by
    constructor
    · rintro ⟨t, n, h1, h2, h3, h4⟩
      by_cases e : t = i ∧ n = j
      · obtain ⟨rfl, rfl⟩ := e; exact .inr ⟨h3, h4⟩
      · exact .inl ⟨t, n, by omega, h2, h3, h4⟩
    · rintro (⟨t, n, h1, h2, h3, h4⟩ | ⟨h3, h4⟩)
      · exact ⟨t, n, by omega, h2, h3, h4⟩
      · exact ⟨i, j, by omega, hj, h3, h4⟩
  rw [step]
  split
  · rename_i e
    rw [h m]
    constructor
    · exact .inl
    · rintro (h1 | ⟨h1, -⟩)
      · exact h1
      · exact absurd e h1
  · rename_i e
    rw [List.mem_append, h m, List.mem_singleton]
    constructor
    · rintro (h1 | h1)
      · exact .inl h1
      · exact .inr ⟨e, h1⟩
    · rintro (h1 | ⟨-, h1⟩)
      · exact .inl h1
      · exact .inr h1
theorem mq_next {q : Nat → Nat → List PtX → Nat} {W j : Nat} {K L : List PtX} {i : Nat} {M : List (Nat × Nat)} (h : ∀ m, m ∈ M ↔ MQ q W K L i j m) (hj : W ≤ j) : ∀ m, m ∈ M ↔ MQ q W K L (i + 1) 0 m := fun m => by
  rw [h m]
  constructor
  · rintro ⟨t, n, h1, h2, h3, h4⟩; exact ⟨t, n, by omega, h2, h3, h4⟩
  · rintro ⟨t, n, h1, h2, h3, h4⟩; exact ⟨t, n, by omega, h2, h3, h4⟩
theorem addM_len (M : List (Nat × Nat)) (a b : Nat) : (addM M a b).length ≤ M.length + 1 := by
  unfold addM
  split
  · omega
  · rw [List.length_append]; simp
def mkP (t n : Nat) (K : List PtX) : Nat := mkL (fun x => bitT x.T (t : Int) (n : Int)) K
def mkD (a c : Nat) (K : List PtX) : Nat := mkL (fun x => hasD x.D (a : Int) ((c + 1 : Nat) : Int)) K
/-- a mark of a point against a mark of a dot: the first list has it and the second hasn't -/
def crossB (p d : Nat × Nat) : Bool := decide (¬ (((p.1 &&& d.1 : Nat) : Int) = 0)) && decide (((p.2 &&& d.2 : Nat) : Int) = 0)
def subP (K L : List PtX) : Prop := ∀ t n a c, t < 16 → n < 32 → inR a c → hasP K t n a c = true → hasP L t n a c = true
theorem cross_iff {K L : List PtX} (t n a c : Nat) (ht : t < 16) (hn : n < 32) (hi : inR a (c + 1)) : crossB (mkP t n K, mkP t n L) (mkD a c K, mkD a c L) = true ↔ hasP K t n a (c + 1) = true ∧ hasP L t n a (c + 1) = false := by
  have key : ∀ K : List PtX, (mkP t n K &&& mkD a c K = 0) ↔ hasP K t n a (c + 1) = false := fun K => by
    unfold mkP mkD hasP
    rw [mkL_and]
    have e : (fun x : PtX => bitT x.T (t : Int) (n : Int) && hasD x.D (a : Int) ((c + 1 : Nat) : Int)) = fun x => (x.T t).testBit n && x.D a (c + 1) := by
      funext x
      have h1 : bitT x.T (t : Int) (n : Int) = (x.T t).testBit n := by unfold bitT; rw [pointB_nat ht hn]; simp
      have h2 : hasD x.D (a : Int) ((c + 1 : Nat) : Int) = x.D a (c + 1) := by
        unfold hasD
        have : dotB ((a : Int), ((c + 1 : Nat) : Int)) = true := (dotB_iff _).2 ⟨by simp, by have := hi.1; simp only; omega, by simp only; omega, by have := hi.2.2; simp only; omega⟩
        rw [this]; simp
      rw [h1, h2]
    rw [e]
  unfold crossB
  rw [Bool.and_eq_true, decide_eq_true_eq, decide_eq_true_eq]
  simp only
  have c1 : (((mkP t n K &&& mkD a c K : Nat) : Int) = 0) ↔ (mkP t n K &&& mkD a c K = 0) := by omega
  have c2 : (((mkP t n L &&& mkD a c L : Nat) : Int) = 0) ↔ (mkP t n L &&& mkD a c L = 0) := by omega
  rw [c1, c2, key, key]
  simp
theorem within_marks {K L : List PtX} {A B : List (Nat × Nat)} (hA : ∀ m, m ∈ A ↔ MQ mkP 32 K L 16 0 m) (hB : ∀ m, m ∈ B ↔ MQ mkD 1000 K L 5 0 m) : (A.any fun p => B.any fun d => crossB p d) = false ↔ subP K L := by
  rw [List.any_eq_false]
  constructor
  · intro h t n a c ht hn hi hk
    cases hl : hasP L t n a c
    · exfalso
      obtain ⟨c, rfl⟩ : ∃ q, c = q + 1 := ⟨c - 1, by have := hi.2.1; omega⟩
      have hc := (cross_iff (K := K) (L := L) t n a c ht hn hi).2 ⟨hk, hl⟩
      have hne : ¬ (mkP t n K &&& mkD a c K = 0) := by
        intro e
        unfold crossB at hc
        rw [Bool.and_eq_true, decide_eq_true_eq] at hc
        exact hc.1 (by simp only; omega)
      have h1 : (mkP t n K, mkP t n L) ∈ A := (hA _).2 ⟨t, n, .inl ht, hn, (fun e => hne (by rw [e]; simp)), rfl⟩
      have h2 : (mkD a c K, mkD a c L) ∈ B := (hB _).2 ⟨a, c, .inl hi.1, by have := hi.2.2; omega, (fun e => hne (by rw [e]; simp)), rfl⟩
      exact h _ h1 (List.any_eq_true.2 ⟨_, h2, hc⟩)
    · rfl
  · intro h p hp hc
    obtain ⟨d, hd, hc⟩ := List.any_eq_true.1 hc
    obtain ⟨t, n, h1, h2, -, rfl⟩ := (hA p).1 hp
    obtain ⟨a, c, h3, h4, -, rfl⟩ := (hB d).1 hd
    have hi : inR a (c + 1) := ⟨by omega, by omega, by omega⟩
    obtain ⟨h5, h6⟩ := (cross_iff t n a c (by omega) h2 hi).1 hc
    rw [h t n a (c + 1) (by omega) h2 hi h5] at h6
    cases h6
theorem mq_lt {q : Nat → Nat → List PtX → Nat} {W i j : Nat} {K L : List PtX} {m : Nat × Nat} (h : MQ q W K L i j m) (hK : ∀ t n, q t n K < 4294967296) (hL : ∀ t n, q t n L < 4294967296) : m.1 < 4294967296 ∧ m.2 < 4294967296 := by
  obtain ⟨t, n, -, -, -, rfl⟩ := h
  exact ⟨hK t n, hL t n⟩
end Rm
namespace Go.Proofs.YtghjfakellaecaaGreat
open Go.RowKit Rm Gx
set_option maxHeartbeats 8000000 in
set_option maxRecDepth 100000 in
theorem indexM (K : List (Nat × Nat)) (va : Option Addr) (vc : Nat) (f : FuncId) (caps : List Value) (p : (Nat × Nat) → Bool) (hf : FnOk Tryz.prog f) (hl : K.length ≤ 100000) (w : World) (hv : RdA encM 2 w va K) (hc : ∀ x ∈ K, ∀ w1, Gr w w1 → Calls Tryz.prog f (.agg #[.int .u32 ((x.1 : Nat) : Int), .int .u32 ((x.2 : Nat) : Int)] :: caps).toArray w1 fun e w2 => e = .returned (.bool (p x)) ∧ Gr w1 w2) :
    Calls Tryz.prog 117 #[.slice va K.length vc, .func (.func f) #[] caps.toArray] w fun e w' => e = .returned (.int .i64 (ixF p K 0)) ∧ Gr w w' := by
  refine enter (N := 19) Tryz.func117 rfl rfl rfl (fun a0 ok0 h0 => ?_)
  have e0_0 : a0.eval (.tmp 0) = .slice va K.length vc := h0 0 _ rfl
  have e0_1 : a0.eval (.tmp 1) = .func (.func f) #[] caps.toArray := h0 1 _ rfl
  clear h0
  have G0 := Gr.refl w
  refine wp_seq_k (fun K1 hK1 => ?_)
  refine wp_region_lit ?_
  refine sv ok0 rfl (wn _ rfl) rfl (o_as ev_const) (fun an2 n2 => ?_)
  refine wpList_nil ?_
  refine th_n (hK1 _ _ ?_)
  refine wp_seq_k (fun K3 hK3 => ?_)
  refine wp_seq_k (fun K4 hK4 => ?_)
  refine wp_region_lit ?_
  refine sv n2.ok rfl (wn _ rfl) rfl (o_mv (n2.ne rfl e0_0)) (fun an5 n5 => ?_)
  refine sv n5.ok rfl (wn _ rfl) rfl (o_len n5.at_ Tryz.underlying118) (fun an6 n6 => ?_)
  refine sv n6.ok rfl (wn _ rfl) rfl (o_mv ev_const) (fun an7 n7 => ?_)
  refine wpList_nil ?_
  refine th_n (hK4 _ _ ?_)
  refine wp_block ?_
  have e9 := n7.ne rfl (n6.ne rfl (n5.ne rfl (n2.ne rfl e0_0)))
  have e10 := n7.ne rfl (n6.ne rfl (n5.ne rfl (n2.ne rfl e0_1)))
  have e11 := n7.ne rfl (n6.ne rfl (n5.ne rfl n2.at_))
  refine lp (fun (nL : Nat) (aL : Act) (wL : World) => ∃ i : Nat, nL = K.length - i ∧ Ok 19 aL ∧ Gr w wL ∧ (aL.eval (.tmp 0) = .slice va K.length vc) ∧ (aL.eval (.tmp 1) = .func (.func f) #[] caps.toArray) ∧ (aL.eval (.tmp 4) = .int .i64 0) ∧ (aL.eval (.tmp 7) = .int .i64 ((K.length : Nat) : Int)) ∧ (aL.eval (.tmp 8) = .int .i64 (i : Int)) ∧ (i ≤ K.length) ∧ (∀ k y, k < i → K[k]? = some y → p y = false)) _ ⟨0, rfl, n7.ok, G0, e9, e10, e11, (n7.ne rfl n6.at_), n7.at_, by omega, fun k y hk => by omega⟩ ?_
  rintro m12 aI8 w14 ⟨i, hmI8, okI8, GI8, s0I8, s1I8, s4I8, s7I8, s8I8, hiI8, hbI8⟩ KI8 hKI8
  refine wp_seq_k (fun K15 hK15 => ?_)
  refine wp_region_lit ?_
  refine sv okI8 rfl (wn _ rfl) rfl (o_ltI s8I8 s7I8) (fun an16 n16 => ?_)
  refine wpList_nil ?_
  refine th_n (hK15 _ _ ?_)
  refine wp_seq_k (fun K17 hK17 => ?_)
  by_cases c18 : (i : Int) < ((K.length : Nat) : Int)
  · refine wp_cond_true ((n16.at_).trans (congrArg Value.bool (decide_eq_true c18))) ?_
    refine wp_skip ?_
    refine th_n (hK17 _ _ ?_)
    refine wp_seq_k (fun K19 hK19 => ?_)
    refine wp_block ?_
    refine wp_seq_k (fun K20 hK20 => ?_)
    refine wp_region_lit ?_
    refine sv n16.ok rfl (wn _ rfl) rfl (o_mv (n16.ne rfl s8I8)) (fun an21 n21 => ?_)
    refine sv n21.ok rfl (wn _ rfl) rfl (o_as n21.at_) (fun an22 n22 => ?_)
    refine wpList_nil ?_
    refine th_n (hK20 _ _ ?_)
    refine wp_seq_k (fun K23 hK23 => ?_)
    refine wp_region_lit ?_
    have e24 := n22.ne rfl (n21.ne rfl (n16.ne rfl s1I8))
    refine sv n22.ok rfl (wn _ rfl) rfl (o_mv e24) (fun an25 n25 => ?_)
    have e26 := n25.ne rfl (n22.ne rfl (n21.ne rfl (n16.ne rfl s0I8)))
    refine sv n25.ok rfl (wn _ rfl) rfl (o_mv e26) (fun an27 n27 => ?_)
    refine sv n27.ok rfl (wn _ rfl) rfl (o_mv (n27.ne rfl (n25.ne rfl n22.at_))) (fun an28 n28 => ?_)
    have h29l : i < List.length K := by omega
    obtain ⟨bh29, fh29, h29a, h29b, h29c⟩ := hv (ne_nil_of_lt h29l)
    obtain ⟨xh29, h29x⟩ : ∃ x, (K)[i]? = some x := ⟨_, List.getElem?_eq_getElem h29l⟩
    refine sv n28.ok rfl (wn _ rfl) rfl (o_iaV (i := i) (s := 2) h29a (n28.ne rfl n27.at_) n28.at_ Tryz.underlying118 (by kernel_rfl) h29l) (fun an30 n30 => ?_)
    refine sv n30.ok rfl (wn _ rfl) rfl (o_ldA (k := fh29 + i * 2) n30.at_ (cs := [.int .u32 ((xh29.1 : Nat) : Int), .int .u32 ((xh29.2 : Nat) : Int)]) (fun j v hv => (Below.cell GI8 h29b).trans (h29c _ _ h29x j v hv)) Tryz.underlying122 rfl (by kernel_rfl)) (fun an31 n31 => ?_)
    have e32 := n31.ne rfl (n30.ne rfl (n28.ne rfl (n27.ne rfl n25.at_)))
    refine sc n31.ok rfl (wn _ rfl) rfl (o_fv1 (caps := caps) hf e32 n31.at_) (hc _ (List.mem_of_getElem? h29x) w14 GI8) ?_
    rintro _ w34 ⟨rfl, g35⟩
    refine ⟨_, rfl, fun an33 n33 => ?_⟩
    have G36 := GI8.trans g35
    refine wpList_nil ?_
    refine th_n (hK23 _ _ ?_)
    cases c37 : (p xh29)
    · refine wp_cond_false ((n33.at_).trans (congrArg Value.bool (c37))) ?_
      refine wp_skip ?_
      refine ib_n ?_
      refine th_n (hK19 _ _ ?_)
      refine wp_region_lit ?_
      have e38 := n33.ne rfl (n31.ne rfl (n30.ne rfl (n28.ne rfl (n27.ne rfl (n25.ne rfl (n22.ne rfl (n21.ne rfl (n16.ne rfl s8I8))))))))
      refine sv n33.ok rfl (wn _ rfl) rfl (o_add (r := ((i + 1 : Nat) : Int)) e38 ev_const (by omega) (by omega)) (fun an39 n39 => ?_)
      refine sv n39.ok rfl (wn _ rfl) rfl (o_mv n39.at_) (fun an40 n40 => ?_)
      refine wpList_nil ?_
      have e41 := n40.ne rfl (n39.ne rfl (n33.ne rfl (n31.ne rfl (n30.ne rfl (n28.ne rfl (n27.ne rfl e26))))))
      have e42 := n40.ne rfl (n39.ne rfl (n33.ne rfl (n31.ne rfl (n30.ne rfl (n28.ne rfl (n27.ne rfl (n25.ne rfl e24)))))))
      have e43 := n40.ne rfl (n39.ne rfl (n33.ne rfl (n31.ne rfl (n30.ne rfl (n28.ne rfl (n27.ne rfl (n25.ne rfl (n22.ne rfl (n21.ne rfl (n16.ne rfl s4I8))))))))))
      have e44 := n40.ne rfl (n39.ne rfl (n33.ne rfl (n31.ne rfl (n30.ne rfl (n28.ne rfl (n27.ne rfl (n25.ne rfl (n22.ne rfl (n21.ne rfl (n16.ne rfl s7I8))))))))))
      exact th_n (hKI8 _ _ _ (by omega) ⟨i + 1, rfl, n40.ok, G36, e41, e42, e43, e44, n40.at_, by omega, fun k y hk hy => by
          rcases Nat.lt_or_ge k i with q | q
          · exact hbI8 k y q hy
          · obtain rfl : k = i := by omega
            rw [h29x] at hy
            cases hy
            exact c37⟩)
    · refine wp_cond_true ((n33.at_).trans (congrArg Value.bool (c37))) ?_
      refine wp_seq_k (fun K45 hK45 => ?_)
      refine wp_region_lit ?_
      have e46 := n33.ne rfl (n31.ne rfl (n30.ne rfl (n28.ne rfl (n27.ne rfl (n25.ne rfl n22.at_)))))
      refine sv n33.ok rfl (wn _ rfl) rfl (o_mv e46) (fun an47 n47 => ?_)
      refine sv n47.ok rfl (wn _ rfl) rfl (o_as n47.at_) (fun an48 n48 => ?_)
      refine wpList_nil ?_
      refine th_n (hK45 _ _ ?_)
      refine wp_ret ?_
      refine ib_r ?_
      refine th_r ?_
      refine th_r ?_
      refine ib_r ?_
      refine th_r ?_
      exact ret1 n48.ok rfl (n48.at_) ⟨congrArg (fun n => Ending.returned (Value.int .i64 n)) ((ixF_some K 0 i _ h29x c37 hbI8).trans (congrArg Int.ofNat (Nat.zero_add _))).symm, G36⟩
  · refine wp_cond_false ((n16.at_).trans (congrArg Value.bool (decide_eq_false c18))) ?_
    refine wp_exit ?_
    refine th_x ?_
    refine th_x ?_
    refine ib_x ?_
    refine th_n (hK3 _ _ ?_)
    refine wp_seq_k (fun K49 hK49 => ?_)
    refine wp_region_lit ?_
    refine sv n16.ok rfl (wn _ rfl) rfl (o_as ev_const) (fun an50 n50 => ?_)
    refine wpList_nil ?_
    refine th_n (hK49 _ _ ?_)
    refine wp_ret ?_
    exact ret1 n50.ok rfl (n50.at_) ⟨congrArg (fun n => Ending.returned (Value.int .i64 n)) (ixF_none K 0 (fun x hx => by
        obtain ⟨k, hk⟩ := List.getElem?_of_mem hx
        have hlt := (List.getElem?_eq_some_iff.1 hk).1
        exact hbI8 k x (by omega) hk)).symm, GI8⟩
set_option maxHeartbeats 8000000 in
set_option maxRecDepth 100000 in
theorem containsM (K : List (Nat × Nat)) (va : Option Addr) (vc : Nat) (f : FuncId) (caps : List Value) (p : (Nat × Nat) → Bool) (hf : FnOk Tryz.prog f) (hl : K.length ≤ 100000) (w : World) (hv : RdA encM 2 w va K) (hc : ∀ x ∈ K, ∀ w1, Gr w w1 → Calls Tryz.prog f (.agg #[.int .u32 ((x.1 : Nat) : Int), .int .u32 ((x.2 : Nat) : Int)] :: caps).toArray w1 fun e w2 => e = .returned (.bool (p x)) ∧ Gr w1 w2) :
    Calls Tryz.prog 67 #[.slice va K.length vc, .func (.func f) #[] caps.toArray] w fun e w' => e = .returned (.bool (K.any p)) ∧ Gr w w' := by
  refine enter (N := 9) Tryz.func67 rfl rfl rfl (fun a0 ok0 h0 => ?_)
  have e0_0 : a0.eval (.tmp 0) = .slice va K.length vc := h0 0 _ rfl
  have e0_1 : a0.eval (.tmp 1) = .func (.func f) #[] caps.toArray := h0 1 _ rfl
  clear h0
  have G0 := Gr.refl w
  refine wp_seq_k (fun K1 hK1 => ?_)
  refine wp_region_lit ?_
  refine sv ok0 rfl (wn _ rfl) rfl (o_as ev_const) (fun an2 n2 => ?_)
  refine wpList_nil ?_
  refine th_n (hK1 _ _ ?_)
  refine wp_seq_k (fun K3 hK3 => ?_)
  refine wp_region_lit ?_
  refine sv n2.ok rfl (wn _ rfl) rfl (o_mv (n2.ne rfl e0_0)) (fun an4 n4 => ?_)
  refine sv n4.ok rfl (wn _ rfl) rfl (o_mv (n4.ne rfl (n2.ne rfl e0_1))) (fun an5 n5 => ?_)
  refine sc n5.ok rfl (wn _ rfl) rfl (o_f2 Tryz.func117 rfl rfl rfl (n5.ne rfl n4.at_) n5.at_) (indexM K va vc f caps p hf hl w (hv.gr G0) (fun x hx w1 g1 => hc x hx w1 (G0.trans g1))) ?_
  rintro _ w7 ⟨rfl, g8⟩
  refine ⟨_, rfl, fun an6 n6 => ?_⟩
  have G9 := G0.trans g8
  refine sv n6.ok rfl (wn _ rfl) rfl (o_geI n6.at_ ev_const) (fun an10 n10 => ?_)
  refine sv n10.ok rfl (wn _ rfl) rfl (o_as n10.at_) (fun an11 n11 => ?_)
  refine wpList_nil ?_
  refine th_n (hK3 _ _ ?_)
  refine wp_ret ?_
  exact ret1 n11.ok rfl (n11.at_) ⟨congrArg (fun b => Ending.returned (Value.bool b)) (ixF_any p K 0), G9⟩
set_option maxHeartbeats 8000000 in
set_option maxRecDepth 100000 in
theorem bitsOf_any (K : List PtX) (va : Option Addr) (vc : Nat) (f : FuncId) (caps : List Value) (p : PtX → Bool) (hf : FnOk Tryz.prog f) (hl : K.length ≤ 30) (w : World) (hv : RdA encP 3 w va K) (hc : ∀ x ∈ K, ∀ w1, Gr w w1 → Calls Tryz.prog f (.agg #[.slice x.fa x.fn x.fc, .slice x.va x.vn x.vc, .slice x.ma x.mn x.mc] :: caps).toArray w1 fun e w2 => e = .returned (.bool (p x)) ∧ Gr w1 w2) :
    Calls Tryz.prog 137 #[.slice va K.length vc, .func (.func f) #[] caps.toArray] w fun e w' => e = .returned (.int .u32 ((mkL p K : Nat) : Int)) ∧ Gr w w' := by
  refine enter (N := 24) Tryz.func137 rfl rfl rfl (fun a0 ok0 h0 => ?_)
  have e0_0 : a0.eval (.tmp 0) = .slice va K.length vc := h0 0 _ rfl
  have e0_1 : a0.eval (.tmp 1) = .func (.func f) #[] caps.toArray := h0 1 _ rfl
  clear h0
  have G0 := Gr.refl w
  refine wp_seq_k (fun K1 hK1 => ?_)
  refine wp_region_lit ?_
  refine sv ok0 rfl (wn _ rfl) rfl (o_as ev_const) (fun an2 n2 => ?_)
  refine wpList_nil ?_
  refine th_n (hK1 _ _ ?_)
  refine wp_seq_k (fun K3 hK3 => ?_)
  refine wp_region_lit ?_
  refine sv n2.ok rfl (wn _ rfl) rfl (o_as ev_const) (fun an4 n4 => ?_)
  refine wpList_nil ?_
  refine th_n (hK3 _ _ ?_)
  refine wp_seq_k (fun K5 hK5 => ?_)
  refine wp_seq_k (fun K6 hK6 => ?_)
  refine wp_region_lit ?_
  refine sv n4.ok rfl (wn _ rfl) rfl (o_mv (n4.ne rfl (n2.ne rfl e0_0))) (fun an7 n7 => ?_)
  refine sv n7.ok rfl (wn _ rfl) rfl (o_len n7.at_ Tryz.underlying22) (fun an8 n8 => ?_)
  refine sv n8.ok rfl (wn _ rfl) rfl (o_mv ev_const) (fun an9 n9 => ?_)
  refine wpList_nil ?_
  refine th_n (hK6 _ _ ?_)
  refine wp_block ?_
  have e11 := n9.ne rfl (n8.ne rfl (n7.ne rfl (n4.ne rfl (n2.ne rfl e0_1))))
  have e12 := n9.ne rfl (n8.ne rfl (n7.ne rfl (n4.ne rfl n2.at_)))
  have e13 := n9.ne rfl (n8.ne rfl (n7.ne rfl n4.at_))
  refine lp (fun (nL : Nat) (aL : Act) (wL : World) => ∃ i : Nat, nL = K.length - i ∧ Ok 24 aL ∧ Gr w wL ∧ (aL.eval (.tmp 1) = .func (.func f) #[] caps.toArray) ∧ (aL.eval (.tmp 4) = .int .u32 0) ∧ (aL.eval (.tmp 5) = .int .u32 (((mkTo p K i) : Nat) : Int)) ∧ (aL.eval (.tmp 8) = .slice va K.length vc) ∧ (aL.eval (.tmp 9) = .int .i64 ((K.length : Nat) : Int)) ∧ (aL.eval (.tmp 10) = .int .i64 (i : Int)) ∧ (i ≤ K.length)) _ ⟨0, rfl, n9.ok, G0, e11, e12, e13, (n9.ne rfl (n8.ne rfl n7.at_)), (n9.ne rfl n8.at_), n9.at_, by omega⟩ ?_
  rintro m14 aI10 w16 ⟨i, hmI10, okI10, GI10, s1I10, s4I10, s5I10, s8I10, s9I10, s10I10, hiI10⟩ KI10 hKI10
  refine wp_seq_k (fun K17 hK17 => ?_)
  refine wp_region_lit ?_
  refine sv okI10 rfl (wn _ rfl) rfl (o_ltI s10I10 s9I10) (fun an18 n18 => ?_)
  refine wpList_nil ?_
  refine th_n (hK17 _ _ ?_)
  refine wp_seq_k (fun K19 hK19 => ?_)
  by_cases c20 : (i : Int) < ((K.length : Nat) : Int)
  · refine wp_cond_true ((n18.at_).trans (congrArg Value.bool (decide_eq_true c20))) ?_
    refine wp_skip ?_
    refine th_n (hK19 _ _ ?_)
    refine wp_seq_k (fun K21 hK21 => ?_)
    refine wp_block ?_
    refine wp_seq_k (fun K22 hK22 => ?_)
    refine wp_region_lit ?_
    refine sv n18.ok rfl (wn _ rfl) rfl (o_mv (n18.ne rfl s10I10)) (fun an23 n23 => ?_)
    have h24l : i < List.length K := by omega
    obtain ⟨bh24, fh24, h24a, h24b, h24c⟩ := hv (ne_nil_of_lt h24l)
    obtain ⟨xh24, h24x⟩ : ∃ x, (K)[i]? = some x := ⟨_, List.getElem?_eq_getElem h24l⟩
    refine sv n23.ok rfl (wn _ rfl) rfl (o_iaV (i := i) (s := 3) h24a (n23.ne rfl (n18.ne rfl s8I10)) (n23.ne rfl (n18.ne rfl s10I10)) Tryz.underlying22 (by kernel_rfl) h24l) (fun an25 n25 => ?_)
    refine sv n25.ok rfl (wn _ rfl) rfl (o_ldA (k := fh24 + i * 3) n25.at_ (cs := [.slice xh24.fa xh24.fn xh24.fc, .slice xh24.va xh24.vn xh24.vc, .slice xh24.ma xh24.mn xh24.mc]) (fun j v hv => (Below.cell GI10 h24b).trans (h24c _ _ h24x j v hv)) Tryz.underlying35 rfl (by kernel_rfl)) (fun an26 n26 => ?_)
    refine sal (cs := #[.slice none 0 0, .slice none 0 0, .slice none 0 0]) n26.ok rfl (wn _ rfl) rfl (o_al (z := .agg #[.slice none 0 0, .slice none 0 0, .slice none 0 0]) (by kernel_rfl)) (fun an27 w29 b28 W30 n27 => ?_)
    have l31 : w.heap.size ≤ b28 := by rw [W30.eq]; exact GI10.size
    have G32 := GI10.trans W30.gr
    have e33 := n27.ne rfl (n26.ne rfl (n25.ne rfl n23.at_))
    refine sv n27.ok rfl (wn _ rfl) rfl (o_as e33) (fun an34 n34 => ?_)
    refine ssR rfl (wn _ rfl) (o_stR (n34.ne rfl n27.at_) (n34.ne rfl (n27.ne rfl n26.at_)) W30.bk (by kernel_rfl) rfl (by simp [Value.oneCell'])) W30.bk (fun w35 u36 u36b => ?_)
    have G37 : Gr w w35 := Below.upd G32 l31 u36
    refine wpList_nil ?_
    refine th_n (hK22 _ _ ?_)
    refine wp_seq_k (fun K38 hK38 => ?_)
    refine wp_region_lit ?_
    have e39 := n34.ne rfl (n27.ne rfl (n26.ne rfl (n25.ne rfl (n23.ne rfl (n18.ne rfl s1I10)))))
    refine sv n34.ok rfl (wn _ rfl) rfl (o_mv e39) (fun an40 n40 => ?_)
    refine sv n40.ok rfl (wn _ rfl) rfl (o_ldR (n40.ne rfl (n34.ne rfl n27.at_)) u36b Tryz.underlying35 rfl (by kernel_rfl)) (fun an41 n41 => ?_)
    refine sc n41.ok rfl (wn _ rfl) rfl (o_fv1 (caps := caps) hf (n41.ne rfl n40.at_) n41.at_) (hc _ (List.mem_of_getElem? h24x) w35 G37) ?_
    rintro _ w43 ⟨rfl, g44⟩
    refine ⟨_, rfl, fun an42 n42 => ?_⟩
    have G45 := G37.trans g44
    have B46 := u36b.gr g44
    refine wpList_nil ?_
    refine th_n (hK38 _ _ ?_)
    cases c47 : (p xh24)
    · refine wp_cond_false ((n42.at_).trans (congrArg Value.bool (c47))) ?_
      refine wp_skip ?_
      refine ib_n ?_
      refine th_n (hK21 _ _ ?_)
      refine wp_region_lit ?_
      have e48 := n42.ne rfl (n41.ne rfl (n40.ne rfl (n34.ne rfl (n27.ne rfl (n26.ne rfl (n25.ne rfl (n23.ne rfl (n18.ne rfl s10I10))))))))
      refine sv n42.ok rfl (wn _ rfl) rfl (o_add (r := ((i + 1 : Nat) : Int)) e48 ev_const (by omega) (by omega)) (fun an49 n49 => ?_)
      refine sv n49.ok rfl (wn _ rfl) rfl (o_mv n49.at_) (fun an50 n50 => ?_)
      refine wpList_nil ?_
      have e51 := n50.ne rfl (n49.ne rfl (n42.ne rfl (n41.ne rfl (n40.ne rfl (n34.ne rfl (n27.ne rfl (n26.ne rfl (n25.ne rfl (n23.ne rfl (n18.ne rfl s5I10))))))))))
      have e52 := n50.ne rfl (n49.ne rfl (n42.ne rfl (n41.ne rfl (n40.ne rfl e39))))
      have e53 := n50.ne rfl (n49.ne rfl (n42.ne rfl (n41.ne rfl (n40.ne rfl (n34.ne rfl (n27.ne rfl (n26.ne rfl (n25.ne rfl (n23.ne rfl (n18.ne rfl s4I10))))))))))
      have e54 := n50.ne rfl (n49.ne rfl (n42.ne rfl (n41.ne rfl (n40.ne rfl (n34.ne rfl (n27.ne rfl (n26.ne rfl (n25.ne rfl (n23.ne rfl (n18.ne rfl s8I10))))))))))
      have e55 := n50.ne rfl (n49.ne rfl (n42.ne rfl (n41.ne rfl (n40.ne rfl (n34.ne rfl (n27.ne rfl (n26.ne rfl (n25.ne rfl (n23.ne rfl (n18.ne rfl s9I10))))))))))
      exact th_n (hKI10 _ _ _ (by omega) ⟨i + 1, rfl, n50.ok, G45, e52, e53, (by rw [mkTo_no h24x c47]; exact e51), e54, e55, n50.at_, by omega⟩)
    · refine wp_cond_true ((n42.at_).trans (congrArg Value.bool (c47))) ?_
      refine wp_region_lit ?_
      have e56 := n42.ne rfl (n41.ne rfl (n40.ne rfl (n34.ne rfl (n27.ne rfl (n26.ne rfl (n25.ne rfl (n23.ne rfl (n18.ne rfl s5I10))))))))
      refine sv n42.ok rfl (wn _ rfl) rfl (o_mv e56) (fun an57 n57 => ?_)
      have e58 := n57.ne rfl (n42.ne rfl (n41.ne rfl (n40.ne rfl n34.at_)))
      refine sv n57.ok rfl (wn _ rfl) rfl (o_mv e58) (fun an59 n59 => ?_)
      refine sv n59.ok rfl (wn _ rfl) rfl (o_shl32 (n := i) ev_const n59.at_ (by omega)) (fun an60 n60 => ?_)
      refine sv n60.ok rfl (wn _ rfl) rfl (o_or32 (n60.ne rfl (n59.ne rfl n57.at_)) n60.at_ (mkTo_lt32 _ _ (by omega)) (pow_lt32 (by omega))) (fun an61 n61 => ?_)
      refine sv n61.ok rfl (wn _ rfl) rfl (o_as n61.at_) (fun an62 n62 => ?_)
      refine wpList_nil ?_
      refine ib_n ?_
      refine th_n (hK21 _ _ ?_)
      refine wp_region_lit ?_
      have e63 := n62.ne rfl (n61.ne rfl (n60.ne rfl (n59.ne rfl (n57.ne rfl (n42.ne rfl (n41.ne rfl (n40.ne rfl (n34.ne rfl (n27.ne rfl (n26.ne rfl (n25.ne rfl (n23.ne rfl (n18.ne rfl s10I10)))))))))))))
      refine sv n62.ok rfl (wn _ rfl) rfl (o_add (r := ((i + 1 : Nat) : Int)) e63 ev_const (by omega) (by omega)) (fun an64 n64 => ?_)
      refine sv n64.ok rfl (wn _ rfl) rfl (o_mv n64.at_) (fun an65 n65 => ?_)
      refine wpList_nil ?_
      have e66 := n65.ne rfl (n64.ne rfl (n62.ne rfl (n61.ne rfl (n60.ne rfl (n59.ne rfl (n57.ne rfl (n42.ne rfl (n41.ne rfl (n40.ne rfl e39)))))))))
      have e67 := n65.ne rfl (n64.ne rfl (n62.ne rfl (n61.ne rfl (n60.ne rfl (n59.ne rfl (n57.ne rfl (n42.ne rfl (n41.ne rfl (n40.ne rfl (n34.ne rfl (n27.ne rfl (n26.ne rfl (n25.ne rfl (n23.ne rfl (n18.ne rfl s4I10)))))))))))))))
      have e68 := n65.ne rfl (n64.ne rfl (n62.ne rfl (n61.ne rfl (n60.ne rfl (n59.ne rfl (n57.ne rfl (n42.ne rfl (n41.ne rfl (n40.ne rfl (n34.ne rfl (n27.ne rfl (n26.ne rfl (n25.ne rfl (n23.ne rfl (n18.ne rfl s8I10)))))))))))))))
      have e69 := n65.ne rfl (n64.ne rfl (n62.ne rfl (n61.ne rfl (n60.ne rfl (n59.ne rfl (n57.ne rfl (n42.ne rfl (n41.ne rfl (n40.ne rfl (n34.ne rfl (n27.ne rfl (n26.ne rfl (n25.ne rfl (n23.ne rfl (n18.ne rfl s9I10)))))))))))))))
      exact th_n (hKI10 _ _ _ (by omega) ⟨i + 1, rfl, n65.ok, G45, e66, e67, (by rw [mkTo_yes h24x c47]; exact (n65.ne rfl (n64.ne rfl n62.at_))), e68, e69, n65.at_, by omega⟩)
  · refine wp_cond_false ((n18.at_).trans (congrArg Value.bool (decide_eq_false c20))) ?_
    refine wp_exit ?_
    refine th_x ?_
    refine th_x ?_
    refine ib_x ?_
    refine th_n (hK5 _ _ ?_)
    refine wp_seq_k (fun K70 hK70 => ?_)
    refine wp_region_lit ?_
    refine sv n18.ok rfl (wn _ rfl) rfl (o_mv (n18.ne rfl s5I10)) (fun an71 n71 => ?_)
    refine sv n71.ok rfl (wn _ rfl) rfl (o_as n71.at_) (fun an72 n72 => ?_)
    refine wpList_nil ?_
    refine th_n (hK70 _ _ ?_)
    refine wp_ret ?_
    exact ret1 n72.ok rfl (n72.at_) ⟨by rw [show mkL p K = mkTo p K i from by unfold mkL; rw [show i = K.length by omega]], GI10⟩
set_option maxHeartbeats 8000000 in
set_option maxRecDepth 100000 in
theorem mark_any (K L : List PtX) (M : List (Nat × Nat)) (va vb ma : Option Addr) (vc vd mc base : Nat) (f : FuncId) (caps : List Value) (p : PtX → Bool) (hf : FnOk Tryz.prog f) (hl : K.length ≤ 30) (hl2 : L.length ≤ 30) (hM : M.length ≤ 100000) (w0 w : World) (hG : Gr w0 w) (hB : w0.heap.size ≤ base) (hz : base ≤ w.heap.size) (ho : w.ownsRow base 122 2 (.slice ma M.length mc) M.length (flatE encM M)) (hv : RdA encP 3 w va K) (hv2 : RdA encP 3 w vb L) (hc : ∀ x, (x ∈ K ∨ x ∈ L) → ∀ w1, Gr w w1 → Calls Tryz.prog f (.agg #[.slice x.fa x.fn x.fc, .slice x.va x.vn x.vc, .slice x.ma x.mn x.mc] :: caps).toArray w1 fun e w2 => e = .returned (.bool (p x)) ∧ Gr w1 w2) :
    Calls Tryz.prog 113 #[.slice ma M.length mc, .slice va K.length vc, .slice vb L.length vd, .func (.func f) #[] caps.toArray] w fun e w' => ∃ u, e = .returned u ∧ w'.ownsRow base 122 2 u (addM M (mkL p K) (mkL p L)).length (flatE encM (addM M (mkL p K) (mkL p L))) ∧ w.grownBy w' (Value.ownBlock (.slice ma M.length mc)) := by
  refine enter (N := 24) Tryz.func113 rfl rfl rfl (fun a0 ok0 h0 => ?_)
  have e0_0 : a0.eval (.tmp 0) = .slice ma M.length mc := h0 0 _ rfl
  have e0_1 : a0.eval (.tmp 1) = .slice va K.length vc := h0 1 _ rfl
  have e0_2 : a0.eval (.tmp 2) = .slice vb L.length vd := h0 2 _ rfl
  have e0_3 : a0.eval (.tmp 3) = .func (.func f) #[] caps.toArray := h0 3 _ rfl
  clear h0
  have A2 := Gr.refl w
  refine wp_seq_k (fun K3 hK3 => ?_)
  refine wp_region_lit ?_
  refine sv ok0 rfl (wn _ rfl) rfl (o_as ev_const) (fun an4 n4 => ?_)
  refine wpList_nil ?_
  refine th_n (hK3 _ _ ?_)
  refine wp_seq_k (fun K5 hK5 => ?_)
  refine wp_seq_k (fun K6 hK6 => ?_)
  refine wp_region_lit ?_
  refine sv n4.ok rfl (wn _ rfl) rfl (o_mv (n4.ne rfl e0_1)) (fun an7 n7 => ?_)
  refine sv n7.ok rfl (wn _ rfl) rfl (o_mv (n7.ne rfl (n4.ne rfl e0_3))) (fun an8 n8 => ?_)
  refine sc n8.ok rfl (wn _ rfl) rfl (o_f2 Tryz.func137 rfl rfl rfl (n8.ne rfl n7.at_) n8.at_) (bitsOf_any K va vc f caps p hf (by omega) w (hv.gr A2) (fun x hx w1 g1 => hc x (.inl hx) w1 (A2.trans g1))) ?_
  rintro _ w10 ⟨rfl, g11⟩
  refine ⟨_, rfl, fun an9 n9 => ?_⟩
  have G12 := hG.trans g11
  have A13 := A2.trans g11
  have z14 := Nat.le_trans hz g11.size
  have O15 := ow_gr ho g11
  have F16 := gb_gr (gb_self : w.grownBy w (Value.ownBlock (.slice ma M.length mc))) g11
  refine sv n9.ok rfl (wn _ rfl) rfl (o_as n9.at_) (fun an17 n17 => ?_)
  refine wpList_nil ?_
  refine th_n (hK6 _ _ ?_)
  refine wp_seq_k (fun K18 hK18 => ?_)
  refine wp_region_lit ?_
  refine sv n17.ok rfl (wn _ rfl) rfl (o_mv n17.at_) (fun an19 n19 => ?_)
  refine sv n19.ok rfl (wn _ rfl) rfl (o_neI n19.at_ ev_const) (fun an20 n20 => ?_)
  refine wpList_nil ?_
  refine th_n (hK18 _ _ ?_)
  by_cases c21 : ¬ (((mkL p K) : Nat) : Int) = 0
  · refine wp_cond_true ((n20.at_).trans (congrArg Value.bool (decide_eq_true c21))) ?_
    refine wp_seq_k (fun K22 hK22 => ?_)
    refine wp_region_lit ?_
    have e23 := n20.ne rfl (n19.ne rfl (n17.ne rfl (n9.ne rfl (n8.ne rfl (n7.ne rfl (n4.ne rfl e0_0))))))
    refine sv n20.ok rfl (wn _ rfl) rfl (o_mv e23) (fun an24 n24 => ?_)
    have e25 := n24.ne rfl (n20.ne rfl (n19.ne rfl n17.at_))
    refine sv n24.ok rfl (wn _ rfl) rfl (o_mv e25) (fun an26 n26 => ?_)
    have e27 := n26.ne rfl (n24.ne rfl (n20.ne rfl (n19.ne rfl (n17.ne rfl (n9.ne rfl (n8.ne rfl (n7.ne rfl (n4.ne rfl e0_2))))))))
    refine sv n26.ok rfl (wn _ rfl) rfl (o_mv e27) (fun an28 n28 => ?_)
    have e29 := n28.ne rfl (n26.ne rfl (n24.ne rfl (n20.ne rfl (n19.ne rfl (n17.ne rfl (n9.ne rfl (n8.ne rfl (n7.ne rfl (n4.ne rfl e0_3)))))))))
    refine sv n28.ok rfl (wn _ rfl) rfl (o_mv e29) (fun an30 n30 => ?_)
    refine sc n30.ok rfl (wn _ rfl) rfl (o_f2 Tryz.func137 rfl rfl rfl (n30.ne rfl n28.at_) n30.at_) (bitsOf_any L vb vd f caps p hf (by omega) w10 (hv2.gr A13) (fun x hx w1 g1 => hc x (.inr hx) w1 (A13.trans g1))) ?_
    rintro _ w32 ⟨rfl, g33⟩
    refine ⟨_, rfl, fun an31 n31 => ?_⟩
    have G34 := G12.trans g33
    have A35 := A13.trans g33
    have z36 := Nat.le_trans z14 g33.size
    have O37 := ow_gr O15 g33
    have F38 := gb_gr F16 g33
    have e39 := n31.ne rfl (n30.ne rfl (n28.ne rfl n26.at_))
    refine sv n31.ok rfl (wn _ rfl) rfl (o_bd (cells := #[.int .u32 (((mkL p K) : Nat) : Int), .int .u32 (((mkL p L) : Nat) : Int)]) (vs := [(0, .int .u32 (((mkL p K) : Nat) : Int)), (1, .int .u32 (((mkL p L) : Nat) : Int))]) (by simp [e39, n31.at_, ev_const]) (by kernel_rfl)) (fun an40 n40 => ?_)
    obtain ⟨i41, i41a, i41b, i41c⟩ := info3_of (show (Tryz.prog.info? 122).map (fun i => (i.zero, i.size)) = some (some (.agg #[.int .u32 0, .int .u32 0]), 2) by kernel_rfl)
    refine sals (cs := #[.int .u32 (((mkL p K) : Nat) : Int), .int .u32 (((mkL p L) : Nat) : Int)]) n40.ok rfl (wn _ rfl) rfl (o_bs (vs := [(0, .agg #[.int .u32 (((mkL p K) : Nat) : Int), .int .u32 (((mkL p L) : Nat) : Int)])]) (by simp [n40.at_, ev_const]) Tryz.underlying118 i41a i41b (by rw [i41c]; rfl) (by rw [i41c]; rfl) (by rw [i41c]; kernel_rfl)) (fun an42 w44 b43 W45 n42 => ?_)
    have l46 : w0.heap.size ≤ b43 := by rw [W45.eq]; exact G34.size
    have l47 : w.heap.size ≤ b43 := by rw [W45.eq]; exact A35.size
    have l48 : ∀ k, Value.ownBlock (.slice ma M.length mc) = some k → k < b43 := fun k e => by rw [W45.eq]; exact ow_in O37 k e
    have l49 : w.heap.size ≤ b43 := by rw [W45.eq]; exact F38.size
    have G50 := G34.trans W45.gr
    have A51 := A35.trans W45.gr
    have z52 := Nat.le_trans z36 W45.gr.size
    have O53 := ow_gr O37 W45.gr
    have F54 := gb_gr F38 W45.gr
    have e55 := n42.ne rfl (n40.ne rfl (n31.ne rfl (n30.ne rfl (n28.ne rfl (n26.ne rfl n24.at_)))))
    obtain ⟨i56, i56a, i56b, i56c, i56d⟩ := info_of (show (Tryz.prog.info? 122).map (fun i => (i.zero, i.size, i.bytes)) = some (some (.agg #[.int .u32 0, .int .u32 0]), 2, 8) by kernel_rfl)
    refine s_app (base := base) (n := M.length) (xs := (flatE encM M)) (m := 1) (news := encM (mkL p K, mkL p L)) n42.ok (wn _ rfl) rfl Tryz.underlying118 i56a i56b i56c i56d rfl (by omega) e55 O53 n42.at_ rfl ((fun j u hu => by rw [add_n]; exact bk_part W45.bk (k := 0) rfl j u hu)) (encM_ok.one (mkL p K, mkL p L)) (by simp only [maxLen]; omega) (by omega) z52 (fun an57 w58 v59 O62 gg63 n57 => ?_)
    obtain ⟨a60, c61, rfl, c61l⟩ := ow_form O62
    have G64 := Gr.grown G50 gg63 (fun k e => Nat.le_trans hB (ow_lt O53 k e))
    have B65 := W45.bk.grown_ne gg63 l48
    have z67 := Nat.le_trans z52 gg63.size
    have F68 := gb_gb F54 gg63
    have O69 : w58.ownsRow base 122 2 (.slice a60 ((M.length + 1)) c61) ((M.length + 1)) ((flatE encM (M ++ [(mkL p K, mkL p L)]))) := by have h := O62; rw [← flatE_one (enc := encM) (mkL p K, mkL p L), ← flatE_app] at h; exact h
    refine sv n57.ok rfl (wn _ rfl) rfl (o_as n57.at_) (fun an70 n70 => ?_)
    refine wpList_nil ?_
    refine th_n (hK22 _ _ ?_)
    refine wp_ret ?_
    refine th_r ?_
    exact ret1 n70.ok rfl (n70.at_) ⟨_, rfl, by unfold addM; rw [if_neg (by omega)]; simpa using O69, F68⟩
  · refine wp_cond_false ((n20.at_).trans (congrArg Value.bool (decide_eq_false c21))) ?_
    refine wp_skip ?_
    refine th_n (hK5 _ _ ?_)
    refine wp_seq_k (fun K71 hK71 => ?_)
    refine wp_region_lit ?_
    have e72 := n20.ne rfl (n19.ne rfl (n17.ne rfl (n9.ne rfl (n8.ne rfl (n7.ne rfl (n4.ne rfl e0_0))))))
    refine sv n20.ok rfl (wn _ rfl) rfl (o_mv e72) (fun an73 n73 => ?_)
    refine sv n73.ok rfl (wn _ rfl) rfl (o_as n73.at_) (fun an74 n74 => ?_)
    refine wpList_nil ?_
    refine th_n (hK71 _ _ ?_)
    refine wp_ret ?_
    exact ret1 n74.ok rfl (n74.at_) ⟨_, rfl, by unfold addM; rw [if_pos (by omega)]; exact O15, F16⟩
set_option maxHeartbeats 8000000 in
set_option maxRecDepth 100000 in
theorem different_any (M : List (Nat × Nat)) (ma : Option Addr) (mc base : Nat) (hl : M.length ≤ 5000) (w0 w : World) (hG : Gr w0 w) (hB : w0.heap.size ≤ base) (hz : base ≤ w.heap.size) (ho : w.ownsRow base 122 2 (.slice ma M.length mc) M.length (flatE encM M)) :
    Calls Tryz.prog 115 #[.slice ma M.length mc] w fun e w' => ∃ (M2 : List (Nat × Nat)) (u : Value), e = .returned u ∧ w'.ownsRow base 122 2 u M2.length (flatE encM M2) ∧ (∀ m, m ∈ M2 ↔ m ∈ M) ∧ M2.length ≤ M.length ∧ w.grownBy w' (Value.ownBlock (.slice ma M.length mc)) := by
  refine enter (N := 7) Tryz.func115 rfl rfl rfl (fun a0 ok0 h0 => ?_)
  have e0_0 : a0.eval (.tmp 0) = .slice ma M.length mc := h0 0 _ rfl
  clear h0
  refine wp_seq_k (fun K1 hK1 => ?_)
  refine wp_region_lit ?_
  refine sv ok0 rfl (wn _ rfl) rfl (o_as ev_const) (fun an2 n2 => ?_)
  refine wpList_nil ?_
  refine th_n (hK1 _ _ ?_)
  refine wp_seq_k (fun K3 hK3 => ?_)
  refine wp_region_lit ?_
  refine sv n2.ok rfl (wn _ rfl) rfl (o_mv (n2.ne rfl e0_0)) (fun an4 n4 => ?_)
  refine sc n4.ok rfl (wn _ rfl) rfl (o_f2 Tryz.func138 rfl rfl rfl n4.at_ ev_func) (sort_ownM M _ w base hl ho) ?_
  rintro _ w6 ⟨rfl, M1, hp1, -, ho1, g7⟩
  refine ⟨_, rfl, fun an5 n5 => ?_⟩
  have G8 := Gr.grown hG g7 (fun k e => Nat.le_trans hB (ow_lt ho k e))
  have z9 := Nat.le_trans hz g7.size
  have F10 := gb_gb (gb_self : w.grownBy w (Value.ownBlock (.slice ma M.length mc))) g7
  refine wpList_nil ?_
  refine th_n (hK3 _ _ ?_)
  refine wp_seq_k (fun K11 hK11 => ?_)
  refine wp_region_lit ?_
  have e12 := n5.ne rfl (n4.ne rfl (n2.ne rfl e0_0))
  refine sv n5.ok rfl (wn _ rfl) rfl (o_mv e12) (fun an13 n13 => ?_)
  refine sc n13.ok rfl (wn _ rfl) rfl (o_f1 Tryz.func142 rfl rfl rfl n13.at_) (compact_ownM M1 _ w6 base (by rw [hp1.length_eq]; exact hl) ho1) ?_
  rintro _ w15 ⟨u2, rfl, hob2, ho2, g16⟩
  obtain ⟨da, dc, rfl, -⟩ := ow_form ho2
  refine ⟨_, rfl, fun an14 n14 => ?_⟩
  have G17 := Gr.grown G8 g16 (fun k e => Nat.le_trans hB (ow_lt ho1 k e))
  have z18 := Nat.le_trans z9 g16.size
  have F19 := gb_gb F10 g16
  refine sv n14.ok rfl (wn _ rfl) rfl (o_as n14.at_) (fun an20 n20 => ?_)
  refine wpList_nil ?_
  refine th_n (hK11 _ _ ?_)
  refine wp_ret ?_
  exact ret1 n20.ok rfl (n20.at_) ⟨ddT M1 M1.length, _, rfl, ho2, fun m => by rw [ddT_all_mem]; exact hp1.mem_iff, by have := ddT_len M1 M1.length; rw [hp1.length_eq] at this ⊢; exact this, F19⟩
set_option maxHeartbeats 8000000 in
set_option maxRecDepth 100000 in
theorem marksOfPoints_any (K L : List PtX) (va vb : Option Addr) (vc vd : Nat) (hl : K.length ≤ 30) (hl2 : L.length ≤ 30) (w : World) (hv : RdA encP 3 w va K) (hv2 : RdA encP 3 w vb L) (hm : MeansP w K) (hm2 : MeansP w L) :
    Calls Tryz.prog 66 #[.slice va K.length vc, .slice vb L.length vd] w fun e w' => ∃ (M2 : List (Nat × Nat)) (u : Value), e = .returned u ∧ w'.ownsRow w.heap.size 122 2 u M2.length (flatE encM M2) ∧ (∀ m, m ∈ M2 ↔ MQ mkP 32 K L 16 0 m) ∧ M2.length ≤ 5000 ∧ Gr w w' := by
  refine enter (N := 27) Tryz.func66 rfl rfl rfl (fun a0 ok0 h0 => ?_)
  have e0_0 : a0.eval (.tmp 0) = .slice va K.length vc := h0 0 _ rfl
  have e0_1 : a0.eval (.tmp 1) = .slice vb L.length vd := h0 1 _ rfl
  clear h0
  have G0 := Gr.refl w
  obtain ⟨base, z1⟩ : ∃ n, n = w.heap.size := ⟨_, rfl⟩
  have l2 : w.heap.size ≤ base := by rw [z1]; exact G0.size
  have z3 : base ≤ w.heap.size := Nat.le_of_eq z1
  have O4 := World.ownsRow_nil w base 122 2
  refine wp_seq_k (fun K5 hK5 => ?_)
  refine wp_region_lit ?_
  refine sv ok0 rfl (wn _ rfl) rfl (o_as ev_const) (fun an6 n6 => ?_)
  refine wpList_nil ?_
  refine th_n (hK5 _ _ ?_)
  refine wp_seq_k (fun K7 hK7 => ?_)
  refine wp_region_lit ?_
  refine sv n6.ok rfl (wn _ rfl) rfl (o_as ev_const) (fun an8 n8 => ?_)
  refine wpList_nil ?_
  refine th_n (hK7 _ _ ?_)
  refine wp_seq_k (fun K9 hK9 => ?_)
  refine wp_seq_k (fun K10 hK10 => ?_)
  refine wp_region_lit ?_
  refine sv n8.ok rfl (wn _ rfl) rfl (o_mv ev_const) (fun an11 n11 => ?_)
  refine wpList_nil ?_
  refine th_n (hK10 _ _ ?_)
  refine wp_block ?_
  have e13 := n11.ne rfl (n8.ne rfl (n6.ne rfl e0_0))
  have e14 := n11.ne rfl (n8.ne rfl (n6.ne rfl e0_1))
  refine lp (fun (nL : Nat) (aL : Act) (wL : World) => ∃ i : Nat, ∃ M : List (Nat × Nat), ∃ ma : Option Addr, ∃ mc : Nat, nL = 16 - i ∧ Ok 27 aL ∧ Gr w wL ∧ (aL.eval (.tmp 0) = .slice va K.length vc) ∧ (aL.eval (.tmp 1) = .slice vb L.length vd) ∧ (aL.eval (.tmp 4) = .slice none 0 0) ∧ (aL.eval (.tmp 5) = .slice ma M.length mc) ∧ (aL.eval (.tmp 9) = .int .i64 (i : Int)) ∧ (World.ownsRow wL base 122 2 (.slice ma M.length mc) (M.length) ((flatE encM M))) ∧ (base ≤ wL.heap.size) ∧ (i ≤ 16) ∧ (∀ m, m ∈ M ↔ MQ mkP 32 K L i 0 m) ∧ (M.length ≤ i * 32)) _ ⟨0, [], none, 0, rfl, n11.ok, G0, e13, e14, (n11.ne rfl (n8.ne rfl n6.at_)), (n11.ne rfl n8.at_), n11.at_, O4, z3, by omega, mq_start, by simp⟩ ?_
  rintro m15 aI12 w17 ⟨i, M, ma, mc, hmI12, okI12, GI12, s0I12, s1I12, s4I12, s5I12, s9I12, omlI12, zbaseI12, hiI12, hMI12, hMlI12⟩ KI12 hKI12
  refine wp_seq_k (fun K18 hK18 => ?_)
  refine wp_region_lit ?_
  refine sv okI12 rfl (wn _ rfl) rfl (o_ltI s9I12 ev_const) (fun an19 n19 => ?_)
  refine wpList_nil ?_
  refine th_n (hK18 _ _ ?_)
  refine wp_seq_k (fun K20 hK20 => ?_)
  by_cases c21 : (i : Int) < 16
  · refine wp_cond_true ((n19.at_).trans (congrArg Value.bool (decide_eq_true c21))) ?_
    refine wp_skip ?_
    refine th_n (hK20 _ _ ?_)
    refine wp_seq_k (fun K22 hK22 => ?_)
    refine wp_block ?_
    refine wp_seq_k (fun K23 hK23 => ?_)
    refine wp_region_lit ?_
    refine sv n19.ok rfl (wn _ rfl) rfl (o_mv (n19.ne rfl s9I12)) (fun an24 n24 => ?_)
    refine sv n24.ok rfl (wn _ rfl) rfl (o_as n24.at_) (fun an25 n25 => ?_)
    refine wpList_nil ?_
    refine th_n (hK23 _ _ ?_)
    refine wp_seq_k (fun K26 hK26 => ?_)
    refine wp_region_lit ?_
    refine sv n25.ok rfl (wn _ rfl) rfl (o_mv ev_const) (fun an27 n27 => ?_)
    refine wpList_nil ?_
    refine th_n (hK26 _ _ ?_)
    refine wp_block ?_
    have e29 := n27.ne rfl (n25.ne rfl (n24.ne rfl (n19.ne rfl s0I12)))
    have e30 := n27.ne rfl (n25.ne rfl (n24.ne rfl (n19.ne rfl s1I12)))
    have e31 := n27.ne rfl (n25.ne rfl (n24.ne rfl (n19.ne rfl s4I12)))
    have e32 := n27.ne rfl (n25.ne rfl (n24.ne rfl (n19.ne rfl s5I12)))
    have e33 := n27.ne rfl (n25.ne rfl (n24.ne rfl (n19.ne rfl s9I12)))
    refine lp (fun (nL : Nat) (aL : Act) (wL : World) => ∃ j : Nat, ∃ M : List (Nat × Nat), ∃ ma : Option Addr, ∃ mc : Nat, nL = 32 - j ∧ Ok 27 aL ∧ Gr w wL ∧ (aL.eval (.tmp 0) = .slice va K.length vc) ∧ (aL.eval (.tmp 1) = .slice vb L.length vd) ∧ (aL.eval (.tmp 4) = .slice none 0 0) ∧ (aL.eval (.tmp 5) = .slice ma M.length mc) ∧ (aL.eval (.tmp 6) = .int .i64 (i : Int)) ∧ (aL.eval (.tmp 9) = .int .i64 (i : Int)) ∧ (aL.eval (.tmp 12) = .int .i64 (j : Int)) ∧ (World.ownsRow wL base 122 2 (.slice ma M.length mc) (M.length) ((flatE encM M))) ∧ (base ≤ wL.heap.size) ∧ (j ≤ 32) ∧ (∀ m, m ∈ M ↔ MQ mkP 32 K L i j m) ∧ (M.length ≤ i * 32 + j)) _ ⟨0, M, ma, mc, rfl, n27.ok, GI12, e29, e30, e31, e32, (n27.ne rfl n25.at_), e33, n27.at_, omlI12, zbaseI12, by omega, hMI12, by omega⟩ ?_
    rintro m34 aI28 w36 ⟨j, M, ma, mc, hmI28, okI28, GI28, s0I28, s1I28, s4I28, s5I28, s6I28, s9I28, s12I28, omlI28, zbaseI28, hjI28, hMI28, hMlI28⟩ KI28 hKI28
    refine wp_seq_k (fun K37 hK37 => ?_)
    refine wp_region_lit ?_
    refine sv okI28 rfl (wn _ rfl) rfl (o_ltI s12I28 ev_const) (fun an38 n38 => ?_)
    refine wpList_nil ?_
    refine th_n (hK37 _ _ ?_)
    refine wp_seq_k (fun K39 hK39 => ?_)
    by_cases c40 : (j : Int) < 32
    · refine wp_cond_true ((n38.at_).trans (congrArg Value.bool (decide_eq_true c40))) ?_
      refine wp_skip ?_
      refine th_n (hK39 _ _ ?_)
      refine wp_seq_k (fun K41 hK41 => ?_)
      refine wp_block ?_
      refine wp_seq_k (fun K42 hK42 => ?_)
      refine wp_region_lit ?_
      refine sv n38.ok rfl (wn _ rfl) rfl (o_mv (n38.ne rfl s12I28)) (fun an43 n43 => ?_)
      refine sv n43.ok rfl (wn _ rfl) rfl (o_as n43.at_) (fun an44 n44 => ?_)
      refine wpList_nil ?_
      refine th_n (hK42 _ _ ?_)
      refine wp_seq_k (fun K45 hK45 => ?_)
      refine wp_region_lit ?_
      have e46 := n44.ne rfl (n43.ne rfl (n38.ne rfl s6I28))
      refine sv n44.ok rfl (wn _ rfl) rfl (o_mv e46) (fun an47 n47 => ?_)
      refine sv n47.ok rfl (wn _ rfl) rfl (o_mv (n47.ne rfl n44.at_)) (fun an48 n48 => ?_)
      refine sv n48.ok rfl (wn _ rfl) rfl (o_bd (cells := #[.int .i64 (i : Int), .int .i64 (j : Int)]) (vs := [(0, .int .i64 (i : Int)), (1, .int .i64 (j : Int))]) (by simp [(n48.ne rfl n47.at_), n48.at_, ev_const]) (by kernel_rfl)) (fun an49 n49 => ?_)
      refine sal (cs := #[.int .i64 0, .int .i64 0]) n49.ok rfl (wn _ rfl) rfl (o_al (z := .agg #[.int .i64 0, .int .i64 0]) (by kernel_rfl)) (fun an50 w52 b51 W53 n50 => ?_)
      have l54 : w.heap.size ≤ b51 := by rw [W53.eq]; exact GI28.size
      have l55 : ∀ k, Value.ownBlock (.slice ma M.length mc) = some k → k < b51 := fun k e => by rw [W53.eq]; exact ow_in omlI28 k e
      have G56 := GI28.trans W53.gr
      have z57 := Nat.le_trans zbaseI28 W53.gr.size
      have O58 := ow_gr omlI28 W53.gr
      refine ssR rfl (wn _ rfl) (o_stR n50.at_ (n50.ne rfl n49.at_) W53.bk (by kernel_rfl) rfl (by simp [Value.oneCell'])) W53.bk (fun w59 u60 u60b => ?_)
      have G61 : Gr w w59 := Below.upd G56 l54 u60
      have z62 : base ≤ w59.heap.size := by rw [u60.size]; exact z57
      have O63 := ow_upd_ne O58 u60 l55
      refine wpList_nil ?_
      refine th_n (hK45 _ _ ?_)
      refine wp_region_lit ?_
      have e64 := n50.ne rfl (n49.ne rfl (n48.ne rfl (n47.ne rfl (n44.ne rfl (n43.ne rfl (n38.ne rfl s5I28))))))
      refine sv n50.ok rfl (wn _ rfl) rfl (o_mv e64) (fun an65 n65 => ?_)
      have e66 := n65.ne rfl (n50.ne rfl (n49.ne rfl (n48.ne rfl (n47.ne rfl (n44.ne rfl (n43.ne rfl (n38.ne rfl s0I28)))))))
      refine sv n65.ok rfl (wn _ rfl) rfl (o_mv e66) (fun an67 n67 => ?_)
      have e68 := n67.ne rfl (n65.ne rfl (n50.ne rfl (n49.ne rfl (n48.ne rfl (n47.ne rfl (n44.ne rfl (n43.ne rfl (n38.ne rfl s1I28))))))))
      refine sv n67.ok rfl (wn _ rfl) rfl (o_mv e68) (fun an69 n69 => ?_)
      have e70 := n69.ne rfl (n67.ne rfl (n65.ne rfl n50.at_))
      refine sv n69.ok rfl (wn _ rfl) rfl (o_mf (fs := []) (cs := [.pointer (some ⟨b51, 0, none⟩)]) (by simp) (by simp [e70])) (fun an71 n71 => ?_)
      have e72 := n71.ne rfl (n69.ne rfl (n67.ne rfl n65.at_))
      refine sc n71.ok rfl (wn _ rfl) rfl (o_f4 Tryz.func113 rfl rfl rfl e72 (n71.ne rfl (n69.ne rfl n67.at_)) (n71.ne rfl n69.at_) n71.at_) (mark_any K L M va vb ma vc vd mc base _ [.pointer (some ⟨b51, 0, none⟩)] (fun x => bitT x.T (i : Int) (j : Int)) ⟨_, Tryz.func116, rfl, rfl⟩ hl hl2 (by omega) w w59 G61 l2 z62 O63 (hv.gr G61) (hv2.gr G61) (fun x hx w1 g1 => mop1_any x b51 (i : Int) (j : Int) w1 ((hx.elim (hm x) (hm2 x)).gr (G61.trans g1)) (u60b.gr g1))) ?_
      rintro _ w74 ⟨u1, rfl, ho1, g75⟩
      obtain ⟨ua, uc, rfl, -⟩ := ow_form ho1
      have hAl := addM_len M (mkP i j K) (mkP i j L)
      refine ⟨_, rfl, fun an73 n73 => ?_⟩
      have G76 := Gr.grown G61 g75 (fun k e => Nat.le_trans l2 (ow_lt O63 k e))
      have B77 := u60b.grown_ne g75 l55
      have z78 := Nat.le_trans z62 g75.size
      refine sv n73.ok rfl (wn _ rfl) rfl (o_as n73.at_) (fun an79 n79 => ?_)
      refine wpList_nil ?_
      refine ib_n ?_
      refine th_n (hK41 _ _ ?_)
      refine wp_region_lit ?_
      have e80 := n79.ne rfl (n73.ne rfl (n71.ne rfl (n69.ne rfl (n67.ne rfl (n65.ne rfl (n50.ne rfl (n49.ne rfl (n48.ne rfl (n47.ne rfl (n44.ne rfl (n43.ne rfl (n38.ne rfl s12I28))))))))))))
      refine sv n79.ok rfl (wn _ rfl) rfl (o_add (r := ((j + 1 : Nat) : Int)) e80 ev_const (by omega) (by omega)) (fun an81 n81 => ?_)
      refine sv n81.ok rfl (wn _ rfl) rfl (o_mv n81.at_) (fun an82 n82 => ?_)
      refine wpList_nil ?_
      have e83 := n82.ne rfl (n81.ne rfl (n79.ne rfl (n73.ne rfl (n71.ne rfl (n69.ne rfl (n67.ne rfl e66))))))
      have e84 := n82.ne rfl (n81.ne rfl (n79.ne rfl (n73.ne rfl (n71.ne rfl (n69.ne rfl e68)))))
      have e85 := n82.ne rfl (n81.ne rfl (n79.ne rfl (n73.ne rfl (n71.ne rfl (n69.ne rfl (n67.ne rfl (n65.ne rfl (n50.ne rfl (n49.ne rfl (n48.ne rfl (n47.ne rfl (n44.ne rfl (n43.ne rfl (n38.ne rfl s4I28))))))))))))))
      have e86 := n82.ne rfl (n81.ne rfl (n79.ne rfl (n73.ne rfl (n71.ne rfl (n69.ne rfl (n67.ne rfl (n65.ne rfl (n50.ne rfl (n49.ne rfl (n48.ne rfl (n47.ne rfl e46)))))))))))
      have e87 := n82.ne rfl (n81.ne rfl (n79.ne rfl (n73.ne rfl (n71.ne rfl (n69.ne rfl (n67.ne rfl (n65.ne rfl (n50.ne rfl (n49.ne rfl (n48.ne rfl (n47.ne rfl (n44.ne rfl (n43.ne rfl (n38.ne rfl s9I28))))))))))))))
      exact th_n (hKI28 _ _ _ (by omega) ⟨j + 1, (addM M (mkP i j K) (mkP i j L)), ua, uc, rfl, n82.ok, G76, e83, e84, e85, (n82.ne rfl (n81.ne rfl n79.at_)), e86, e87, n82.at_, ho1, z78, by omega, mq_add hMI28 (by omega), by omega⟩)
    · refine wp_cond_false ((n38.at_).trans (congrArg Value.bool (decide_eq_false c40))) ?_
      refine wp_exit ?_
      refine th_x ?_
      refine th_x ?_
      refine ib_x ?_
      refine ib_n ?_
      refine th_n (hK22 _ _ ?_)
      refine wp_region_lit ?_
      refine sv n38.ok rfl (wn _ rfl) rfl (o_add (r := ((i + 1 : Nat) : Int)) (n38.ne rfl s9I28) ev_const (by omega) (by omega)) (fun an88 n88 => ?_)
      refine sv n88.ok rfl (wn _ rfl) rfl (o_mv n88.at_) (fun an89 n89 => ?_)
      refine wpList_nil ?_
      have e90 := n89.ne rfl (n88.ne rfl (n38.ne rfl s0I28))
      have e91 := n89.ne rfl (n88.ne rfl (n38.ne rfl s1I28))
      have e92 := n89.ne rfl (n88.ne rfl (n38.ne rfl s4I28))
      have e93 := n89.ne rfl (n88.ne rfl (n38.ne rfl s5I28))
      exact th_n (hKI12 _ _ _ (by omega) ⟨i + 1, M, ma, mc, rfl, n89.ok, GI28, e90, e91, e92, e93, n89.at_, omlI28, zbaseI28, by omega, mq_next hMI28 (by omega), by omega⟩)
  · refine wp_cond_false ((n19.at_).trans (congrArg Value.bool (decide_eq_false c21))) ?_
    refine wp_exit ?_
    refine th_x ?_
    refine th_x ?_
    refine ib_x ?_
    refine th_n (hK9 _ _ ?_)
    refine wp_seq_k (fun K94 hK94 => ?_)
    refine wp_region_lit ?_
    refine sv n19.ok rfl (wn _ rfl) rfl (o_mv (n19.ne rfl s5I12)) (fun an95 n95 => ?_)
    refine sc n95.ok rfl (wn _ rfl) rfl (o_f1 Tryz.func115 rfl rfl rfl n95.at_) (different_any M ma mc base (by omega) w w17 GI12 l2 zbaseI12 omlI12) ?_
    rintro _ w97 ⟨M2, u2, rfl, ho2, hM2, hM2l, g98⟩
    obtain ⟨da, dc, rfl, -⟩ := ow_form ho2
    refine ⟨_, rfl, fun an96 n96 => ?_⟩
    have G99 := Gr.grown GI12 g98 (fun k e => Nat.le_trans l2 (ow_lt omlI12 k e))
    have z100 := Nat.le_trans zbaseI12 g98.size
    refine sv n96.ok rfl (wn _ rfl) rfl (o_as n96.at_) (fun an101 n101 => ?_)
    refine wpList_nil ?_
    refine th_n (hK94 _ _ ?_)
    refine wp_ret ?_
    exact ret1 n101.ok rfl (n101.at_) ⟨M2, _, rfl, z1 ▸ ho2, fun m => by rw [hM2 m, hMI12 m, show i = 16 by omega], by omega, G99⟩
set_option maxHeartbeats 8000000 in
set_option maxRecDepth 100000 in
theorem marksOfDots_any (K L : List PtX) (va vb : Option Addr) (vc vd : Nat) (hl : K.length ≤ 30) (hl2 : L.length ≤ 30) (w : World) (hv : RdA encP 3 w va K) (hv2 : RdA encP 3 w vb L) (hm : MeansP w K) (hm2 : MeansP w L) :
    Calls Tryz.prog 65 #[.slice va K.length vc, .slice vb L.length vd] w fun e w' => ∃ (M2 : List (Nat × Nat)) (u : Value), e = .returned u ∧ w'.ownsRow w.heap.size 122 2 u M2.length (flatE encM M2) ∧ (∀ m, m ∈ M2 ↔ MQ mkD 1000 K L 5 0 m) ∧ M2.length ≤ 5000 ∧ Gr w w' := by
  refine enter (N := 28) Tryz.func65 rfl rfl rfl (fun a0 ok0 h0 => ?_)
  have e0_0 : a0.eval (.tmp 0) = .slice va K.length vc := h0 0 _ rfl
  have e0_1 : a0.eval (.tmp 1) = .slice vb L.length vd := h0 1 _ rfl
  clear h0
  have G0 := Gr.refl w
  obtain ⟨base, z1⟩ : ∃ n, n = w.heap.size := ⟨_, rfl⟩
  have l2 : w.heap.size ≤ base := by rw [z1]; exact G0.size
  have z3 : base ≤ w.heap.size := Nat.le_of_eq z1
  have O4 := World.ownsRow_nil w base 122 2
  refine wp_seq_k (fun K5 hK5 => ?_)
  refine wp_region_lit ?_
  refine sv ok0 rfl (wn _ rfl) rfl (o_as ev_const) (fun an6 n6 => ?_)
  refine wpList_nil ?_
  refine th_n (hK5 _ _ ?_)
  refine wp_seq_k (fun K7 hK7 => ?_)
  refine wp_region_lit ?_
  refine sv n6.ok rfl (wn _ rfl) rfl (o_as ev_const) (fun an8 n8 => ?_)
  refine wpList_nil ?_
  refine th_n (hK7 _ _ ?_)
  refine wp_seq_k (fun K9 hK9 => ?_)
  refine wp_seq_k (fun K10 hK10 => ?_)
  refine wp_region_lit ?_
  refine sv n8.ok rfl (wn _ rfl) rfl (o_mv ev_const) (fun an11 n11 => ?_)
  refine wpList_nil ?_
  refine th_n (hK10 _ _ ?_)
  refine wp_block ?_
  have e13 := n11.ne rfl (n8.ne rfl (n6.ne rfl e0_0))
  have e14 := n11.ne rfl (n8.ne rfl (n6.ne rfl e0_1))
  refine lp (fun (nL : Nat) (aL : Act) (wL : World) => ∃ i : Nat, ∃ M : List (Nat × Nat), ∃ ma : Option Addr, ∃ mc : Nat, nL = 5 - i ∧ Ok 28 aL ∧ Gr w wL ∧ (aL.eval (.tmp 0) = .slice va K.length vc) ∧ (aL.eval (.tmp 1) = .slice vb L.length vd) ∧ (aL.eval (.tmp 4) = .slice none 0 0) ∧ (aL.eval (.tmp 5) = .slice ma M.length mc) ∧ (aL.eval (.tmp 9) = .int .i64 (i : Int)) ∧ (World.ownsRow wL base 122 2 (.slice ma M.length mc) (M.length) ((flatE encM M))) ∧ (base ≤ wL.heap.size) ∧ (i ≤ 5) ∧ (∀ m, m ∈ M ↔ MQ mkD 1000 K L i 0 m) ∧ (M.length ≤ i * 1000)) _ ⟨0, [], none, 0, rfl, n11.ok, G0, e13, e14, (n11.ne rfl (n8.ne rfl n6.at_)), (n11.ne rfl n8.at_), n11.at_, O4, z3, by omega, mq_start, by simp⟩ ?_
  rintro m15 aI12 w17 ⟨i, M, ma, mc, hmI12, okI12, GI12, s0I12, s1I12, s4I12, s5I12, s9I12, omlI12, zbaseI12, hiI12, hMI12, hMlI12⟩ KI12 hKI12
  refine wp_seq_k (fun K18 hK18 => ?_)
  refine wp_region_lit ?_
  refine sv okI12 rfl (wn _ rfl) rfl (o_ltI s9I12 ev_const) (fun an19 n19 => ?_)
  refine wpList_nil ?_
  refine th_n (hK18 _ _ ?_)
  refine wp_seq_k (fun K20 hK20 => ?_)
  by_cases c21 : (i : Int) < 5
  · refine wp_cond_true ((n19.at_).trans (congrArg Value.bool (decide_eq_true c21))) ?_
    refine wp_skip ?_
    refine th_n (hK20 _ _ ?_)
    refine wp_seq_k (fun K22 hK22 => ?_)
    refine wp_block ?_
    refine wp_seq_k (fun K23 hK23 => ?_)
    refine wp_region_lit ?_
    refine sv n19.ok rfl (wn _ rfl) rfl (o_mv (n19.ne rfl s9I12)) (fun an24 n24 => ?_)
    refine sv n24.ok rfl (wn _ rfl) rfl (o_as n24.at_) (fun an25 n25 => ?_)
    refine wpList_nil ?_
    refine th_n (hK23 _ _ ?_)
    refine wp_seq_k (fun K26 hK26 => ?_)
    refine wp_region_lit ?_
    refine sv n25.ok rfl (wn _ rfl) rfl (o_mv ev_const) (fun an27 n27 => ?_)
    refine wpList_nil ?_
    refine th_n (hK26 _ _ ?_)
    refine wp_block ?_
    have e29 := n27.ne rfl (n25.ne rfl (n24.ne rfl (n19.ne rfl s0I12)))
    have e30 := n27.ne rfl (n25.ne rfl (n24.ne rfl (n19.ne rfl s1I12)))
    have e31 := n27.ne rfl (n25.ne rfl (n24.ne rfl (n19.ne rfl s4I12)))
    have e32 := n27.ne rfl (n25.ne rfl (n24.ne rfl (n19.ne rfl s5I12)))
    have e33 := n27.ne rfl (n25.ne rfl (n24.ne rfl (n19.ne rfl s9I12)))
    refine lp (fun (nL : Nat) (aL : Act) (wL : World) => ∃ j : Nat, ∃ M : List (Nat × Nat), ∃ ma : Option Addr, ∃ mc : Nat, nL = 1000 - j ∧ Ok 28 aL ∧ Gr w wL ∧ (aL.eval (.tmp 0) = .slice va K.length vc) ∧ (aL.eval (.tmp 1) = .slice vb L.length vd) ∧ (aL.eval (.tmp 4) = .slice none 0 0) ∧ (aL.eval (.tmp 5) = .slice ma M.length mc) ∧ (aL.eval (.tmp 6) = .int .i64 (i : Int)) ∧ (aL.eval (.tmp 9) = .int .i64 (i : Int)) ∧ (aL.eval (.tmp 12) = .int .i64 (j : Int)) ∧ (World.ownsRow wL base 122 2 (.slice ma M.length mc) (M.length) ((flatE encM M))) ∧ (base ≤ wL.heap.size) ∧ (j ≤ 1000) ∧ (∀ m, m ∈ M ↔ MQ mkD 1000 K L i j m) ∧ (M.length ≤ i * 1000 + j)) _ ⟨0, M, ma, mc, rfl, n27.ok, GI12, e29, e30, e31, e32, (n27.ne rfl n25.at_), e33, n27.at_, omlI12, zbaseI12, by omega, hMI12, by omega⟩ ?_
    rintro m34 aI28 w36 ⟨j, M, ma, mc, hmI28, okI28, GI28, s0I28, s1I28, s4I28, s5I28, s6I28, s9I28, s12I28, omlI28, zbaseI28, hjI28, hMI28, hMlI28⟩ KI28 hKI28
    refine wp_seq_k (fun K37 hK37 => ?_)
    refine wp_region_lit ?_
    refine sv okI28 rfl (wn _ rfl) rfl (o_ltI s12I28 ev_const) (fun an38 n38 => ?_)
    refine wpList_nil ?_
    refine th_n (hK37 _ _ ?_)
    refine wp_seq_k (fun K39 hK39 => ?_)
    by_cases c40 : (j : Int) < 1000
    · refine wp_cond_true ((n38.at_).trans (congrArg Value.bool (decide_eq_true c40))) ?_
      refine wp_skip ?_
      refine th_n (hK39 _ _ ?_)
      refine wp_seq_k (fun K41 hK41 => ?_)
      refine wp_block ?_
      refine wp_seq_k (fun K42 hK42 => ?_)
      refine wp_region_lit ?_
      refine sv n38.ok rfl (wn _ rfl) rfl (o_mv (n38.ne rfl s12I28)) (fun an43 n43 => ?_)
      refine sv n43.ok rfl (wn _ rfl) rfl (o_as n43.at_) (fun an44 n44 => ?_)
      refine wpList_nil ?_
      refine th_n (hK42 _ _ ?_)
      refine wp_seq_k (fun K45 hK45 => ?_)
      refine wp_region_lit ?_
      have e46 := n44.ne rfl (n43.ne rfl (n38.ne rfl s6I28))
      refine sv n44.ok rfl (wn _ rfl) rfl (o_mv e46) (fun an47 n47 => ?_)
      refine sv n47.ok rfl (wn _ rfl) rfl (o_mv (n47.ne rfl n44.at_)) (fun an48 n48 => ?_)
      refine sv n48.ok rfl (wn _ rfl) rfl (o_add (r := ((j + 1 : Nat) : Int)) n48.at_ ev_const (by omega) (by omega)) (fun an49 n49 => ?_)
      refine sv n49.ok rfl (wn _ rfl) rfl (o_bd (cells := #[.int .i64 (i : Int), .int .i64 ((j + 1 : Nat) : Int)]) (vs := [(0, .int .i64 (i : Int)), (1, .int .i64 ((j + 1 : Nat) : Int))]) (by simp [(n49.ne rfl (n48.ne rfl n47.at_)), n49.at_, ev_const]) (by kernel_rfl)) (fun an50 n50 => ?_)
      refine sal (cs := #[.int .i64 0, .int .i64 0]) n50.ok rfl (wn _ rfl) rfl (o_al (z := .agg #[.int .i64 0, .int .i64 0]) (by kernel_rfl)) (fun an51 w53 b52 W54 n51 => ?_)
      have l55 : w.heap.size ≤ b52 := by rw [W54.eq]; exact GI28.size
      have l56 : ∀ k, Value.ownBlock (.slice ma M.length mc) = some k → k < b52 := fun k e => by rw [W54.eq]; exact ow_in omlI28 k e
      have G57 := GI28.trans W54.gr
      have z58 := Nat.le_trans zbaseI28 W54.gr.size
      have O59 := ow_gr omlI28 W54.gr
      refine ssR rfl (wn _ rfl) (o_stR n51.at_ (n51.ne rfl n50.at_) W54.bk (by kernel_rfl) rfl (by simp [Value.oneCell'])) W54.bk (fun w60 u61 u61b => ?_)
      have G62 : Gr w w60 := Below.upd G57 l55 u61
      have z63 : base ≤ w60.heap.size := by rw [u61.size]; exact z58
      have O64 := ow_upd_ne O59 u61 l56
      refine wpList_nil ?_
      refine th_n (hK45 _ _ ?_)
      refine wp_region_lit ?_
      have e65 := n51.ne rfl (n50.ne rfl (n49.ne rfl (n48.ne rfl (n47.ne rfl (n44.ne rfl (n43.ne rfl (n38.ne rfl s5I28)))))))
      refine sv n51.ok rfl (wn _ rfl) rfl (o_mv e65) (fun an66 n66 => ?_)
      have e67 := n66.ne rfl (n51.ne rfl (n50.ne rfl (n49.ne rfl (n48.ne rfl (n47.ne rfl (n44.ne rfl (n43.ne rfl (n38.ne rfl s0I28))))))))
      refine sv n66.ok rfl (wn _ rfl) rfl (o_mv e67) (fun an68 n68 => ?_)
      have e69 := n68.ne rfl (n66.ne rfl (n51.ne rfl (n50.ne rfl (n49.ne rfl (n48.ne rfl (n47.ne rfl (n44.ne rfl (n43.ne rfl (n38.ne rfl s1I28)))))))))
      refine sv n68.ok rfl (wn _ rfl) rfl (o_mv e69) (fun an70 n70 => ?_)
      have e71 := n70.ne rfl (n68.ne rfl (n66.ne rfl n51.at_))
      refine sv n70.ok rfl (wn _ rfl) rfl (o_mf (fs := []) (cs := [.pointer (some ⟨b52, 0, none⟩)]) (by simp) (by simp [e71])) (fun an72 n72 => ?_)
      have e73 := n72.ne rfl (n70.ne rfl (n68.ne rfl n66.at_))
      refine sc n72.ok rfl (wn _ rfl) rfl (o_f4 Tryz.func113 rfl rfl rfl e73 (n72.ne rfl (n70.ne rfl n68.at_)) (n72.ne rfl n70.at_) n72.at_) (mark_any K L M va vb ma vc vd mc base _ [.pointer (some ⟨b52, 0, none⟩)] (fun x => hasD x.D (i : Int) ((j + 1 : Nat) : Int)) ⟨_, Tryz.func114, rfl, rfl⟩ hl hl2 (by omega) w w60 G62 l2 z63 O64 (hv.gr G62) (hv2.gr G62) (fun x hx w1 g1 => mod1_any x b52 (i : Int) ((j + 1 : Nat) : Int) w1 ((hx.elim (hm x) (hm2 x)).gr (G62.trans g1)) (u61b.gr g1))) ?_
      rintro _ w75 ⟨u1, rfl, ho1, g76⟩
      obtain ⟨ua, uc, rfl, -⟩ := ow_form ho1
      have hAl := addM_len M (mkD i j K) (mkD i j L)
      refine ⟨_, rfl, fun an74 n74 => ?_⟩
      have G77 := Gr.grown G62 g76 (fun k e => Nat.le_trans l2 (ow_lt O64 k e))
      have B78 := u61b.grown_ne g76 l56
      have z79 := Nat.le_trans z63 g76.size
      refine sv n74.ok rfl (wn _ rfl) rfl (o_as n74.at_) (fun an80 n80 => ?_)
      refine wpList_nil ?_
      refine ib_n ?_
      refine th_n (hK41 _ _ ?_)
      refine wp_region_lit ?_
      have e81 := n80.ne rfl (n74.ne rfl (n72.ne rfl (n70.ne rfl (n68.ne rfl (n66.ne rfl (n51.ne rfl (n50.ne rfl (n49.ne rfl (n48.ne rfl (n47.ne rfl (n44.ne rfl (n43.ne rfl (n38.ne rfl s12I28)))))))))))))
      refine sv n80.ok rfl (wn _ rfl) rfl (o_add (r := ((j + 1 : Nat) : Int)) e81 ev_const (by omega) (by omega)) (fun an82 n82 => ?_)
      refine sv n82.ok rfl (wn _ rfl) rfl (o_mv n82.at_) (fun an83 n83 => ?_)
      refine wpList_nil ?_
      have e84 := n83.ne rfl (n82.ne rfl (n80.ne rfl (n74.ne rfl (n72.ne rfl (n70.ne rfl (n68.ne rfl e67))))))
      have e85 := n83.ne rfl (n82.ne rfl (n80.ne rfl (n74.ne rfl (n72.ne rfl (n70.ne rfl e69)))))
      have e86 := n83.ne rfl (n82.ne rfl (n80.ne rfl (n74.ne rfl (n72.ne rfl (n70.ne rfl (n68.ne rfl (n66.ne rfl (n51.ne rfl (n50.ne rfl (n49.ne rfl (n48.ne rfl (n47.ne rfl (n44.ne rfl (n43.ne rfl (n38.ne rfl s4I28)))))))))))))))
      have e87 := n83.ne rfl (n82.ne rfl (n80.ne rfl (n74.ne rfl (n72.ne rfl (n70.ne rfl (n68.ne rfl (n66.ne rfl (n51.ne rfl (n50.ne rfl (n49.ne rfl (n48.ne rfl (n47.ne rfl e46))))))))))))
      have e88 := n83.ne rfl (n82.ne rfl (n80.ne rfl (n74.ne rfl (n72.ne rfl (n70.ne rfl (n68.ne rfl (n66.ne rfl (n51.ne rfl (n50.ne rfl (n49.ne rfl (n48.ne rfl (n47.ne rfl (n44.ne rfl (n43.ne rfl (n38.ne rfl s9I28)))))))))))))))
      exact th_n (hKI28 _ _ _ (by omega) ⟨j + 1, (addM M (mkD i j K) (mkD i j L)), ua, uc, rfl, n83.ok, G77, e84, e85, e86, (n83.ne rfl (n82.ne rfl n80.at_)), e87, e88, n83.at_, ho1, z79, by omega, mq_add hMI28 (by omega), by omega⟩)
    · refine wp_cond_false ((n38.at_).trans (congrArg Value.bool (decide_eq_false c40))) ?_
      refine wp_exit ?_
      refine th_x ?_
      refine th_x ?_
      refine ib_x ?_
      refine ib_n ?_
      refine th_n (hK22 _ _ ?_)
      refine wp_region_lit ?_
      refine sv n38.ok rfl (wn _ rfl) rfl (o_add (r := ((i + 1 : Nat) : Int)) (n38.ne rfl s9I28) ev_const (by omega) (by omega)) (fun an89 n89 => ?_)
      refine sv n89.ok rfl (wn _ rfl) rfl (o_mv n89.at_) (fun an90 n90 => ?_)
      refine wpList_nil ?_
      have e91 := n90.ne rfl (n89.ne rfl (n38.ne rfl s0I28))
      have e92 := n90.ne rfl (n89.ne rfl (n38.ne rfl s1I28))
      have e93 := n90.ne rfl (n89.ne rfl (n38.ne rfl s4I28))
      have e94 := n90.ne rfl (n89.ne rfl (n38.ne rfl s5I28))
      exact th_n (hKI12 _ _ _ (by omega) ⟨i + 1, M, ma, mc, rfl, n90.ok, GI28, e91, e92, e93, e94, n90.at_, omlI28, zbaseI28, by omega, mq_next hMI28 (by omega), by omega⟩)
  · refine wp_cond_false ((n19.at_).trans (congrArg Value.bool (decide_eq_false c21))) ?_
    refine wp_exit ?_
    refine th_x ?_
    refine th_x ?_
    refine ib_x ?_
    refine th_n (hK9 _ _ ?_)
    refine wp_seq_k (fun K95 hK95 => ?_)
    refine wp_region_lit ?_
    refine sv n19.ok rfl (wn _ rfl) rfl (o_mv (n19.ne rfl s5I12)) (fun an96 n96 => ?_)
    refine sc n96.ok rfl (wn _ rfl) rfl (o_f1 Tryz.func115 rfl rfl rfl n96.at_) (different_any M ma mc base (by omega) w w17 GI12 l2 zbaseI12 omlI12) ?_
    rintro _ w98 ⟨M2, u2, rfl, ho2, hM2, hM2l, g99⟩
    obtain ⟨da, dc, rfl, -⟩ := ow_form ho2
    refine ⟨_, rfl, fun an97 n97 => ?_⟩
    have G100 := Gr.grown GI12 g99 (fun k e => Nat.le_trans l2 (ow_lt omlI12 k e))
    have z101 := Nat.le_trans zbaseI12 g99.size
    refine sv n97.ok rfl (wn _ rfl) rfl (o_as n97.at_) (fun an102 n102 => ?_)
    refine wpList_nil ?_
    refine th_n (hK95 _ _ ?_)
    refine wp_ret ?_
    exact ret1 n102.ok rfl (n102.at_) ⟨M2, _, rfl, z1 ▸ ho2, fun m => by rw [hM2 m, hMI12 m, show i = 5 by omega], by omega, G100⟩
set_option maxHeartbeats 8000000 in
set_option maxRecDepth 100000 in
theorem within1_any (d1 d2 p1 p2 b : Nat) (h1 : d1 < 4294967296) (h2 : d2 < 4294967296) (h3 : p1 < 4294967296) (h4 : p2 < 4294967296) (w : World) (hb : Bk w b #[.int .u32 (p1 : Int), .int .u32 (p2 : Int)] 122) :
    Calls Tryz.prog 68 #[.agg #[.int .u32 (d1 : Int), .int .u32 (d2 : Int)], .pointer (some ⟨b, 0, none⟩)] w fun e w' => e = .returned (.bool (crossB (p1, p2) (d1, d2))) ∧ Gr w w' := by
  refine enter (N := 18) Tryz.func68 rfl rfl rfl (fun a0 ok0 h0 => ?_)
  have e0_0 : a0.eval (.tmp 0) = .agg #[.int .u32 (d1 : Int), .int .u32 (d2 : Int)] := h0 0 _ rfl
  have e0_1 : a0.eval (.tmp 1) = .pointer (some ⟨b, 0, none⟩) := h0 1 _ rfl
  clear h0
  have G0 := Gr.refl w
  refine wp_seq_k (fun K1 hK1 => ?_)
  refine wp_region_lit ?_
  refine sal (cs := #[.int .u32 (d1 : Int), .int .u32 (d2 : Int)]) ok0 rfl (wn _ rfl) rfl (o_box e0_0) (fun an2 w4 b3 W5 n2 => ?_)
  have l6 : b < b3 := by rw [W5.eq]; exact hb.lt
  have l7 : w.heap.size ≤ b3 := by rw [W5.eq]; exact G0.size
  have G8 := G0.trans W5.gr
  have B9 := hb.gr W5.gr
  refine sv n2.ok rfl (wn _ rfl) rfl (o_as ev_const) (fun an10 n10 => ?_)
  refine wpList_nil ?_
  refine th_n (hK1 _ _ ?_)
  refine wp_seq_k (fun K11 hK11 => ?_)
  refine wp_region_lit ?_
  refine sv n10.ok rfl (wn _ rfl) rfl (o_fa (z := 1) (n10.ne rfl (n2.ne rfl e0_1)) Tryz.underlying122 rfl (by kernel_rfl) rfl rfl) (fun an12 n12 => ?_)
  refine sv n12.ok rfl (wn _ rfl) rfl (o_ld n12.at_ (Tryz.isAgg120 _) (B9.cell _ rfl)) (fun an13 n13 => ?_)
  have e14 := n13.ne rfl (n12.ne rfl (n10.ne rfl n2.at_))
  refine sv n13.ok rfl (wn _ rfl) rfl (o_fa (z := 1) e14 Tryz.underlying122 rfl (by kernel_rfl) rfl rfl) (fun an15 n15 => ?_)
  refine sv n15.ok rfl (wn _ rfl) rfl (o_ld n15.at_ (Tryz.isAgg120 _) (W5.bk.cell _ rfl)) (fun an16 n16 => ?_)
  refine sv n16.ok rfl (wn _ rfl) rfl (o_and32 (n16.ne rfl (n15.ne rfl n13.at_)) n16.at_ (by omega) (by omega)) (fun an17 n17 => ?_)
  refine sv n17.ok rfl (wn _ rfl) rfl (o_neI n17.at_ ev_const) (fun an18 n18 => ?_)
  refine sv n18.ok rfl (wn _ rfl) rfl (o_mv n18.at_) (fun an19 n19 => ?_)
  by_cases c20 : ¬ ((p1 &&& d1 : Nat) : Int) = 0
  · have e21 := (n19.at_).trans (congrArg Value.bool (decide_eq_true c20))
    have e22 := ((n19.ne rfl n18.at_)).trans (congrArg Value.bool (decide_eq_true c20))
    have e23 := n19.ne rfl (n18.ne rfl (n17.ne rfl (n16.ne rfl (n15.ne rfl (n13.ne rfl (n12.ne rfl (n10.ne rfl (n2.ne rfl e0_1))))))))
    refine sv n19.ok rfl (wgT rfl (yl 6 true rfl e21) rfl) rfl (o_fa (z := 1) e23 Tryz.underlying122 rfl (by kernel_rfl) rfl rfl) (fun an24 n24 => ?_)
    refine sv n24.ok rfl (wgT rfl (yl 6 true rfl (n24.ne rfl e21)) rfl) rfl (o_ld n24.at_ (Tryz.isAgg120 _) (B9.cell _ rfl)) (fun an25 n25 => ?_)
    have e26 := n25.ne rfl (n24.ne rfl (n19.ne rfl (n18.ne rfl (n17.ne rfl (n16.ne rfl (n15.ne rfl e14))))))
    refine sv n25.ok rfl (wgT rfl (yl 6 true rfl (n25.ne rfl (n24.ne rfl e21))) rfl) rfl (o_fa (z := 1) e26 Tryz.underlying122 rfl (by kernel_rfl) rfl rfl) (fun an27 n27 => ?_)
    have e28 := n27.ne rfl (n25.ne rfl (n24.ne rfl e21))
    refine sv n27.ok rfl (wgT rfl (yl 6 true rfl e28) rfl) rfl (o_ld n27.at_ (Tryz.isAgg120 _) (W5.bk.cell _ rfl)) (fun an29 n29 => ?_)
    refine sv n29.ok rfl (wgT rfl (yl 6 true rfl (n29.ne rfl e28)) rfl) rfl (o_and32 (n29.ne rfl (n27.ne rfl n25.at_)) n29.at_ (by omega) (by omega)) (fun an30 n30 => ?_)
    refine sv n30.ok rfl (wgT rfl (yl 6 true rfl (n30.ne rfl (n29.ne rfl e28))) rfl) rfl (o_eqI n30.at_ ev_const) (fun an31 n31 => ?_)
    have e32 := n31.ne rfl (n30.ne rfl (n29.ne rfl e28))
    refine sv n31.ok rfl (wn _ rfl) rfl (o_pkT e32 n31.at_) (fun an33 n33 => ?_)
    refine sv n33.ok rfl (wn _ rfl) rfl (o_as n33.at_) (fun an34 n34 => ?_)
    refine wpList_nil ?_
    refine th_n (hK11 _ _ ?_)
    refine wp_ret ?_
    exact ret1 n34.ok rfl (n34.at_) ⟨congrArg (fun b => Ending.returned (Value.bool b)) (show _ = (decide (¬ (((p1 &&& d1 : Nat) : Int) = 0)) && decide (((p2 &&& d2 : Nat) : Int) = 0)) by rw [decide_eq_true c20, Bool.true_and]), G8⟩
  · have e35 := (n19.at_).trans (congrArg Value.bool (decide_eq_false c20))
    have e36 := ((n19.ne rfl n18.at_)).trans (congrArg Value.bool (decide_eq_false c20))
    refine sn n19.ok rfl (wgF rfl (yl 6 false rfl e35) rfl) rfl (fun an37 n37 => ?_)
    refine sn n37.ok rfl (wgF rfl (yl 6 false rfl (n37.ne rfl e35)) rfl) rfl (fun an38 n38 => ?_)
    refine sn n38.ok rfl (wgF rfl (yl 6 false rfl (n38.ne rfl (n37.ne rfl e35))) rfl) rfl (fun an39 n39 => ?_)
    have e40 := n39.ne rfl (n38.ne rfl (n37.ne rfl e35))
    refine sn n39.ok rfl (wgF rfl (yl 6 false rfl e40) rfl) rfl (fun an41 n41 => ?_)
    refine sn n41.ok rfl (wgF rfl (yl 6 false rfl (n41.ne rfl e40)) rfl) rfl (fun an42 n42 => ?_)
    refine sn n42.ok rfl (wgF rfl (yl 6 false rfl (n42.ne rfl (n41.ne rfl e40))) rfl) rfl (fun an43 n43 => ?_)
    have e44 := n43.ne rfl (n42.ne rfl (n41.ne rfl e40))
    refine sv n43.ok rfl (wn _ rfl) rfl (o_pkF e44 ev_const) (fun an45 n45 => ?_)
    refine sv n45.ok rfl (wn _ rfl) rfl (o_as n45.at_) (fun an46 n46 => ?_)
    refine wpList_nil ?_
    refine th_n (hK11 _ _ ?_)
    refine wp_ret ?_
    exact ret1 n46.ok rfl (n46.at_) ⟨congrArg (fun b => Ending.returned (Value.bool b)) (show _ = (decide (¬ (((p1 &&& d1 : Nat) : Int) = 0)) && decide (((p2 &&& d2 : Nat) : Int) = 0)) by rw [decide_eq_false c20, Bool.false_and]), G8⟩
set_option maxHeartbeats 8000000 in
set_option maxRecDepth 100000 in
theorem pwithin_ok (K L : List PtX) (va vb : Option Addr) (vc vd : Nat) (hl : K.length ≤ 30) (hl2 : L.length ≤ 30) (w : World) (hv : RdA encP 3 w va K) (hv2 : RdA encP 3 w vb L) (hm : MeansP w K) (hm2 : MeansP w L) :
    Calls Tryz.prog 24 #[.slice va K.length vc, .slice vb L.length vd] w fun e w' => ∃ b, e = .returned (.tuple #[.bool b, .int .i64 0]) ∧ (b = true ↔ subP K L) ∧ Gr w w' := by
  refine enter (N := 31) Tryz.func24 rfl rfl rfl (fun a0 ok0 h0 => ?_)
  have e0_0 : a0.eval (.tmp 0) = .slice va K.length vc := h0 0 _ rfl
  have e0_1 : a0.eval (.tmp 1) = .slice vb L.length vd := h0 1 _ rfl
  clear h0
  have G0 := Gr.refl w
  have hqP : ∀ t n, mkP t n K < 4294967296 := fun t n => mkL_lt _ _ hl
  have hqP2 : ∀ t n, mkP t n L < 4294967296 := fun t n => mkL_lt _ _ hl2
  have hqD : ∀ t n, mkD t n K < 4294967296 := fun t n => mkL_lt _ _ hl
  have hqD2 : ∀ t n, mkD t n L < 4294967296 := fun t n => mkL_lt _ _ hl2
  refine wp_seq_k (fun K1 hK1 => ?_)
  refine wp_region_lit ?_
  refine sv ok0 rfl (wn _ rfl) rfl (o_as ev_const) (fun an2 n2 => ?_)
  refine sv n2.ok rfl (wn _ rfl) rfl (o_as ev_const) (fun an3 n3 => ?_)
  refine wpList_nil ?_
  refine th_n (hK1 _ _ ?_)
  refine wp_seq_k (fun K4 hK4 => ?_)
  refine wp_seq_k (fun K5 hK5 => ?_)
  refine wp_region_lit ?_
  refine sv n3.ok rfl (wn _ rfl) rfl (o_mv (n3.ne rfl (n2.ne rfl e0_0))) (fun an6 n6 => ?_)
  have e7 := n6.ne rfl (n3.ne rfl (n2.ne rfl e0_1))
  refine sv n6.ok rfl (wn _ rfl) rfl (o_mv e7) (fun an8 n8 => ?_)
  refine sc n8.ok rfl (wn _ rfl) rfl (o_f2 Tryz.func43 rfl rfl rfl (n8.ne rfl n6.at_) n8.at_) (pcheckBoth_ok K L va vb vc vd w hl hl2 (hv.gr G0) (hv2.gr G0) (hm.gr G0) (hm2.gr G0)) ?_
  rintro _ w10 ⟨rfl, g11⟩
  refine ⟨_, rfl, fun an9 n9 => ?_⟩
  have G12 := G0.trans g11
  refine sv n9.ok rfl (wn _ rfl) rfl (o_as n9.at_) (fun an13 n13 => ?_)
  refine wpList_nil ?_
  refine th_n (hK5 _ _ ?_)
  refine wp_seq_k (fun K14 hK14 => ?_)
  refine wp_region_lit ?_
  refine sv n13.ok rfl (wn _ rfl) rfl (o_mv n13.at_) (fun an15 n15 => ?_)
  refine sv n15.ok rfl (wn _ rfl) rfl (o_neq (b := false) n15.at_ ev_const (by decide)) (fun an16 n16 => ?_)
  refine wpList_nil ?_
  refine th_n (hK14 _ _ ?_)
  refine wp_cond_false (n16.at_) ?_
  refine wp_skip ?_
  refine th_n (hK4 _ _ ?_)
  refine wp_seq_k (fun K17 hK17 => ?_)
  refine wp_region_lit ?_
  have e18 := n16.ne rfl (n15.ne rfl (n13.ne rfl (n9.ne rfl (n8.ne rfl (n6.ne rfl (n3.ne rfl (n2.ne rfl e0_0)))))))
  refine sv n16.ok rfl (wn _ rfl) rfl (o_mv e18) (fun an19 n19 => ?_)
  have e20 := n19.ne rfl (n16.ne rfl (n15.ne rfl (n13.ne rfl (n9.ne rfl (n8.ne rfl e7)))))
  refine sv n19.ok rfl (wn _ rfl) rfl (o_mv e20) (fun an21 n21 => ?_)
  refine sc n21.ok rfl (wn _ rfl) rfl (o_f2 Tryz.func65 rfl rfl rfl (n21.ne rfl n19.at_) n21.at_) (marksOfDots_any K L va vb vc vd hl hl2 w10 (hv.gr G12) (hv2.gr G12) (hm.gr G12) (hm2.gr G12)) ?_
  rintro _ w23 ⟨B, uB, rfl, hoB, hB, lB, g24⟩
  obtain ⟨ba, bc, rfl, -⟩ := ow_form hoB
  have rB := RdA.own encM_ok hoB rfl
  refine ⟨_, rfl, fun an22 n22 => ?_⟩
  have G25 := G12.trans g24
  have A27 := Gr.refl w23
  refine sv n22.ok rfl (wn _ rfl) rfl (o_as n22.at_) (fun an28 n28 => ?_)
  refine wpList_nil ?_
  refine th_n (hK17 _ _ ?_)
  refine wp_seq_k (fun K29 hK29 => ?_)
  refine wp_seq_k (fun K30 hK30 => ?_)
  refine wp_region_lit ?_
  have e31 := n28.ne rfl (n22.ne rfl (n21.ne rfl (n19.ne rfl e18)))
  refine sv n28.ok rfl (wn _ rfl) rfl (o_mv e31) (fun an32 n32 => ?_)
  have e33 := n32.ne rfl (n28.ne rfl (n22.ne rfl (n21.ne rfl e20)))
  refine sv n32.ok rfl (wn _ rfl) rfl (o_mv e33) (fun an34 n34 => ?_)
  refine sc n34.ok rfl (wn _ rfl) rfl (o_f2 Tryz.func66 rfl rfl rfl (n34.ne rfl n32.at_) n34.at_) (marksOfPoints_any K L va vb vc vd hl hl2 w23 (hv.gr G25) (hv2.gr G25) (hm.gr G25) (hm2.gr G25)) ?_
  rintro _ w36 ⟨A, uA, rfl, hoA, hA, lA, g37⟩
  obtain ⟨aa, ac, rfl, -⟩ := ow_form hoA
  have rA := RdA.own encM_ok hoA rfl
  refine ⟨_, rfl, fun an35 n35 => ?_⟩
  have G38 := G25.trans g37
  have A39 := A27.trans g37
  have A41 := Gr.refl w36
  refine sv n35.ok rfl (wn _ rfl) rfl (o_len n35.at_ Tryz.underlying118) (fun an42 n42 => ?_)
  refine sv n42.ok rfl (wn _ rfl) rfl (o_mv ev_const) (fun an43 n43 => ?_)
  refine wpList_nil ?_
  refine th_n (hK30 _ _ ?_)
  refine wp_block ?_
  have e45 := n43.ne rfl (n42.ne rfl (n35.ne rfl (n34.ne rfl (n32.ne rfl (n28.ne rfl (n22.ne rfl (n21.ne rfl (n19.ne rfl (n16.ne rfl (n15.ne rfl (n13.ne rfl (n9.ne rfl (n8.ne rfl (n6.ne rfl (n3.ne rfl n2.at_)))))))))))))))
  have e46 := n43.ne rfl (n42.ne rfl (n35.ne rfl (n34.ne rfl (n32.ne rfl (n28.ne rfl (n22.ne rfl (n21.ne rfl (n19.ne rfl (n16.ne rfl (n15.ne rfl (n13.ne rfl (n9.ne rfl (n8.ne rfl (n6.ne rfl n3.at_))))))))))))))
  have e47 := n43.ne rfl (n42.ne rfl (n35.ne rfl (n34.ne rfl (n32.ne rfl n28.at_))))
  refine lp (fun (nL : Nat) (aL : Act) (wL : World) => ∃ i : Nat, nL = A.length - i ∧ Ok 31 aL ∧ Gr w wL ∧ (aL.eval (.tmp 4) = .bool false) ∧ (aL.eval (.tmp 5) = .int .i64 0) ∧ (aL.eval (.tmp 7) = .slice ba B.length bc) ∧ (aL.eval (.tmp 21) = .slice aa A.length ac) ∧ (aL.eval (.tmp 22) = .int .i64 ((A.length : Nat) : Int)) ∧ (aL.eval (.tmp 23) = .int .i64 (i : Int)) ∧ (Gr w23 wL) ∧ (Gr w36 wL) ∧ (i ≤ A.length) ∧ (∀ k y, k < i → A[k]? = some y → (B.any fun d => crossB y d) = false)) _ ⟨0, rfl, n43.ok, G38, e45, e46, e47, (n43.ne rfl (n42.ne rfl n35.at_)), (n43.ne rfl n42.at_), n43.at_, A39, A41, by omega, fun k y hk => by omega⟩ ?_
  rintro m48 aI44 w50 ⟨i, hmI44, okI44, GI44, s4I44, s5I44, s7I44, s21I44, s22I44, s23I44, xanch26I44, xanch40I44, hiI44, hnoI44⟩ KI44 hKI44
  refine wp_seq_k (fun K51 hK51 => ?_)
  refine wp_region_lit ?_
  refine sv okI44 rfl (wn _ rfl) rfl (o_ltI s23I44 s22I44) (fun an52 n52 => ?_)
  refine wpList_nil ?_
  refine th_n (hK51 _ _ ?_)
  refine wp_seq_k (fun K53 hK53 => ?_)
  by_cases c54 : (i : Int) < ((A.length : Nat) : Int)
  · refine wp_cond_true ((n52.at_).trans (congrArg Value.bool (decide_eq_true c54))) ?_
    refine wp_skip ?_
    refine th_n (hK53 _ _ ?_)
    refine wp_seq_k (fun K55 hK55 => ?_)
    refine wp_block ?_
    refine wp_seq_k (fun K56 hK56 => ?_)
    refine wp_region_lit ?_
    have h57l : i < List.length A := by omega
    obtain ⟨bh57, fh57, h57a, h57b, h57c⟩ := (rA.gr xanch40I44) (ne_nil_of_lt h57l)
    obtain ⟨xh57, h57x⟩ : ∃ x, (A)[i]? = some x := ⟨_, List.getElem?_eq_getElem h57l⟩
    refine sv n52.ok rfl (wn _ rfl) rfl (o_iaV (i := i) (s := 2) h57a (n52.ne rfl s21I44) (n52.ne rfl s23I44) Tryz.underlying118 (by kernel_rfl) h57l) (fun an58 n58 => ?_)
    refine sv n58.ok rfl (wn _ rfl) rfl (o_ldA (k := fh57 + i * 2) n58.at_ (cs := [.int .u32 ((xh57.1 : Nat) : Int), .int .u32 ((xh57.2 : Nat) : Int)]) (fun j v hv => (Below.cell (Gr.refl _) h57b).trans (h57c _ _ h57x j v hv)) Tryz.underlying122 rfl (by kernel_rfl)) (fun an59 n59 => ?_)
    refine sal (cs := #[.int .u32 0, .int .u32 0]) n59.ok rfl (wn _ rfl) rfl (o_al (z := .agg #[.int .u32 0, .int .u32 0]) (by kernel_rfl)) (fun an60 w62 b61 W63 n60 => ?_)
    have l64 : w.heap.size ≤ b61 := by rw [W63.eq]; exact GI44.size
    have l65 : w23.heap.size ≤ b61 := by rw [W63.eq]; exact xanch26I44.size
    have l66 : w36.heap.size ≤ b61 := by rw [W63.eq]; exact xanch40I44.size
    have G67 := GI44.trans W63.gr
    have A68 := xanch26I44.trans W63.gr
    have A69 := xanch40I44.trans W63.gr
    refine ssR rfl (wn _ rfl) (o_stR n60.at_ (n60.ne rfl n59.at_) W63.bk (by kernel_rfl) rfl (by simp [Value.oneCell'])) W63.bk (fun w70 u71 u71b => ?_)
    have G72 : Gr w w70 := Below.upd G67 l64 u71
    have A73 : Gr w23 w70 := Below.upd A68 l65 u71
    have A74 : Gr w36 w70 := Below.upd A69 l66 u71
    refine wpList_nil ?_
    refine th_n (hK56 _ _ ?_)
    refine wp_seq_k (fun K75 hK75 => ?_)
    refine wp_region_lit ?_
    have e76 := n60.ne rfl (n59.ne rfl (n58.ne rfl (n52.ne rfl s7I44)))
    refine sv n60.ok rfl (wn _ rfl) rfl (o_mv e76) (fun an77 n77 => ?_)
    refine sv n77.ok rfl (wn _ rfl) rfl (o_mf (fs := []) (cs := [.pointer (some ⟨b61, 0, none⟩)]) (by simp) (by simp [(n77.ne rfl n60.at_)])) (fun an78 n78 => ?_)
    refine sc n78.ok rfl (wn _ rfl) rfl (o_f2 Tryz.func67 rfl rfl rfl (n78.ne rfl n77.at_) n78.at_) (containsM B ba bc _ [.pointer (some ⟨b61, 0, none⟩)] (fun d => crossB xh57 d) ⟨_, Tryz.func68, rfl, rfl⟩ (by omega) w70 ((rB.gr A73)) (fun d hd w1 g1 => within1_any d.1 d.2 xh57.1 xh57.2 b61 (mq_lt ((hB d).1 hd) hqD hqD2).1 (mq_lt ((hB d).1 hd) hqD hqD2).2 (mq_lt ((hA _).1 (List.mem_of_getElem? h57x)) hqP hqP2).1 (mq_lt ((hA _).1 (List.mem_of_getElem? h57x)) hqP hqP2).2 w1 (u71b.gr g1))) ?_
    rintro _ w80 ⟨rfl, g81⟩
    refine ⟨_, rfl, fun an79 n79 => ?_⟩
    have G82 := G72.trans g81
    have B83 := u71b.gr g81
    have A84 := A73.trans g81
    have A85 := A74.trans g81
    refine wpList_nil ?_
    refine th_n (hK75 _ _ ?_)
    cases c86 : (B.any fun d => crossB xh57 d)
    · refine wp_cond_false ((n79.at_).trans (congrArg Value.bool (c86))) ?_
      refine wp_skip ?_
      refine ib_n ?_
      refine th_n (hK55 _ _ ?_)
      refine wp_region_lit ?_
      have e87 := n79.ne rfl (n78.ne rfl (n77.ne rfl (n60.ne rfl (n59.ne rfl (n58.ne rfl (n52.ne rfl s23I44))))))
      refine sv n79.ok rfl (wn _ rfl) rfl (o_add (r := ((i + 1 : Nat) : Int)) e87 ev_const (by omega) (by omega)) (fun an88 n88 => ?_)
      refine sv n88.ok rfl (wn _ rfl) rfl (o_mv n88.at_) (fun an89 n89 => ?_)
      refine wpList_nil ?_
      have e90 := n89.ne rfl (n88.ne rfl (n79.ne rfl (n78.ne rfl (n77.ne rfl (n60.ne rfl (n59.ne rfl (n58.ne rfl (n52.ne rfl s4I44))))))))
      have e91 := n89.ne rfl (n88.ne rfl (n79.ne rfl (n78.ne rfl (n77.ne rfl (n60.ne rfl (n59.ne rfl (n58.ne rfl (n52.ne rfl s5I44))))))))
      have e92 := n89.ne rfl (n88.ne rfl (n79.ne rfl (n78.ne rfl (n77.ne rfl e76))))
      have e93 := n89.ne rfl (n88.ne rfl (n79.ne rfl (n78.ne rfl (n77.ne rfl (n60.ne rfl (n59.ne rfl (n58.ne rfl (n52.ne rfl s21I44))))))))
      have e94 := n89.ne rfl (n88.ne rfl (n79.ne rfl (n78.ne rfl (n77.ne rfl (n60.ne rfl (n59.ne rfl (n58.ne rfl (n52.ne rfl s22I44))))))))
      exact th_n (hKI44 _ _ _ (by omega) ⟨i + 1, rfl, n89.ok, G82, e90, e91, e92, e93, e94, n89.at_, A84, A85, by omega, fun k y hk hy => by
          rcases Nat.lt_or_ge k i with q | q
          · exact hnoI44 k y q hy
          · obtain rfl : k = i := by omega
            rw [h57x] at hy
            cases hy
            exact c86⟩)
    · refine wp_cond_true ((n79.at_).trans (congrArg Value.bool (c86))) ?_
      refine wp_seq_k (fun K95 hK95 => ?_)
      refine wp_region_lit ?_
      refine sv n79.ok rfl (wn _ rfl) rfl (o_as ev_const) (fun an96 n96 => ?_)
      refine sv n96.ok rfl (wn _ rfl) rfl (o_as ev_const) (fun an97 n97 => ?_)
      refine wpList_nil ?_
      refine th_n (hK95 _ _ ?_)
      refine wp_ret ?_
      refine ib_r ?_
      refine th_r ?_
      refine th_r ?_
      refine ib_r ?_
      refine th_r ?_
      exact ret2 n97.ok rfl ((n97.ne rfl n96.at_)) (n97.at_) ⟨false, rfl, ⟨fun q => (by cases q), fun q => by have q2 := (within_marks hA hB).2 q; rw [List.any_eq_false] at q2; exact absurd c86 (by have := q2 _ (List.mem_of_getElem? h57x); simpa using this)⟩, G82⟩
  · refine wp_cond_false ((n52.at_).trans (congrArg Value.bool (decide_eq_false c54))) ?_
    refine wp_exit ?_
    refine th_x ?_
    refine th_x ?_
    refine ib_x ?_
    refine th_n (hK29 _ _ ?_)
    refine wp_seq_k (fun K98 hK98 => ?_)
    refine wp_region_lit ?_
    refine sv n52.ok rfl (wn _ rfl) rfl (o_as ev_const) (fun an99 n99 => ?_)
    refine sv n99.ok rfl (wn _ rfl) rfl (o_as ev_const) (fun an100 n100 => ?_)
    refine wpList_nil ?_
    refine th_n (hK98 _ _ ?_)
    refine wp_ret ?_
    exact ret2 n100.ok rfl ((n100.ne rfl n99.at_)) (n100.at_) ⟨true, rfl, ⟨fun _ => (within_marks hA hB).1 (by rw [List.any_eq_false]; intro y hy; obtain ⟨k, hk⟩ := List.getElem?_of_mem hy; have hlt := (List.getElem?_eq_some_iff.1 hk).1; rw [hnoI44 k y (by omega) hk]; simp), fun _ => rfl⟩, GI44⟩
end Go.Proofs.YtghjfakellaecaaGreat

/- What a part owns; narrow. -/
set_option linter.unusedVariables false
set_option linter.unusedSimpArgs false
namespace Go.Proofs.YtghjfakellaecaaGreat
open Go.RowKit Rm Gx
/-- the types that a part's memory is of -/
def ptT : List TypeId := [96, 91, 3, 58]
/-- blocks of these types stand -/
def Tk (w w' : World) : Prop := ∀ (k : Nat) (cs : Array Value) (t : TypeId) (fr : Nat × Nat), w.heap[k]? = some (.cells cs t fr) → ptT.contains t = true → w'.heap[k]? = w.heap[k]?
theorem tk_gr {w w' : World} (g : Gr w w') : Tk w w' := fun k cs t fr h _ => Below.block g k (Array.getElem?_eq_some_iff.1 h).1
theorem tk_upd {w w' : World} {b : Nat} {cs : Array Value} {t : TypeId} (u : Upd w w' b) (h : Bk w b cs t) (ht : ptT.contains t = false) : Tk w w' := fun k cs' t' fr h' ht' => u.oth k (fun e => by
  subst e
  unfold Bk at h
  rw [h] at h'
  injection h' with h'
  injection h' with _ h2
  subst h2
  rw [ht] at ht'
  cases ht')
theorem tk_grown {w w' : World} {base s n : Nat} {t : TypeId} {v : Value} {xs : List Value} (h : w.ownsRow base t s v n xs) (g : w.grownBy w' v.ownBlock) (ht : ptT.contains t = false) : Tk w w' := fun k cs t' fr h' ht' => g.block k (Array.getElem?_eq_some_iff.1 h').1 (fun e => by
  obtain ⟨-, ⟨rfl, -⟩ | ⟨b, cap, cur, rfl, -, hg, -⟩⟩ := h
  · cases e
  · obtain rfl : k = b := by simpa [Value.ownBlock] using e
    rw [hg] at h'
    injection h' with h'
    injection h' with _ h2
    subst h2
    rw [ht] at ht'
    cases ht')
theorem ow_tk {w w' : World} {base s n : Nat} {t : TypeId} {v : Value} {xs : List Value} (h : w.ownsRow base t s v n xs) (k : Tk w w') (ht : ptT.contains t = true) : w'.ownsRow base t s v n xs := by
  obtain ⟨h1, h2 | ⟨b, cap, cur, rfl, h3, hg, h4⟩⟩ := h
  · exact ⟨h1, .inl h2⟩
  · exact ⟨h1, .inr ⟨b, cap, cur, rfl, h3, (k b cur t (0, 0) hg ht).trans hg, h4⟩⟩
theorem FO.tk {base n : Nat} {w w' : World} {v : Value} {T : Nat → Nat} (h : FO base n w v T) (k : Tk w w') : FO base n w' v T := by
  obtain ⟨O, h1, h2, h3⟩ := h
  exact ⟨O, ow_tk h1 k (by decide), fun p hp => ow_tk (h2 p hp) k (by decide), h3⟩
theorem KnO.tk {base : Nat} {w w' : World} {k : Value} {v : List Nat} {m : List (Nat × Nat)} (h : KnO base w k v m) (q : Tk w w') : KnO base w' k v m := by
  obtain ⟨vv, mv, e, h1, h2⟩ := h
  exact ⟨vv, mv, e, ow_tk h1 q (by decide), ow_tk h2 q (by decide)⟩
theorem FO.form {base n : Nat} {w : World} {v : Value} {T : Nat → Nat} (h : FO base n w v T) : ∃ a l c, v = .slice a l c := by
  obtain ⟨O, h1, -⟩ := h
  obtain ⟨a, c, rfl, -⟩ := ow_form h1
  exact ⟨a, _, c, rfl⟩
/-- a part that owns what it holds -/
structure OwnP (base : Nat) (w : World) (x : PtX) : Prop where
  fo : FO base 16 w x.f x.T
  kn : KnO base w x.k (formV x.D) (formM x.D)
  few : (formM x.D).length ≤ 60
theorem OwnP.tk {base : Nat} {w w' : World} {x : PtX} (h : OwnP base w x) (k : Tk w w') : OwnP base w' x := ⟨h.fo.tk k, h.kn.tk k, h.few⟩
theorem OwnP.mean {base : Nat} {w : World} {x : PtX} (h : OwnP base w x) : MeanP w x := ⟨h.fo.fs.le (by decide), h.kn.rd, h.few⟩
theorem OwnP.base {base base' : Nat} {w : World} {x : PtX} (h : OwnP base w x) (hb : base' ≤ base) : OwnP base' w x := ⟨h.fo.base hb, h.kn.less hb, h.few⟩
def OwnsP (base : Nat) (w : World) (K : List PtX) : Prop := ∀ x ∈ K, OwnP base w x
theorem OwnsP.tk {base : Nat} {w w' : World} {K : List PtX} (h : OwnsP base w K) (k : Tk w w') : OwnsP base w' K := fun x hx => (h x hx).tk k
theorem OwnsP.mean {base : Nat} {w : World} {K : List PtX} (h : OwnsP base w K) : MeansP w K := fun x hx => (h x hx).mean
theorem OwnsP.snoc {base : Nat} {w : World} {K : List PtX} {x : PtX} (h : OwnsP base w K) (hx : OwnP base w x) : OwnsP base w (K ++ [x]) := fun y hy => by
  rcases List.mem_append.1 hy with hy | hy
  · exact h y hy
  · rw [List.mem_singleton.1 hy]; exact hx
theorem or_none (D : DS) : EqD (orD (memB (formV D) (formM D)) (memB [] [])) D := fun s c i => by
  have h := form_mem D s c i
  have e : memB [] [] s c = false := by
    cases q : memB [] [] s c
    · rfl
    · rw [memB_iff] at q
      simp [cv] at q
      have := i.2.1
      omega
  simp only [orD, h, e, Bool.or_false]
theorem kjoin0 (k : Value) (D : DS) (w : World) (hk : KnD w k D) (hl : (formM D).length ≤ 60) :
    Calls Tryz.prog 34 #[k, .agg #[.slice none 0 0, .slice none 0 0]] w fun e w' => ∃ va vn vc ma mn mc, e = .returned (.tuple #[.agg #[.slice va vn vc, .slice ma mn mc], .int .i64 0]) ∧ KnO w.heap.size w' (.agg #[.slice va vn vc, .slice ma mn mc]) (formV D) (formM D) ∧ Gr w w' := by
  have ok0 : OkV [] [] := ⟨by simp, by simp, by simp, by simp, by simp⟩
  refine (join_ok k _ _ [] _ [] w hk (knR_nil w) (form_ok D) ok0 hl (by simp)).mono ?_
  rintro e w' ⟨h, g⟩
  obtain ⟨k2, h1, h2⟩ := frmK.one (h.congr (or_none D))
  unfold frE at h1
  unfold frV frM at h2
  rw [if_pos hl] at h1
  rw [if_pos hl, if_pos hl] at h2
  obtain ⟨va, vc, ma, mc, rfl⟩ := h2.form
  exact ⟨va, _, vc, ma, _, mc, h1, h2, g⟩
/-- what narrowing makes of a part's meaning -/
def nar (U : Nat → Nat) (x : PtX) : (Nat → Nat) × DS := (fun t => x.T t &&& U t, x.D)
def _root_.Rm.PtX.m (x : PtX) : (Nat → Nat) × DS := (x.T, x.D)
theorem nar_step {U : Nat → Nat} {L R : List PtX} {i : Nat} {x y : PtX} (h : R.map PtX.m = (L.take i).map (nar U)) (hx : L[i]? = some x) (hy : y.m = nar U x) : (R ++ [y]).map PtX.m = (L.take (i + 1)).map (nar U) := by
  rw [List.map_append, h, List.take_add_one, hx, List.map_append]
  simp [hy]
set_option maxHeartbeats 8000000 in
set_option maxRecDepth 100000 in
theorem narrow_any (L : List PtX) (va : Option Addr) (vc : Nat) (fv : Value) (U : Nat → Nat) (hl : L.length ≤ 1000) (w : World) (hv : RdA encP 3 w va L) (hm : MeansP w L) (hf : FS w fv U) :
    Calls Tryz.prog 45 #[.slice va L.length vc, fv] w fun e w' => ∃ (R : List PtX) (v : Value), e = .returned v ∧ R.map PtX.m = L.map (nar U) ∧ w'.ownsRow w.heap.size 35 3 v R.length (flatE encP R) ∧ OwnsP w.heap.size w' R ∧ Gr w w' := by
  refine enter (N := 40) Tryz.func45 rfl rfl rfl (fun a0 ok0 h0 => ?_)
  have e0_0 : a0.eval (.tmp 0) = .slice va L.length vc := h0 0 _ rfl
  have e0_1 : a0.eval (.tmp 1) = fv := h0 1 _ rfl
  clear h0
  have G0 := Gr.refl w
  obtain ⟨base, z1⟩ : ∃ n, n = w.heap.size := ⟨_, rfl⟩
  have l2 : w.heap.size ≤ base := by rw [z1]; exact G0.size
  have z3 : base ≤ w.heap.size := Nat.le_of_eq z1
  have O4 := World.ownsRow_nil w base 35 3
  have hps : OwnsP base w ([] : List PtX) := fun x hx => by cases hx
  refine wp_seq_k (fun K5 hK5 => ?_)
  refine wp_region_lit ?_
  refine sv ok0 rfl (wn _ rfl) rfl (o_as ev_const) (fun an6 n6 => ?_)
  refine wpList_nil ?_
  refine th_n (hK5 _ _ ?_)
  refine wp_seq_k (fun K7 hK7 => ?_)
  refine wp_region_lit ?_
  refine sv n6.ok rfl (wn _ rfl) rfl (o_as ev_const) (fun an8 n8 => ?_)
  refine wpList_nil ?_
  refine th_n (hK7 _ _ ?_)
  refine wp_seq_k (fun K9 hK9 => ?_)
  refine wp_seq_k (fun K10 hK10 => ?_)
  refine wp_region_lit ?_
  refine sv n8.ok rfl (wn _ rfl) rfl (o_mv (n8.ne rfl (n6.ne rfl e0_0))) (fun an11 n11 => ?_)
  refine sv n11.ok rfl (wn _ rfl) rfl (o_len n11.at_ Tryz.underlying22) (fun an12 n12 => ?_)
  refine sv n12.ok rfl (wn _ rfl) rfl (o_mv ev_const) (fun an13 n13 => ?_)
  refine wpList_nil ?_
  refine th_n (hK10 _ _ ?_)
  refine wp_block ?_
  have e15 := n13.ne rfl (n12.ne rfl (n11.ne rfl (n8.ne rfl (n6.ne rfl e0_1))))
  have e16 := n13.ne rfl (n12.ne rfl (n11.ne rfl (n8.ne rfl n6.at_)))
  have e17 := n13.ne rfl (n12.ne rfl (n11.ne rfl n8.at_))
  refine lp (fun (nL : Nat) (aL : Act) (wL : World) => ∃ i : Nat, ∃ R : List PtX, ∃ ra : Option Addr, ∃ rc : Nat, nL = L.length - i ∧ Ok 40 aL ∧ Gr w wL ∧ (aL.eval (.tmp 1) = fv) ∧ (aL.eval (.tmp 4) = .slice none 0 0) ∧ (aL.eval (.tmp 5) = .slice ra (R.length) rc) ∧ (aL.eval (.tmp 12) = .slice va L.length vc) ∧ (aL.eval (.tmp 13) = .int .i64 ((L.length : Nat) : Int)) ∧ (aL.eval (.tmp 14) = .int .i64 (i : Int)) ∧ (OwnsP base wL R) ∧ (World.ownsRow wL base 35 3 (.slice ra (R.length) rc) (R.length) ((flatE encP R))) ∧ (base ≤ wL.heap.size) ∧ (i ≤ L.length) ∧ (R.map PtX.m = (L.take i).map (nar U))) _ ⟨0, [], none, 0, rfl, n13.ok, G0, e15, e16, e17, (n13.ne rfl (n12.ne rfl n11.at_)), (n13.ne rfl n12.at_), n13.at_, hps, O4, z3, by omega, rfl⟩ ?_
  rintro m18 aI14 w20 ⟨i, R, ra, rc, hmI14, okI14, GI14, s1I14, s4I14, s5I14, s12I14, s13I14, s14I14, fpsI14, orI14, zbaseI14, hiI14, hRI14⟩ KI14 hKI14
  have hRlI14 : R.length = i := by have := congrArg List.length hRI14; rw [List.length_map, List.length_map, List.length_take] at this; omega
  refine wp_seq_k (fun K21 hK21 => ?_)
  refine wp_region_lit ?_
  refine sv okI14 rfl (wn _ rfl) rfl (o_ltI s14I14 s13I14) (fun an22 n22 => ?_)
  refine wpList_nil ?_
  refine th_n (hK21 _ _ ?_)
  refine wp_seq_k (fun K23 hK23 => ?_)
  by_cases c24 : (i : Int) < ((L.length : Nat) : Int)
  · refine wp_cond_true ((n22.at_).trans (congrArg Value.bool (decide_eq_true c24))) ?_
    refine wp_skip ?_
    refine th_n (hK23 _ _ ?_)
    refine wp_seq_k (fun K25 hK25 => ?_)
    refine wp_block ?_
    refine wp_seq_k (fun K26 hK26 => ?_)
    refine wp_region_lit ?_
    have h27l : i < List.length L := by omega
    obtain ⟨bh27, fh27, h27a, h27b, h27c⟩ := hv (ne_nil_of_lt h27l)
    obtain ⟨xh27, h27x⟩ : ∃ x, (L)[i]? = some x := ⟨_, List.getElem?_eq_getElem h27l⟩
    refine sv n22.ok rfl (wn _ rfl) rfl (o_iaV (i := i) (s := 3) h27a (n22.ne rfl s12I14) (n22.ne rfl s14I14) Tryz.underlying22 (by kernel_rfl) h27l) (fun an28 n28 => ?_)
    refine sv n28.ok rfl (wn _ rfl) rfl (o_ldA (k := fh27 + i * 3) n28.at_ (cs := [.slice xh27.fa xh27.fn xh27.fc, .slice xh27.va xh27.vn xh27.vc, .slice xh27.ma xh27.mn xh27.mc]) (fun j v hv => (Below.cell GI14 h27b).trans (h27c _ _ h27x j v hv)) Tryz.underlying35 rfl (by kernel_rfl)) (fun an29 n29 => ?_)
    refine sal (cs := #[.slice none 0 0, .slice none 0 0, .slice none 0 0]) n29.ok rfl (wn _ rfl) rfl (o_al (z := .agg #[.slice none 0 0, .slice none 0 0, .slice none 0 0]) (by kernel_rfl)) (fun an30 w32 b31 W33 n30 => ?_)
    have l34 : w.heap.size ≤ b31 := by rw [W33.eq]; exact GI14.size
    have l35 : ∀ k, Value.ownBlock (.slice ra (R.length) rc) = some k → k < b31 := fun k e => by rw [W33.eq]; exact ow_in orI14 k e
    have G36 := GI14.trans W33.gr
    have z37 := Nat.le_trans zbaseI14 W33.gr.size
    have O38 := ow_gr orI14 W33.gr
    have F39 := fpsI14.tk (tk_gr W33.gr)
    refine ssR rfl (wn _ rfl) (o_stR n30.at_ (n30.ne rfl n29.at_) W33.bk (by kernel_rfl) rfl (by simp [Value.oneCell'])) W33.bk (fun w40 u41 u41b => ?_)
    have G42 : Gr w w40 := Below.upd G36 l34 u41
    have z43 : base ≤ w40.heap.size := by rw [u41.size]; exact z37
    have O44 := ow_upd_ne O38 u41 l35
    have F45 := F39.tk (tk_upd u41 W33.bk (by decide))
    refine wpList_nil ?_
    refine th_n (hK26 _ _ ?_)
    refine wp_seq_k (fun K46 hK46 => ?_)
    refine wp_region_lit ?_
    refine sv n30.ok rfl (wn _ rfl) rfl (o_fa (z := 1) n30.at_ Tryz.underlying35 rfl (by kernel_rfl) rfl rfl) (fun an47 n47 => ?_)
    refine sv n47.ok rfl (wn _ rfl) rfl (o_ld n47.at_ (Tryz.isAgg23 _) (u41b.cell _ rfl)) (fun an48 n48 => ?_)
    have e49 := n48.ne rfl (n47.ne rfl (n30.ne rfl (n29.ne rfl (n28.ne rfl (n22.ne rfl s1I14)))))
    refine sv n48.ok rfl (wn _ rfl) rfl (o_mv e49) (fun an50 n50 => ?_)
    refine sc n50.ok rfl (wn _ rfl) rfl (o_f2 Tryz.func28 rfl rfl rfl (n50.ne rfl n48.at_) n50.at_) (fmeet_own (T := xh27.T) (U := U) ((hm _ (List.mem_of_getElem? h27x)).gr G42).fs (hf.gr G42)) ?_
    rintro _ w52 ⟨u1, rfl, hu1, g53⟩
    obtain ⟨fa1, fn1, fc1, rfl⟩ := hu1.form
    refine ⟨_, rfl, fun an51 n51 => ?_⟩
    have G54 := G42.trans g53
    have B55 := u41b.gr g53
    have z56 := Nat.le_trans z43 g53.size
    have O57 := ow_gr O44 g53
    have F58 := F45.tk (tk_gr g53)
    refine sv n51.ok rfl (wn _ rfl) rfl (o_mv n51.at_) (fun an59 n59 => ?_)
    refine sv n59.ok rfl (wn _ rfl) rfl (o_ex n59.at_ rfl) (fun an60 n60 => ?_)
    refine sv n60.ok rfl (wn _ rfl) rfl (o_ex (n60.ne rfl n59.at_) rfl) (fun an61 n61 => ?_)
    refine sv n61.ok rfl (wn _ rfl) rfl (o_as (n61.ne rfl n60.at_)) (fun an62 n62 => ?_)
    refine sv n62.ok rfl (wn _ rfl) rfl (o_as (n62.ne rfl n61.at_)) (fun an63 n63 => ?_)
    refine wpList_nil ?_
    refine th_n (hK46 _ _ ?_)
    refine wp_seq_k (fun K64 hK64 => ?_)
    refine wp_region_lit ?_
    have e65 := n63.ne rfl (n62.ne rfl (n61.ne rfl (n60.ne rfl (n59.ne rfl (n51.ne rfl (n50.ne rfl (n48.ne rfl (n47.ne rfl n30.at_))))))))
    refine sv n63.ok rfl (wn _ rfl) rfl (o_fa (z := 2) e65 Tryz.underlying35 rfl (by kernel_rfl) rfl rfl) (fun an66 n66 => ?_)
    refine sv n66.ok rfl (wn _ rfl) rfl (o_ldA (k := 1) (cs := [.slice xh27.va xh27.vn xh27.vc, .slice xh27.ma xh27.mn xh27.mc]) n66.at_ (bk_part B55 rfl) Tryz.underlying33 rfl (by kernel_rfl)) (fun an67 n67 => ?_)
    refine sv n67.ok rfl (wn _ rfl) rfl (o_b0 (cs := #[.slice none 0 0, .slice none 0 0]) Tryz.underlying33 (by kernel_rfl) (by kernel_rfl)) (fun an68 n68 => ?_)
    refine sc n68.ok rfl (wn _ rfl) rfl (o_f2 Tryz.func34 rfl rfl rfl (n68.ne rfl n67.at_) n68.at_) (kjoin0 _ xh27.D w52 ((hm _ (List.mem_of_getElem? h27x)).gr G54).kn (hm _ (List.mem_of_getElem? h27x)).few) ?_
    rintro _ w70 ⟨va1, vn1, vc1, ma1, mn1, mc1, rfl, hk1, g71⟩
    refine ⟨_, rfl, fun an69 n69 => ?_⟩
    have G72 := G54.trans g71
    have B73 := B55.gr g71
    have z74 := Nat.le_trans z56 g71.size
    have O75 := ow_gr O57 g71
    have F76 := F58.tk (tk_gr g71)
    have F77 := (hu1.base G42.size).gr g71
    refine sv n69.ok rfl (wn _ rfl) rfl (o_mv n69.at_) (fun an78 n78 => ?_)
    refine sv n78.ok rfl (wn _ rfl) rfl (o_ex n78.at_ rfl) (fun an79 n79 => ?_)
    refine sv n79.ok rfl (wn _ rfl) rfl (o_ex (n79.ne rfl n78.at_) rfl) (fun an80 n80 => ?_)
    refine sal (cs := #[.slice none 0 0, .slice none 0 0]) n80.ok rfl (wn _ rfl) rfl (o_al (z := .agg #[.slice none 0 0, .slice none 0 0]) (by kernel_rfl)) (fun an81 w83 b82 W84 n81 => ?_)
    have l85 : b31 < b82 := by rw [W84.eq]; exact B73.lt
    have l86 : w.heap.size ≤ b82 := by rw [W84.eq]; exact G72.size
    have l87 : ∀ k, Value.ownBlock (.slice ra (R.length) rc) = some k → k < b82 := fun k e => by rw [W84.eq]; exact ow_in O75 k e
    have G88 := G72.trans W84.gr
    have B89 := B73.gr W84.gr
    have z90 := Nat.le_trans z74 W84.gr.size
    have O91 := ow_gr O75 W84.gr
    have F92 := F76.tk (tk_gr W84.gr)
    have F93 := F77.gr W84.gr
    have F94 := (hk1.less G54.size).gr W84.gr
    refine ssR rfl (wn _ rfl) (o_stR n81.at_ (n81.ne rfl (n80.ne rfl n79.at_)) W84.bk (by kernel_rfl) rfl (by simp [Value.oneCell'])) W84.bk (fun w95 u96 u96b => ?_)
    have G97 : Gr w w95 := Below.upd G88 l86 u96
    have B98 := B89.upd u96 (Nat.ne_of_lt l85)
    have z99 : base ≤ w95.heap.size := by rw [u96.size]; exact z90
    have O100 := ow_upd_ne O91 u96 l87
    have F101 := F92.tk (tk_upd u96 W84.bk (by decide))
    have F102 := F93.tk (tk_upd u96 W84.bk (by decide))
    have F103 := F94.tk (tk_upd u96 W84.bk (by decide))
    refine sv n81.ok rfl (wn _ rfl) rfl (o_as (n81.ne rfl n80.at_)) (fun an104 n104 => ?_)
    refine wpList_nil ?_
    refine th_n (hK64 _ _ ?_)
    refine wp_region_lit ?_
    have e105 := n104.ne rfl (n81.ne rfl (n80.ne rfl (n79.ne rfl (n78.ne rfl (n69.ne rfl (n68.ne rfl (n67.ne rfl (n66.ne rfl (n63.ne rfl (n62.ne rfl (n61.ne rfl (n60.ne rfl (n59.ne rfl (n51.ne rfl (n50.ne rfl (n48.ne rfl (n47.ne rfl (n30.ne rfl (n29.ne rfl (n28.ne rfl (n22.ne rfl s5I14)))))))))))))))))))))
    refine sv n104.ok rfl (wn _ rfl) rfl (o_mv e105) (fun an106 n106 => ?_)
    have e107 := n106.ne rfl (n104.ne rfl (n81.ne rfl (n80.ne rfl (n79.ne rfl (n78.ne rfl (n69.ne rfl (n68.ne rfl (n67.ne rfl (n66.ne rfl (n63.ne rfl n62.at_))))))))))
    refine sv n106.ok rfl (wn _ rfl) rfl (o_mv e107) (fun an108 n108 => ?_)
    have e109 := n108.ne rfl (n106.ne rfl (n104.ne rfl n81.at_))
    refine sv n108.ok rfl (wn _ rfl) rfl (o_ldR e109 u96b Tryz.underlying33 rfl (by kernel_rfl)) (fun an110 n110 => ?_)
    refine sv n110.ok rfl (wn _ rfl) rfl (o_bd (cells := #[.slice fa1 fn1 fc1, .slice va1 vn1 vc1, .slice ma1 mn1 mc1]) (vs := [(0, .slice fa1 fn1 fc1), (1, .agg #[.slice va1 vn1 vc1, .slice ma1 mn1 mc1])]) (by simp [(n110.ne rfl n108.at_), n110.at_, ev_const]) (by kernel_rfl)) (fun an111 n111 => ?_)
    obtain ⟨i112, i112a, i112b, i112c⟩ := info3_of (show (Tryz.prog.info? 35).map (fun i => (i.zero, i.size)) = some (some (.agg #[.slice none 0 0, .slice none 0 0, .slice none 0 0]), 3) by kernel_rfl)
    refine sals (cs := #[.slice fa1 fn1 fc1, .slice va1 vn1 vc1, .slice ma1 mn1 mc1]) n111.ok rfl (wn _ rfl) rfl (o_bs (vs := [(0, .agg #[.slice fa1 fn1 fc1, .slice va1 vn1 vc1, .slice ma1 mn1 mc1])]) (by simp [n111.at_, ev_const]) Tryz.underlying22 i112a i112b (by rw [i112c]; rfl) (by rw [i112c]; rfl) (by rw [i112c]; kernel_rfl)) (fun an113 w115 b114 W116 n113 => ?_)
    have l117 : b31 < b114 := by rw [W116.eq]; exact B98.lt
    have l118 : b82 < b114 := by rw [W116.eq]; exact u96b.lt
    have l119 : w.heap.size ≤ b114 := by rw [W116.eq]; exact G97.size
    have l120 : ∀ k, Value.ownBlock (.slice ra (R.length) rc) = some k → k < b114 := fun k e => by rw [W116.eq]; exact ow_in O100 k e
    have G121 := G97.trans W116.gr
    have B122 := B98.gr W116.gr
    have B123 := u96b.gr W116.gr
    have z124 := Nat.le_trans z99 W116.gr.size
    have O125 := ow_gr O100 W116.gr
    have F126 := F101.tk (tk_gr W116.gr)
    have F127 := F102.gr W116.gr
    have F128 := F103.gr W116.gr
    have e129 := n113.ne rfl (n111.ne rfl (n110.ne rfl (n108.ne rfl n106.at_)))
    obtain ⟨y130, hy131⟩ : ∃ y : PtX, y = (⟨fa1, fn1, fc1, va1, vn1, vc1, ma1, mn1, mc1, fun t => xh27.T t &&& U t, xh27.D⟩ : PtX) := ⟨_, rfl⟩
    have q132 : OwnP base w115 y130 := by subst hy131; exact ⟨z1 ▸ F127, z1 ▸ F128, (hm _ (List.mem_of_getElem? h27x)).few⟩
    obtain ⟨i133, i133a, i133b, i133c, i133d⟩ := info_of (show (Tryz.prog.info? 35).map (fun i => (i.zero, i.size, i.bytes)) = some (some (.agg #[.slice none 0 0, .slice none 0 0, .slice none 0 0]), 3, 72) by kernel_rfl)
    refine s_app (base := base) (n := R.length) (xs := (flatE encP R)) (m := 1) (news := encP y130) n113.ok (wn _ rfl) rfl Tryz.underlying22 i133a i133b i133c i133d rfl (by omega) e129 O125 n113.at_ rfl ((by subst hy131; exact fun j u hu => by rw [add_n]; exact bk_part W116.bk (k := 0) rfl j u hu)) (encP_ok.one y130) (by simp only [maxLen]; omega) (by omega) z124 (fun an134 w135 v136 O139 gg140 n134 => ?_)
    obtain ⟨a137, c138, rfl, c138l⟩ := ow_form O139
    have G141 := Gr.grown G121 gg140 (fun k e => Nat.le_trans l2 (ow_lt O125 k e))
    have B142 := B122.grown_ne gg140 l35
    have B143 := B123.grown_ne gg140 l87
    have B144 := W116.bk.grown_ne gg140 l120
    have z145 := Nat.le_trans z124 gg140.size
    have F146 := F126.tk (tk_grown O125 gg140 (by decide))
    have F147 := q132.tk (tk_grown O125 gg140 (by decide))
    have O148 : w135.ownsRow base 35 3 (.slice a137 ((R.length + 1)) c138) ((R.length + 1)) ((flatE encP (R ++ [y130]))) := by have h := O139; rw [← flatE_one (enc := encP) y130, ← flatE_app] at h; exact h
    have hps149 := F146.snoc F147
    refine sv n134.ok rfl (wn _ rfl) rfl (o_as n134.at_) (fun an150 n150 => ?_)
    refine wpList_nil ?_
    refine ib_n ?_
    refine th_n (hK25 _ _ ?_)
    refine wp_region_lit ?_
    have e151 := n150.ne rfl (n134.ne rfl (n113.ne rfl (n111.ne rfl (n110.ne rfl (n108.ne rfl (n106.ne rfl (n104.ne rfl (n81.ne rfl (n80.ne rfl (n79.ne rfl (n78.ne rfl (n69.ne rfl (n68.ne rfl (n67.ne rfl (n66.ne rfl (n63.ne rfl (n62.ne rfl (n61.ne rfl (n60.ne rfl (n59.ne rfl (n51.ne rfl (n50.ne rfl (n48.ne rfl (n47.ne rfl (n30.ne rfl (n29.ne rfl (n28.ne rfl (n22.ne rfl s14I14))))))))))))))))))))))))))))
    refine sv n150.ok rfl (wn _ rfl) rfl (o_add (r := ((i + 1 : Nat) : Int)) e151 ev_const (by omega) (by omega)) (fun an152 n152 => ?_)
    refine sv n152.ok rfl (wn _ rfl) rfl (o_mv n152.at_) (fun an153 n153 => ?_)
    refine wpList_nil ?_
    have e154 := n153.ne rfl (n152.ne rfl (n150.ne rfl (n134.ne rfl (n113.ne rfl (n111.ne rfl (n110.ne rfl (n108.ne rfl (n106.ne rfl (n104.ne rfl (n81.ne rfl (n80.ne rfl (n79.ne rfl (n78.ne rfl (n69.ne rfl (n68.ne rfl (n67.ne rfl (n66.ne rfl (n63.ne rfl (n62.ne rfl (n61.ne rfl (n60.ne rfl (n59.ne rfl (n51.ne rfl (n50.ne rfl e49))))))))))))))))))))))))
    have e155 := n153.ne rfl (n152.ne rfl (n150.ne rfl (n134.ne rfl (n113.ne rfl (n111.ne rfl (n110.ne rfl (n108.ne rfl (n106.ne rfl (n104.ne rfl (n81.ne rfl (n80.ne rfl (n79.ne rfl (n78.ne rfl (n69.ne rfl (n68.ne rfl (n67.ne rfl (n66.ne rfl (n63.ne rfl (n62.ne rfl (n61.ne rfl (n60.ne rfl (n59.ne rfl (n51.ne rfl (n50.ne rfl (n48.ne rfl (n47.ne rfl (n30.ne rfl (n29.ne rfl (n28.ne rfl (n22.ne rfl s4I14))))))))))))))))))))))))))))))
    have e156 := n153.ne rfl (n152.ne rfl (n150.ne rfl (n134.ne rfl (n113.ne rfl (n111.ne rfl (n110.ne rfl (n108.ne rfl (n106.ne rfl (n104.ne rfl (n81.ne rfl (n80.ne rfl (n79.ne rfl (n78.ne rfl (n69.ne rfl (n68.ne rfl (n67.ne rfl (n66.ne rfl (n63.ne rfl (n62.ne rfl (n61.ne rfl (n60.ne rfl (n59.ne rfl (n51.ne rfl (n50.ne rfl (n48.ne rfl (n47.ne rfl (n30.ne rfl (n29.ne rfl (n28.ne rfl (n22.ne rfl s12I14))))))))))))))))))))))))))))))
    have e157 := n153.ne rfl (n152.ne rfl (n150.ne rfl (n134.ne rfl (n113.ne rfl (n111.ne rfl (n110.ne rfl (n108.ne rfl (n106.ne rfl (n104.ne rfl (n81.ne rfl (n80.ne rfl (n79.ne rfl (n78.ne rfl (n69.ne rfl (n68.ne rfl (n67.ne rfl (n66.ne rfl (n63.ne rfl (n62.ne rfl (n61.ne rfl (n60.ne rfl (n59.ne rfl (n51.ne rfl (n50.ne rfl (n48.ne rfl (n47.ne rfl (n30.ne rfl (n29.ne rfl (n28.ne rfl (n22.ne rfl s13I14))))))))))))))))))))))))))))))
    exact th_n (hKI14 _ _ _ (by omega) ⟨i + 1, R ++ [y130], a137, c138, rfl, n153.ok, G141, e154, e155, (by simpa using (n153.ne rfl (n152.ne rfl n150.at_))), e156, e157, n153.at_, hps149, (by simpa using O148), z145, by omega, nar_step hRI14 h27x (by rw [hy131]; rfl)⟩)
  · refine wp_cond_false ((n22.at_).trans (congrArg Value.bool (decide_eq_false c24))) ?_
    refine wp_exit ?_
    refine th_x ?_
    refine th_x ?_
    refine ib_x ?_
    refine th_n (hK9 _ _ ?_)
    refine wp_seq_k (fun K158 hK158 => ?_)
    refine wp_region_lit ?_
    refine sv n22.ok rfl (wn _ rfl) rfl (o_mv (n22.ne rfl s5I14)) (fun an159 n159 => ?_)
    refine sv n159.ok rfl (wn _ rfl) rfl (o_as n159.at_) (fun an160 n160 => ?_)
    refine wpList_nil ?_
    refine th_n (hK158 _ _ ?_)
    refine wp_ret ?_
    exact ret1 n160.ok rfl (n160.at_) ⟨R, _, rfl, by rw [hRI14, List.take_of_length_le (by omega)], z1 ▸ orI14, z1 ▸ fpsI14, GI14⟩
end Go.Proofs.YtghjfakellaecaaGreat

/- part.reduce. -/
set_option linter.unusedVariables false
set_option linter.unusedSimpArgs false
namespace Go.Proofs.YtghjfakellaecaaGreat
open Go.RowKit Rm Gx
set_option maxHeartbeats 8000000 in
set_option maxRecDepth 100000 in
theorem reduce_any (L : List PtX) (va : Option Addr) (vc : Nat) (hl : L.length ≤ 1000) (w : World) (hv : RdA encP 3 w va L) (hm : MeansP w L) :
    Calls Tryz.prog 44 #[.slice va L.length vc] w fun e w' => ∃ v : Value, e = .returned v ∧ w'.ownsRow w.heap.size 35 3 v (fewP L).length (flatE encP (fewP L)) ∧ Gr w w' := by
  refine enter (N := 32) Tryz.func44 rfl rfl rfl (fun a0 ok0 h0 => ?_)
  have e0_0 : a0.eval (.tmp 0) = .slice va L.length vc := h0 0 _ rfl
  clear h0
  have G0 := Gr.refl w
  obtain ⟨base, z1⟩ : ∃ n, n = w.heap.size := ⟨_, rfl⟩
  have l2 : w.heap.size ≤ base := by rw [z1]; exact G0.size
  have z3 : base ≤ w.heap.size := Nat.le_of_eq z1
  have O4 := World.ownsRow_nil w base 35 3
  refine wp_seq_k (fun K5 hK5 => ?_)
  refine wp_region_lit ?_
  refine sv ok0 rfl (wn _ rfl) rfl (o_as ev_const) (fun an6 n6 => ?_)
  refine wpList_nil ?_
  refine th_n (hK5 _ _ ?_)
  refine wp_seq_k (fun K7 hK7 => ?_)
  refine wp_region_lit ?_
  refine sv n6.ok rfl (wn _ rfl) rfl (o_as ev_const) (fun an8 n8 => ?_)
  refine wpList_nil ?_
  refine th_n (hK7 _ _ ?_)
  refine wp_seq_k (fun K9 hK9 => ?_)
  refine wp_seq_k (fun K10 hK10 => ?_)
  refine wp_region_lit ?_
  refine sv n8.ok rfl (wn _ rfl) rfl (o_mv (n8.ne rfl (n6.ne rfl e0_0))) (fun an11 n11 => ?_)
  refine sv n11.ok rfl (wn _ rfl) rfl (o_len n11.at_ Tryz.underlying22) (fun an12 n12 => ?_)
  refine sv n12.ok rfl (wn _ rfl) rfl (o_mv ev_const) (fun an13 n13 => ?_)
  refine wpList_nil ?_
  refine th_n (hK10 _ _ ?_)
  refine wp_block ?_
  have e15 := n13.ne rfl (n12.ne rfl (n11.ne rfl (n8.ne rfl n6.at_)))
  have e16 := n13.ne rfl (n12.ne rfl (n11.ne rfl n8.at_))
  refine lp (fun (nL : Nat) (aL : Act) (wL : World) => ∃ i : Nat, ∃ K : List PtX, ∃ ka : Option Addr, ∃ kc : Nat, nL = L.length - i ∧ Ok 32 aL ∧ Gr w wL ∧ (aL.eval (.tmp 2) = .slice none 0 0) ∧ (aL.eval (.tmp 3) = .slice ka K.length kc) ∧ (aL.eval (.tmp 7) = .slice va L.length vc) ∧ (aL.eval (.tmp 8) = .int .i64 ((L.length : Nat) : Int)) ∧ (aL.eval (.tmp 9) = .int .i64 (i : Int)) ∧ (World.ownsRow wL base 35 3 (.slice ka K.length kc) (K.length) ((flatE encP K))) ∧ (base ≤ wL.heap.size) ∧ (i ≤ L.length) ∧ (K = fewP (L.take i)) ∧ (MeansP w K)) _ ⟨0, [], none, 0, rfl, n13.ok, G0, e15, e16, (n13.ne rfl (n12.ne rfl n11.at_)), (n13.ne rfl n12.at_), n13.at_, O4, z3, by omega, rfl, (fun x hx => by cases hx)⟩ ?_
  rintro m17 aI14 w19 ⟨i, K, ka, kc, hmI14, okI14, GI14, s2I14, s3I14, s7I14, s8I14, s9I14, okrI14, zbaseI14, hiI14, hfkI14, hKmI14⟩ KI14 hKI14
  have hKlI14 : K.length ≤ i := by rw [hfkI14]; exact Nat.le_trans (fewP_len _) (by rw [List.length_take]; omega)
  have hKm := hKmI14
  refine wp_seq_k (fun K20 hK20 => ?_)
  refine wp_region_lit ?_
  refine sv okI14 rfl (wn _ rfl) rfl (o_ltI s9I14 s8I14) (fun an21 n21 => ?_)
  refine wpList_nil ?_
  refine th_n (hK20 _ _ ?_)
  refine wp_seq_k (fun K22 hK22 => ?_)
  by_cases c23 : (i : Int) < ((L.length : Nat) : Int)
  · refine wp_cond_true ((n21.at_).trans (congrArg Value.bool (decide_eq_true c23))) ?_
    refine wp_skip ?_
    refine th_n (hK22 _ _ ?_)
    refine wp_seq_k (fun K24 hK24 => ?_)
    refine wp_block ?_
    refine wp_seq_k (fun K25 hK25 => ?_)
    refine wp_region_lit ?_
    have h26l : i < List.length L := by omega
    obtain ⟨bh26, fh26, h26a, h26b, h26c⟩ := hv (ne_nil_of_lt h26l)
    obtain ⟨xh26, h26x⟩ : ∃ x, (L)[i]? = some x := ⟨_, List.getElem?_eq_getElem h26l⟩
    refine sv n21.ok rfl (wn _ rfl) rfl (o_iaV (i := i) (s := 3) h26a (n21.ne rfl s7I14) (n21.ne rfl s9I14) Tryz.underlying22 (by kernel_rfl) h26l) (fun an27 n27 => ?_)
    refine sv n27.ok rfl (wn _ rfl) rfl (o_ldA (k := fh26 + i * 3) n27.at_ (cs := [.slice xh26.fa xh26.fn xh26.fc, .slice xh26.va xh26.vn xh26.vc, .slice xh26.ma xh26.mn xh26.mc]) (fun j v hv => (Below.cell GI14 h26b).trans (h26c _ _ h26x j v hv)) Tryz.underlying35 rfl (by kernel_rfl)) (fun an28 n28 => ?_)
    refine sal (cs := #[.slice none 0 0, .slice none 0 0, .slice none 0 0]) n28.ok rfl (wn _ rfl) rfl (o_al (z := .agg #[.slice none 0 0, .slice none 0 0, .slice none 0 0]) (by kernel_rfl)) (fun an29 w31 b30 W32 n29 => ?_)
    have l33 : w.heap.size ≤ b30 := by rw [W32.eq]; exact GI14.size
    have l34 : ∀ k, Value.ownBlock (.slice ka K.length kc) = some k → k < b30 := fun k e => by rw [W32.eq]; exact ow_in okrI14 k e
    have G35 := GI14.trans W32.gr
    have z36 := Nat.le_trans zbaseI14 W32.gr.size
    have O37 := ow_gr okrI14 W32.gr
    refine ssR rfl (wn _ rfl) (o_stR n29.at_ (n29.ne rfl n28.at_) W32.bk (by kernel_rfl) rfl (by simp [Value.oneCell'])) W32.bk (fun w38 u39 u39b => ?_)
    have G40 : Gr w w38 := Below.upd G35 l33 u39
    have z41 : base ≤ w38.heap.size := by rw [u39.size]; exact z36
    have O42 := ow_upd_ne O37 u39 l34
    refine wpList_nil ?_
    refine th_n (hK25 _ _ ?_)
    refine wp_seq_k (fun K43 hK43 => ?_)
    refine wp_region_lit ?_
    refine sv n29.ok rfl (wn _ rfl) rfl (o_mf (fs := []) (cs := [.pointer (some ⟨b30, 0, none⟩)]) (by simp) (by simp [n29.at_])) (fun an44 n44 => ?_)
    refine sv n44.ok rfl (wn _ rfl) rfl (o_as n44.at_) (fun an45 n45 => ?_)
    refine wpList_nil ?_
    refine th_n (hK43 _ _ ?_)
    refine wp_seq_k (fun K46 hK46 => ?_)
    refine wp_region_lit ?_
    refine sv n45.ok rfl (wn _ rfl) rfl (o_ldR (n45.ne rfl (n44.ne rfl n29.at_)) u39b Tryz.underlying35 rfl (by kernel_rfl)) (fun an47 n47 => ?_)
    refine sc n47.ok rfl (wn _ rfl) rfl (o_f1 Tryz.func100 rfl rfl rfl n47.at_) (empty_any xh26 w38 ((hm _ (List.mem_of_getElem? h26x)).gr G40)) ?_
    rintro _ w49 ⟨rfl, g50⟩
    refine ⟨_, rfl, fun an48 n48 => ?_⟩
    have G51 := G40.trans g50
    have B52 := u39b.gr g50
    have z53 := Nat.le_trans z41 g50.size
    have O54 := ow_gr O42 g50
    refine sv n48.ok rfl (wn _ rfl) rfl (o_notI n48.at_) (fun an55 n55 => ?_)
    refine sv n55.ok rfl (wn _ rfl) rfl (o_mv n55.at_) (fun an56 n56 => ?_)
    cases c57 : (!(emptyP xh26))
    · have e58 := (n56.at_).trans (congrArg Value.bool (c57))
      have e59 := ((n56.ne rfl n55.at_)).trans (congrArg Value.bool (c57))
      refine sn n56.ok rfl (wgF rfl (yl 3 false rfl e58) rfl) rfl (fun an60 n60 => ?_)
      refine sn n60.ok rfl (wgF rfl (yl 3 false rfl (n60.ne rfl e58)) rfl) rfl (fun an61 n61 => ?_)
      refine sn n61.ok rfl (wgF rfl (yl 3 false rfl (n61.ne rfl (n60.ne rfl e58))) rfl) rfl (fun an62 n62 => ?_)
      have e63 := n62.ne rfl (n61.ne rfl (n60.ne rfl e58))
      refine sn n62.ok rfl (wgF rfl (yl 3 false rfl e63) rfl) rfl (fun an64 n64 => ?_)
      refine sv n64.ok rfl (wn _ rfl) rfl (o_pkF (n64.ne rfl e63) ev_const) (fun an65 n65 => ?_)
      refine wpList_nil ?_
      refine th_n (hK46 _ _ ?_)
      refine wp_cond_false (n65.at_) ?_
      refine wp_skip ?_
      refine ib_n ?_
      refine th_n (hK24 _ _ ?_)
      refine wp_region_lit ?_
      have e66 := n65.ne rfl (n64.ne rfl (n62.ne rfl (n61.ne rfl (n60.ne rfl (n56.ne rfl (n55.ne rfl (n48.ne rfl (n47.ne rfl (n45.ne rfl (n44.ne rfl (n29.ne rfl (n28.ne rfl (n27.ne rfl (n21.ne rfl s9I14))))))))))))))
      refine sv n65.ok rfl (wn _ rfl) rfl (o_add (r := ((i + 1 : Nat) : Int)) e66 ev_const (by omega) (by omega)) (fun an67 n67 => ?_)
      refine sv n67.ok rfl (wn _ rfl) rfl (o_mv n67.at_) (fun an68 n68 => ?_)
      refine wpList_nil ?_
      have e69 := n68.ne rfl (n67.ne rfl (n65.ne rfl (n64.ne rfl (n62.ne rfl (n61.ne rfl (n60.ne rfl (n56.ne rfl (n55.ne rfl (n48.ne rfl (n47.ne rfl (n45.ne rfl (n44.ne rfl (n29.ne rfl (n28.ne rfl (n27.ne rfl (n21.ne rfl s2I14))))))))))))))))
      have e70 := n68.ne rfl (n67.ne rfl (n65.ne rfl (n64.ne rfl (n62.ne rfl (n61.ne rfl (n60.ne rfl (n56.ne rfl (n55.ne rfl (n48.ne rfl (n47.ne rfl (n45.ne rfl (n44.ne rfl (n29.ne rfl (n28.ne rfl (n27.ne rfl (n21.ne rfl s3I14))))))))))))))))
      have e71 := n68.ne rfl (n67.ne rfl (n65.ne rfl (n64.ne rfl (n62.ne rfl (n61.ne rfl (n60.ne rfl (n56.ne rfl (n55.ne rfl (n48.ne rfl (n47.ne rfl (n45.ne rfl (n44.ne rfl (n29.ne rfl (n28.ne rfl (n27.ne rfl (n21.ne rfl s7I14))))))))))))))))
      have e72 := n68.ne rfl (n67.ne rfl (n65.ne rfl (n64.ne rfl (n62.ne rfl (n61.ne rfl (n60.ne rfl (n56.ne rfl (n55.ne rfl (n48.ne rfl (n47.ne rfl (n45.ne rfl (n44.ne rfl (n29.ne rfl (n28.ne rfl (n27.ne rfl (n21.ne rfl s8I14))))))))))))))))
      exact th_n (hKI14 _ _ _ (by omega) ⟨i + 1, K, ka, kc, rfl, n68.ok, G51, e69, e70, e71, e72, n68.at_, O54, z53, by omega, by rw [fewP_take h26x, ← hfkI14]; unfold stepP; rw [if_neg (by simp [c57])], hKmI14⟩)
    · have e73 := (n56.at_).trans (congrArg Value.bool (c57))
      have e74 := ((n56.ne rfl n55.at_)).trans (congrArg Value.bool (c57))
      have e75 := n56.ne rfl (n55.ne rfl (n48.ne rfl (n47.ne rfl (n45.ne rfl (n44.ne rfl (n29.ne rfl (n28.ne rfl (n27.ne rfl (n21.ne rfl s3I14)))))))))
      refine sv n56.ok rfl (wgT rfl (yl 3 true rfl e73) rfl) rfl (o_mv e75) (fun an76 n76 => ?_)
      have e77 := n76.ne rfl (n56.ne rfl (n55.ne rfl (n48.ne rfl (n47.ne rfl n45.at_))))
      refine sv n76.ok rfl (wgT rfl (yl 3 true rfl (n76.ne rfl e73)) rfl) rfl (o_mv e77) (fun an78 n78 => ?_)
      refine sc n78.ok rfl (wgT rfl (yl 3 true rfl (n78.ne rfl (n76.ne rfl e73))) rfl) rfl (o_f2 Tryz.func61 rfl rfl rfl (n78.ne rfl n76.at_) n78.at_) (containsP K ka kc _ [.pointer (some ⟨b30, 0, none⟩)] (fun y => underP xh26 y) ⟨_, Tryz.func98, rfl, rfl⟩ (by omega) w49 (RdA.own encP_ok O54 rfl) (fun y hy w1 g1 => reduce1_any y xh26 b30 w1 ((hKm y hy).gr (G51.trans g1)) ((hm _ (List.mem_of_getElem? h26x)).gr (G51.trans g1)) (B52.gr g1))) ?_
      rintro _ w80 ⟨rfl, g81⟩
      refine ⟨_, rfl, fun an79 n79 => ?_⟩
      have G82 := G51.trans g81
      have B83 := B52.gr g81
      have z84 := Nat.le_trans z53 g81.size
      have O85 := ow_gr O54 g81
      have e86 := n79.ne rfl (n78.ne rfl (n76.ne rfl e73))
      refine sv n79.ok rfl (wgT rfl (yl 3 true rfl e86) rfl) rfl (o_notI n79.at_) (fun an87 n87 => ?_)
      refine sv n87.ok rfl (wn _ rfl) rfl (o_pkT (n87.ne rfl e86) n87.at_) (fun an88 n88 => ?_)
      refine wpList_nil ?_
      refine th_n (hK46 _ _ ?_)
      cases c89 : (!(K.any fun y => underP xh26 y))
      · refine wp_cond_false ((n88.at_).trans (congrArg Value.bool (c89))) ?_
        refine wp_skip ?_
        refine ib_n ?_
        refine th_n (hK24 _ _ ?_)
        refine wp_region_lit ?_
        have e90 := n88.ne rfl (n87.ne rfl (n79.ne rfl (n78.ne rfl (n76.ne rfl (n56.ne rfl (n55.ne rfl (n48.ne rfl (n47.ne rfl (n45.ne rfl (n44.ne rfl (n29.ne rfl (n28.ne rfl (n27.ne rfl (n21.ne rfl s9I14))))))))))))))
        refine sv n88.ok rfl (wn _ rfl) rfl (o_add (r := ((i + 1 : Nat) : Int)) e90 ev_const (by omega) (by omega)) (fun an91 n91 => ?_)
        refine sv n91.ok rfl (wn _ rfl) rfl (o_mv n91.at_) (fun an92 n92 => ?_)
        refine wpList_nil ?_
        have e93 := n92.ne rfl (n91.ne rfl (n88.ne rfl (n87.ne rfl (n79.ne rfl (n78.ne rfl (n76.ne rfl (n56.ne rfl (n55.ne rfl (n48.ne rfl (n47.ne rfl (n45.ne rfl (n44.ne rfl (n29.ne rfl (n28.ne rfl (n27.ne rfl (n21.ne rfl s2I14))))))))))))))))
        have e94 := n92.ne rfl (n91.ne rfl (n88.ne rfl (n87.ne rfl (n79.ne rfl (n78.ne rfl (n76.ne rfl e75))))))
        have e95 := n92.ne rfl (n91.ne rfl (n88.ne rfl (n87.ne rfl (n79.ne rfl (n78.ne rfl (n76.ne rfl (n56.ne rfl (n55.ne rfl (n48.ne rfl (n47.ne rfl (n45.ne rfl (n44.ne rfl (n29.ne rfl (n28.ne rfl (n27.ne rfl (n21.ne rfl s7I14))))))))))))))))
        have e96 := n92.ne rfl (n91.ne rfl (n88.ne rfl (n87.ne rfl (n79.ne rfl (n78.ne rfl (n76.ne rfl (n56.ne rfl (n55.ne rfl (n48.ne rfl (n47.ne rfl (n45.ne rfl (n44.ne rfl (n29.ne rfl (n28.ne rfl (n27.ne rfl (n21.ne rfl s8I14))))))))))))))))
        exact th_n (hKI14 _ _ _ (by omega) ⟨i + 1, K, ka, kc, rfl, n92.ok, G82, e93, e94, e95, e96, n92.at_, O85, z84, by omega, by rw [fewP_take h26x, ← hfkI14]; unfold stepP; rw [if_neg (by simp [c57, c89])], hKmI14⟩)
      · refine wp_cond_true ((n88.at_).trans (congrArg Value.bool (c89))) ?_
        refine regd_start (N := 32) (m := 6) (Value.ownBlock (.slice ka K.length kc)) 3 (by kernel_rfl) (fun R970 => ?_)
        have e98 := n88.ne rfl (n87.ne rfl (n79.ne rfl (n78.ne rfl (n76.ne rfl e75))))
        have R971 := R970.snoc (n' := 1) rfl rfl (fun vJ _ => vJ = .slice ka K.length kc) rfl (fun _ _ _ _ h => h) (fun aS wS pS => by
            exact Does.val (wn _ rfl) (o_mv ((pS.old 3 rfl).trans e98)) (Gr.refl _) rfl rfl)
        have e99 := n88.ne rfl (n87.ne rfl (n79.ne rfl (n78.ne rfl (n76.ne rfl (n56.ne rfl (n55.ne rfl (n48.ne rfl (n47.ne rfl (n45.ne rfl (n44.ne rfl n29.at_))))))))))
        have R972 := R971.snoc (n' := 2) rfl rfl (fun vJ _ => vJ = .agg #[.slice xh26.fa xh26.fn xh26.fc, .slice xh26.va xh26.vn xh26.vc, .slice xh26.ma xh26.mn xh26.mc]) rfl (fun _ _ _ _ h => h) (fun aS wS pS => by
            exact Does.val (wn _ rfl) (o_ldR ((pS.old 5 rfl).trans e99) (Bk.grown_ne B83 (gb_drew pS.gr) l34) Tryz.underlying35 rfl (by kernel_rfl)) (Gr.refl _) rfl rfl)
        have R973 := R972.snoc (n' := 3) rfl rfl (fun vJ wJ => ∃ (c2 : Nat), vJ = .func (.func 131) #[] #[.pointer (some ⟨c2, 0, none⟩)] ∧ (w80.heap.size ≤ c2) ∧ (Bk wJ c2 #[.slice xh26.fa xh26.fn xh26.fc, .slice xh26.va xh26.vn xh26.vc, .slice xh26.ma xh26.mn xh26.mc] 35)) rfl (fun _ _ _ g ⟨c2, h, q0, q1⟩ => ⟨c2, h, q0, q1.grown_ne g (fun k e => Nat.lt_of_lt_of_le (ow_in O85 k e) q0)⟩) (fun aS wS pS => by
            have eR97_1 : aS.eval (.tmp 24) = .agg #[.slice xh26.fa xh26.fn xh26.fc, .slice xh26.va xh26.vn xh26.vc, .slice xh26.ma xh26.mn xh26.mc] := pS.pre 1 rfl
            exact Does.call (wn _ rfl) (o_f1 Tryz.func99 rfl rfl rfl (eR97_1)) (impliedBy_any xh26 wS) (by rintro _ w2 ⟨c2, rfl, hge2, hbk2, g⟩; exact ⟨_, rfl, g, ⟨c2, rfl, Nat.le_trans pS.gr.size hge2, hbk2⟩⟩) rfl)
        have R974 := R973.snocC (n' := 4) rfl rfl (fun vJ wJ => ∃ (da : Option Addr) (dc : Nat), vJ = .slice da ((K.filter fun y => !underP y xh26).length) dc ∧ (Value.ownBlock (.slice da (K.filter fun y => !underP y xh26).length dc) = Value.ownBlock (.slice ka K.length kc)) ∧ (World.ownsRow wJ base 35 3 (.slice da (K.filter fun y => !underP y xh26).length dc) (K.filter fun y => !underP y xh26).length (flatE encP (K.filter fun y => !underP y xh26)))) rfl (fun _ _ _ g ⟨da, dc, h, q0, q1⟩ => ⟨da, dc, h, q0, ow_gr q1 g⟩) (fun aS wS pS => by
            have eR97_0 : aS.eval (.tmp 23) = .slice ka K.length kc := pS.pre 0 rfl
            obtain ⟨c2, eR97_2, hge2, hbk2⟩ := pS.pre 2 rfl
            have eR97_2 : aS.eval (.tmp 25) = .func (.func 131) #[] #[.pointer (some ⟨c2, 0, none⟩)] := eR97_2
            exact DoesC.call (wn _ rfl) (o_f2 Tryz.func101 rfl rfl rfl (eR97_0) (eR97_2)) (deleteP K (.slice ka K.length kc) base _ [.pointer (some ⟨c2, 0, none⟩)] (fun y => underP y xh26) ⟨_, Tryz.func131, rfl, rfl⟩ (by omega) w wS (G82.trans (gr_drew (pS.gr0 rfl))) l2 (Nat.le_trans z84 pS.gr.size) (ow_gr O85 (gr_drew (pS.gr0 rfl))) (fun y hy w1 g1 => impliedBy1_any y xh26 c2 w1 ((hKm y hy).gr (Gr.grown (G82.trans (gr_drew (pS.gr0 rfl))) g1 (fun k e => Nat.le_trans l2 (ow_lt O85 k e)))) ((hm _ (List.mem_of_getElem? h26x)).gr (Gr.grown (G82.trans (gr_drew (pS.gr0 rfl))) g1 (fun k e => Nat.le_trans l2 (ow_lt O85 k e)))) (hbk2.grown_ne g1 (fun k e => Nat.lt_of_lt_of_le (ow_in O85 k e) hge2)))) (by rintro _ w2 ⟨u2, rfl, hob2, ho2, g⟩; obtain ⟨da, dc, rfl, -⟩ := ow_form ho2; exact ⟨_, rfl, g, ⟨da, dc, rfl, hob2, ho2⟩⟩) rfl)
        have R975 := R974.snoc (n' := 5) rfl rfl (fun vJ _ => vJ = .agg #[.slice xh26.fa xh26.fn xh26.fc, .slice xh26.va xh26.vn xh26.vc, .slice xh26.ma xh26.mn xh26.mc]) rfl (fun _ _ _ _ h => h) (fun aS wS pS => by
            exact Does.val (wn _ rfl) (o_ldR ((pS.old 5 rfl).trans e99) (Bk.grown_ne B83 (gb_drew pS.gr) l34) Tryz.underlying35 rfl (by kernel_rfl)) (Gr.refl _) rfl rfl)
        have R976 := R975.snoc (n' := 6) rfl rfl (fun vJ wJ => ∃ b101 : Nat, vJ = .slice (some ⟨b101, 0, none⟩) 1 1 ∧ w80.heap.size ≤ b101 ∧ Bk wJ b101 #[.slice xh26.fa xh26.fn xh26.fc, .slice xh26.va xh26.vn xh26.vc, .slice xh26.ma xh26.mn xh26.mc] 35) rfl (fun _ _ _ g ⟨b, h1, h2, h3⟩ => ⟨b, h1, h2, h3.grown_ne g (fun k e => Nat.lt_of_lt_of_le (ow_in O85 k e) h2)⟩) (fun aS wS pS => by
            have eR97_4 : aS.eval (.tmp 27) = .agg #[.slice xh26.fa xh26.fn xh26.fc, .slice xh26.va xh26.vn xh26.vc, .slice xh26.ma xh26.mn xh26.mc] := pS.pre 4 rfl
            obtain ⟨i100, i100a, i100b, i100c⟩ := info3_of (show (Tryz.prog.info? 35).map (fun i => (i.zero, i.size)) = some (some (.agg #[.slice none 0 0, .slice none 0 0, .slice none 0 0]), 3) by kernel_rfl)
            exact Does.val (wn _ rfl) (o_bs (vs := [(0, .agg #[.slice xh26.fa xh26.fn xh26.fc, .slice xh26.va xh26.vn xh26.vc, .slice xh26.ma xh26.mn xh26.mc])]) (by simp [(eR97_4), ev_const]) Tryz.underlying22 i100a i100b (by rw [i100c]; rfl) (by rw [i100c]; rfl) (by rw [i100c]; kernel_rfl)) ((Gr.refl _).alloc _) ⟨_, rfl, pS.gr.size, (New.mk' _ _ _).bk⟩ rfl)
        refine R976.run (k := 2) (L := #[true, true, true, true, true, true, false, false]) (by kernel_rfl) (by kernel_rfl) (by kernel_rfl) n88.ok (by kernel_rfl) (by kernel_rfl) (fun ap103 w104 p103 => ?_)
        have gg105 := gb_drew p103.gr
        have G106 := Gr.grown G82 gg105 (fun k e => Nat.le_trans l2 (ow_lt O85 k e))
        have B107 := B83.grown_ne gg105 l34
        have z108 := Nat.le_trans z84 gg105.size
        obtain ⟨c2, ep103_2, hge2, hbk2⟩ := p103.js 2 rfl
        have ep103_2 : ap103.eval (.tmp 25) = .func (.func 131) #[] #[.pointer (some ⟨c2, 0, none⟩)] := ep103_2
        obtain ⟨da, dc, ep103_3, hob2, ho2⟩ := p103.js 3 rfl
        have ep103_3 : ap103.eval (.tmp 26) = .slice da ((K.filter fun y => !underP y xh26).length) dc := ep103_3
        obtain ⟨b101, ep103_5, geb101, bkb101⟩ := p103.js 5 rfl
        have ep103_5 : ap103.eval (.tmp 28) = .slice (some ⟨b101, 0, none⟩) 1 1 := ep103_5
        have l109 : b30 < b101 := Nat.lt_of_lt_of_le B83.lt geb101
        have l110 : w.heap.size ≤ b101 := Nat.le_trans G82.size geb101
        have l111 : ∀ k, Value.ownBlock (.slice da ((K.filter fun y => !underP y xh26).length) dc) = some k → k < b30 := fun k e => l34 k (hob2.symm.trans e)
        have l112 : ∀ k, Value.ownBlock (.slice da ((K.filter fun y => !underP y xh26).length) dc) = some k → k < b101 := fun k e => Nat.lt_of_lt_of_le (ow_in O85 k (hob2.symm.trans e)) geb101
        have hFl := List.length_filter_le (fun y => !underP y xh26) K
        obtain ⟨i113, i113a, i113b, i113c, i113d⟩ := info_of (show (Tryz.prog.info? 35).map (fun i => (i.zero, i.size, i.bytes)) = some (some (.agg #[.slice none 0 0, .slice none 0 0, .slice none 0 0]), 3, 72) by kernel_rfl)
        refine t_app (i := 6) (base := base) (n := (K.filter fun y => !underP y xh26).length) (xs := (flatE encP (K.filter fun y => !underP y xh26))) (m := 1) (news := encP xh26) (by kernel_rfl) rfl p103.ok (wn _ rfl) rfl Tryz.underlying22 i113a i113b i113c i113d rfl (by omega) ep103_3 ho2 ep103_5 rfl ((fun j u hu => by rw [add_n]; exact bk_part bkb101 (k := 0) rfl j u hu)) (encP_ok.one xh26) (by simp only [maxLen]; omega) (by omega) z108 (fun an114 w115 v116 O119 gg120 n114 => ?_)
        obtain ⟨a117, c118, rfl, c118l⟩ := ow_form O119
        have G121 := Gr.grown G106 gg120 (fun k e => Nat.le_trans l2 (ow_lt ho2 k e))
        have B122 := B107.grown_ne gg120 l111
        have B123 := bkb101.grown_ne gg120 l112
        have z124 := Nat.le_trans z108 gg120.size
        have O125 : w115.ownsRow base 35 3 (.slice a117 (((K.filter fun y => !underP y xh26).length + 1)) c118) (((K.filter fun y => !underP y xh26).length + 1)) ((flatE encP ((K.filter fun y => !underP y xh26) ++ [xh26]))) := by have h := O119; rw [← flatE_one (enc := encP) xh26, ← flatE_app] at h; exact h
        refine t_val (i := 7) (by kernel_rfl) rfl n114.ok rfl (wn _ rfl) rfl (o_as n114.at_) (fun an126 n126 => ?_)
        refine wpAny_done (by kernel_rfl) ?_ _
        refine ib_n ?_
        refine th_n (hK24 _ _ ?_)
        refine wp_region_lit ?_
        have e127 := n126.ne rfl (n114.ne rfl ((p103.old 9 rfl).trans (n88.ne rfl (n87.ne rfl (n79.ne rfl (n78.ne rfl (n76.ne rfl (n56.ne rfl (n55.ne rfl (n48.ne rfl (n47.ne rfl (n45.ne rfl (n44.ne rfl (n29.ne rfl (n28.ne rfl (n27.ne rfl (n21.ne rfl s9I14)))))))))))))))))
        refine sv n126.ok rfl (wn _ rfl) rfl (o_add (r := ((i + 1 : Nat) : Int)) e127 ev_const (by omega) (by omega)) (fun an128 n128 => ?_)
        refine sv n128.ok rfl (wn _ rfl) rfl (o_mv n128.at_) (fun an129 n129 => ?_)
        refine wpList_nil ?_
        have e130 := n129.ne rfl (n128.ne rfl (n126.ne rfl (n114.ne rfl ((p103.old 2 rfl).trans (n88.ne rfl (n87.ne rfl (n79.ne rfl (n78.ne rfl (n76.ne rfl (n56.ne rfl (n55.ne rfl (n48.ne rfl (n47.ne rfl (n45.ne rfl (n44.ne rfl (n29.ne rfl (n28.ne rfl (n27.ne rfl (n21.ne rfl s2I14)))))))))))))))))))
        have e131 := n129.ne rfl (n128.ne rfl (n126.ne rfl (n114.ne rfl ((p103.old 7 rfl).trans (n88.ne rfl (n87.ne rfl (n79.ne rfl (n78.ne rfl (n76.ne rfl (n56.ne rfl (n55.ne rfl (n48.ne rfl (n47.ne rfl (n45.ne rfl (n44.ne rfl (n29.ne rfl (n28.ne rfl (n27.ne rfl (n21.ne rfl s7I14)))))))))))))))))))
        have e132 := n129.ne rfl (n128.ne rfl (n126.ne rfl (n114.ne rfl ((p103.old 8 rfl).trans (n88.ne rfl (n87.ne rfl (n79.ne rfl (n78.ne rfl (n76.ne rfl (n56.ne rfl (n55.ne rfl (n48.ne rfl (n47.ne rfl (n45.ne rfl (n44.ne rfl (n29.ne rfl (n28.ne rfl (n27.ne rfl (n21.ne rfl s8I14)))))))))))))))))))
        exact th_n (hKI14 _ _ _ (by omega) ⟨i + 1, ((K.filter fun y => !underP y xh26) ++ [xh26]), a117, c118, rfl, n129.ok, G121, e130, (by simpa using (n129.ne rfl (n128.ne rfl n126.at_))), e131, e132, n129.at_, (by simpa using O125), z124, by omega, by rw [fewP_take h26x, ← hfkI14]; unfold stepP; rw [if_pos (by simp [c57, c89])], fun y hy => by
            rcases List.mem_append.1 hy with hy | hy
            · exact hKmI14 y (List.mem_filter.1 hy).1
            · rw [List.mem_singleton.1 hy]; exact hm _ (List.mem_of_getElem? h26x)⟩)
  · refine wp_cond_false ((n21.at_).trans (congrArg Value.bool (decide_eq_false c23))) ?_
    refine wp_exit ?_
    refine th_x ?_
    refine th_x ?_
    refine ib_x ?_
    refine th_n (hK9 _ _ ?_)
    refine wp_seq_k (fun K133 hK133 => ?_)
    refine wp_region_lit ?_
    refine sv n21.ok rfl (wn _ rfl) rfl (o_mv (n21.ne rfl s3I14)) (fun an134 n134 => ?_)
    refine sv n134.ok rfl (wn _ rfl) rfl (o_as n134.at_) (fun an135 n135 => ?_)
    refine wpList_nil ?_
    refine th_n (hK133 _ _ ?_)
    refine wp_ret ?_
    exact ret1 n135.ok rfl (n135.at_) ⟨.slice ka (fewP L).length kc, by rw [hfkI14, List.take_of_length_le (by omega)], by have h := okrI14; rw [hfkI14, List.take_of_length_le (by omega), z1] at h; exact h, GI14⟩
end Go.Proofs.YtghjfakellaecaaGreat

