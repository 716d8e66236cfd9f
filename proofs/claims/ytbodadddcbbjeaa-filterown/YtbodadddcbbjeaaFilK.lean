/- Joined: FilO, FilK. -/
import Derived.Test.YtbodadddcbbjeaaSpanD
import Derived.Test.YtbodadddcbbjeaaFilE
import Derived.Test.YtbodadddcbbjeaaFilDA
import Derived.Laws.Bits128
import Derived.ChangeKeysEq
/- The contract of math/bits.OnesCount64 over words of 32 bits. -/
namespace Rm
open Go Go.RowKit
set_option linter.unusedVariables false
theorem and_split (a b c d : Nat) (ha : a < 256) (hc : c < 256) : (a + 256 * b) &&& (c + 256 * d) = (a &&& c) + 256 * (b &&& d) := by
  have hac : a &&& c < 256 := Nat.lt_of_le_of_lt Nat.and_le_left ha
  have key : ∀ x y, x < 256 → (x + 256 * y) = 2 ^ 8 * y + x := fun x y _ => by omega
  rw [key a b ha, key c d hc, key (a &&& c) (b &&& d) hac]
  apply Nat.eq_of_testBit_eq
  intro i
  rw [Nat.testBit_and, Nat.testBit_two_pow_mul_add _ (by omega), Nat.testBit_two_pow_mul_add _ (by omega), Nat.testBit_two_pow_mul_add _ (by omega)]
  by_cases h : i < 8
  · simp [h]
  · simp [h]
theorem and_zero (c d : Nat) : (0 + 256 * 0) &&& (c + 256 * d) = 0 := by simp
/-- the steps of the reckoning, in a byte -/
def s1 (a : Nat) : Nat := ((a / 2) &&& 85) + (a &&& 85)
def s2 (a : Nat) : Nat := ((a / 4) &&& 51) + (a &&& 51)
def s3 (a : Nat) : Nat := (a / 16 + a) &&& 15
def stTab : Bool := (List.range 256).all fun a => (List.range 16).all fun r =>
  ((a / 2 + 128 * (r % 2)) &&& 85 == (a / 2) &&& 85) && (((a / 4 + 64 * (r % 4)) &&& 51) == (a / 4) &&& 51) && decide (s1 a < 256) && decide (s2 a < 256) &&
  (!(decide (r ≤ 4)) || ((s2 (s1 a) / 16 + 16 * r + s2 (s1 a)) &&& 15 == s3 (s2 (s1 a)))) && decide (s2 (s1 a) % 16 ≤ 4) && decide (s2 (s1 a) / 16 ≤ 4) && (s3 (s2 (s1 a)) == popTo a 8) && decide (s2 (s1 a) / 16 + 16 * 4 + s2 (s1 a) < 256)
theorem stTab_true : stTab = true := by decide +kernel
theorem stTab_at (a r : Nat) (ha : a < 256) (hr : r < 16) : ((a / 2 + 128 * (r % 2)) &&& 85 = (a / 2) &&& 85) ∧ (((a / 4 + 64 * (r % 4)) &&& 51) = (a / 4) &&& 51) ∧ s1 a < 256 ∧ s2 a < 256 ∧
    (r ≤ 4 → (s2 (s1 a) / 16 + 16 * r + s2 (s1 a)) &&& 15 = s3 (s2 (s1 a))) ∧ s2 (s1 a) % 16 ≤ 4 ∧ s2 (s1 a) / 16 ≤ 4 ∧ s3 (s2 (s1 a)) = popTo a 8 ∧ s2 (s1 a) / 16 + 16 * 4 + s2 (s1 a) < 256 := by
  have H := stTab_true
  unfold stTab at H
  rw [List.all_eq_true] at H
  have H1 := H a (List.mem_range.2 ha)
  rw [List.all_eq_true] at H1
  have H2 := H1 r (List.mem_range.2 hr)
  simp only [Bool.and_eq_true, beq_iff_eq, decide_eq_true_eq, Bool.or_eq_true, Bool.not_eq_true', decide_eq_false_iff_not] at H2
  obtain ⟨⟨⟨⟨⟨⟨⟨⟨h1, h2⟩, h3⟩, h4⟩, h5⟩, h6⟩, h7⟩, h8⟩, h9⟩ := H2
  exact ⟨h1, h2, h3, h4, fun hr => by rcases h5 with h | h; · exact absurd hr h
                                      · exact h, h6, h7, h8, h9⟩
/-- four bytes -/
def by4 (a b c d : Nat) : Nat := a + 256 * (b + 256 * (c + 256 * d))
theorem by4_of (x : Nat) (h : x < 2 ^ 32) : x = by4 (x % 256) (x / 256 % 256) (x / 65536 % 256) (x / 16777216 % 256) := by unfold by4; omega
theorem and4 (a b c d m r : Nat) (ha : a < 256) (hb : b < 256) (hc : c < 256) (hd : d < 256) (hm : m < 256) : by4 a b c d &&& (m + 256 * (m + 256 * (m + 256 * (m + 256 * r)))) = by4 (a &&& m) (b &&& m) (c &&& m) (d &&& m) := by
  unfold by4
  rw [and_split _ _ _ _ ha hm, and_split _ _ _ _ hb hm, and_split _ _ _ _ hc hm]
  have := and_split d 0 m r hd hm
  simp only [Nat.mul_zero, Nat.add_zero, Nat.zero_and] at this
  rw [this]
theorem half4 (a b c d : Nat) (ha : a < 256) (hb : b < 256) (hc : c < 256) (hd : d < 256) : by4 a b c d / 2 = by4 (a / 2 + 128 * (b % 2)) (b / 2 + 128 * (c % 2)) (c / 2 + 128 * (d % 2)) (d / 2) := by unfold by4; omega
theorem quar4 (a b c d : Nat) (ha : a < 256) (hb : b < 256) (hc : c < 256) (hd : d < 256) : by4 a b c d / 4 = by4 (a / 4 + 64 * (b % 4)) (b / 4 + 64 * (c % 4)) (c / 4 + 64 * (d % 4)) (d / 4) := by unfold by4; omega
theorem add4 (a b c d a' b' c' d' : Nat) : by4 a b c d + by4 a' b' c' d' = by4 (a + a') (b + b') (c + c') (d + d') := by unfold by4; omega
theorem six4 (a b c d : Nat) (ha : a < 256) (hb : b < 256) (hc : c < 256) (hd : d < 256) : by4 a b c d / 16 = by4 (a / 16 + 16 * (b % 16)) (b / 16 + 16 * (c % 16)) (c / 16 + 16 * (d % 16)) (d / 16) := by unfold by4; omega
theorem step1 (a b c d : Nat) (ha : a < 256) (hb : b < 256) (hc : c < 256) (hd : d < 256) : (by4 a b c d / 2 &&& 6148914691236517205) + (by4 a b c d &&& 6148914691236517205) = by4 (s1 a) (s1 b) (s1 c) (s1 d) := by
  have e : (6148914691236517205 : Nat) = 85 + 256 * (85 + 256 * (85 + 256 * (85 + 256 * 1431655765))) := by decide
  rw [e, half4 a b c d ha hb hc hd, and4 _ _ _ _ 85 _ (by omega) (by omega) (by omega) (by omega) (by omega), and4 a b c d 85 _ ha hb hc hd (by omega), add4]
  have ta := (stTab_at a (b % 16) ha (by omega)).1
  have tb := (stTab_at b (c % 16) hb (by omega)).1
  have tc := (stTab_at c (d % 16) hc (by omega)).1
  rw [show b % 16 % 2 = b % 2 by omega] at ta
  rw [show c % 16 % 2 = c % 2 by omega] at tb
  rw [show d % 16 % 2 = d % 2 by omega] at tc
  rw [ta, tb, tc]
  rfl
theorem step2 (a b c d : Nat) (ha : a < 256) (hb : b < 256) (hc : c < 256) (hd : d < 256) : (by4 a b c d / 4 &&& 3689348814741910323) + (by4 a b c d &&& 3689348814741910323) = by4 (s2 a) (s2 b) (s2 c) (s2 d) := by
  have e : (3689348814741910323 : Nat) = 51 + 256 * (51 + 256 * (51 + 256 * (51 + 256 * 858993459))) := by decide
  rw [e, quar4 a b c d ha hb hc hd, and4 _ _ _ _ 51 _ (by omega) (by omega) (by omega) (by omega) (by omega), and4 a b c d 51 _ ha hb hc hd (by omega), add4]
  have ta := (stTab_at a (b % 16) ha (by omega)).2.1
  have tb := (stTab_at b (c % 16) hb (by omega)).2.1
  have tc := (stTab_at c (d % 16) hc (by omega)).2.1
  rw [show b % 16 % 4 = b % 4 by omega] at ta
  rw [show c % 16 % 4 = c % 4 by omega] at tb
  rw [show d % 16 % 4 = d % 4 by omega] at tc
  rw [ta, tb, tc]
  rfl
theorem step3 (a b c d : Nat) (ha : a < 256) (hb : b < 256) (hc : c < 256) (hd : d < 256) :
    ((by4 (s2 (s1 a)) (s2 (s1 b)) (s2 (s1 c)) (s2 (s1 d)) / 16 + by4 (s2 (s1 a)) (s2 (s1 b)) (s2 (s1 c)) (s2 (s1 d))) &&& 1085102592571150095) = by4 (popTo a 8) (popTo b 8) (popTo c 8) (popTo d 8) := by
  have e : (1085102592571150095 : Nat) = 15 + 256 * (15 + 256 * (15 + 256 * (15 + 256 * 252645135))) := by decide
  obtain ⟨_, _, _, _, _, ma, qa, pa, za⟩ := stTab_at a 0 ha (by omega)
  obtain ⟨_, _, _, _, _, mb, qb, pb, zb⟩ := stTab_at b 0 hb (by omega)
  obtain ⟨_, _, _, _, _, mc, qc, pc, zc⟩ := stTab_at c 0 hc (by omega)
  obtain ⟨_, _, _, _, r0, md, qd, pd, zd⟩ := stTab_at d 0 hd (by omega)
  have ra := (stTab_at a (s2 (s1 b) % 16) ha (by omega)).2.2.2.2.1 mb
  have rb := (stTab_at b (s2 (s1 c) % 16) hb (by omega)).2.2.2.2.1 mc
  have rc := (stTab_at c (s2 (s1 d) % 16) hc (by omega)).2.2.2.2.1 md
  have rd := r0 (by omega)
  rw [e, six4 _ _ _ _ (by omega) (by omega) (by omega) (by omega), add4, and4 _ _ _ _ 15 _ (by omega) (by omega) (by omega) (by omega) (by omega), ra, rb, rc, pa, pb, pc]
  rw [Nat.mul_zero, Nat.add_zero] at rd
  rw [rd, pd]
theorem pop_end (p q r s : Nat) (hp : p ≤ 8) (hq : q ≤ 8) (hr : r ≤ 8) (hs : s ≤ 8) : ∀ x y z, x = by4 p q r s + by4 p q r s / 256 → y = x + x / 65536 → z = y + y / 4294967296 → z % 128 = p + q + r + s := by
  intro x y z hx hy hz
  have d1 : by4 p q r s / 256 = q + 256 * (r + 256 * s) := by unfold by4; omega
  rw [d1] at hx
  unfold by4 at hx
  have d2 : x / 65536 = r + s + 256 * s := by omega
  rw [d2] at hy
  have d3 : y / 4294967296 = 0 := by omega
  rw [d3] at hz
  omega
end Rm
namespace Go.Proofs.Ytbodadddcbbjeaa
open Go.RowKit Rm
set_option linter.unusedVariables false

theorem u64_small (n : Nat) (h : n < 18446744073709551616) : IntKind.u64.wrap (n : Int) = (n : Int) := by rw [IntKind.wrap_u64]; omega
theorem ones_eqs (x : Nat) (hx : x < 2 ^ 32) : ∃ y1 y2 y3 y4 y5 y6 : Nat,
    IntKind.u64.wrap (bits .and .u64 ((x : Int) / 2) 6148914691236517205 + bits .and .u64 (x : Int) 6148914691236517205) = (y1 : Int) ∧
    IntKind.u64.wrap (bits .and .u64 ((y1 : Int) / 4) 3689348814741910323 + bits .and .u64 (y1 : Int) 3689348814741910323) = (y2 : Int) ∧
    bits .and .u64 (IntKind.u64.wrap ((y2 : Int) / 16 + (y2 : Int))) 1085102592571150095 = (y3 : Int) ∧
    IntKind.u64.wrap ((y3 : Int) + (y3 : Int) / 256) = (y4 : Int) ∧ IntKind.u64.wrap ((y4 : Int) + (y4 : Int) / 65536) = (y5 : Int) ∧ IntKind.u64.wrap ((y5 : Int) + (y5 : Int) / 4294967296) = (y6 : Int) ∧
    (y6 : Int) < 17179869184 ∧ bits .and .i64 (y6 : Int) 127 = ((popc x : Nat) : Int) := by
  have ha : x % 256 < 256 := by omega
  have hb : x / 256 % 256 < 256 := by omega
  have hc : x / 65536 % 256 < 256 := by omega
  have hd : x / 16777216 % 256 < 256 := by omega
  have hp := popc_bytes x
  have q1 := step1 _ _ _ _ ha hb hc hd
  rw [← by4_of x hx] at q1
  have la := (stTab_at _ 0 ha (by omega))
  have lb := (stTab_at _ 0 hb (by omega))
  have lc := (stTab_at _ 0 hc (by omega))
  have ld := (stTab_at _ 0 hd (by omega))
  have q2 := step2 _ _ _ _ la.2.2.1 lb.2.2.1 lc.2.2.1 ld.2.2.1
  have q3 := step3 _ _ _ _ ha hb hc hd
  generalize x % 256 = a at *
  generalize x / 256 % 256 = b at *
  generalize x / 65536 % 256 = c at *
  generalize x / 16777216 % 256 = d at *
  have pa := popTo_le a 8
  have pb := popTo_le b 8
  have pc := popTo_le c 8
  have pd := popTo_le d 8
  have z1 : by4 (s1 a) (s1 b) (s1 c) (s1 d) < 4294967296 := by have := la.2.2.1; have := lb.2.2.1; have := lc.2.2.1; have := ld.2.2.1; unfold by4; omega
  have z2 : by4 (s2 (s1 a)) (s2 (s1 b)) (s2 (s1 c)) (s2 (s1 d)) < 4294967296 := by
    have := la.2.2.2.2.2.2.2.2; have := lb.2.2.2.2.2.2.2.2; have := lc.2.2.2.2.2.2.2.2; have := ld.2.2.2.2.2.2.2.2
    unfold by4; omega
  have z3 : by4 (popTo a 8) (popTo b 8) (popTo c 8) (popTo d 8) < 4294967296 := by unfold by4; omega
  have hfin := pop_end _ _ _ _ pa pb pc pd _ _ _ rfl rfl rfl
  clear la lb lc ld
  generalize by4 (s1 a) (s1 b) (s1 c) (s1 d) = y1 at *
  generalize by4 (s2 (s1 a)) (s2 (s1 b)) (s2 (s1 c)) (s2 (s1 d)) = y2 at *
  generalize by4 (popTo a 8) (popTo b 8) (popTo c 8) (popTo d 8) = y3 at *
  have l1 : x / 2 &&& 6148914691236517205 ≤ x / 2 := Nat.and_le_left
  have l2 : x &&& 6148914691236517205 ≤ x := Nat.and_le_left
  have l3 : y1 / 4 &&& 3689348814741910323 ≤ y1 / 4 := Nat.and_le_left
  have l4 : y1 &&& 3689348814741910323 ≤ y1 := Nat.and_le_left
  have h32 : x < 4294967296 := hx
  refine ⟨y1, y2, y3, y3 + y3 / 256, y3 + y3 / 256 + (y3 + y3 / 256) / 65536,
    y3 + y3 / 256 + (y3 + y3 / 256) / 65536 + (y3 + y3 / 256 + (y3 + y3 / 256) / 65536) / 4294967296, ?_, ?_, ?_, ?_, ?_, ?_, ?_, ?_⟩
  · have e1 := u64_and_nat (x / 2) 6148914691236517205 (by omega) (by omega)
    have e2 := u64_and_nat x 6148914691236517205 (by omega) (by omega)
    rw [show ((x / 2 : Nat) : Int) = (x : Int) / 2 by omega] at e1
    rw [show (((6148914691236517205 : Nat)) : Int) = 6148914691236517205 from rfl] at e1 e2
    rw [e1, e2, ← Int.natCast_add, q1]
    exact u64_small _ (by omega)
  · have e1 := u64_and_nat (y1 / 4) 3689348814741910323 (by omega) (by omega)
    have e2 := u64_and_nat y1 3689348814741910323 (by omega) (by omega)
    rw [show ((y1 / 4 : Nat) : Int) = (y1 : Int) / 4 by omega] at e1
    rw [show (((3689348814741910323 : Nat)) : Int) = 3689348814741910323 from rfl] at e1 e2
    rw [e1, e2, ← Int.natCast_add, q2]
    exact u64_small _ (by omega)
  · rw [show (y2 : Int) / 16 + (y2 : Int) = ((y2 / 16 + y2 : Nat) : Int) by omega, u64_small _ (by omega)]
    have e1 := u64_and_nat (y2 / 16 + y2) 1085102592571150095 (by omega) (by omega)
    rw [q3] at e1
    exact e1
  · rw [show (y3 : Int) + (y3 : Int) / 256 = ((y3 + y3 / 256 : Nat) : Int) by omega]
    exact u64_small _ (by omega)
  · have z4 : y3 + y3 / 256 < 8589934592 := by omega
    generalize y3 + y3 / 256 = y4 at *
    rw [show (y4 : Int) + (y4 : Int) / 65536 = ((y4 + y4 / 65536 : Nat) : Int) by omega]
    exact u64_small _ (by omega)
  · have z5 : y3 + y3 / 256 + (y3 + y3 / 256) / 65536 < 17179869184 := by omega
    generalize y3 + y3 / 256 + (y3 + y3 / 256) / 65536 = y5 at *
    rw [show (y5 : Int) + (y5 : Int) / 4294967296 = ((y5 + y5 / 4294967296 : Nat) : Int) by omega]
    exact u64_small _ (by omega)
  · omega
  · rw [i64_and127, hp, ← hfin]
    omega

set_option maxHeartbeats 1000000 in
set_option maxRecDepth 100000 in
theorem ones64_mask (x : Nat) (w : World) (hx : x < 2 ^ 32) :
    Calls Try.prog 63 #[.int .u64 x] w fun e w' => e = .returned (.int .i64 (popc x : Nat)) ∧ w = w' := by
  obtain ⟨y1, y2, y3, y4, y5, y6, e1, e2, e3, e4, e5, e6, e7, e8⟩ := ones_eqs x hx
  have hx' : (x : Int) < 4294967296 := by omega
  clear hx
  go_enter Try.func63, Try.ntmps63
  go_wp2
  go_ret
  exact ⟨rfl, rfl⟩
end Go.Proofs.Ytbodadddcbbjeaa
/- Package filter by tables: what each function does to filters that are told by the numbers of each combination of tags. -/
namespace Rm
open Go Go.RowKit
/-- have two tables the same numbers? -/
def eqT (T U : Nat → Nat) : Bool := (List.range 16).all fun i => ((T i : Nat) : Int) == ((U i : Nat) : Int)
def allT (P : Nat → Bool) : Bool := (List.range 16).all P
theorem allT_iff {P : Nat → Bool} : allT P = true ↔ ∀ t, t < 16 → P t = true := by simp [allT]
theorem allT_congr {P Q : Nat → Bool} (h : ∀ t, t < 16 → P t = Q t) : allT P = allT Q := by
  rw [Bool.eq_iff_iff, allT_iff, allT_iff]
  exact ⟨fun a t ht => by rw [← h t ht]; exact a t ht, fun a t ht => by rw [h t ht]; exact a t ht⟩
def sameT (T U : Nat → Nat) : Bool := allT fun t => T t == U t
def withinT (T U : Nat → Nat) : Bool := allT fun t => lessM (T t) (U t) == 0
theorem eqT_zero (T : Nat → Nat) : eqT T (fun _ => 0) = allT fun t => T t == 0 := by
  refine allT_congr fun t _ => ?_
  rw [Bool.eq_iff_iff]
  simp
theorem xor_zero {a b : Nat} : a ^^^ b = 0 ↔ a = b := by
  constructor
  · intro h
    apply Nat.eq_of_testBit_eq
    intro i
    have := congrArg (fun x => x.testBit i) h
    simp only [Nat.testBit_xor, Nat.zero_testBit] at this
    cases ha : a.testBit i <;> cases hb : b.testBit i <;> simp_all
  · rintro rfl; simp
end Rm
namespace Go.Proofs.Ytbodadddcbbjeaa
open Go.RowKit Rm
set_option linter.unusedVariables false

theorem eqItems_tArr (d : Nat) (T U : Nat → Nat) (w : World) : ∀ is : List Nat, (∀ i ∈ is, i < 16) → (Op.eqItems (d + 1) 62 1 (tArr T) (tArr U) is).run Try.prog w = .ok (is.all fun i => ((T i : Nat) : Int) == ((U i : Nat) : Int)) w
  | [], _ => by simp [Op.eqItems]
  | i :: is, h => by
    have hi : i < 16 := h i (List.mem_cons_self ..)
    have ih := eqItems_tArr d T U w is (fun j hj => h j (List.mem_cons_of_mem _ hj))
    have ha : (isAgg 62).run Try.prog w = .ok false w := by
      unfold isAgg
      rw [Sem.run_bind, run_underlying Try.underlying62 w]
      rfl
    have p1 : (part 62 (tArr T) (i * 1)).run Try.prog w = .ok (.int .u64 (T i : Nat)) w := by
      unfold part
      rw [Sem.run_bind, ha]
      simp [tArr_at T i hi]
    have p2 : (part 62 (tArr U) (i * 1)).run Try.prog w = .ok (.int .u64 (U i : Nat)) w := by
      unfold part
      rw [Sem.run_bind, ha]
      simp [tArr_at U i hi]
    have p3 : (Op.equalIn (d + 1) 62 (.int .u64 (T i : Nat)) (.int .u64 (U i : Nat))).run Try.prog w = .ok (((T i : Nat) : Int) == ((U i : Nat) : Int)) w := by
      simp [Op.equalIn, Sem.run_bind, run_underlying Try.underlying62]
    simp only [Op.eqItems, Sem.run_bind, p1, p2, p3, Result.andThen_ok]
    cases hc : (((T i : Nat) : Int) == ((U i : Nat) : Int))
    · simp [hc]
    · simp [hc, ih]
theorem set_cells : Try.prog.cellsOf 62 = 1 := by kernel_rfl
theorem eq_tables (T U : Nat → Nat) (w : World) : (Op.equalIn 10000 64 (.agg (tArr T)) (.agg (tArr U))).run Try.prog w = .ok (eqT T U) w := by
  obtain ⟨i, hi⟩ : ∃ i, Try.prog.info? 62 = some i := by
    cases hq : Try.prog.info? 62 with
    | none => have := set_info; rw [hq] at this; simp at this
    | some i => exact ⟨i, rfl⟩
  rw [run_equalIn_array (P := Try.prog) w 9999 (tArr T) (tArr U) Try.underlying64 hi, set_cells]
  exact eqItems_tArr 9998 T U w (List.range 16) (fun i hi => List.mem_range.1 hi)

/-- a slice that is the filter of a table -/
def FSn (n : Nat) (w : World) (v : Value) (T : Nat → Nat) : Prop := ∃ F, RdF w v (F.map boxI) ∧ OkF F ∧ F.length ≤ n ∧ ∀ t, t < 16 → tabF F t = T t
abbrev FS (w : World) (v : Value) (T : Nat → Nat) : Prop := FSn 40 w v T
theorem FSn.gr {n : Nat} {w w' : World} {v : Value} {T : Nat → Nat} (h : FSn n w v T) (g : Gr w w') : FSn n w' v T := by
  obtain ⟨F, h1, h2⟩ := h
  exact ⟨F, h1.gr g, h2⟩
theorem FSn.alloc {n : Nat} {w : World} {v : Value} {T : Nat → Nat} (h : FSn n w v T) (o : Obj) : FSn n (w.alloc o) v T := h.gr ((Gr.refl w).alloc o)
theorem FSn.le {n m : Nat} {w : World} {v : Value} {T : Nat → Nat} (h : FSn n w v T) (hn : n ≤ m) : FSn m w v T := by
  obtain ⟨F, h1, h2, h3, h4⟩ := h
  exact ⟨F, h1, h2, by omega, h4⟩
theorem FSn.lt {n : Nat} {w : World} {v : Value} {T : Nat → Nat} (h : FSn n w v T) (t : Nat) (ht : t < 16) : T t < 2 ^ 32 := by
  obtain ⟨F, h1, h2, h3, h4⟩ := h
  rw [← h4 t ht]
  exact tabF_lt h2 t
theorem FSn.ext {n : Nat} {w : World} {v : Value} {T U : Nat → Nat} (h : FSn n w v T) (e : ∀ t, t < 16 → T t = U t) : FSn n w v U := by
  obtain ⟨F, h1, h2, h3, h4⟩ := h
  exact ⟨F, h1, h2, h3, fun t ht => (h4 t ht).trans (e t ht)⟩
/-- a filter in new memory: the slice, and the slices of its boxes, own what they hold -/
def FO (base n : Nat) (w : World) (v : Value) (T : Nat → Nat) : Prop :=
  ∃ O : List (Bx × Value), w.ownsRow base 72 3 v O.length (flatO O) ∧ (∀ p ∈ O, w.ownsRow base 53 2 p.2 (pairs (canon p.1.2)).length (flat (pairs (canon p.1.2)))) ∧ OkF (O.map (·.1)) ∧ O.length ≤ n ∧ ∀ t, t < 16 → tabF (O.map (·.1)) t = T t
theorem own_base {w : World} {base base' : Nat} {e : TypeId} {size : Nat} {v : Value} {n : Nat} {xs : List Value} (h : w.ownsRow base e size v n xs) (hb : base' ≤ base) : w.ownsRow base' e size v n xs := by
  refine ⟨h.1, ?_⟩
  rcases h.2 with ⟨a, b⟩ | ⟨g, cap, cur, a, b, c⟩
  · exact .inl ⟨a, b⟩
  · exact .inr ⟨g, cap, cur, a, Nat.le_trans hb b, c⟩
theorem FO.gr {base n : Nat} {w w' : World} {v : Value} {T : Nat → Nat} (h : FO base n w v T) (g : Gr w w') : FO base n w' v T := by
  obtain ⟨O, h1, h2, h3⟩ := h
  exact ⟨O, own_gr h1 g, fun p hp => own_gr (h2 p hp) g, h3⟩
theorem FO.base {base base' n : Nat} {w : World} {v : Value} {T : Nat → Nat} (h : FO base n w v T) (hb : base' ≤ base) : FO base' n w v T := by
  obtain ⟨O, h1, h2, h3⟩ := h
  exact ⟨O, own_base h1 hb, fun p hp => own_base (h2 p hp) hb, h3⟩
theorem FO.le {base n m : Nat} {w : World} {v : Value} {T : Nat → Nat} (h : FO base n w v T) (hn : n ≤ m) : FO base m w v T := by
  obtain ⟨O, h1, h2, h3, h4, h5⟩ := h
  exact ⟨O, h1, h2, h3, by omega, h5⟩
theorem FO.ext {base n : Nat} {w : World} {v : Value} {T U : Nat → Nat} (h : FO base n w v T) (e : ∀ t, t < 16 → T t = U t) : FO base n w v U := by
  obtain ⟨O, h1, h2, h3, h4, h5⟩ := h
  exact ⟨O, h1, h2, h3, h4, fun t ht => (h5 t ht).trans (e t ht)⟩
theorem FO.fs {base n : Nat} {w : World} {v : Value} {T : Nat → Nat} (h : FO base n w v T) : FSn n w v T := by
  obtain ⟨O, h1, h2, h3, h4, h5⟩ := h
  exact ⟨O.map (·.1), rd_own h1 h2, h3, by simpa using h4, h5⟩
theorem boxes_own {T : Nat → Nat} {w : World} (hT : ∀ t, t < 16 → T t < 2 ^ 32) : Calls Try.prog 36 #[.agg (tArr T)] w fun e w' => ∃ u, e = .returned u ∧ FO w.heap.size 16 w' u T ∧ Gr w w' :=
  (boxes_any T w hT).mono fun e w' ⟨u, O, he, hg, ⟨wl, hl1, ho⟩, hok, hl, ht⟩ => ⟨u, he, ⟨O, own_base ho.2.1 hl1.le, fun p hp => own_base (ho.2.2 p hp).1 hl1.le, hok, by have := blkT_len T 16; omega, ht⟩, hg⟩
theorem boxes_fs {T : Nat → Nat} {w : World} (hT : ∀ t, t < 16 → T t < 2 ^ 32) : Calls Try.prog 36 #[.agg (tArr T)] w fun e w' => ∃ u, e = .returned u ∧ FSn 16 w' u T ∧ Gr w w' :=
  (boxes_own hT).mono fun e w' ⟨u, he, ho, hg⟩ => ⟨u, he, ho.fs, hg⟩
theorem boxes_none {w : World} : Calls Try.prog 36 #[.agg (tArr fun _ => 0)] w fun e w' => ∃ a c, e = .returned (.slice a 0 c) ∧ Gr w w' :=
  (boxes_any (fun _ => 0) w (fun t _ => by decide)).mono fun e w' ⟨u, O, he, hg, ⟨wl, _, ho⟩, hok, hl, ht⟩ => by
    have h0 : O.length = 0 := by
      have : (blkT (fun _ => 0) 16).length = 0 := by decide
      omega
    obtain ⟨a, c, rfl, _⟩ := own_form ho.2.1
    exact ⟨a, c, by rw [he, h0], hg⟩

set_option maxHeartbeats 1000000 in
set_option maxRecDepth 100000 in
theorem fjoin_own {v v' : Value} {T U : Nat → Nat} {w : World} (h : FS w v T) (h' : FS w v' U) :
    Calls Try.prog 12 #[v, v'] w fun e w' => ∃ u, e = .returned (.tuple #[u, .int .i64 0]) ∧ FO w.heap.size 16 w' u (fun t => T t ||| U t) ∧ Gr w w' := by
  obtain ⟨F, h1, hF, hl1, t1⟩ := h
  obtain ⟨G, h2, hG, hl2, t2⟩ := h'
  obtain ⟨R, hR⟩ : ∃ R : Nat → Nat, R = fun t => tabF F t ||| tabF G t := ⟨_, rfl⟩
  have HS : Hid ((Try.prog.info? 64).map (·.size) = some (tArr R).size) := by rw [tArr_size]; exact table_info
  have HSZ : Hid ((tArr fun _ => 0).size = (tArr R).size) := by rw [tArr_size, tArr_size]; rfl
  have H1 := Lib.hid (tArr_one R)
  have HLT : Hid (∀ t, t < 16 → R t < 2 ^ 32) := fun t _ => by rw [hR]; exact Nat.or_lt_two_pow (tabF_lt hF t) (tabF_lt hG t)
  have HT : Hid (∀ t, t < 16 → R t = T t ||| U t) := fun t ht => by rw [hR]; simp only; rw [t1 t ht, t2 t ht]
  have HCC := Lib.hid (fcombine_join v v' F G w h1 h2 hF hG hl1 hl2)
  rw [← hR] at HCC
  clear h1 h2 hF hG hl1 hl2 t1 t2 hR
  go_enter Try.func12, Try.ntmps12
  go_wp2_with fail
  refine HCC.out.mono ?_
  rintro e w1 ⟨rfl, g1⟩
  go_wp2_with (first
    | (refine wpList_store_row rfl 64 (.tmp 6) (.tmp 12) rfl w1.heap.size (tArr R) rfl rfl 64 _ (heap_alloc_new _ _) HS.out HSZ.out H1.out ?_)
    | (refine wpList_load_row rfl 64 _ rfl w1.heap.size rfl 64 (tArr R) (0, 0) _ (setRow_heap _ _ _ _ _ _ (heap_alloc_new _ _)) Try.underlying64 rfl HS.out ?_))
  refine (boxes_own HLT.out).mono ?_
  rintro e w2 ⟨u, rfl, hu, g2⟩
  go_wp2_with fail
  go_ret2
  exact ⟨u, rfl, (hu.ext HT.out).base ((g1.alloc _).setRow g1.le _).le, ((g1.alloc _).setRow g1.le _).trans g2⟩
theorem fjoin_ok {v v' : Value} {T U : Nat → Nat} {w : World} (h : FS w v T) (h' : FS w v' U) :
    Calls Try.prog 12 #[v, v'] w fun e w' => ∃ u, e = .returned (.tuple #[u, .int .i64 0]) ∧ FSn 16 w' u (fun t => T t ||| U t) ∧ Gr w w' :=
  (fjoin_own h h').mono fun e w' ⟨u, he, hu, g⟩ => ⟨u, he, hu.fs, g⟩

set_option maxHeartbeats 1000000 in
set_option maxRecDepth 100000 in
theorem fmeet_own {v v' : Value} {T U : Nat → Nat} {w : World} (h : FS w v T) (h' : FS w v' U) :
    Calls Try.prog 11 #[v, v'] w fun e w' => ∃ u, e = .returned (.tuple #[u, .int .i64 0]) ∧ FO w.heap.size 16 w' u (fun t => T t &&& U t) ∧ Gr w w' := by
  obtain ⟨F, h1, hF, hl1, t1⟩ := h
  obtain ⟨G, h2, hG, hl2, t2⟩ := h'
  obtain ⟨R, hR⟩ : ∃ R : Nat → Nat, R = fun t => tabF F t &&& tabF G t := ⟨_, rfl⟩
  have HS : Hid ((Try.prog.info? 64).map (·.size) = some (tArr R).size) := by rw [tArr_size]; exact table_info
  have HSZ : Hid ((tArr fun _ => 0).size = (tArr R).size) := by rw [tArr_size, tArr_size]; rfl
  have H1 := Lib.hid (tArr_one R)
  have HLT : Hid (∀ t, t < 16 → R t < 2 ^ 32) := fun t _ => by rw [hR]; exact Nat.lt_of_le_of_lt Nat.and_le_left (tabF_lt hF t)
  have HT : Hid (∀ t, t < 16 → R t = T t &&& U t) := fun t ht => by rw [hR]; simp only; rw [t1 t ht, t2 t ht]
  have HCC := Lib.hid (fcombine_meet v v' F G w h1 h2 hF hG hl1 hl2)
  rw [← hR] at HCC
  clear h1 h2 hF hG hl1 hl2 t1 t2 hR
  go_enter Try.func11, Try.ntmps11
  go_wp2_with fail
  refine HCC.out.mono ?_
  rintro e w1 ⟨rfl, g1⟩
  go_wp2_with (first
    | (refine wpList_store_row rfl 64 (.tmp 6) (.tmp 12) rfl w1.heap.size (tArr R) rfl rfl 64 _ (heap_alloc_new _ _) HS.out HSZ.out H1.out ?_)
    | (refine wpList_load_row rfl 64 _ rfl w1.heap.size rfl 64 (tArr R) (0, 0) _ (setRow_heap _ _ _ _ _ _ (heap_alloc_new _ _)) Try.underlying64 rfl HS.out ?_))
  refine (boxes_own HLT.out).mono ?_
  rintro e w2 ⟨u, rfl, hu, g2⟩
  go_wp2_with fail
  go_ret2
  exact ⟨u, rfl, (hu.ext HT.out).base ((g1.alloc _).setRow g1.le _).le, ((g1.alloc _).setRow g1.le _).trans g2⟩
theorem fmeet_ok {v v' : Value} {T U : Nat → Nat} {w : World} (h : FS w v T) (h' : FS w v' U) :
    Calls Try.prog 11 #[v, v'] w fun e w' => ∃ u, e = .returned (.tuple #[u, .int .i64 0]) ∧ FSn 16 w' u (fun t => T t &&& U t) ∧ Gr w w' :=
  (fmeet_own h h').mono fun e w' ⟨u, he, hu, g⟩ => ⟨u, he, hu.fs, g⟩

set_option maxHeartbeats 1000000 in
set_option maxRecDepth 100000 in
theorem fless_own {v v' : Value} {T U : Nat → Nat} {w : World} (h : FS w v T) (h' : FS w v' U) :
    Calls Try.prog 8 #[v, v'] w fun e w' => ∃ u, e = .returned (.tuple #[u, .int .i64 0]) ∧ FO w.heap.size 16 w' u (fun t => lessM (T t) (U t)) ∧ Gr w w' := by
  obtain ⟨F, h1, hF, hl1, t1⟩ := h
  obtain ⟨G, h2, hG, hl2, t2⟩ := h'
  obtain ⟨R, hR⟩ : ∃ R : Nat → Nat, R = fun t => lessM (tabF F t) (tabF G t) := ⟨_, rfl⟩
  have HS : Hid ((Try.prog.info? 64).map (·.size) = some (tArr R).size) := by rw [tArr_size]; exact table_info
  have HSZ : Hid ((tArr fun _ => 0).size = (tArr R).size) := by rw [tArr_size, tArr_size]; rfl
  have H1 := Lib.hid (tArr_one R)
  have HLT : Hid (∀ t, t < 16 → R t < 2 ^ 32) := fun t _ => by rw [hR]; exact lessM_lt _ _ (tabF_lt hF t)
  have HT : Hid (∀ t, t < 16 → R t = lessM (T t) (U t)) := fun t ht => by rw [hR]; simp only; rw [t1 t ht, t2 t ht]
  have HCC := Lib.hid (fcombine_less v v' F G w h1 h2 hF hG hl1 hl2)
  rw [← hR] at HCC
  clear h1 h2 hF hG hl1 hl2 t1 t2 hR
  go_enter Try.func8, Try.ntmps8
  go_wp2_with fail
  refine HCC.out.mono ?_
  rintro e w1 ⟨rfl, g1⟩
  go_wp2_with (first
    | (refine wpList_store_row rfl 64 (.tmp 6) (.tmp 12) rfl w1.heap.size (tArr R) rfl rfl 64 _ (heap_alloc_new _ _) HS.out HSZ.out H1.out ?_)
    | (refine wpList_load_row rfl 64 _ rfl w1.heap.size rfl 64 (tArr R) (0, 0) _ (setRow_heap _ _ _ _ _ _ (heap_alloc_new _ _)) Try.underlying64 rfl HS.out ?_))
  refine (boxes_own HLT.out).mono ?_
  rintro e w2 ⟨u, rfl, hu, g2⟩
  go_wp2_with fail
  go_ret2
  exact ⟨u, rfl, (hu.ext HT.out).base ((g1.alloc _).setRow g1.le _).le, ((g1.alloc _).setRow g1.le _).trans g2⟩
theorem fless_ok {v v' : Value} {T U : Nat → Nat} {w : World} (h : FS w v T) (h' : FS w v' U) :
    Calls Try.prog 8 #[v, v'] w fun e w' => ∃ u, e = .returned (.tuple #[u, .int .i64 0]) ∧ FSn 16 w' u (fun t => lessM (T t) (U t)) ∧ Gr w w' :=
  (fless_own h h').mono fun e w' ⟨u, he, hu, g⟩ => ⟨u, he, hu.fs, g⟩
end Go.Proofs.Ytbodadddcbbjeaa
