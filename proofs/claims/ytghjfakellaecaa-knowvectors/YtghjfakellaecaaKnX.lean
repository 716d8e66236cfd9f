/- The document's sets of dots, a bit a dot: the plain side, Has. -/
import Derived.Test.YtghjfakellaecaaSpanA
import Derived.Test.YtghjfakellaecaaKnP
import Derived.Great.Walk
import Derived.Deep.LoopGhost
import Derived.IntWalk
import Derived.Laws.Rows
namespace Rm
open Go Go.RowKit
/-- the words of a set, as an array -/
def wArr (X : Nat → Nat) : Array Value := ((List.range 80).map fun i => Value.int .u64 (X i : Nat)).toArray
theorem wArr_size (X : Nat → Nat) : (wArr X).size = 80 := by simp [wArr]
theorem wArr_at (X : Nat → Nat) (i : Nat) (h : i < 80) : (wArr X)[i]? = some (.int .u64 (X i : Nat)) := by simp [wArr, h]
theorem wArr_ext {X Y : Nat → Nat} (h : ∀ i, i < 80 → X i = Y i) : wArr X = wArr Y := by
  unfold wArr
  congr 1
  apply List.map_congr_left
  intro i hi
  rw [h i (List.mem_range.1 hi)]
theorem wArr_set (X : Nat → Nat) (k n : Nat) : (wArr X).setIfInBounds k (.int .u64 (n : Nat)) = wArr (fun i => if i = k then n else X i) := by
  unfold wArr
  rw [List.setIfInBounds_toArray]
  congr 1
  apply List.ext_getElem?
  intro i
  rw [List.getElem?_set, List.getElem?_map, List.getElem?_map]
  by_cases hi : i < 80
  · rw [List.getElem?_range hi]
    by_cases e : k = i
    · subst e; simp [hi]
    · have e' : ¬ i = k := fun q => e q.symm
      simp [e, e']
  · rw [List.getElem?_eq_none (by simp; omega)]
    by_cases e : k = i
    · subst e; simp [hi]
    · simp [e]
theorem wArr_one (X : Nat → Nat) : (wArr X).all (·.oneCell') = true := by
  simp only [wArr, List.all_toArray, List.all_map, List.all_eq_true]
  intro x _
  rfl
/-- what the words say -/
def dsX (X : Nat → Nat) : DS := fun s c => (X (s * 16 + c / 64)).testBit (c % 64)
def OkX (X : Nat → Nat) : Prop := ∀ i, X i < 2 ^ 64
def withX (X : Nat → Nat) (s c : Nat) : Nat → Nat := fun i => if i = s * 16 + c / 64 then X i ||| 2 ^ (c % 64) else X i
theorem OkX.with {X : Nat → Nat} (h : OkX X) (s c : Nat) : OkX (withX X s c) := by
  intro i
  unfold withX
  split
  · exact Nat.or_lt_two_pow (h i) (Nat.pow_lt_pow_right (by omega) (by omega))
  · exact h i
theorem dsX_with (X : Nat → Nat) (s c t n : Nat) (hc : c < 1024) (hn : n < 1024) : dsX (withX X s c) t n = (dsX X t n || decide (t = s ∧ n = c)) := by
  unfold dsX withX
  by_cases e : t * 16 + n / 64 = s * 16 + c / 64
  · rw [if_pos e, Nat.testBit_or, Nat.testBit_two_pow]
    congr 1
    rw [Bool.eq_iff_iff]
    simp only [decide_eq_true_eq]
    omega
  · rw [if_neg e]
    have : decide (t = s ∧ n = c) = false := by
      rw [decide_eq_false_iff_not]
      rintro ⟨rfl, rfl⟩
      exact e rfl
    rw [this, Bool.or_false]
theorem dsX_or (X Y : Nat → Nat) (s c : Nat) : dsX (fun i => X i ||| Y i) s c = orD (dsX X) (dsX Y) s c := by simp [dsX, orD]
theorem dsX_and (X Y : Nat → Nat) (s c : Nat) : dsX (fun i => X i &&& Y i) s c = andD (dsX X) (dsX Y) s c := by simp [dsX, andD]
theorem OkX.or {X Y : Nat → Nat} (h : OkX X) (k : OkX Y) : OkX (fun i => X i ||| Y i) := fun i => Nat.or_lt_two_pow (h i) (k i)
theorem OkX.and {X Y : Nat → Nat} (k : OkX Y) : OkX (fun i => X i &&& Y i) := fun i => Nat.and_lt_two_pow _ (k i)
theorem OkX.zero : OkX (fun _ => 0) := fun _ => Nat.two_pow_pos 64
theorem dsX_zero (s c : Nat) : dsX (fun _ => 0) s c = false := by simp [dsX]
end Rm
namespace Go.Proofs.Ytghjfakellaecaa
open Go.RowKit Rm
set_option linter.unusedVariables false
set_option linter.unusedSimpArgs false
theorem quo64 (t : TypeId) (c : Nat) (hc : c < 1024) (wx : World) : (binOp .quo t (.int .i64 (c : Int)) (.int .i64 64)).run Try.prog wx = .ok (.int .i64 ((c / 64 : Nat) : Int)) wx := by
  have h1 : (c : Int).tdiv 64 = ((c / 64 : Nat) : Int) := by rw [Int.tdiv_eq_ediv_of_nonneg (by omega)]; omega
  have h2 : IntKind.i64.wrap ((c / 64 : Nat) : Int) = ((c / 64 : Nat) : Int) := IntWalk.i64_in _ (by omega)
  simp only [binOp, Op.intDiv]
  rw [h1, h2]
  rfl
theorem rem64 (t : TypeId) (c : Nat) (hc : c < 1024) (wx : World) : (binOp .rem t (.int .i64 (c : Int)) (.int .i64 64)).run Try.prog wx = .ok (.int .i64 ((c % 64 : Nat) : Int)) wx := by
  have h1 : (c : Int).tmod 64 = ((c % 64 : Nat) : Int) := by rw [Int.tmod_eq_emod_of_nonneg (by omega)]; omega
  simp only [binOp, Op.intDiv]
  rw [h1]
  rfl
theorem shr64 (t : TypeId) (x n : Nat) (hn : n < 64) (wx : World) : (binOp .shr t (.int .u64 (x : Int)) (.int .i64 (n : Int))).run Try.prog wx = .ok (.int .u64 ((x / 2 ^ n : Nat) : Int)) wx := by
  have h1 : min (n : Int).toNat IntKind.u64.bits = n := by simp [IntKind.bits]; omega
  have h2 : (x : Int).fdiv (2 ^ n) = ((x / 2 ^ n : Nat) : Int) := by
    rw [show (2 : Int) ^ n = ((2 ^ n : Nat) : Int) by simp]
    rw [Int.fdiv_eq_ediv_of_nonneg _ (Int.natCast_nonneg _)]
    rfl
  simp only [binOp, Op.shift]
  rw [if_neg (by omega), h1, h2]
  rfl
theorem shl64 (t : TypeId) (n : Nat) (hn : n < 64) (wx : World) : (binOp .shl t (.int .u64 1) (.int .i64 (n : Int))).run Try.prog wx = .ok (.int .u64 ((2 ^ n : Nat) : Int)) wx := by
  have h1 : min (n : Int).toNat IntKind.u64.bits = n := by simp [IntKind.bits]; omega
  have h3 : 2 ^ n < 2 ^ 64 := Nat.pow_lt_pow_right (by omega) hn
  have h2 : IntKind.u64.wrap (1 * 2 ^ n) = ((2 ^ n : Nat) : Int) := by
    rw [Int.one_mul, show (2 : Int) ^ n = ((2 ^ n : Nat) : Int) by simp]
    exact IntWalk.u64_in _ ⟨Int.natCast_nonneg _, by omega⟩
  simp only [binOp, Op.shift]
  rw [if_neg (by omega), h1, h2]
  rfl
theorem toNat64 (x : Nat) (hx : x < 2 ^ 64) : (BitVec.ofInt 64 (x : Int)).toNat = x := by simp [BitVec.toNat_ofInt]; omega
theorem bits_and (x y : Nat) (hx : x < 2 ^ 64) (hy : y < 2 ^ 64) : bits .and .u64 (x : Int) (y : Int) = ((x &&& y : Nat) : Int) := by
  have h1 : (BitVec.ofInt 64 (x : Int) &&& BitVec.ofInt 64 (y : Int)).toNat = x &&& y := by rw [BitVec.toNat_and, toNat64 x hx, toNat64 y hy]
  have h4 : x &&& y < 2 ^ 64 := Nat.and_lt_two_pow _ hy
  have h2 : IntKind.u64.wrap ((x &&& y : Nat) : Int) = ((x &&& y : Nat) : Int) := IntWalk.u64_in _ ⟨Int.natCast_nonneg _, by omega⟩
  have h3 : bits .and .u64 (x : Int) (y : Int) = IntKind.u64.wrap ((BitVec.ofInt 64 (x : Int) &&& BitVec.ofInt 64 (y : Int)).toNat : Nat) := rfl
  rw [h3, h1, h2]
theorem bits_or (x y : Nat) (hx : x < 2 ^ 64) (hy : y < 2 ^ 64) : bits .or .u64 (x : Int) (y : Int) = ((x ||| y : Nat) : Int) := by
  have h1 : (BitVec.ofInt 64 (x : Int) ||| BitVec.ofInt 64 (y : Int)).toNat = x ||| y := by rw [BitVec.toNat_or, toNat64 x hx, toNat64 y hy]
  have h4 : x ||| y < 2 ^ 64 := Nat.or_lt_two_pow hx hy
  have h2 : IntKind.u64.wrap ((x ||| y : Nat) : Int) = ((x ||| y : Nat) : Int) := IntWalk.u64_in _ ⟨Int.natCast_nonneg _, by omega⟩
  have h3 : bits .or .u64 (x : Int) (y : Int) = IntKind.u64.wrap ((BitVec.ofInt 64 (x : Int) ||| BitVec.ofInt 64 (y : Int)).toNat : Nat) := rfl
  rw [h3, h1, h2]
theorem shr_int (x n : Nat) : (x : Int) / 2 ^ n = ((x / 2 ^ n : Nat) : Int) := by
  rw [show (2 : Int) ^ n = ((2 ^ n : Nat) : Int) by simp]
  rfl
theorem bit_int (x n : Nat) (hx : x < 2 ^ 64) : (bits .and .u64 ((x : Int) / 2 ^ n) 1 == 1) = x.testBit n := by
  have h1 : bits .and .u64 ((x / 2 ^ n : Nat) : Int) ((1 : Nat) : Int) = _ := bits_and (x / 2 ^ n) 1 (Nat.lt_of_le_of_lt (Nat.div_le_self _ _) hx) (by decide)
  rw [shr_int, show (1 : Int) = ((1 : Nat) : Int) from rfl, h1, Nat.testBit_eq_decide_div_mod_eq, Nat.and_one_is_mod, Bool.eq_iff_iff]
  simp only [beq_iff_eq, decide_eq_true_eq]
  omega
set_option maxHeartbeats 1000000 in
set_option maxRecDepth 100000 in
theorem rhas_any (X : Nat → Nat) (s c : Nat) (w : World) (hX : OkX X) (hs : s < 5) (hc : c < 1024) :
    Calls Try.prog 46 #[.agg (wArr X), .agg #[.int .i64 (s : Int), .int .i64 (c : Int)]] w fun e w' => e = .returned (.bool (dsX X s c)) ∧ Gr w w' := by
  have hi : s * 16 + c / 64 < 80 := by omega
  have G1 := Lib.hid (((Gr.refl w).alloc (.cells (wArr X) 86)).alloc (.cells #[.int .i64 (s : Int), .int .i64 (c : Int)] 26))
  have c0 : ((w.alloc (.cells (wArr X) 86)).alloc (.cells #[.int .i64 (s : Int), .int .i64 (c : Int)] 26)).cell? ⟨w.heap.size, s * 16 + c / 64, none⟩ = some (.int .u64 (X (s * 16 + c / 64) : Nat)) := by
    rw [cell_of_row _ _ _ _ _ _ (heap_alloc2_old _ _ _), wArr_at _ _ hi]
  have T1 := Two.new (w.alloc (.cells (wArr X) 86)) s c 26
  rw [World.size_alloc] at T1
  have HD : Hid (dsX X s c = (X (s * 16 + c / 64)).testBit (c % 64)) := rfl
  have hlt := hX (s * 16 + c / 64)
  generalize dsX X s c = r at *
  generalize X (s * 16 + c / 64) = x at *
  have hsI : (s : Int) < 5 := by omega
  have hcI : (c : Int) < 1024 := by omega
  have hq := fun wx => quo64 3 c hc wx
  have hm := fun wx => rem64 3 c hc wx
  have hsh := fun wx => shr64 83 x (c % 64) (by omega) wx
  have HR : Hid (r = (bits .and .u64 ((x : Int) / 2 ^ (c % 64)) 1 == 1)) := by
    show _ = _
    rw [HD.out, bit_int x _ hlt]
  have hdq : ((c / 64 : Nat) : Int) < 16 := by omega
  go_enter Try.func46, Try.ntmps46
  go_wp2_with fail
  generalize (w.alloc (.cells (wArr X) 86)).alloc (.cells #[.int .i64 (s : Int), .int .i64 (c : Int)] 26) = w1 at *
  obtain ⟨t0, t1, t2⟩ := T1
  go_quiet (fail)
  go_wp2
  go_ret
  exact ⟨by rw [HR.out]; rfl, G1.out.drewN _⟩
end Go.Proofs.Ytghjfakellaecaa
