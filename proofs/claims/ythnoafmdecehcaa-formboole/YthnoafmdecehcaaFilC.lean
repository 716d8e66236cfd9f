/- The contracts of package filter's combine. -/
import Derived.Test.YthnoafmdecehcaaFilB
import Derived.StillTailTactics
namespace Rm
open Go Go.RowKit
theorem andNot64 (a b : Nat) (ha : a < 2 ^ 32) (hb : b < 2 ^ 32) : a &&& (18446744073709551615 - b) = lessM a b := by
  apply Nat.eq_of_testBit_eq
  intro i
  rw [lessM_bit a b i hb ha, Nat.testBit_and]
  have e : 18446744073709551615 - b = 2 ^ 64 - (b + 1) := by omega
  rw [e, Nat.testBit_two_pow_sub_succ (by omega)]
  by_cases h : i < 64
  · simp [h]
  · have h2 : a.testBit i = false := Nat.testBit_lt_two_pow (Nat.lt_of_lt_of_le ha (Nat.pow_le_pow_right (by omega) (by omega)))
    simp [h2]
theorem results_row_tmp {P : Program} {fn : Func} {p q : Tmp} {ty : TypeId} (h : fn.results = #[.cell p ty, .tmp q]) (tmps : Array Value) (w : World) (g : Nat) (t : TypeId) (cs : Array Value) (fr : Nat × Nat) (d : TypeDesc) (v : Value)
    (hp : tmps.getD p undef = .pointer (some ⟨g, 0, none⟩)) (hq : tmps.getD q undef = v) (hg : w.heap[g]? = some (.cells cs t fr))
    (hu : P.underlying ty = some d) (hd : (match d with | .struct _ | .array _ _ => true | _ => false) = true) (hi : (P.info? ty).map (·.size) = some cs.size) :
    (results fn tmps).run P w = .ok (.tuple #[.agg cs, v]) w := by
  have hp' : tmps[p]?.getD undef = .pointer (some ⟨g, 0, none⟩) := by simpa using hp
  have hq' : tmps[q]?.getD undef = v := by simpa using hq
  simp [results, h, hp', hq', asAddr, run_loadVar_row w g t ty cs fr d hg hu hd hi]
theorem chkF2_bad {l r : List BoxI} (h : (chkF l == 0) = false) : chkF2 l r = chkF l := by simp [chkF2, h]
theorem chkF2_ok {l r : List BoxI} (h : (chkF l == 0) = true) : chkF2 l r = chkF r := by simp [chkF2, h]
end Rm
namespace Go.Proofs.Ythnoafmdecehcaa
open Go.RowKit Rm
set_option linter.unusedVariables false

/-- a function of two sets -/
def OpU (f : Nat) (g : Nat → Nat → Nat) : Prop := ∀ (a b : Nat), a < 2 ^ 32 → b < 2 ^ 32 → ∀ w : World, Calls Try.prog f #[.int .u64 a, .int .u64 b] w fun e w' => e = .returned (.int .u64 (g a b : Nat)) ∧ w' = w

theorem uop_join : OpU 70 (fun a b => a ||| b) := by
  intro a b ha hb w
  have e := u64_or_nat a b (by omega) (by omega)
  skip
  have E := Lib.hid e
  clear e
  go_enter Try.func70, Try.ntmps70
  go_wp2
  go_ret
  exact ⟨by rw [← E.out]; rfl, rfl⟩

theorem uop_meet : OpU 72 (fun a b => a &&& b) := by
  intro a b ha hb w
  have e := u64_and_nat a b (by omega) (by omega)
  skip
  have E := Lib.hid e
  clear e
  go_enter Try.func72, Try.ntmps72
  go_wp2
  go_ret
  exact ⟨by rw [← E.out]; rfl, rfl⟩

theorem uop_less : OpU 73 (fun a b => lessM a b) := by
  intro a b ha hb w
  have e := u64_andNot_nat a b (by omega) (by omega)
  rw [andNot64 a b ha hb] at e
  have E := Lib.hid e
  clear e
  go_enter Try.func73, Try.ntmps73
  go_wp2
  go_ret
  exact ⟨by rw [← E.out]; rfl, rfl⟩

theorem uop_same : OpU 87 (fun a b => a ^^^ b) := by
  intro a b ha hb w
  have e := u64_xor_nat a b (by omega) (by omega)
  skip
  have E := Lib.hid e
  clear e
  go_enter Try.func87, Try.ntmps87
  go_wp2
  go_ret
  exact ⟨by rw [← E.out]; rfl, rfl⟩

set_option maxHeartbeats 1000000 in
set_option maxRecDepth 100000 in
theorem fcombine_bad (f : Nat) (v v' : Value) (l r : List BoxI) (w : World) (hl : RdF w v l) (hr : RdF w v' r) (hc : (chkF2 l r == 0) = false) :
    Calls Try.prog 69 #[v, v', .func (.func f) #[] #[]] w fun e w' => e = .returned (.tuple #[.agg (tArr fun _ => 0), .int .i64 (chkF2 l r)]) ∧ Gr w w' := by
  have HS : Hid ((Try.prog.info? 104).map (·.size) = some (tArr fun _ => 0).size) := by rw [tArr_size]; exact table_info
  have H1 := Lib.hid (tArr_one fun _ => 0)
  have HL := Lib.hid hl
  have HR := Lib.hid hr
  clear hl hr
  cases h1 : (chkF l == 0)
  · rw [chkF2_bad h1]
    have h1' := bne_of' h1
    clear hc
    go_enter Try.func69, Try.ntmps69
    go_wp2_with fail
    refine (fcheck_any _ _ _ (HL.out.alloc _)).mono ?_
    rintro e w1 ⟨rfl, g1⟩
    have HB : Hid (w1.heap[w.heap.size]? = some (.cells (tArr fun _ => 0) 104 (0, 0))) := (Below.block g1 _ (by simp)).trans (heap_alloc_new _ _)
    have G1 := ((Gr.refl w).alloc _).trans g1
    clear g1
    go_wp2_with (refine wpList_store_row rfl 104 (.tmp 6) (.tmp 17) rfl w.heap.size (tArr fun _ => 0) rfl rfl 104 _ HB.out HS.out rfl H1.out ?_)
    refine bodyPost_ret (v := .tuple #[.agg (tArr fun _ => 0), .int .i64 (chkF l)]) (results_row_tmp Try.results69 _ _ w.heap.size 104 _ (0, 0) _ _ rfl rfl (setRow_heap _ _ _ _ _ _ HB.out) Try.underlying104 rfl HS.out) rfl ⟨rfl, ?_⟩
    exact G1.setRow (Nat.le_refl _) _
  · rw [chkF2_ok h1] at hc
    rw [chkF2_ok h1]
    have h1' := bne_of h1
    have hc' := bne_of' hc
    go_enter Try.func69, Try.ntmps69
    go_wp2_with fail
    refine (fcheck_any _ _ _ (HL.out.alloc _)).mono ?_
    rintro e w1 ⟨rfl, g1⟩
    have HB : Hid (w1.heap[w.heap.size]? = some (.cells (tArr fun _ => 0) 104 (0, 0))) := (Below.block g1 _ (by simp)).trans (heap_alloc_new _ _)
    have G1 := ((Gr.refl w).alloc _).trans g1
    clear g1
    go_wp2_with fail
    refine (fcheck_any _ _ _ (HR.out.gr G1)).mono ?_
    rintro e w2 ⟨rfl, g2⟩
    have HB2 : Hid (w2.heap[w.heap.size]? = some (.cells (tArr fun _ => 0) 104 (0, 0))) := (Below.block g2 _ (Blk_lt HB.out)).trans HB.out
    have G2 := G1.trans g2
    clear g2 HB
    go_wp2_with (refine wpList_store_row rfl 104 (.tmp 6) (.tmp 23) rfl w.heap.size (tArr fun _ => 0) rfl rfl 104 _ HB2.out HS.out rfl H1.out ?_)
    refine bodyPost_ret (v := .tuple #[.agg (tArr fun _ => 0), .int .i64 (chkF r)]) (results_row_tmp Try.results69 _ _ w.heap.size 104 _ (0, 0) _ _ rfl rfl (setRow_heap _ _ _ _ _ _ HB2.out) Try.underlying104 rfl HS.out) rfl ⟨rfl, ?_⟩
    exact G2.setRow (Nat.le_refl _) _
end Go.Proofs.Ythnoafmdecehcaa
