/- The document's sets of dots: With. -/
import Derived.Test.YtghjfakellaecaaKnX
import Derived.StillTailTactics
import Derived.Laws.CopyOwn
import Derived.BigQuiet
import Derived.Deep.QuietTactic
set_option linter.unusedVariables false
set_option linter.unusedSimpArgs false
namespace Go.Proofs.Ytghjfakellaecaa
open Go.RowKit Rm
theorem alz {t : TypeId} {cs : Array Value} (hz : (Try.prog.info? t).bind (·.zero) = some (.agg cs)) (ev : Operand → Value) (o : Oper) (ho : o.op = .alloc t) (w : World) (N : Nat) (hN : w.heap.size = N) :
    (execOp ev o).run Try.prog w = .ok (.value (.pointer (some ⟨N, 0, none⟩))) (w.alloc (.cells cs t)) := by
  subst hN
  cases hq : Try.prog.info? t with
  | none => rw [hq] at hz; simp at hz
  | some i =>
    rw [hq] at hz
    simp only [Option.bind_some] at hz
    unfold execOp
    simp [ho, Instr.alloc, Sem.run_bind, zeroValue, typeInfo, hq, hz, newVar, newRow, Value.cells]
theorem dots_zero : (Try.prog.info? 86).bind (·.zero) = some (.agg (wArr fun _ => 0)) := by kernel_rfl
theorem dots_size : (Try.prog.info? 86).map (·.size) = some 80 := by kernel_rfl
theorem dots_sz (X : Nat → Nat) : (Try.prog.info? 86).map (·.size) = some (wArr X).size := by rw [wArr_size]; exact dots_size
theorem ahn (w : World) (o : Obj) (n : Nat) (h : n = w.heap.size) : (w.alloc o).heap[n]? = some o := by subst h; show (w.heap.push o)[w.heap.size]? = _; simp
theorem aho (w : World) (o : Obj) (n : Nat) (h : n < w.heap.size) : (w.alloc o).heap[n]? = w.heap[n]? := by show (w.heap.push o)[n]? = _; rw [Array.getElem?_push_lt h, Array.getElem?_eq_getElem h]
theorem wArr_put {w : World} {B k n : Nat} {X : Nat → Nat} (h : w.heap[B]? = some (.cells (wArr X) 86 (0, 0))) : (w.setCell ⟨B, k, none⟩ (.int .u64 (n : Nat))).heap[B]? = some (.cells (wArr fun i => if i = k then n else X i) 86 (0, 0)) := by
  rw [← wArr_set]
  simp [World.setCell, Array.getElem?_modify, h]
theorem withX_eq (X : Nat → Nat) (s c : Nat) : (fun i => if i = s * 16 + c / 64 then X (s * 16 + c / 64) ||| 2 ^ (c % 64) else X i) = withX X s c := by
  funext i
  unfold withX
  by_cases e : i = s * 16 + c / 64
  · rw [if_pos e, if_pos e, e]
  · rw [if_neg e, if_neg e]
set_option maxHeartbeats 1000000 in
set_option maxRecDepth 100000 in
theorem rwith_any (X : Nat → Nat) (s c : Nat) (w : World) (hX : OkX X) (hs : s < 5) (hc : c < 1024) :
    Calls Try.prog 82 #[.agg (wArr X), .agg #[.int .i64 (s : Int), .int .i64 (c : Int)]] w fun e w' => e = .returned (.agg (wArr (withX X s c))) ∧ Gr w w' := by
  have hi : s * 16 + c / 64 < 80 := by omega
  have PZ := Lib.hid (fun (ev : Operand → Value) (o : Oper) (ho : o.op = .alloc 86) (wx : World) (N : Nat) (hN : wx.heap.size = N) => alz dots_zero ev o ho wx N hN)
  have G1 := Lib.hid ((((Gr.refl w).alloc (.cells (wArr X) 86)).alloc (.cells #[.int .i64 (s : Int), .int .i64 (c : Int)] 26)).alloc (.cells (wArr fun _ => 0) 86))
  have B0 : Hid ((((w.alloc (.cells (wArr X) 86)).alloc (.cells #[.int .i64 (s : Int), .int .i64 (c : Int)] 26)).alloc (.cells (wArr fun _ => 0) 86)).heap[w.heap.size]? = some (.cells (wArr X) 86 (0, 0))) := (aho _ _ _ (by simp; omega)).trans ((aho _ _ _ (by simp)).trans (ahn _ _ _ rfl))
  have B2 : Hid ((((w.alloc (.cells (wArr X) 86)).alloc (.cells #[.int .i64 (s : Int), .int .i64 (c : Int)] 26)).alloc (.cells (wArr fun _ => 0) 86)).heap[w.heap.size + 1 + 1]? = some (.cells (wArr fun _ => 0) 86 (0, 0))) := ahn _ _ _ (by simp)
  have T1 := (Two.new (w.alloc (.cells (wArr X) 86)) s c 26).alloc (.cells (wArr fun _ => 0) 86)
  rw [World.size_alloc] at T1
  have hlt := hX (s * 16 + c / 64)
  have HW := Lib.hid (withX_eq X s c)
  have hsI : (s : Int) < 5 := by omega
  have hcI : (c : Int) < 1024 := by omega
  have hm2 : 2 ^ (c % 64) < 2 ^ 64 := Nat.pow_lt_pow_right (by omega) (by omega)
  have hsh := fun wx => shl64 83 (c % 64) (by omega) wx
  have hr64 : c % 64 < 64 := by omega
  have hq16 : c / 64 < 16 := by omega
  have hcq : (c : Int) / 64 = ((c / 64 : Nat) : Int) := by omega
  have hcr : (c : Int) % 64 = ((c % 64 : Nat) : Int) := by omega
  have hct : (c : Int).tmod 64 = ((c % 64 : Nat) : Int) := by rw [Int.tmod_eq_emod_of_nonneg (by omega)]; omega
  generalize c / 64 = q at *
  generalize c % 64 = r at *
  have hwq : IntKind.i64.wrap (q : Int) = (q : Int) := IntWalk.i64_in _ (by omega)
  have hdq : (q : Int) < 16 := by omega
  have hdr : (r : Int) < 64 := by omega
  have hbo : bits .or .u64 ((X (s * 16 + q) : Nat) : Int) ((2 ^ r : Nat) : Int) = ((X (s * 16 + q) ||| 2 ^ r : Nat) : Int) := bits_or (X (s * 16 + q)) (2 ^ r) hlt hm2
  generalize hx : X (s * 16 + q) = x at *
  generalize hp : 2 ^ r = p at *
  have hx64 : (x : Int) < 18446744073709551616 := by omega
  have hp64 : (p : Int) < 18446744073709551616 := by omega
  generalize hz : x ||| p = z at *
  have hwp : IntKind.u64.wrap ((2 : Int) ^ r) = (p : Int) := by rw [← hp, show (2 : Int) ^ r = ((2 ^ r : Nat) : Int) by simp]; exact IntWalk.u64_in _ ⟨Int.natCast_nonneg _, by omega⟩
  go_enter Try.func82, Try.ntmps82
  go_wp2_with (refine Go.Great.wpList_allocTo rfl _ rfl _ _ (PZ.out _ _ rfl _ (w.heap.size + 1 + 1) (by simp)) ?_)
  generalize ((w.alloc (.cells (wArr X) 86)).alloc (.cells #[.int .i64 (s : Int), .int .i64 (c : Int)] 26)).alloc (.cells (wArr fun _ => 0) 86) = w1 at *
  obtain ⟨t0, t1, t2⟩ := T1
  have c0 : w1.cell? ⟨w.heap.size, s * 16 + q, none⟩ = some (.int .u64 (x : Nat)) := by
    rw [cell_of_row _ _ _ _ _ _ B0.out, wArr_at _ _ hi, hx]
  have f0 : w1.frozen? ⟨w.heap.size, s * 16 + q, none⟩ = false := by simp [World.frozen?, B0.out]
  have HX := Lib.hid hx
  have HZ := Lib.hid hz
  clear hx hz hp
  go_still_tail 15, (by kernel_rfl)
  repeat still_step
  change wpList _ _ _ _ _ w1.drew
  have K0 : Hid ((w1.setCell ⟨w.heap.size, s * 16 + q, none⟩ (.int .u64 (z : Nat))).drew.heap[w.heap.size]? = some (.cells (wArr (withX X s c)) 86 (0, 0))) := by
    have := wArr_put (w := w1) (k := s * 16 + q) (n := z) B0.out
    rw [HW.out] at this
    exact this
  have K2 : Hid ((w1.setCell ⟨w.heap.size, s * 16 + q, none⟩ (.int .u64 (z : Nat))).drew.heap[w.heap.size + 1 + 1]? = some (.cells (wArr fun _ => 0) 86 (0, 0))) := (Below.heap_setCell w1 _ _ _ (by show w.heap.size + 1 + 1 ≠ w.heap.size; omega)).trans B2.out
  have GF : Hid (Gr w (w1.setCell ⟨w.heap.size, s * 16 + q, none⟩ (.int .u64 (z : Nat))).drew) := (G1.out.setCell (Nat.le_refl _) _).drew
  have HSZ := Lib.hid (dots_sz (withX X s c))
  have HON := Lib.hid (wArr_one (withX X s c))
  have HZZ : Hid ((wArr fun _ => 0).size = (wArr (withX X s c)).size) := by show _ = _; rw [wArr_size, wArr_size]
  generalize hA : wArr (withX X s c) = A at *
  generalize wArr (fun _ => 0) = Z at *
  go_wp2_with (first
    | (refine Go.wpList_load_row rfl 86 (.tmp 2) rfl w.heap.size rfl 86 A (0, 0) _ K0.out Try.underlying86 rfl HSZ.out ?_)
    | (refine Go.wpList_store_row rfl 86 (.tmp 4) (.tmp 20) rfl (w.heap.size + 1 + 1) A rfl rfl 86 Z K2.out HSZ.out HZZ.out HON.out ?_))
  refine bodyPost_ret (v := .agg A) (results_cell_row Try.results82 _ _ (w.heap.size + 1 + 1) 86 _ (0, 0) _ rfl (setRow_heap _ _ _ _ _ _ K2.out) Try.underlying86 rfl HSZ.out) rfl ⟨by rw [hA], ?_⟩
  exact Go.below_setRow GF.out (by omega) _
end Go.Proofs.Ytghjfakellaecaa
