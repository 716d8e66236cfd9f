/- The document's own filters, over filters that may be. -/
import Derived.Test.YthnoafmdecehcaaRefD
namespace Rm
open Go Go.RowKit
theorem cntP_all {s : Nat → Bool} : ∀ k, (∀ i, i < k → s i = true) → cntP s k = k
  | 0, _ => rfl
  | k + 1, h => by simp only [cntP]; rw [cntP_all k (fun i hi => h i (by omega)), h k (by omega)]; rfl
theorem ptF_or (T U : Nat → Nat) (i : Nat) : ptF (fun t => T t ||| U t) i = (ptF T i || ptF U i) := by simp [ptF, Nat.testBit_or]
theorem ptF_and (T U : Nat → Nat) (i : Nat) : ptF (fun t => T t &&& U t) i = (ptF T i && ptF U i) := by simp [ptF, Nat.testBit_and]
end Rm
namespace Go.Proofs.Ythnoafmdecehcaa
open Go.RowKit Rm
set_option linter.unusedVariables false
theorem ptF_less {T U : Nat → Nat} (hT : OkT T) (hU : OkT U) (i : Nat) (hi : i < 512) : ptF (fun t => lessM (T t) (U t)) i = (ptF T i && !ptF U i) := by
  unfold ptF
  exact lessM_bit _ _ _ (hU _ (by omega)) (hT _ (by omega))
theorem ptF_full (i : Nat) (hi : i < 512) : ptF Go.Proofs.Ythnoafmdecehcaa.fullT i = true := by
  unfold ptF Go.Proofs.Ythnoafmdecehcaa.fullT
  rw [show (4294967295 : Nat) = 2 ^ 32 - 1 from rfl, Nat.testBit_two_pow_sub_one]
  simp; omega
theorem cnt_full : cntP (ptF Go.Proofs.Ythnoafmdecehcaa.fullT) 512 = 512 := cntP_all 512 ptF_full
theorem lessFull (t : Nat) : lessM (Go.Proofs.Ythnoafmdecehcaa.fullT t) 0 = Go.Proofs.Ythnoafmdecehcaa.fullT t := by
  unfold Go.Proofs.Ythnoafmdecehcaa.fullT
  decide +kernel
theorem fs_nil (w : World) : FS w (.slice none 0 0) (fun _ => 0) := ⟨[], RdF.nil w, (fun b hb => by cases hb), by simp, fun t _ => tabF_nil t⟩
theorem rfilter_ok {w : World} {v : Value} {T : Nat → Nat} {n : Nat} (hn : n ≤ 40) (h : FSn n w v T) : Calls Try.prog 18 #[v] w fun e w' => e = .returned (.int .i64 0) ∧ Gr w w' := by
  obtain ⟨F, h1, hF, hl, _⟩ := h
  have := rfilter_any v _ w h1
  rw [chkF_of hF (by omega)] at this
  exact this
theorem of_fs {w : World} {v : Value} {T : Nat → Nat} {n : Nat} (hn : n ≤ 40) (h : FSn n w v T) : Calls Try.prog 20 #[v] w fun e w' => e = .returned (.agg (pArr (ptF T))) ∧ Gr w w' := by
  obtain ⟨F, h1, hF, hl, hT⟩ := h
  have := of_pts v F w h1 hF (by omega)
  rw [show pArr (ptF (tabF F)) = pArr (ptF T) from pArr_ext (fun i hi => by unfold ptF; rw [hT _ (by omega)])] at this
  exact this
theorem run_alloc_at {t : TypeId} {cs : Array Value} (hz : (Try.prog.info? t).bind (·.zero) = some (.agg cs)) (ev : Operand → Value) (o : Oper) (ho : o.op = .alloc t) (w : World) (N : Nat) (hN : w.heap.size = N) :
    (execOp ev o).run Try.prog w = .ok (.value (.pointer (some ⟨N, 0, none⟩))) (w.alloc (.cells cs t)) := by
  subst hN
  exact run_alloc_zero hz ev o ho w
theorem eqP_of {f g : Nat → Bool} (h : ∀ i, i < 512 → f i = g i) : eqP f g = true := eqP_iff.2 h
end Go.Proofs.Ythnoafmdecehcaa
