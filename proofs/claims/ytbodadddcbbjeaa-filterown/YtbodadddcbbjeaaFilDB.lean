/- Joined: FilDWithin, FilDSame. -/
import Derived.Test.YtbodadddcbbjeaaFilA
/- The contract of package filter's combine, as Within calls it. -/
namespace Go.Proofs.Ytbodadddcbbjeaa
open Go.RowKit Rm
set_option linter.unusedVariables false

end Go.Proofs.Ytbodadddcbbjeaa
/- The contract of package filter's combine, as Same calls it. -/
namespace Go.Proofs.Ytbodadddcbbjeaa
open Go.RowKit Rm
set_option linter.unusedVariables false

set_option maxHeartbeats 1000000 in
set_option maxRecDepth 100000 in
theorem fcombine_same (v v' : Value) (F G : List Bx) (w : World) (hl : RdF w v (F.map boxI)) (hr : RdF w v' (G.map boxI)) (hF : OkF F) (hG : OkF G) (hlF : F.length ≤ 40) (hlG : G.length ≤ 40) :
    Calls Try.prog 34 #[v, v', .func (.func 62) #[] #[]] w fun e w' => e = .returned (.tuple #[.agg (tArr fun t => tabF F t ^^^ tabF G t), .int .i64 0]) ∧ Gr w w' := by
  have HS : ∀ T, Hid ((Try.prog.info? 64).map (·.size) = some (tArr T).size) := fun T => by unfold Hid; rw [tArr_size]; exact table_info
  have hc1 := chkF_of hF hlF
  have hc2 := chkF_of hG hlG
  have HL := Lib.hid hl
  have HR := Lib.hid hr
  have HF := Lib.hid hF
  have HG := Lib.hid hG
  have HOP := Lib.hid uop_same
  obtain ⟨g, hge⟩ : ∃ g : Nat → Nat → Nat, g = (fun a b => a ^^^ b) := ⟨_, rfl⟩
  have HOPg : Hid (OpU 62 g) := by rw [hge]; exact HOP.out
  have HGE := Lib.hid hge
  clear hge HOP
  have HSZ := Lib.hid (fun (T U : Nat → Nat) => show (tArr T).size = (tArr U).size by rw [tArr_size, tArr_size])
  have H1 := Lib.hid tArr_one
  have HTF := Lib.hid (fun t => tabF_lt hF t)
  have HTG := Lib.hid (fun t => tabF_lt hG t)
  clear hl hr hF hG
  go_enter Try.func34, Try.ntmps34
  go_wp2_with fail
  refine (fcheck_any _ _ _ (HL.out.alloc _)).mono ?_
  rw [hc1]
  rintro e w1 ⟨rfl, g1⟩
  have HB1 : Hid (w1.heap[w.heap.size]? = some (.cells (tArr fun _ => 0) 64 (0, 0))) := (Below.block g1 _ (by simp)).trans (heap_alloc_new _ _)
  have G1 := ((Gr.refl w).alloc _).trans g1
  clear g1
  go_wp2_with fail
  refine (fcheck_any _ _ _ (HR.out.gr G1)).mono ?_
  rw [hc2]
  rintro e w2 ⟨rfl, g2⟩
  have HB2 : Hid (w2.heap[w.heap.size]? = some (.cells (tArr fun _ => 0) 64 (0, 0))) := (Below.block g2 _ (Blk_lt HB1.out)).trans HB1.out
  have G2 := G1.trans g2
  clear g2 HB1 G1
  go_wp2_with fail
  refine (tableOf_any _ _ _ (HL.out.gr G2) HF.out hlF).mono ?_
  rintro e w3 ⟨rfl, g3⟩
  have HB3 : Hid (w3.heap[w.heap.size]? = some (.cells (tArr fun _ => 0) 64 (0, 0))) := (Below.block g3 _ (Blk_lt HB2.out)).trans HB2.out
  have G3 := G2.trans g3
  clear g3 HB2 G2
  go_wp2_with fail
  refine (tableOf_any _ _ _ (HR.out.gr G3) HG.out hlG).mono ?_
  rintro e w4 ⟨rfl, g4⟩
  have HB4 : Hid (w4.heap[w.heap.size]? = some (.cells (tArr fun _ => 0) 64 (0, 0))) := (Below.block g4 _ (Blk_lt HB3.out)).trans HB3.out
  have G4 := G3.trans g4
  clear g4 HB3 G3
  have HLT := Lib.hid (Blk_lt HB4.out)
  go_wp2_with (first
    | (refine wpList_store_row rfl 64 (.tmp 10) (.tmp 26) rfl w4.heap.size _ rfl rfl 64 _ (heap_alloc2_old _ _ _) (HS _).out (HSZ.out (fun _ => 0) _) (H1.out _) ?_)
    | (refine wpList_store_row rfl 64 (.tmp 11) (.tmp 28) rfl (w4.heap.size + 1) _ rfl rfl 64 _ ((setRow_other _ _ _ _ (by omega)).trans (heap_alloc2_new _ _ _)) (HS _).out (HSZ.out (fun _ => 0) _) (H1.out _) ?_))
  have A0 := Lib.hid (combAt_start (T := tabF F) (U := tabF G) (A := tArr fun _ => 0) (B := tArr fun _ => 0) G4 HLT.out HB4.out)
  go_loopw [29] (fun jj wi => ∃ j : Nat, j ≤ 16 ∧ jj = .int .i64 j ∧ CombAt w wi w4.heap.size (midC g (tabF F) (tabF G) j) (tabF G)) (fun jj _ => 16 - (intOf jj).toNat)
  case atStart => exact ⟨0, by omega, rfl, A0.out.ext (fun i _ => by simp [midC])⟩
  case round =>
    clear A0
    obtain ⟨j, hj, rfl, hat⟩ := hrel
    generalize w4.heap.size = BB at *
    have HA := Lib.hid hat
    by_cases hjt : j < 16
    · have hj16 : (j : Int) < 16 := by omega
      have c1 : wr.cell? ⟨BB, j, none⟩ = some (.int .u64 (tabF F j : Nat)) := by
        rw [cell_of_row _ _ _ _ _ _ hat.2.2.2.1, tArr_at _ j hjt]
        simp [midC]
      have c2 : wr.cell? ⟨BB + 1, j, none⟩ = some (.int .u64 (tabF G j : Nat)) := by
        rw [cell_of_row _ _ _ _ _ _ hat.2.2.2.2, tArr_at _ j hjt]
      have hfz := frozen_of_row _ _ j _ _ hat.2.2.2.1
      have E : Hid (∀ i, i < 16 → (if i = j then g (tabF F j) (tabF G j) else midC g (tabF F) (tabF G) j i) = midC g (tabF F) (tabF G) (j + 1) i) := by
        intro i hi
        unfold midC
        by_cases e1 : i < j
        · rw [if_neg (by omega), if_pos e1, if_pos (by omega)]
        · by_cases e2 : i < j + 1
          · obtain rfl : i = j := by omega
            rw [if_pos rfl, if_pos e2]
          · rw [if_neg (by omega), if_neg e1, if_neg e2]
      clear hat
      go_wp2_with fail
      go_still_tail 10, (by kernel_rfl)
      still_call (HOPg.out _ _ (HTF.out j) (HTG.out j) _)
      repeat still_step
      refine wpStill_nil ?_
      change wpList _ _ _ _ _ wr.drew
      go_wp2_with fail
      go_roundw
      case rel => exact ⟨j + 1, by omega, by go_num, (HA.out.set j _ hjt).ext E.out⟩
      case measure => simp [intOf]; omega
    · obtain rfl : j = 16 := by omega
      have HA2 := Lib.hid (hat.ext (fun i hi => show midC g (tabF F) (tabF G) 16 i = g (tabF F i) (tabF G i) by simp [midC, hi]))
      have hg := hat.1
      clear hat HA
      go_wp2_with (first | (refine wpList_load_row rfl 64 _ rfl BB rfl 64 _ (0, 0) _ HA2.out.2.2.2.1 Try.underlying64 rfl (HS _).out ?_) | (refine wpList_store_row rfl 64 _ _ rfl w.heap.size _ rfl rfl 64 _ HA2.out.2.2.1 (HS _).out (HSZ.out (fun _ => 0) _) (H1.out _) ?_))
      refine bodyPost_ret (v := .tuple #[.agg (tArr fun t => g (tabF F t) (tabF G t)), .int .i64 0]) (results_row_tmp Try.results34 _ _ w.heap.size 64 _ (0, 0) _ _ rfl rfl (setRow_heap _ _ _ _ _ _ HA2.out.2.2.1) Try.underlying64 rfl (HS _).out) rfl ⟨by rw [HGE.out], ?_⟩
      exact hg.setRow (Nat.le_refl _) _
end Go.Proofs.Ytbodadddcbbjeaa
