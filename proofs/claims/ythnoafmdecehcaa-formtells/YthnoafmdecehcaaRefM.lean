/- The document's own Says, of a formula that may be. -/
import Derived.Test.YthnoafmdecehcaaRefL
namespace Go.Proofs.Ythnoafmdecehcaa
open Go.RowKit Rm
set_option linter.unusedVariables false

set_option maxHeartbeats 1000000 in
set_option maxRecDepth 100000 in
theorem rsays_ok {l : List Nd} {v : Value} {w : World} (hr : RdN w v l) (hok : OkL l) :
    Calls Try.prog 13 #[v] w fun e w' => e = .returned (.agg (pArr (pv l (l.length - 1)))) ∧ Gr w w' := by
  have HR := Lib.hid hr
  have HOK := Lib.hid hok
  have hl0 := hok.1
  have hl30 := hok.2.1
  obtain ⟨va, vc, rfl, hvc⟩ := rdN_form hr
  obtain ⟨m, hm⟩ : ∃ m, l.length = m + 1 := ⟨l.length - 1, by omega⟩
  have HM := Lib.hid hm
  have hsub : (m : Int) + 1 - 1 = (m : Int) := by omega
  have hm30 : (m : Int) < 30 := by omega
  have PZ := Lib.hid (fun (ev : Operand → Value) (o : Oper) (ho : o.op = .alloc 33) (wx : World) (N : Nat) (hN : wx.heap.size = N) => run_alloc_at points_zero ev o ho wx N hN)
  have HS := Lib.hid pinfo
  have HPZ := Lib.hid (fun f : Nat → Bool => show (pArr fun _ => false).size = (pArr f).size by rw [pArr_size, pArr_size])
  have HP1 := Lib.hid pArr_one
  rw [hm] at hr hvc ⊢
  obtain ⟨W, hW⟩ : ∃ W, (w.alloc (.cells #[.slice va (m + 1) vc] 22)).alloc (.cells (pArr fun _ => false) 33) = W := ⟨_, rfl⟩
  have HW := Lib.hid hW
  have GW : Gr w W := by rw [← hW]; exact ((Gr.refl w).alloc _).alloc _
  have B1 : W.heap[w.heap.size]? = some (.cells #[.slice va (m + 1) vc] 22 (0, 0)) := by rw [← hW]; exact heap_alloc2_old _ _ _
  have B2 : W.heap[w.heap.size + 1]? = some (.cells (pArr fun _ => false) 33 (0, 0)) := by rw [← hW]; exact heap_alloc2_new _ _ _
  have c1 : W.cell? ⟨w.heap.size, 0, none⟩ = some (.slice va (m + 1) vc) := by rw [cell_of_row _ _ _ _ _ _ B1]; rfl
  have hb1 := Blk_lt B1
  have hb2 := Blk_lt B2
  have hmk : ∀ wx : World, (Instr.makeMap 86 none).run Try.prog wx = .ok (.map (some wx.heap.size)) (wx.alloc (.map #[] 0)) := fun wx => run_makeMap _ wx
  obtain ⟨fv, hfv⟩ : ∃ fv, saysF (W.heap.size + 1) w.heap.size (W.heap.size + 1 + 1) = fv := ⟨_, rfl⟩
  have m0 : (((W.alloc (.map #[] 0)).alloc (.cells #[.map (some W.heap.size)] 86)).alloc (.cells #[.nilFunc] 87)).heap[W.heap.size + 1 + 1]? = some (.cells #[.nilFunc] 87 (0, 0)) := by
    have := heap_alloc_new ((W.alloc (.map #[] 0)).alloc (.cells #[.map (some W.heap.size)] 86)) (.cells #[.nilFunc] 87)
    rwa [World.size_alloc, World.size_alloc] at this
  have m1 : (((W.alloc (.map #[] 0)).alloc (.cells #[.map (some W.heap.size)] 86)).alloc (.cells #[.nilFunc] 87)).heap[W.heap.size + 1]? = some (.cells #[.map (some W.heap.size)] 86 (0, 0)) := by
    rw [Below.heap_alloc _ _ _ (by simp)]
    have := heap_alloc_new (W.alloc (.map #[] 0)) (.cells #[.map (some W.heap.size)] 86)
    rwa [World.size_alloc] at this
  have m2 : (((W.alloc (.map #[] 0)).alloc (.cells #[.map (some W.heap.size)] 86)).alloc (.cells #[.nilFunc] 87)).heap[W.heap.size]? = some (.map #[] 0) := by
    rw [Below.heap_alloc _ _ _ (by simp; omega), Below.heap_alloc _ _ _ (by simp)]
    exact heap_alloc_new _ _
  have GV : Gr W (((W.alloc (.map #[] 0)).alloc (.cells #[.map (some W.heap.size)] 86)).alloc (.cells #[.nilFunc] 87)) := (((Gr.refl W).alloc _).alloc _).alloc _
  obtain ⟨V, hV⟩ : ∃ V, (((W.alloc (.map #[] 0)).alloc (.cells #[.map (some W.heap.size)] 86)).alloc (.cells #[.nilFunc] 87)) = V := ⟨_, rfl⟩
  rw [hV] at m0 m1 m2 GV
  obtain ⟨V2, hV2⟩ : ∃ V2, V.setCell ⟨W.heap.size + 1 + 1, 0, none⟩ fv = V2 := ⟨_, rfl⟩
  have hst : (store ⟨W.heap.size + 1 + 1, 0, none⟩ (Value.func (Fn.func 50) #[] #[.pointer (some ⟨W.heap.size + 1, 0, none⟩), .pointer (some ⟨w.heap.size, 0, none⟩), .pointer (some ⟨W.heap.size + 1 + 1, 0, none⟩)])).run Try.prog (((W.alloc (.map #[] 0)).alloc (.cells #[.map (some W.heap.size)] 86)).alloc (.cells #[.nilFunc] 87)) = .ok () V2 := by
    rw [hV, run_store _ _ _ _ _ rfl, cell_of_row _ _ _ _ _ _ m0, frozen_of_row _ _ _ _ _ m0, ← hV2, ← hfv]
    rfl
  have GV2 : Gr w V2 := by rw [← hV2]; exact (GW.trans GV).setCell (p := ⟨W.heap.size + 1 + 1, 0, none⟩) (by have := GW.le; show w.heap.size ≤ W.heap.size + 1 + 1; omega) _
  have o1 : V2.heap[W.heap.size + 1]? = some (.cells #[.map (some W.heap.size)] 86 (0, 0)) := by rw [← hV2, heap_setCell_other _ _ _ _ (by show W.heap.size + 1 ≠ W.heap.size + 1 + 1; omega)]; exact m1
  have o2 : V2.heap[w.heap.size]? = some (.cells #[.slice va (m + 1) vc] 22 (0, 0)) := by rw [← hV2, heap_setCell_other _ _ _ _ (by show w.heap.size ≠ W.heap.size + 1 + 1; omega)]; exact (Below.block GV _ hb1).trans B1
  have o3 : V2.heap[W.heap.size + 1 + 1]? = some (.cells #[fv] 87 (0, 0)) := by rw [← hV2, heap_setCell_same _ _ _ _ _ _ m0]; rfl
  have o4 : V2.heap[W.heap.size]? = some (.map #[] 0) := by rw [← hV2, heap_setCell_other _ _ _ _ (by show W.heap.size ≠ W.heap.size + 1 + 1; omega)]; exact m2
  have o5 : V2.heap[w.heap.size + 1]? = some (.cells (pArr fun _ => false) 33 (0, 0)) := by rw [← hV2, heap_setCell_other _ _ _ _ (by show w.heap.size + 1 ≠ W.heap.size + 1 + 1; omega)]; exact (Below.block GV _ hb2).trans B2
  have SA : Hid (SaysAt l (.slice va (m + 1) vc) w V2 (W.heap.size + 1) w.heap.size (W.heap.size + 1 + 1) W.heap.size) := ⟨GV2, hr, by have := GW.le; exact this, o1, o2, by rw [hfv]; exact o3, [], 0, o4⟩
  have d1 : V2.cell? ⟨W.heap.size + 1 + 1, 0, none⟩ = some (Value.func (Fn.func 50) #[] #[.pointer (some ⟨W.heap.size + 1, 0, none⟩), .pointer (some ⟨w.heap.size, 0, none⟩), .pointer (some ⟨W.heap.size + 1 + 1, 0, none⟩)]) := by rw [cell_of_row _ _ _ _ _ _ o3, ← hfv]; rfl
  have d2 : V2.cell? ⟨w.heap.size, 0, none⟩ = some (.slice va (m + 1) vc) := by rw [cell_of_row _ _ _ _ _ _ o2]; rfl
  have HO5 := Lib.hid o5
  have HGV2 := Lib.hid GV2
  have hlw := GW.le
  have hbW := hb2
  clear hW hl0 hok hfv m0 m1 m2 GV hV hV2 o1 o2 o3 o4 o5 B1 B2
  go_enter Try.func13, Try.ntmps13
  go_wp2_with (refine Go.Great.wpList_allocTo rfl _ rfl _ _ (PZ.out _ _ rfl _ (w.heap.size + 1) (World.size_alloc w _)) ?_; rw [HW.out])
  refine (says_node HOK.out m (by have := HM.out; omega) _ SA.out).mono ?_
  rintro e w1 ⟨rfl, S1, g1⟩
  have HN := Lib.hid ((g1.block _ (Blk_lt HO5.out) (cells_ne_map HO5.out SA.out.2.2.2.2.2.2)).trans HO5.out)
  have G1 := Lib.hid S1.1
  clear S1 g1 SA
  go_wp2_with (refine wpList_store_row rfl 33 (.tmp 2) (.tmp 11) rfl (w.heap.size + 1) _ rfl rfl 33 _ HN.out (HS.out _) (HPZ.out _) (HP1.out _) ?_)
  refine bodyPost_ret (v := .agg (pArr (pv l m))) (results_cell_row Try.results13 _ _ (w.heap.size + 1) 33 _ (0, 0) _ rfl (setRow_heap _ _ _ _ _ _ HN.out) Try.underlying33 rfl (HS.out _)) rfl ⟨rfl, ?_⟩
  exact G1.out.setRow (by omega) _
end Go.Proofs.Ythnoafmdecehcaa
