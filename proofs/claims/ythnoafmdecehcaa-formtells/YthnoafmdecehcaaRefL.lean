/- The document's own Says. -/
import Derived.Test.YthnoafmdecehcaaRefK
namespace Go.Proofs.Ythnoafmdecehcaa
open Go.RowKit Rm
set_option linter.unusedVariables false
set_option linter.unusedSimpArgs false
set_option maxHeartbeats 4000000 in
set_option maxRecDepth 100000 in
theorem says_not {l : List Nd} {v : Value} {w0 w : World} {k1 k2 k3 r i : Nat} (h : SaysAt l v w0 w k1 k2 k3 r) (hln : l.length ≤ 30) (IH : SaysBelow l v w0 k1 k2 k3 r i)
    (hlk : (Instr.lookup 86 (.map (some r)) (.int .i64 (i : Int)) true).run Try.prog (w.alloc (.cells (pArr fun _ => false) 33)) = .ok (.tuple #[.agg (pArr fun _ => false), .bool false]) (w.alloc (.cells (pArr fun _ => false) 33))) {a : Nat} {nb : Int} (hi : l[i]? = some (4, (a : Int), nb)) (ha : a < i) :
    Calls Try.prog 50 #[.int .i64 (i : Int), .pointer (some ⟨k1, 0, none⟩), .pointer (some ⟨k2, 0, none⟩), .pointer (some ⟨k3, 0, none⟩)] w (SaysPost l v w0 w k1 k2 k3 r i) := by
  have HPV := Lib.hid (fun j => pv_not hi ha j)
  have HLA := Lib.hid ha
  have HIH := Lib.hid IH
  clear IH
  have HH := Lib.hid h
  have HLK := Lib.hid hlk
  obtain ⟨hb1, hb2, hb3, hbr, hw0⟩ := h.lt
  have c1 : w.cell? ⟨k1, 0, none⟩ = some (.map (some r)) := by rw [cell_of_row _ _ _ _ _ _ h.2.2.2.1]; rfl
  have c2 : w.cell? ⟨k2, 0, none⟩ = some v := by rw [cell_of_row _ _ _ _ _ _ h.2.2.2.2.1]; rfl
  have hil := (List.getElem?_eq_some_iff.1 hi).1
  obtain ⟨va, vc, rfl, hvc, hx⟩ := h.2.1
  obtain ⟨vb, off, rfl, hvb, hcell⟩ := hx (by intro e; rw [e] at hil; simp at hil)
  obtain ⟨n1, n2, n3⟩ := hcell i _ hi
  rw [← h.1.cells.1 vb _ hvb] at n1 n2 n3
  have hvb' : vb < w.heap.size := Nat.lt_of_lt_of_le hvb h.1.le
  simp only at n1 n2 n3
  have HS := Lib.hid pinfo
  have HPZ := Lib.hid (fun f : Nat → Bool => show (pArr fun _ => false).size = (pArr f).size by rw [pArr_size, pArr_size])
  have HP1 := Lib.hid pArr_one
  have PZ := Lib.hid (fun (ev : Operand → Value) (o : Oper) (ho : o.op = .alloc 33) (wx : World) (N : Nat) (hN : wx.heap.size = N) => run_alloc_at points_zero ev o ho wx N hN)
  have H1 := Lib.hid (heap_alloc2_new w (.cells (pArr fun _ => false) 33) (.cells (pArr fun _ => false) 33))
  obtain ⟨W, hW⟩ : ∃ W, ((w.alloc (.cells (pArr fun _ => false) 33)).alloc (.cells (pArr fun _ => false) 33)).setRow (w.heap.size + 1) (pArr fun _ => false) = W := ⟨_, rfl⟩
  have HW := Lib.hid hW
  have GW : Gr w W := by rw [← hW]; exact (((Gr.refl w).alloc _).alloc _).setRow (by omega) _
  have hWs : W.heap.size = w.heap.size + 2 := by rw [← hW]; simp
  have HR : Hid (W.heap[w.heap.size]? = some (.cells (pArr fun _ => false) 33 (0, 0))) := by
    unfold Hid
    rw [← hW, setRow_other _ _ _ _ (by omega)]
    exact heap_alloc2_old _ _ _
  have m1 : W.cell? ⟨vb, off + i * 3, none⟩ = some (.int .i64 4) := (GW.cells.1 vb _ hvb').trans n1
  have m2 : W.cell? ⟨vb, off + i * 3 + 1, none⟩ = some (.int .i64 (a : Int)) := (GW.cells.1 vb _ hvb').trans n2
  have m3 : W.cell? ⟨vb, off + i * 3 + 2, none⟩ = some (.int .i64 nb) := (GW.cells.1 vb _ hvb').trans n3
  have m0 : W.cell? ⟨k2, 0, none⟩ = some (.slice (some ⟨vb, off, none⟩) l.length vc) := (GW.cells.1 k2 _ hb2).trans c2
  have hilt : (i : Int) < (l.length : Int) := by omega
  have hl30 : (l.length : Int) ≤ 30 := by omega
  have HGW := Lib.hid GW
  have HN0 := Lib.hid hWs
  clear n1 n2 n3 c2 hx hcell h hlk hW hi hWs
  go_enter Try.func50, Try.ntmps50
  go_wp2_with (first
    | (refine Go.Great.wpList_allocTo rfl _ rfl _ _ (PZ.out _ _ rfl _ w.heap.size rfl) ?_)
    | (refine Go.Great.wpList_allocTo rfl _ rfl _ _ (PZ.out _ _ rfl _ (w.heap.size + 1) (World.size_alloc w _)) ?_)
    | (refine Go.Great.wpList_allocTo rfl _ rfl _ _ (PZ.out _ _ rfl _ (W.heap.size + 1) (World.size_alloc W _)) ?_)
    | (at_lookup; refine wpList_lookup_at rfl _ _ 86 rfl _ _ _ rfl rfl HLK.out ?_)
    | (refine wpList_store_row rfl 33 (.tmp 6) (.tmp 15) rfl (w.heap.size + 1) _ rfl rfl 33 _ H1.out (HS.out _) rfl (HP1.out _) ?_; rw [HW.out]))
  clear c1 m0 m1 m2 m3
  go_loopw [23] (fun jj wr => ∃ j : Nat, j ≤ 512 ∧ jj = .int .i64 j ∧ SLoop W wr 4 (a : Int) nb (midB (fun _ => false) j)) (fun jj _ => 512 - (intOf jj).toNat)
  case atStart => exact ⟨0, by omega, rfl, SLoop.start W _ _ _ _⟩
  case round =>
    obtain ⟨j, hj, rfl, hat⟩ := hrel
    have HA := Lib.hid hat
    have d1 : wr.cell? ⟨W.heap.size, 0, none⟩ = some (.int .i64 4) := by rw [cell_of_row _ _ _ _ _ _ hat.2.1]; rfl
    have d2 : wr.cell? ⟨W.heap.size, 1, none⟩ = some (.int .i64 (a : Int)) := by rw [cell_of_row _ _ _ _ _ _ hat.2.1]; rfl
    have d3 : wr.cell? ⟨W.heap.size, 2, none⟩ = some (.int .i64 nb) := by rw [cell_of_row _ _ _ _ _ _ hat.2.1]; rfl
    by_cases hjt : j < 512
    · have hj' : (j : Int) < 512 := by omega
      have hq := quo32 j
      have hm := rem32 j
      have c0 : wr.cell? ⟨W.heap.size + 1, j, none⟩ = some (.bool false) := by
        rw [cell_of_row _ _ _ _ _ _ hat.2.2, pArr_at _ j hjt]
        simp [midB]
      have hfz := frozen_of_row _ _ j _ _ hat.2.2
      have E := Lib.hid (fun i (_ : i < 512) => midB_step (fun _ => false) j i)
      clear hat
      go_wp2_with fail
      go_roundw
      case rel => exact ⟨j + 1, by omega, by go_num, (HA.out.set j _).ext E.out⟩
      case measure => simp [intOf]; omega
    · obtain rfl : j = 512 := by omega
      have hat2 := hat.done
      have SA0 := Lib.hid ((HH.out.gr HGW.out).gr hat.1)
      have HO0 := Lib.hid hat2.2.2
      have HNB := Lib.hid hat2.2.1
      have HN0' := Lib.hid ((Below.block hat.1 _ (Blk_lt HR.out)).trans HR.out)
      have GB0 : Hid (w.grownBy wr (some r)) := grown_gr (HGW.out.trans hat.1)
      clear hat hat2 HA
      go_wp2_with fail
      have hz := HN0.out
      refine sy_reg13 _ (fun _ _ _ _ _ h => h) _ w _ w0 l _ k1 k2 k3 r i a nb W.heap.size (W.heap.size + 1) w.heap.size (fun _ => false) rfl rfl rfl rfl SA0.out HIH.out HLA.out HPV.out GB0.out (by omega) (by omega) (by omega) (by omega) (by omega) (by omega) (by omega) HNB.out HO0.out HN0'.out (fun wq S1 G1 O1 R1 => ?_)
      simp only [Act.put, List.setIfInBounds_toArray, List.set_cons_zero, List.set_cons_succ]
      have SA := Lib.hid S1
      have HO := Lib.hid O1
      have HN := Lib.hid R1
      have GB := Lib.hid G1
      clear S1 O1 R1 G1 SA0 HO0 HN0' GB0 HNB d1 d2 d3 hz
      have e1 : wq.cell? ⟨k1, 0, none⟩ = some (.map (some r)) := by rw [cell_of_row _ _ _ _ _ _ SA.out.2.2.2.1]; rfl
      obtain ⟨wu, hu, hmu, hgu⟩ := update_run SA.out.2.2.2.2.2.2 i
      have SU := Lib.hid (SA.out.keep hgu hmu)
      have HU := Lib.hid hu
      have HO2 := Lib.hid ((hgu.block _ (Blk_lt HO.out) (cells_ne_map HO.out SA.out.2.2.2.2.2.2)).trans HO.out)
      have HN2 := Lib.hid ((hgu.block _ (Blk_lt HN.out) (cells_ne_map HN.out SA.out.2.2.2.2.2.2)).trans HN.out)
      have GB2 := Lib.hid (GB.out.trans hgu)
      clear hu hmu hgu
      go_wp2_with (first
        | (refine wpList_load_row rfl 33 (.tmp 9) rfl (W.heap.size + 1) rfl 33 _ (0, 0) _ HO.out Try.underlying33 rfl (HS.out _) ?_)
        | (refine wpList_load_row rfl 33 (.tmp 9) rfl (W.heap.size + 1) rfl 33 _ (0, 0) _ HO2.out Try.underlying33 rfl (HS.out _) ?_)
        | (at_mapUpdate; refine wpList_update_at rfl _ _ _ 86 rfl _ _ _ rfl rfl rfl HU.out ?_)
        | (refine wpList_store_row rfl 33 (.tmp 5) (.tmp 96) rfl w.heap.size _ rfl rfl 33 _ HN2.out (HS.out _) (HPZ.out _) (HP1.out _) ?_))
      refine bodyPost_ret (v := .agg (pArr (pv l i))) (results_cell_row Try.results50 _ _ w.heap.size 33 _ (0, 0) _ rfl (setRow_heap _ _ _ _ _ _ HN2.out) Try.underlying33 rfl (HS.out _)) rfl ?_
      exact ⟨rfl, SU.out.row hw0 hb1 hb2 hb3 hbr _, grown_row GB2.out (Nat.le_refl _) _⟩
set_option maxHeartbeats 4000000 in
set_option maxRecDepth 100000 in
theorem says_both {l : List Nd} {v : Value} {w0 w : World} {k1 k2 k3 r i : Nat} (h : SaysAt l v w0 w k1 k2 k3 r) (hln : l.length ≤ 30) (IH : SaysBelow l v w0 k1 k2 k3 r i)
    (hlk : (Instr.lookup 86 (.map (some r)) (.int .i64 (i : Int)) true).run Try.prog (w.alloc (.cells (pArr fun _ => false) 33)) = .ok (.tuple #[.agg (pArr fun _ => false), .bool false]) (w.alloc (.cells (pArr fun _ => false) 33))) {a c : Nat} (hi : l[i]? = some (5, (a : Int), (c : Int))) (ha : a < i) (hc : c < i) :
    Calls Try.prog 50 #[.int .i64 (i : Int), .pointer (some ⟨k1, 0, none⟩), .pointer (some ⟨k2, 0, none⟩), .pointer (some ⟨k3, 0, none⟩)] w (SaysPost l v w0 w k1 k2 k3 r i) := by
  have HPV := Lib.hid (fun j => pv_both hi ha hc j)
  have HLA := Lib.hid ha
  have HLC := Lib.hid hc
  have HIH := Lib.hid IH
  clear IH
  have HH := Lib.hid h
  have HLK := Lib.hid hlk
  obtain ⟨hb1, hb2, hb3, hbr, hw0⟩ := h.lt
  have c1 : w.cell? ⟨k1, 0, none⟩ = some (.map (some r)) := by rw [cell_of_row _ _ _ _ _ _ h.2.2.2.1]; rfl
  have c2 : w.cell? ⟨k2, 0, none⟩ = some v := by rw [cell_of_row _ _ _ _ _ _ h.2.2.2.2.1]; rfl
  have hil := (List.getElem?_eq_some_iff.1 hi).1
  obtain ⟨va, vc, rfl, hvc, hx⟩ := h.2.1
  obtain ⟨vb, off, rfl, hvb, hcell⟩ := hx (by intro e; rw [e] at hil; simp at hil)
  obtain ⟨n1, n2, n3⟩ := hcell i _ hi
  rw [← h.1.cells.1 vb _ hvb] at n1 n2 n3
  have hvb' : vb < w.heap.size := Nat.lt_of_lt_of_le hvb h.1.le
  simp only at n1 n2 n3
  have HS := Lib.hid pinfo
  have HPZ := Lib.hid (fun f : Nat → Bool => show (pArr fun _ => false).size = (pArr f).size by rw [pArr_size, pArr_size])
  have HP1 := Lib.hid pArr_one
  have PZ := Lib.hid (fun (ev : Operand → Value) (o : Oper) (ho : o.op = .alloc 33) (wx : World) (N : Nat) (hN : wx.heap.size = N) => run_alloc_at points_zero ev o ho wx N hN)
  have H1 := Lib.hid (heap_alloc2_new w (.cells (pArr fun _ => false) 33) (.cells (pArr fun _ => false) 33))
  obtain ⟨W, hW⟩ : ∃ W, ((w.alloc (.cells (pArr fun _ => false) 33)).alloc (.cells (pArr fun _ => false) 33)).setRow (w.heap.size + 1) (pArr fun _ => false) = W := ⟨_, rfl⟩
  have HW := Lib.hid hW
  have GW : Gr w W := by rw [← hW]; exact (((Gr.refl w).alloc _).alloc _).setRow (by omega) _
  have hWs : W.heap.size = w.heap.size + 2 := by rw [← hW]; simp
  have HR : Hid (W.heap[w.heap.size]? = some (.cells (pArr fun _ => false) 33 (0, 0))) := by
    unfold Hid
    rw [← hW, setRow_other _ _ _ _ (by omega)]
    exact heap_alloc2_old _ _ _
  have m1 : W.cell? ⟨vb, off + i * 3, none⟩ = some (.int .i64 5) := (GW.cells.1 vb _ hvb').trans n1
  have m2 : W.cell? ⟨vb, off + i * 3 + 1, none⟩ = some (.int .i64 (a : Int)) := (GW.cells.1 vb _ hvb').trans n2
  have m3 : W.cell? ⟨vb, off + i * 3 + 2, none⟩ = some (.int .i64 (c : Int)) := (GW.cells.1 vb _ hvb').trans n3
  have m0 : W.cell? ⟨k2, 0, none⟩ = some (.slice (some ⟨vb, off, none⟩) l.length vc) := (GW.cells.1 k2 _ hb2).trans c2
  have hilt : (i : Int) < (l.length : Int) := by omega
  have hl30 : (l.length : Int) ≤ 30 := by omega
  have HGW := Lib.hid GW
  have HN0 := Lib.hid hWs
  clear n1 n2 n3 c2 hx hcell h hlk hW hi hWs
  go_enter Try.func50, Try.ntmps50
  go_wp2_with (first
    | (refine Go.Great.wpList_allocTo rfl _ rfl _ _ (PZ.out _ _ rfl _ w.heap.size rfl) ?_)
    | (refine Go.Great.wpList_allocTo rfl _ rfl _ _ (PZ.out _ _ rfl _ (w.heap.size + 1) (World.size_alloc w _)) ?_)
    | (refine Go.Great.wpList_allocTo rfl _ rfl _ _ (PZ.out _ _ rfl _ (W.heap.size + 1) (World.size_alloc W _)) ?_)
    | (at_lookup; refine wpList_lookup_at rfl _ _ 86 rfl _ _ _ rfl rfl HLK.out ?_)
    | (refine wpList_store_row rfl 33 (.tmp 6) (.tmp 15) rfl (w.heap.size + 1) _ rfl rfl 33 _ H1.out (HS.out _) rfl (HP1.out _) ?_; rw [HW.out]))
  clear c1 m0 m1 m2 m3
  go_loopw [23] (fun jj wr => ∃ j : Nat, j ≤ 512 ∧ jj = .int .i64 j ∧ SLoop W wr 5 (a : Int) (c : Int) (midB (fun _ => false) j)) (fun jj _ => 512 - (intOf jj).toNat)
  case atStart => exact ⟨0, by omega, rfl, SLoop.start W _ _ _ _⟩
  case round =>
    obtain ⟨j, hj, rfl, hat⟩ := hrel
    have HA := Lib.hid hat
    have d1 : wr.cell? ⟨W.heap.size, 0, none⟩ = some (.int .i64 5) := by rw [cell_of_row _ _ _ _ _ _ hat.2.1]; rfl
    have d2 : wr.cell? ⟨W.heap.size, 1, none⟩ = some (.int .i64 (a : Int)) := by rw [cell_of_row _ _ _ _ _ _ hat.2.1]; rfl
    have d3 : wr.cell? ⟨W.heap.size, 2, none⟩ = some (.int .i64 (c : Int)) := by rw [cell_of_row _ _ _ _ _ _ hat.2.1]; rfl
    by_cases hjt : j < 512
    · have hj' : (j : Int) < 512 := by omega
      have hq := quo32 j
      have hm := rem32 j
      have c0 : wr.cell? ⟨W.heap.size + 1, j, none⟩ = some (.bool false) := by
        rw [cell_of_row _ _ _ _ _ _ hat.2.2, pArr_at _ j hjt]
        simp [midB]
      have hfz := frozen_of_row _ _ j _ _ hat.2.2
      have E := Lib.hid (fun i (_ : i < 512) => midB_step (fun _ => false) j i)
      clear hat
      go_wp2_with fail
      go_roundw
      case rel => exact ⟨j + 1, by omega, by go_num, (HA.out.set j _).ext E.out⟩
      case measure => simp [intOf]; omega
    · obtain rfl : j = 512 := by omega
      have hat2 := hat.done
      have SA0 := Lib.hid ((HH.out.gr HGW.out).gr hat.1)
      have HO0 := Lib.hid hat2.2.2
      have HNB := Lib.hid hat2.2.1
      have HN0' := Lib.hid ((Below.block hat.1 _ (Blk_lt HR.out)).trans HR.out)
      have GB0 : Hid (w.grownBy wr (some r)) := grown_gr (HGW.out.trans hat.1)
      clear hat hat2 HA
      go_wp2_with fail
      have hz := HN0.out
      refine sy_reg15 _ (fun _ _ _ _ _ h => h) _ w _ w0 l _ k1 k2 k3 r i a c W.heap.size (W.heap.size + 1) w.heap.size (fun _ => false) rfl rfl rfl rfl SA0.out HIH.out HLA.out HLC.out HPV.out GB0.out (by omega) (by omega) (by omega) (by omega) (by omega) (by omega) (by omega) HNB.out HO0.out HN0'.out (fun wq S1 G1 O1 R1 => ?_)
      simp only [Act.put, List.setIfInBounds_toArray, List.set_cons_zero, List.set_cons_succ]
      have SA := Lib.hid S1
      have HO := Lib.hid O1
      have HN := Lib.hid R1
      have GB := Lib.hid G1
      clear S1 O1 R1 G1 SA0 HO0 HN0' GB0 HNB d1 d2 d3 hz
      have e1 : wq.cell? ⟨k1, 0, none⟩ = some (.map (some r)) := by rw [cell_of_row _ _ _ _ _ _ SA.out.2.2.2.1]; rfl
      obtain ⟨wu, hu, hmu, hgu⟩ := update_run SA.out.2.2.2.2.2.2 i
      have SU := Lib.hid (SA.out.keep hgu hmu)
      have HU := Lib.hid hu
      have HO2 := Lib.hid ((hgu.block _ (Blk_lt HO.out) (cells_ne_map HO.out SA.out.2.2.2.2.2.2)).trans HO.out)
      have HN2 := Lib.hid ((hgu.block _ (Blk_lt HN.out) (cells_ne_map HN.out SA.out.2.2.2.2.2.2)).trans HN.out)
      have GB2 := Lib.hid (GB.out.trans hgu)
      clear hu hmu hgu
      go_wp2_with (first
        | (refine wpList_load_row rfl 33 (.tmp 9) rfl (W.heap.size + 1) rfl 33 _ (0, 0) _ HO.out Try.underlying33 rfl (HS.out _) ?_)
        | (refine wpList_load_row rfl 33 (.tmp 9) rfl (W.heap.size + 1) rfl 33 _ (0, 0) _ HO2.out Try.underlying33 rfl (HS.out _) ?_)
        | (at_mapUpdate; refine wpList_update_at rfl _ _ _ 86 rfl _ _ _ rfl rfl rfl HU.out ?_)
        | (refine wpList_store_row rfl 33 (.tmp 5) (.tmp 96) rfl w.heap.size _ rfl rfl 33 _ HN2.out (HS.out _) (HPZ.out _) (HP1.out _) ?_))
      refine bodyPost_ret (v := .agg (pArr (pv l i))) (results_cell_row Try.results50 _ _ w.heap.size 33 _ (0, 0) _ rfl (setRow_heap _ _ _ _ _ _ HN2.out) Try.underlying33 rfl (HS.out _)) rfl ?_
      exact ⟨rfl, SU.out.row hw0 hb1 hb2 hb3 hbr _, grown_row GB2.out (Nat.le_refl _) _⟩
set_option maxHeartbeats 4000000 in
set_option maxRecDepth 100000 in
theorem says_any {l : List Nd} {v : Value} {w0 w : World} {k1 k2 k3 r i : Nat} (h : SaysAt l v w0 w k1 k2 k3 r) (hln : l.length ≤ 30) (IH : SaysBelow l v w0 k1 k2 k3 r i)
    (hlk : (Instr.lookup 86 (.map (some r)) (.int .i64 (i : Int)) true).run Try.prog (w.alloc (.cells (pArr fun _ => false) 33)) = .ok (.tuple #[.agg (pArr fun _ => false), .bool false]) (w.alloc (.cells (pArr fun _ => false) 33))) {a c : Nat} (hi : l[i]? = some (6, (a : Int), (c : Int))) (ha : a < i) (hc : c < i) :
    Calls Try.prog 50 #[.int .i64 (i : Int), .pointer (some ⟨k1, 0, none⟩), .pointer (some ⟨k2, 0, none⟩), .pointer (some ⟨k3, 0, none⟩)] w (SaysPost l v w0 w k1 k2 k3 r i) := by
  have HPV := Lib.hid (fun j => pv_any hi ha hc j)
  have HLA := Lib.hid ha
  have HLC := Lib.hid hc
  have HIH := Lib.hid IH
  clear IH
  have HH := Lib.hid h
  have HLK := Lib.hid hlk
  obtain ⟨hb1, hb2, hb3, hbr, hw0⟩ := h.lt
  have c1 : w.cell? ⟨k1, 0, none⟩ = some (.map (some r)) := by rw [cell_of_row _ _ _ _ _ _ h.2.2.2.1]; rfl
  have c2 : w.cell? ⟨k2, 0, none⟩ = some v := by rw [cell_of_row _ _ _ _ _ _ h.2.2.2.2.1]; rfl
  have hil := (List.getElem?_eq_some_iff.1 hi).1
  obtain ⟨va, vc, rfl, hvc, hx⟩ := h.2.1
  obtain ⟨vb, off, rfl, hvb, hcell⟩ := hx (by intro e; rw [e] at hil; simp at hil)
  obtain ⟨n1, n2, n3⟩ := hcell i _ hi
  rw [← h.1.cells.1 vb _ hvb] at n1 n2 n3
  have hvb' : vb < w.heap.size := Nat.lt_of_lt_of_le hvb h.1.le
  simp only at n1 n2 n3
  have HS := Lib.hid pinfo
  have HPZ := Lib.hid (fun f : Nat → Bool => show (pArr fun _ => false).size = (pArr f).size by rw [pArr_size, pArr_size])
  have HP1 := Lib.hid pArr_one
  have PZ := Lib.hid (fun (ev : Operand → Value) (o : Oper) (ho : o.op = .alloc 33) (wx : World) (N : Nat) (hN : wx.heap.size = N) => run_alloc_at points_zero ev o ho wx N hN)
  have H1 := Lib.hid (heap_alloc2_new w (.cells (pArr fun _ => false) 33) (.cells (pArr fun _ => false) 33))
  obtain ⟨W, hW⟩ : ∃ W, ((w.alloc (.cells (pArr fun _ => false) 33)).alloc (.cells (pArr fun _ => false) 33)).setRow (w.heap.size + 1) (pArr fun _ => false) = W := ⟨_, rfl⟩
  have HW := Lib.hid hW
  have GW : Gr w W := by rw [← hW]; exact (((Gr.refl w).alloc _).alloc _).setRow (by omega) _
  have hWs : W.heap.size = w.heap.size + 2 := by rw [← hW]; simp
  have HR : Hid (W.heap[w.heap.size]? = some (.cells (pArr fun _ => false) 33 (0, 0))) := by
    unfold Hid
    rw [← hW, setRow_other _ _ _ _ (by omega)]
    exact heap_alloc2_old _ _ _
  have m1 : W.cell? ⟨vb, off + i * 3, none⟩ = some (.int .i64 6) := (GW.cells.1 vb _ hvb').trans n1
  have m2 : W.cell? ⟨vb, off + i * 3 + 1, none⟩ = some (.int .i64 (a : Int)) := (GW.cells.1 vb _ hvb').trans n2
  have m3 : W.cell? ⟨vb, off + i * 3 + 2, none⟩ = some (.int .i64 (c : Int)) := (GW.cells.1 vb _ hvb').trans n3
  have m0 : W.cell? ⟨k2, 0, none⟩ = some (.slice (some ⟨vb, off, none⟩) l.length vc) := (GW.cells.1 k2 _ hb2).trans c2
  have hilt : (i : Int) < (l.length : Int) := by omega
  have hl30 : (l.length : Int) ≤ 30 := by omega
  have HGW := Lib.hid GW
  have HN0 := Lib.hid hWs
  clear n1 n2 n3 c2 hx hcell h hlk hW hi hWs
  go_enter Try.func50, Try.ntmps50
  go_wp2_with (first
    | (refine Go.Great.wpList_allocTo rfl _ rfl _ _ (PZ.out _ _ rfl _ w.heap.size rfl) ?_)
    | (refine Go.Great.wpList_allocTo rfl _ rfl _ _ (PZ.out _ _ rfl _ (w.heap.size + 1) (World.size_alloc w _)) ?_)
    | (refine Go.Great.wpList_allocTo rfl _ rfl _ _ (PZ.out _ _ rfl _ (W.heap.size + 1) (World.size_alloc W _)) ?_)
    | (at_lookup; refine wpList_lookup_at rfl _ _ 86 rfl _ _ _ rfl rfl HLK.out ?_)
    | (refine wpList_store_row rfl 33 (.tmp 6) (.tmp 15) rfl (w.heap.size + 1) _ rfl rfl 33 _ H1.out (HS.out _) rfl (HP1.out _) ?_; rw [HW.out]))
  clear c1 m0 m1 m2 m3
  go_loopw [23] (fun jj wr => ∃ j : Nat, j ≤ 512 ∧ jj = .int .i64 j ∧ SLoop W wr 6 (a : Int) (c : Int) (midB (fun _ => false) j)) (fun jj _ => 512 - (intOf jj).toNat)
  case atStart => exact ⟨0, by omega, rfl, SLoop.start W _ _ _ _⟩
  case round =>
    obtain ⟨j, hj, rfl, hat⟩ := hrel
    have HA := Lib.hid hat
    have d1 : wr.cell? ⟨W.heap.size, 0, none⟩ = some (.int .i64 6) := by rw [cell_of_row _ _ _ _ _ _ hat.2.1]; rfl
    have d2 : wr.cell? ⟨W.heap.size, 1, none⟩ = some (.int .i64 (a : Int)) := by rw [cell_of_row _ _ _ _ _ _ hat.2.1]; rfl
    have d3 : wr.cell? ⟨W.heap.size, 2, none⟩ = some (.int .i64 (c : Int)) := by rw [cell_of_row _ _ _ _ _ _ hat.2.1]; rfl
    by_cases hjt : j < 512
    · have hj' : (j : Int) < 512 := by omega
      have hq := quo32 j
      have hm := rem32 j
      have c0 : wr.cell? ⟨W.heap.size + 1, j, none⟩ = some (.bool false) := by
        rw [cell_of_row _ _ _ _ _ _ hat.2.2, pArr_at _ j hjt]
        simp [midB]
      have hfz := frozen_of_row _ _ j _ _ hat.2.2
      have E := Lib.hid (fun i (_ : i < 512) => midB_step (fun _ => false) j i)
      clear hat
      go_wp2_with fail
      go_roundw
      case rel => exact ⟨j + 1, by omega, by go_num, (HA.out.set j _).ext E.out⟩
      case measure => simp [intOf]; omega
    · obtain rfl : j = 512 := by omega
      have hat2 := hat.done
      have SA0 := Lib.hid ((HH.out.gr HGW.out).gr hat.1)
      have HO0 := Lib.hid hat2.2.2
      have HNB := Lib.hid hat2.2.1
      have HN0' := Lib.hid ((Below.block hat.1 _ (Blk_lt HR.out)).trans HR.out)
      have GB0 : Hid (w.grownBy wr (some r)) := grown_gr (HGW.out.trans hat.1)
      clear hat hat2 HA
      go_wp2_with fail
      have hz := HN0.out
      refine sy_reg17 _ (fun _ _ _ _ _ h => h) _ w _ w0 l _ k1 k2 k3 r i a c W.heap.size (W.heap.size + 1) w.heap.size (fun _ => false) rfl rfl rfl rfl SA0.out HIH.out HLA.out HLC.out HPV.out GB0.out (by omega) (by omega) (by omega) (by omega) (by omega) (by omega) (by omega) HNB.out HO0.out HN0'.out (fun wq S1 G1 O1 R1 => ?_)
      simp only [Act.put, List.setIfInBounds_toArray, List.set_cons_zero, List.set_cons_succ]
      have SA := Lib.hid S1
      have HO := Lib.hid O1
      have HN := Lib.hid R1
      have GB := Lib.hid G1
      clear S1 O1 R1 G1 SA0 HO0 HN0' GB0 HNB d1 d2 d3 hz
      have e1 : wq.cell? ⟨k1, 0, none⟩ = some (.map (some r)) := by rw [cell_of_row _ _ _ _ _ _ SA.out.2.2.2.1]; rfl
      obtain ⟨wu, hu, hmu, hgu⟩ := update_run SA.out.2.2.2.2.2.2 i
      have SU := Lib.hid (SA.out.keep hgu hmu)
      have HU := Lib.hid hu
      have HO2 := Lib.hid ((hgu.block _ (Blk_lt HO.out) (cells_ne_map HO.out SA.out.2.2.2.2.2.2)).trans HO.out)
      have HN2 := Lib.hid ((hgu.block _ (Blk_lt HN.out) (cells_ne_map HN.out SA.out.2.2.2.2.2.2)).trans HN.out)
      have GB2 := Lib.hid (GB.out.trans hgu)
      clear hu hmu hgu
      go_wp2_with (first
        | (refine wpList_load_row rfl 33 (.tmp 9) rfl (W.heap.size + 1) rfl 33 _ (0, 0) _ HO.out Try.underlying33 rfl (HS.out _) ?_)
        | (refine wpList_load_row rfl 33 (.tmp 9) rfl (W.heap.size + 1) rfl 33 _ (0, 0) _ HO2.out Try.underlying33 rfl (HS.out _) ?_)
        | (at_mapUpdate; refine wpList_update_at rfl _ _ _ 86 rfl _ _ _ rfl rfl rfl HU.out ?_)
        | (refine wpList_store_row rfl 33 (.tmp 5) (.tmp 96) rfl w.heap.size _ rfl rfl 33 _ HN2.out (HS.out _) (HPZ.out _) (HP1.out _) ?_))
      refine bodyPost_ret (v := .agg (pArr (pv l i))) (results_cell_row Try.results50 _ _ w.heap.size 33 _ (0, 0) _ rfl (setRow_heap _ _ _ _ _ _ HN2.out) Try.underlying33 rfl (HS.out _)) rfl ?_
      exact ⟨rfl, SU.out.row hw0 hb1 hb2 hb3 hbr _, grown_row GB2.out (Nat.le_refl _) _⟩
theorem says_node {l : List Nd} {v : Value} {w0 : World} {k1 k2 k3 r : Nat} (hok : OkL l) : ∀ i, i < l.length → ∀ w, SaysAt l v w0 w k1 k2 k3 r →
    Calls Try.prog 50 #[.int .i64 (i : Int), .pointer (some ⟨k1, 0, none⟩), .pointer (some ⟨k2, 0, none⟩), .pointer (some ⟨k3, 0, none⟩)] w (SaysPost l v w0 w k1 k2 k3 r i) := by
  intro i
  induction i using Nat.strongRecOn with
  | ind i ih =>
    intro hi w h
    have IH : SaysBelow l v w0 k1 k2 k3 r i := fun m hm w' h' => ih m hm (by omega) w' h'
    obtain ⟨n, hn⟩ : ∃ n, l[i]? = some n := ⟨_, List.getElem?_eq_getElem hi⟩
    have hok' := hok.2.2 i n hn
    have hl30 := hok.2.1
    obtain ⟨b, hlk⟩ := lookup_run (h.gr ((Gr.refl w).alloc (.cells (pArr fun _ => false) 33))).2.2.2.2.2.2 i
    cases b with
    | true => exact says_found h hlk
    | false =>
      cases hok'.of with
      | all a b i => exact says_all h hl30 hlk hn
      | tag a b i ha => exact says_tag h hl30 hlk hn ha
      | num a b i ha hb => exact says_num h hl30 hlk hn ha hb
      | not a b i ha => exact says_not h hl30 IH hlk hn ha
      | both a b i ha hb => exact says_both h hl30 IH hlk hn ha hb
      | any a b i ha hb => exact says_any h hl30 IH hlk hn ha hb
end Go.Proofs.Ythnoafmdecehcaa
