/- The document's own Says: the closure at nodes that refer to no other. -/
import Derived.Test.YthnoafmdecehcaaRefI
namespace Rm
open Go Go.RowKit
theorem sem_at {l : List Nd} {i : Nat} {n : Nd} (h : l[i]? = some n) : getP (semL l) i = ndP n (getP (semL (l.take i))) := by
  have hi := (List.getElem?_eq_some_iff.1 h).1
  rw [← semL_pre (l := l) (k := i + 1) (by omega) (by omega), semL_take h]
  have e : (semL (l.take i)).length = i := by rw [semL_len, List.length_take]; omega
  rw [show getP (semL (l.take i) ++ [ndP n (getP (semL (l.take i)))]) i = getP (semL (l.take i) ++ [ndP n (getP (semL (l.take i)))]) (semL (l.take i)).length from by rw [e], getP_end]
theorem pv_all {l : List Nd} {i : Nat} {a b : Int} (h : l[i]? = some (1, a, b)) (j : Nat) : pv l i j = true := by unfold pv ptI; rw [sem_at h]; rfl
theorem pv_tag {l : List Nd} {i a : Nat} {b : Int} (h : l[i]? = some (2, (a : Int), b)) (j : Nat) : pv l i j = (j / 32).testBit a := by unfold pv ptI; rw [sem_at h]; rfl
theorem pv_num {l : List Nd} {i a b : Nat} (h : l[i]? = some (3, (a : Int), (b : Int))) (j : Nat) : pv l i j = (decide ((a : Int) ≤ ((j % 32 : Nat) : Int)) && decide (((j % 32 : Nat) : Int) < (b : Int))) := by unfold pv ptI; rw [sem_at h]; rfl
theorem pv_num2 {l : List Nd} {i a b : Nat} (h : l[i]? = some (3, (a : Int), (b : Int))) (j : Nat) : pv l i j = (decide ((a : Int) ≤ (j : Int) % 32) && decide ((j : Int) % 32 ≤ (b : Int) - 1)) := by
  rw [pv_num h, Bool.eq_iff_iff]
  simp
  omega
theorem tag_val (j a : Nat) : (((j : Int) / 32 / 2 ^ a).tmod 2 == 1) = (j / 32).testBit a := by
  have e1 : (j : Int) / 32 / 2 ^ a = ((j / 32 / 2 ^ a : Nat) : Int) := by simp
  rw [e1, Nat.testBit_eq_decide_div_mod_eq, Bool.eq_iff_iff]
  have e2 : ((j / 32 / 2 ^ a : Nat) : Int).tmod 2 = ((j / 32 / 2 ^ a % 2 : Nat) : Int) := rfl
  rw [e2]
  simp
  omega
theorem pv_not {l : List Nd} {i a : Nat} {b : Int} (h : l[i]? = some (4, (a : Int), b)) (ha : a < i) (j : Nat) : pv l i j = !pv l a j := by
  have hi := (List.getElem?_eq_some_iff.1 h).1
  unfold pv ptI; rw [sem_at h, ← semL_pre (l := l) (k := i) (by omega) ha]; rfl
theorem pv_both {l : List Nd} {i a b : Nat} (h : l[i]? = some (5, (a : Int), (b : Int))) (ha : a < i) (hb : b < i) (j : Nat) : pv l i j = (pv l a j && pv l b j) := by
  have hi := (List.getElem?_eq_some_iff.1 h).1
  unfold pv ptI; rw [sem_at h, ← semL_pre (l := l) (k := i) (by omega) ha, ← semL_pre (l := l) (k := i) (by omega) hb]; rfl
theorem pv_any {l : List Nd} {i a b : Nat} (h : l[i]? = some (6, (a : Int), (b : Int))) (ha : a < i) (hb : b < i) (j : Nat) : pv l i j = (pv l a j || pv l b j) := by
  have hi := (List.getElem?_eq_some_iff.1 h).1
  unfold pv ptI; rw [sem_at h, ← semL_pre (l := l) (k := i) (by omega) ha, ← semL_pre (l := l) (k := i) (by omega) hb]; rfl
end Rm
namespace Go.Proofs.Ythnoafmdecehcaa
open Go.RowKit Rm
set_option linter.unusedVariables false
set_option linter.unusedSimpArgs false
set_option maxHeartbeats 4000000 in
set_option maxRecDepth 100000 in
theorem says_all {l : List Nd} {v : Value} {w0 w : World} {k1 k2 k3 r i : Nat} (h : SaysAt l v w0 w k1 k2 k3 r) (hln : l.length ≤ 30)
    (hlk : (Instr.lookup 86 (.map (some r)) (.int .i64 (i : Int)) true).run Try.prog (w.alloc (.cells (pArr fun _ => false) 33)) = .ok (.tuple #[.agg (pArr fun _ => false), .bool false]) (w.alloc (.cells (pArr fun _ => false) 33))) {na nb : Int} (hi : l[i]? = some (1, na, nb)) :
    Calls Try.prog 50 #[.int .i64 (i : Int), .pointer (some ⟨k1, 0, none⟩), .pointer (some ⟨k2, 0, none⟩), .pointer (some ⟨k3, 0, none⟩)] w (SaysPost l v w0 w k1 k2 k3 r i) := by
  have HPV := Lib.hid (fun j => pv_all hi j)
  have HH := Lib.hid h
  have HLK := Lib.hid hlk
  obtain ⟨hb1, hb2, hb3, hbr, hw0⟩ := h.lt
  have c1 : w.cell? ⟨k1, 0, none⟩ = some (.map (some r)) := by rw [cell_of_row _ _ _ _ _ _ h.2.2.2.1]; rfl
  have c2 : w.cell? ⟨k2, 0, none⟩ = some v := by rw [cell_of_row _ _ _ _ _ _ h.2.2.2.2.1]; rfl
  have hil := (List.getElem?_eq_some_iff.1 hi).1
  obtain ⟨va, vc, rfl, hvc, hx⟩ := h.2.1
  obtain ⟨vb, off, rfl, hvb, hcell⟩ := hx (by intro e; rw [e] at hil; simp at hil)
  obtain ⟨n1, n2, n3⟩ := hcell i _ hi
  rw [← h.1.cells.1 vb _ hvb] at n1 n2 n3
  have hvb' : vb < w.heap.size := Nat.lt_of_lt_of_le hvb h.1.le
  simp only at n1 n2 n3
  have HS := Lib.hid pinfo
  have HPZ := Lib.hid (fun f : Nat → Bool => show (pArr fun _ => false).size = (pArr f).size by rw [pArr_size, pArr_size])
  have HP1 := Lib.hid pArr_one
  have PZ := Lib.hid (fun (ev : Operand → Value) (o : Oper) (ho : o.op = .alloc 33) (wx : World) (N : Nat) (hN : wx.heap.size = N) => run_alloc_at points_zero ev o ho wx N hN)
  have H1 := Lib.hid (heap_alloc2_new w (.cells (pArr fun _ => false) 33) (.cells (pArr fun _ => false) 33))
  obtain ⟨W, hW⟩ : ∃ W, ((w.alloc (.cells (pArr fun _ => false) 33)).alloc (.cells (pArr fun _ => false) 33)).setRow (w.heap.size + 1) (pArr fun _ => false) = W := ⟨_, rfl⟩
  have HW := Lib.hid hW
  have GW : Gr w W := by rw [← hW]; exact (((Gr.refl w).alloc _).alloc _).setRow (by omega) _
  have hWs : W.heap.size = w.heap.size + 2 := by rw [← hW]; simp
  have HR : Hid (W.heap[w.heap.size]? = some (.cells (pArr fun _ => false) 33 (0, 0))) := by
    unfold Hid
    rw [← hW, setRow_other _ _ _ _ (by omega)]
    exact heap_alloc2_old _ _ _
  have m1 : W.cell? ⟨vb, off + i * 3, none⟩ = some (.int .i64 1) := (GW.cells.1 vb _ hvb').trans n1
  have m2 : W.cell? ⟨vb, off + i * 3 + 1, none⟩ = some (.int .i64 na) := (GW.cells.1 vb _ hvb').trans n2
  have m3 : W.cell? ⟨vb, off + i * 3 + 2, none⟩ = some (.int .i64 nb) := (GW.cells.1 vb _ hvb').trans n3
  have m0 : W.cell? ⟨k2, 0, none⟩ = some (.slice (some ⟨vb, off, none⟩) l.length vc) := (GW.cells.1 k2 _ hb2).trans c2
  have hilt : (i : Int) < (l.length : Int) := by omega
  have hl30 : (l.length : Int) ≤ 30 := by omega
  have HGW := Lib.hid GW
  have HN0 := Lib.hid hWs
  clear n1 n2 n3 c2 hx hcell h hlk hW hi hWs
  go_enter Try.func50, Try.ntmps50
  go_wp2_with (first
    | (refine Go.Great.wpList_allocTo rfl _ rfl _ _ (PZ.out _ _ rfl _ w.heap.size rfl) ?_)
    | (refine Go.Great.wpList_allocTo rfl _ rfl _ _ (PZ.out _ _ rfl _ (w.heap.size + 1) (World.size_alloc w _)) ?_)
    | (refine Go.Great.wpList_allocTo rfl _ rfl _ _ (PZ.out _ _ rfl _ (W.heap.size + 1) (World.size_alloc W _)) ?_)
    | (at_lookup; refine wpList_lookup_at rfl _ _ 86 rfl _ _ _ rfl rfl HLK.out ?_)
    | (refine wpList_store_row rfl 33 (.tmp 6) (.tmp 15) rfl (w.heap.size + 1) _ rfl rfl 33 _ H1.out (HS.out _) rfl (HP1.out _) ?_; rw [HW.out]))
  clear c1 m0 m1 m2 m3
  go_loopw [23] (fun jj wr => ∃ j : Nat, j ≤ 512 ∧ jj = .int .i64 j ∧ SLoop W wr 1 na nb (midB (fun _ => true) j)) (fun jj _ => 512 - (intOf jj).toNat)
  case atStart => exact ⟨0, by omega, rfl, SLoop.start W _ _ _ _⟩
  case round =>
    obtain ⟨j, hj, rfl, hat⟩ := hrel
    have HA := Lib.hid hat
    have d1 : wr.cell? ⟨W.heap.size, 0, none⟩ = some (.int .i64 1) := by rw [cell_of_row _ _ _ _ _ _ hat.2.1]; rfl
    have d2 : wr.cell? ⟨W.heap.size, 1, none⟩ = some (.int .i64 na) := by rw [cell_of_row _ _ _ _ _ _ hat.2.1]; rfl
    have d3 : wr.cell? ⟨W.heap.size, 2, none⟩ = some (.int .i64 nb) := by rw [cell_of_row _ _ _ _ _ _ hat.2.1]; rfl
    by_cases hjt : j < 512
    · have hj' : (j : Int) < 512 := by omega
      have hq := quo32 j
      have hm := rem32 j
      have c0 : wr.cell? ⟨W.heap.size + 1, j, none⟩ = some (.bool false) := by
        rw [cell_of_row _ _ _ _ _ _ hat.2.2, pArr_at _ j hjt]
        simp [midB]
      have hfz := frozen_of_row _ _ j _ _ hat.2.2
      have E := Lib.hid (fun i (_ : i < 512) => midB_step (fun _ => true) j i)
      clear hat
      go_wp2_with fail
      go_roundw
      case rel => exact ⟨j + 1, by omega, by go_num, (HA.out.set j _).ext E.out⟩
      case measure => simp [intOf]; omega
    · obtain rfl : j = 512 := by omega
      have hat2 := hat.done
      have HO : Hid (wr.heap[W.heap.size + 1]? = some (.cells (pArr (pv l i)) 33 (0, 0))) := by
        unfold Hid
        rw [hat2.2.2, pArr_ext (fun j _ => (HPV.out j).symm)]
      have SA := Lib.hid ((HH.out.gr HGW.out).gr hat.1)
      have HN := Lib.hid ((Below.block hat.1 _ (Blk_lt HR.out)).trans HR.out)
      have GB : Hid (w.grownBy wr (some r)) := grown_gr (HGW.out.trans hat.1)
      clear hat hat2 HA HPV
      have e1 : wr.cell? ⟨k1, 0, none⟩ = some (.map (some r)) := by rw [cell_of_row _ _ _ _ _ _ SA.out.2.2.2.1]; rfl
      obtain ⟨wu, hu, hmu, hgu⟩ := update_run SA.out.2.2.2.2.2.2 i
      have SU := Lib.hid (SA.out.keep hgu hmu)
      have HU := Lib.hid hu
      have HO2 := Lib.hid ((hgu.block _ (Blk_lt HO.out) (cells_ne_map HO.out SA.out.2.2.2.2.2.2)).trans HO.out)
      have HN2 := Lib.hid ((hgu.block _ (Blk_lt HN.out) (cells_ne_map HN.out SA.out.2.2.2.2.2.2)).trans HN.out)
      have GB2 := Lib.hid (GB.out.trans hgu)
      clear hu hmu hgu
      go_wp2_with (first
        | (refine wpList_load_row rfl 33 (.tmp 9) rfl (W.heap.size + 1) rfl 33 _ (0, 0) _ HO.out Try.underlying33 rfl (HS.out _) ?_)
        | (refine wpList_load_row rfl 33 (.tmp 9) rfl (W.heap.size + 1) rfl 33 _ (0, 0) _ HO2.out Try.underlying33 rfl (HS.out _) ?_)
        | (at_mapUpdate; refine wpList_update_at rfl _ _ _ 86 rfl _ _ _ rfl rfl rfl HU.out ?_)
        | (refine wpList_store_row rfl 33 (.tmp 5) (.tmp 96) rfl w.heap.size _ rfl rfl 33 _ HN2.out (HS.out _) (HPZ.out _) (HP1.out _) ?_))
      refine bodyPost_ret (v := .agg (pArr (pv l i))) (results_cell_row Try.results50 _ _ w.heap.size 33 _ (0, 0) _ rfl (setRow_heap _ _ _ _ _ _ HN2.out) Try.underlying33 rfl (HS.out _)) rfl ?_
      exact ⟨rfl, SU.out.row hw0 hb1 hb2 hb3 hbr _, grown_row GB2.out (Nat.le_refl _) _⟩
set_option maxHeartbeats 4000000 in
set_option maxRecDepth 100000 in
theorem says_tag {l : List Nd} {v : Value} {w0 w : World} {k1 k2 k3 r i : Nat} (h : SaysAt l v w0 w k1 k2 k3 r) (hln : l.length ≤ 30)
    (hlk : (Instr.lookup 86 (.map (some r)) (.int .i64 (i : Int)) true).run Try.prog (w.alloc (.cells (pArr fun _ => false) 33)) = .ok (.tuple #[.agg (pArr fun _ => false), .bool false]) (w.alloc (.cells (pArr fun _ => false) 33))) {a : Nat} {nb : Int} (hi : l[i]? = some (2, (a : Int), nb)) (ha : a < 4) :
    Calls Try.prog 50 #[.int .i64 (i : Int), .pointer (some ⟨k1, 0, none⟩), .pointer (some ⟨k2, 0, none⟩), .pointer (some ⟨k3, 0, none⟩)] w (SaysPost l v w0 w k1 k2 k3 r i) := by
  have HPV := Lib.hid (fun j => pv_tag hi j)
  have HH := Lib.hid h
  have HLK := Lib.hid hlk
  obtain ⟨hb1, hb2, hb3, hbr, hw0⟩ := h.lt
  have c1 : w.cell? ⟨k1, 0, none⟩ = some (.map (some r)) := by rw [cell_of_row _ _ _ _ _ _ h.2.2.2.1]; rfl
  have c2 : w.cell? ⟨k2, 0, none⟩ = some v := by rw [cell_of_row _ _ _ _ _ _ h.2.2.2.2.1]; rfl
  have hil := (List.getElem?_eq_some_iff.1 hi).1
  obtain ⟨va, vc, rfl, hvc, hx⟩ := h.2.1
  obtain ⟨vb, off, rfl, hvb, hcell⟩ := hx (by intro e; rw [e] at hil; simp at hil)
  obtain ⟨n1, n2, n3⟩ := hcell i _ hi
  rw [← h.1.cells.1 vb _ hvb] at n1 n2 n3
  have hvb' : vb < w.heap.size := Nat.lt_of_lt_of_le hvb h.1.le
  simp only at n1 n2 n3
  have HS := Lib.hid pinfo
  have HPZ := Lib.hid (fun f : Nat → Bool => show (pArr fun _ => false).size = (pArr f).size by rw [pArr_size, pArr_size])
  have HP1 := Lib.hid pArr_one
  have PZ := Lib.hid (fun (ev : Operand → Value) (o : Oper) (ho : o.op = .alloc 33) (wx : World) (N : Nat) (hN : wx.heap.size = N) => run_alloc_at points_zero ev o ho wx N hN)
  have H1 := Lib.hid (heap_alloc2_new w (.cells (pArr fun _ => false) 33) (.cells (pArr fun _ => false) 33))
  obtain ⟨W, hW⟩ : ∃ W, ((w.alloc (.cells (pArr fun _ => false) 33)).alloc (.cells (pArr fun _ => false) 33)).setRow (w.heap.size + 1) (pArr fun _ => false) = W := ⟨_, rfl⟩
  have HW := Lib.hid hW
  have GW : Gr w W := by rw [← hW]; exact (((Gr.refl w).alloc _).alloc _).setRow (by omega) _
  have hWs : W.heap.size = w.heap.size + 2 := by rw [← hW]; simp
  have HR : Hid (W.heap[w.heap.size]? = some (.cells (pArr fun _ => false) 33 (0, 0))) := by
    unfold Hid
    rw [← hW, setRow_other _ _ _ _ (by omega)]
    exact heap_alloc2_old _ _ _
  have m1 : W.cell? ⟨vb, off + i * 3, none⟩ = some (.int .i64 2) := (GW.cells.1 vb _ hvb').trans n1
  have m2 : W.cell? ⟨vb, off + i * 3 + 1, none⟩ = some (.int .i64 (a : Int)) := (GW.cells.1 vb _ hvb').trans n2
  have m3 : W.cell? ⟨vb, off + i * 3 + 2, none⟩ = some (.int .i64 nb) := (GW.cells.1 vb _ hvb').trans n3
  have m0 : W.cell? ⟨k2, 0, none⟩ = some (.slice (some ⟨vb, off, none⟩) l.length vc) := (GW.cells.1 k2 _ hb2).trans c2
  have hilt : (i : Int) < (l.length : Int) := by omega
  have hl30 : (l.length : Int) ≤ 30 := by omega
  have HGW := Lib.hid GW
  have HN0 := Lib.hid hWs
  clear n1 n2 n3 c2 hx hcell h hlk hW hi hWs
  go_enter Try.func50, Try.ntmps50
  go_wp2_with (first
    | (refine Go.Great.wpList_allocTo rfl _ rfl _ _ (PZ.out _ _ rfl _ w.heap.size rfl) ?_)
    | (refine Go.Great.wpList_allocTo rfl _ rfl _ _ (PZ.out _ _ rfl _ (w.heap.size + 1) (World.size_alloc w _)) ?_)
    | (refine Go.Great.wpList_allocTo rfl _ rfl _ _ (PZ.out _ _ rfl _ (W.heap.size + 1) (World.size_alloc W _)) ?_)
    | (at_lookup; refine wpList_lookup_at rfl _ _ 86 rfl _ _ _ rfl rfl HLK.out ?_)
    | (refine wpList_store_row rfl 33 (.tmp 6) (.tmp 15) rfl (w.heap.size + 1) _ rfl rfl 33 _ H1.out (HS.out _) rfl (HP1.out _) ?_; rw [HW.out]))
  clear c1 m0 m1 m2 m3
  go_loopw [23] (fun jj wr => ∃ j : Nat, j ≤ 512 ∧ jj = .int .i64 j ∧ SLoop W wr 2 (a : Int) nb (midB (fun j => (j / 32).testBit a) j)) (fun jj _ => 512 - (intOf jj).toNat)
  case atStart => exact ⟨0, by omega, rfl, SLoop.start W _ _ _ _⟩
  case round =>
    obtain ⟨j, hj, rfl, hat⟩ := hrel
    have HA := Lib.hid hat
    have d1 : wr.cell? ⟨W.heap.size, 0, none⟩ = some (.int .i64 2) := by rw [cell_of_row _ _ _ _ _ _ hat.2.1]; rfl
    have d2 : wr.cell? ⟨W.heap.size, 1, none⟩ = some (.int .i64 (a : Int)) := by rw [cell_of_row _ _ _ _ _ _ hat.2.1]; rfl
    have d3 : wr.cell? ⟨W.heap.size, 2, none⟩ = some (.int .i64 nb) := by rw [cell_of_row _ _ _ _ _ _ hat.2.1]; rfl
    by_cases hjt : j < 512
    · have hj' : (j : Int) < 512 := by omega
      have hq := quo32 j
      have hm := rem32 j
      have c0 : wr.cell? ⟨W.heap.size + 1, j, none⟩ = some (.bool false) := by
        rw [cell_of_row _ _ _ _ _ _ hat.2.2, pArr_at _ j hjt]
        simp [midB]
      have hfz := frozen_of_row _ _ j _ _ hat.2.2
      have E := Lib.hid (fun i (_ : i < 512) => midB_step (fun j => (j / 32).testBit a) j i)
      clear hat
      have hv := tag_val j a
      cases hb : (j / 32).testBit a
      all_goals
        rw [hb] at hv
        have E2 := E.out
        simp only [hb] at E2
        have HE2 := Lib.hid E2
        clear E E2 hb
        go_wp2_with fail
        go_roundw
        case rel => exact ⟨j + 1, by omega, by go_num, (HA.out.set j _).ext HE2.out⟩
        case measure => simp [intOf]; omega
    · obtain rfl : j = 512 := by omega
      have hat2 := hat.done
      have HO : Hid (wr.heap[W.heap.size + 1]? = some (.cells (pArr (pv l i)) 33 (0, 0))) := by
        unfold Hid
        rw [hat2.2.2, pArr_ext (fun j _ => (HPV.out j).symm)]
      have SA := Lib.hid ((HH.out.gr HGW.out).gr hat.1)
      have HN := Lib.hid ((Below.block hat.1 _ (Blk_lt HR.out)).trans HR.out)
      have GB : Hid (w.grownBy wr (some r)) := grown_gr (HGW.out.trans hat.1)
      clear hat hat2 HA HPV
      have e1 : wr.cell? ⟨k1, 0, none⟩ = some (.map (some r)) := by rw [cell_of_row _ _ _ _ _ _ SA.out.2.2.2.1]; rfl
      obtain ⟨wu, hu, hmu, hgu⟩ := update_run SA.out.2.2.2.2.2.2 i
      have SU := Lib.hid (SA.out.keep hgu hmu)
      have HU := Lib.hid hu
      have HO2 := Lib.hid ((hgu.block _ (Blk_lt HO.out) (cells_ne_map HO.out SA.out.2.2.2.2.2.2)).trans HO.out)
      have HN2 := Lib.hid ((hgu.block _ (Blk_lt HN.out) (cells_ne_map HN.out SA.out.2.2.2.2.2.2)).trans HN.out)
      have GB2 := Lib.hid (GB.out.trans hgu)
      clear hu hmu hgu
      go_wp2_with (first
        | (refine wpList_load_row rfl 33 (.tmp 9) rfl (W.heap.size + 1) rfl 33 _ (0, 0) _ HO.out Try.underlying33 rfl (HS.out _) ?_)
        | (refine wpList_load_row rfl 33 (.tmp 9) rfl (W.heap.size + 1) rfl 33 _ (0, 0) _ HO2.out Try.underlying33 rfl (HS.out _) ?_)
        | (at_mapUpdate; refine wpList_update_at rfl _ _ _ 86 rfl _ _ _ rfl rfl rfl HU.out ?_)
        | (refine wpList_store_row rfl 33 (.tmp 5) (.tmp 96) rfl w.heap.size _ rfl rfl 33 _ HN2.out (HS.out _) (HPZ.out _) (HP1.out _) ?_))
      refine bodyPost_ret (v := .agg (pArr (pv l i))) (results_cell_row Try.results50 _ _ w.heap.size 33 _ (0, 0) _ rfl (setRow_heap _ _ _ _ _ _ HN2.out) Try.underlying33 rfl (HS.out _)) rfl ?_
      exact ⟨rfl, SU.out.row hw0 hb1 hb2 hb3 hbr _, grown_row GB2.out (Nat.le_refl _) _⟩
set_option maxHeartbeats 4000000 in
set_option maxRecDepth 100000 in
theorem says_num {l : List Nd} {v : Value} {w0 w : World} {k1 k2 k3 r i : Nat} (h : SaysAt l v w0 w k1 k2 k3 r) (hln : l.length ≤ 30)
    (hlk : (Instr.lookup 86 (.map (some r)) (.int .i64 (i : Int)) true).run Try.prog (w.alloc (.cells (pArr fun _ => false) 33)) = .ok (.tuple #[.agg (pArr fun _ => false), .bool false]) (w.alloc (.cells (pArr fun _ => false) 33))) {a b : Nat} (hi : l[i]? = some (3, (a : Int), (b : Int))) (hab : a < b) (hb32 : b ≤ 32) :
    Calls Try.prog 50 #[.int .i64 (i : Int), .pointer (some ⟨k1, 0, none⟩), .pointer (some ⟨k2, 0, none⟩), .pointer (some ⟨k3, 0, none⟩)] w (SaysPost l v w0 w k1 k2 k3 r i) := by
  have HPV := Lib.hid (fun j => pv_num2 hi j)
  have HH := Lib.hid h
  have HLK := Lib.hid hlk
  obtain ⟨hb1, hb2, hb3, hbr, hw0⟩ := h.lt
  have c1 : w.cell? ⟨k1, 0, none⟩ = some (.map (some r)) := by rw [cell_of_row _ _ _ _ _ _ h.2.2.2.1]; rfl
  have c2 : w.cell? ⟨k2, 0, none⟩ = some v := by rw [cell_of_row _ _ _ _ _ _ h.2.2.2.2.1]; rfl
  have hil := (List.getElem?_eq_some_iff.1 hi).1
  obtain ⟨va, vc, rfl, hvc, hx⟩ := h.2.1
  obtain ⟨vb, off, rfl, hvb, hcell⟩ := hx (by intro e; rw [e] at hil; simp at hil)
  obtain ⟨n1, n2, n3⟩ := hcell i _ hi
  rw [← h.1.cells.1 vb _ hvb] at n1 n2 n3
  have hvb' : vb < w.heap.size := Nat.lt_of_lt_of_le hvb h.1.le
  simp only at n1 n2 n3
  have HS := Lib.hid pinfo
  have HPZ := Lib.hid (fun f : Nat → Bool => show (pArr fun _ => false).size = (pArr f).size by rw [pArr_size, pArr_size])
  have HP1 := Lib.hid pArr_one
  have PZ := Lib.hid (fun (ev : Operand → Value) (o : Oper) (ho : o.op = .alloc 33) (wx : World) (N : Nat) (hN : wx.heap.size = N) => run_alloc_at points_zero ev o ho wx N hN)
  have H1 := Lib.hid (heap_alloc2_new w (.cells (pArr fun _ => false) 33) (.cells (pArr fun _ => false) 33))
  obtain ⟨W, hW⟩ : ∃ W, ((w.alloc (.cells (pArr fun _ => false) 33)).alloc (.cells (pArr fun _ => false) 33)).setRow (w.heap.size + 1) (pArr fun _ => false) = W := ⟨_, rfl⟩
  have HW := Lib.hid hW
  have GW : Gr w W := by rw [← hW]; exact (((Gr.refl w).alloc _).alloc _).setRow (by omega) _
  have hWs : W.heap.size = w.heap.size + 2 := by rw [← hW]; simp
  have HR : Hid (W.heap[w.heap.size]? = some (.cells (pArr fun _ => false) 33 (0, 0))) := by
    unfold Hid
    rw [← hW, setRow_other _ _ _ _ (by omega)]
    exact heap_alloc2_old _ _ _
  have m1 : W.cell? ⟨vb, off + i * 3, none⟩ = some (.int .i64 3) := (GW.cells.1 vb _ hvb').trans n1
  have m2 : W.cell? ⟨vb, off + i * 3 + 1, none⟩ = some (.int .i64 (a : Int)) := (GW.cells.1 vb _ hvb').trans n2
  have m3 : W.cell? ⟨vb, off + i * 3 + 2, none⟩ = some (.int .i64 (b : Int)) := (GW.cells.1 vb _ hvb').trans n3
  have m0 : W.cell? ⟨k2, 0, none⟩ = some (.slice (some ⟨vb, off, none⟩) l.length vc) := (GW.cells.1 k2 _ hb2).trans c2
  have hilt : (i : Int) < (l.length : Int) := by omega
  have hl30 : (l.length : Int) ≤ 30 := by omega
  have HGW := Lib.hid GW
  have HN0 := Lib.hid hWs
  clear n1 n2 n3 c2 hx hcell h hlk hW hi hWs
  go_enter Try.func50, Try.ntmps50
  go_wp2_with (first
    | (refine Go.Great.wpList_allocTo rfl _ rfl _ _ (PZ.out _ _ rfl _ w.heap.size rfl) ?_)
    | (refine Go.Great.wpList_allocTo rfl _ rfl _ _ (PZ.out _ _ rfl _ (w.heap.size + 1) (World.size_alloc w _)) ?_)
    | (refine Go.Great.wpList_allocTo rfl _ rfl _ _ (PZ.out _ _ rfl _ (W.heap.size + 1) (World.size_alloc W _)) ?_)
    | (at_lookup; refine wpList_lookup_at rfl _ _ 86 rfl _ _ _ rfl rfl HLK.out ?_)
    | (refine wpList_store_row rfl 33 (.tmp 6) (.tmp 15) rfl (w.heap.size + 1) _ rfl rfl 33 _ H1.out (HS.out _) rfl (HP1.out _) ?_; rw [HW.out]))
  clear c1 m0 m1 m2 m3
  go_loopw [23] (fun jj wr => ∃ j : Nat, j ≤ 512 ∧ jj = .int .i64 j ∧ SLoop W wr 3 (a : Int) (b : Int) (midB (fun j => decide ((a : Int) ≤ (j : Int) % 32) && decide ((j : Int) % 32 ≤ (b : Int) - 1)) j)) (fun jj _ => 512 - (intOf jj).toNat)
  case atStart => exact ⟨0, by omega, rfl, SLoop.start W _ _ _ _⟩
  case round =>
    obtain ⟨j, hj, rfl, hat⟩ := hrel
    have HA := Lib.hid hat
    have d1 : wr.cell? ⟨W.heap.size, 0, none⟩ = some (.int .i64 3) := by rw [cell_of_row _ _ _ _ _ _ hat.2.1]; rfl
    have d2 : wr.cell? ⟨W.heap.size, 1, none⟩ = some (.int .i64 (a : Int)) := by rw [cell_of_row _ _ _ _ _ _ hat.2.1]; rfl
    have d3 : wr.cell? ⟨W.heap.size, 2, none⟩ = some (.int .i64 (b : Int)) := by rw [cell_of_row _ _ _ _ _ _ hat.2.1]; rfl
    by_cases hjt : j < 512
    · have hj' : (j : Int) < 512 := by omega
      have hq := quo32 j
      have hm := rem32 j
      have c0 : wr.cell? ⟨W.heap.size + 1, j, none⟩ = some (.bool false) := by
        rw [cell_of_row _ _ _ _ _ _ hat.2.2, pArr_at _ j hjt]
        simp [midB]
      have hfz := frozen_of_row _ _ j _ _ hat.2.2
      have E := Lib.hid (fun i (_ : i < 512) => midB_step (fun j => decide ((a : Int) ≤ (j : Int) % 32) && decide ((j : Int) % 32 ≤ (b : Int) - 1)) j i)
      clear hat
      obtain ⟨q, hqq⟩ : ∃ q, (decide ((a : Int) ≤ (j : Int) % 32) && decide ((j : Int) % 32 ≤ (b : Int) - 1)) = q := ⟨_, rfl⟩
      have E2 := E.out
      simp only [hqq] at E2
      have HE2 := Lib.hid E2
      have HQ := Lib.hid hqq
      clear E E2 hqq
      go_wp2_with fail
      refine (rwithin_gen _ _ _ _).mono ?_
      rw [HQ.out]
      rintro e w1 ⟨rfl, rfl⟩
      go_wp2_with fail
      go_roundw
      case rel => exact ⟨j + 1, by omega, by go_num, (HA.out.set j _).ext HE2.out⟩
      case measure => simp [intOf]; omega
    · obtain rfl : j = 512 := by omega
      have hat2 := hat.done
      have HO : Hid (wr.heap[W.heap.size + 1]? = some (.cells (pArr (pv l i)) 33 (0, 0))) := by
        unfold Hid
        rw [hat2.2.2, pArr_ext (fun j _ => (HPV.out j).symm)]
      have SA := Lib.hid ((HH.out.gr HGW.out).gr hat.1)
      have HN := Lib.hid ((Below.block hat.1 _ (Blk_lt HR.out)).trans HR.out)
      have GB : Hid (w.grownBy wr (some r)) := grown_gr (HGW.out.trans hat.1)
      clear hat hat2 HA HPV
      have e1 : wr.cell? ⟨k1, 0, none⟩ = some (.map (some r)) := by rw [cell_of_row _ _ _ _ _ _ SA.out.2.2.2.1]; rfl
      obtain ⟨wu, hu, hmu, hgu⟩ := update_run SA.out.2.2.2.2.2.2 i
      have SU := Lib.hid (SA.out.keep hgu hmu)
      have HU := Lib.hid hu
      have HO2 := Lib.hid ((hgu.block _ (Blk_lt HO.out) (cells_ne_map HO.out SA.out.2.2.2.2.2.2)).trans HO.out)
      have HN2 := Lib.hid ((hgu.block _ (Blk_lt HN.out) (cells_ne_map HN.out SA.out.2.2.2.2.2.2)).trans HN.out)
      have GB2 := Lib.hid (GB.out.trans hgu)
      clear hu hmu hgu
      go_wp2_with (first
        | (refine wpList_load_row rfl 33 (.tmp 9) rfl (W.heap.size + 1) rfl 33 _ (0, 0) _ HO.out Try.underlying33 rfl (HS.out _) ?_)
        | (refine wpList_load_row rfl 33 (.tmp 9) rfl (W.heap.size + 1) rfl 33 _ (0, 0) _ HO2.out Try.underlying33 rfl (HS.out _) ?_)
        | (at_mapUpdate; refine wpList_update_at rfl _ _ _ 86 rfl _ _ _ rfl rfl rfl HU.out ?_)
        | (refine wpList_store_row rfl 33 (.tmp 5) (.tmp 96) rfl w.heap.size _ rfl rfl 33 _ HN2.out (HS.out _) (HPZ.out _) (HP1.out _) ?_))
      refine bodyPost_ret (v := .agg (pArr (pv l i))) (results_cell_row Try.results50 _ _ w.heap.size 33 _ (0, 0) _ rfl (setRow_heap _ _ _ _ _ _ HN2.out) Try.underlying33 rfl (HS.out _)) rfl ?_
      exact ⟨rfl, SU.out.row hw0 hb1 hb2 hb3 hbr _, grown_row GB2.out (Nat.le_refl _) _⟩
end Go.Proofs.Ythnoafmdecehcaa
