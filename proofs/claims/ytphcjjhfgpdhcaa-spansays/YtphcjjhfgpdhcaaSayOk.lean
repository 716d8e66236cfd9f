/- The walk of SpanSays: integers: ok. -/
import Derived.Test.YtphcjjhfgpdhcaaSayB
namespace Go.Proofs.Ytphcjjhfgpdhcaa
open Go.RowKit Rm
set_option linter.unusedVariables false

set_option maxHeartbeats 4000000 in
set_option maxRecDepth 100000 in
theorem spanSays_ok_bad (v nums : Value) (l : List Int) (n : Int) (w : World) (rn : Rd1 w nums l) (hm : l.length ≤ maxLen) (hsm : l.length ≤ 400) (hall : l.all numB = true) (s : List (Int × Int)) (rl : Rd2 w v s) (hc : (chkS s == 0) = false) :
    Calls Try.prog 13 #[v, nums, .int .i64 n] w fun e w' => e = .returned (.bool true) ∧ Gr w w' := by
  unfold maxLen at hm
  have hm' : (l.length : Int) ≤ 9223372036854775807 := by omega
  obtain ⟨na, nc, rfl, hnc, hnx⟩ := id rn
  have HN0 := Lib.hid rn
  have HL0 := Lib.hid rl
  have HNX := Lib.hid hnx
  have h00 := chk00
  have H1 := Lib.hid nums_one
  have HS : ∀ f, Hid ((Try.prog.info? 75).map (·.size) = some (bArr f).size) := fun f => by unfold Hid; rw [bArr_size]; exact nums_info
  clear rn rl hnx
  have hb' : ¬ (400 : Int) < (l.length : Int) := by omega
  have HALL := Lib.hid hall
  clear hall
  have hc' := sbne_of' hc
  have HC := Lib.hid hc
  go_enter Try.func13, Try.ntmps13
  go_wp2_with fail
  refine (of_ok _ _ _ (HN0.out) hsm HALL.out).mono ?_
  rintro e v1 ⟨u1, rfl, h1, g1⟩
  have G1 := (Gr.refl _).trans g1
  have HN1 := Lib.hid ((HN0.out).gr g1)
  clear HN0
  have HL1 := Lib.hid ((HL0.out).gr g1)
  clear HL0
  clear g1
  have HX1 := Lib.hid h1
  clear h1
  go_wp2_with fail
  refine (shas_bad _ _ _ _ (HL1.out) HC.out).mono ?_
  rintro e v2 ⟨rfl, g2⟩
  have G2 := (G1).trans g2
  have HN2 := Lib.hid ((HN1.out).gr g2)
  clear HN1
  have HL2 := Lib.hid ((HL1.out).gr g2)
  clear HL1
  have HX2 := Lib.hid ((HX1.out).gr g2)
  clear HX1
  clear G1
  clear g2
  go_wp2_with fail
  refine (scount_bad _ _ _ (HL2.out) HC.out).mono ?_
  rintro e v3 ⟨rfl, g3⟩
  have G3 := (G2).trans g3
  have HN3 := Lib.hid ((HN2.out).gr g3)
  clear HN2
  have HL3 := Lib.hid ((HL2.out).gr g3)
  clear HL2
  have HX3 := Lib.hid ((HX2.out).gr g3)
  clear HX2
  clear G2
  clear g3
  go_wp2_with fail
  refine (rspans_any _ _ _ (HL3.out)).mono ?_
  rintro e v4 ⟨rfl, g4⟩
  have G4 := (G3).trans g4
  have HN4 := Lib.hid ((HN3.out).gr g4)
  clear HN3
  have HL4 := Lib.hid ((HL3.out).gr g4)
  clear HL3
  have HX4 := Lib.hid ((HX3.out).gr g4)
  clear HX3
  clear G3
  clear g4
  go_wp2_with fail
  refine (scheck_any _ _ _ (HL4.out)).mono ?_
  rintro e v5 ⟨rfl, g5⟩
  have G5 := (G4).trans g5
  have HN5 := Lib.hid ((HN4.out).gr g5)
  clear HN4
  have HL5 := Lib.hid ((HL4.out).gr g5)
  clear HL4
  have HX5 := Lib.hid ((HX4.out).gr g5)
  clear HX4
  clear G4
  clear g5
  go_wp2_with fail
  refine (scheck_any _ _ _ (litR _ 0 0 _)).mono ?_
  rintro e v6 ⟨rfl, g6⟩
  have G6 := ((G5).alloc _).trans g6
  have HN6 := Lib.hid (((HN5.out).alloc _).gr g6)
  clear HN5
  have HL6 := Lib.hid (((HL5.out).alloc _).gr g6)
  clear HL5
  have HX6 := Lib.hid (((HX5.out).alloc _).gr g6)
  clear HX5
  clear G5
  clear g6
  go_wp2_with fail
  have HB0 : Hid ((v6.alloc (.cells #[.bool false, .bool false, .bool false, .bool false, .bool false, .bool false, .bool false, .bool false, .bool false, .bool false, .bool false, .bool false, .bool false, .bool false, .bool false, .bool false, .bool false, .bool false, .bool false, .bool false, .bool false, .bool false, .bool false, .bool false, .bool false, .bool false, .bool false, .bool false, .bool false, .bool false, .bool false, .bool false] 75)).heap[v6.heap.size]? = some (.cells (bArr fun _ => false) 75 (0, 0))) := heap_alloc_new _ _
  have GA : Hid (Gr v6 (v6.alloc (.cells #[.bool false, .bool false, .bool false, .bool false, .bool false, .bool false, .bool false, .bool false, .bool false, .bool false, .bool false, .bool false, .bool false, .bool false, .bool false, .bool false, .bool false, .bool false, .bool false, .bool false, .bool false, .bool false, .bool false, .bool false, .bool false, .bool false, .bool false, .bool false, .bool false, .bool false, .bool false, .bool false] 75))) := (Gr.refl _).alloc _
  have hBlt : v6.heap.size < (v6.alloc (.cells #[.bool false, .bool false, .bool false, .bool false, .bool false, .bool false, .bool false, .bool false, .bool false, .bool false, .bool false, .bool false, .bool false, .bool false, .bool false, .bool false, .bool false, .bool false, .bool false, .bool false, .bool false, .bool false, .bool false, .bool false, .bool false, .bool false, .bool false, .bool false, .bool false, .bool false, .bool false, .bool false] 75)).heap.size := Blk_lt HB0.out
  generalize v6.alloc (.cells #[.bool false, .bool false, .bool false, .bool false, .bool false, .bool false, .bool false, .bool false, .bool false, .bool false, .bool false, .bool false, .bool false, .bool false, .bool false, .bool false, .bool false, .bool false, .bool false, .bool false, .bool false, .bool false, .bool false, .bool false, .bool false, .bool false, .bool false, .bool false, .bool false, .bool false, .bool false, .bool false] 75) = W at *
  have HWV : Hid (w.heap.size ≤ v6.heap.size) := G6.le
  generalize hBB : v6.heap.size = BB at *
  have HBB := Lib.hid hBB
  clear hBB
  go_loopw [15, 55] (fun o i wr => ∃ k : Nat, k ≤ l.length ∧ i = .int .i64 k ∧ o = .int .i64 0 ∧ Gr v6 wr ∧ wr.heap[BB]? = some (.cells (bArr (maskI (l.take k)).testBit) 75 (0, 0))) (fun _ i _ => l.length - (intOf i).toNat)
  case atStart => exact ⟨0, by omega, rfl, rfl, GA.out, by rw [show bArr (maskI (l.take 0)).testBit = bArr (fun _ => false) from bArr_ext (fun i _ => by simp [maskI])]; exact HB0.out⟩
  case round =>
    obtain ⟨k, hk, rfl, rfl, hg, hblk⟩ := hrel
    have HB := Lib.hid hblk
    have HG := Lib.hid hg
    clear hblk hg
    by_cases hlt : k < l.length
    · obtain ⟨x, hp⟩ : ∃ p, l[k]? = some p := ⟨_, List.getElem?_eq_getElem hlt⟩
      obtain ⟨a2, c2, e2, -, hx2⟩ := HN6.out.gr HG.out
      obtain ⟨b, off, rfl, hb, hcell⟩ := hx2 (by intro e; rw [e] at hlt; simp at hlt)
      obtain ⟨rfl, -, rfl⟩ : na = some ⟨b, off, none⟩ ∧ l.length = l.length ∧ nc = c2 := by simpa using e2
      have c1 := hcell k x hp
      have hn : numB x = true := List.all_eq_true.1 HALL.out x (List.mem_of_getElem? hp)
      obtain ⟨y, rfl⟩ := Int.eq_ofNat_of_zero_le (show 0 ≤ x by simp [numB] at hn; omega)
      have hy : y < 32 := by simp [numB] at hn; omega
      have hy' : (y : Int) < 32 := by omega
      have hy2 : ¬ (31 : Int) < (y : Int) := by omega
      have hk4 : (k : Int) < 400 := by omega
      have q1 : wr.cell? ⟨BB, y, none⟩ = some (.bool ((maskI (l.take k)).testBit y)) := by rw [cell_of_row _ _ _ _ _ _ HB.out, bArr_at _ y hy]
      have q2 := frozen_of_row _ _ y _ _ HB.out
      have HB2 := Lib.hid (heap_set_bArr (b := true) HB.out hy)
      rw [bArr_ext (fun i _ => maskI_bitN hp hy i)] at HB2
      clear hcell e2 hp hn
      go_wp2_with fail
      go_roundw
      case rel => exact ⟨k + 1, by omega, by go_num, rfl, HG.out.setCell (Nat.le_of_eq HBB.out) _, HB2.out⟩
      case measure => simp [intOf]; omega
    · obtain rfl : k = l.length := by omega
      rw [List.take_length] at HB
      have G := HG
      have hBle : v6.heap.size ≤ BB := Nat.le_of_eq HBB.out
      go_wp2_with (refine BigFrame.wpList_want (by rfl) fun K hK => wp_load_row 75 (.tmp 14) rfl BB rfl 75 _ (0, 0) _ HB.out Try.underlying75 rfl (HS _).out (hK _ _ ?_))
      refine (told_any _ _).mono ?_
      rintro e z1 ⟨tv, rfl, ht⟩
      have HT1 : Hid (MS z1 tv (maskI l)) := ListAt.ms ht (HX6.out).2
      have G2 := Lib.hid (G.out.trans ht.1)
      clear ht
      have hem : eqM (maskI l) (maskI l) = true := eqM_true rfl
      go_wp2_with fail
      refine (mequal (HX6.out.gr G2.out) HT1.out).mono ?_
      rw [hem]
      rintro e z2 ⟨rfl, zg2⟩
      clear hem
      have G3 := Lib.hid (G2.out.trans zg2)
      have GF := Lib.hid (G6.trans (G2.out.trans zg2))
      go_wp2_with fail
      go_ret
      exact ⟨rfl, GF.out⟩

set_option maxHeartbeats 4000000 in
set_option maxRecDepth 100000 in
theorem spanSays_ok_ok (v nums : Value) (l : List Int) (n : Int) (w : World) (rn : Rd1 w nums l) (hm : l.length ≤ maxLen) (hsm : l.length ≤ 400) (hall : l.all numB = true) (A : Nat) (rl : MS w v A) :
    Calls Try.prog 13 #[v, nums, .int .i64 n] w fun e w' => e = .returned (.bool true) ∧ Gr w w' := by
  unfold maxLen at hm
  have hm' : (l.length : Int) ≤ 9223372036854775807 := by omega
  obtain ⟨na, nc, rfl, hnc, hnx⟩ := id rn
  have HN0 := Lib.hid rn
  have HL0 := Lib.hid rl
  have HNX := Lib.hid hnx
  have h00 := chk00
  have H1 := Lib.hid nums_one
  have HS : ∀ f, Hid ((Try.prog.info? 75).map (·.size) = some (bArr f).size) := fun f => by unfold Hid; rw [bArr_size]; exact nums_info
  clear rn rl hnx
  have hb' : ¬ (400 : Int) < (l.length : Int) := by omega
  have HALL := Lib.hid hall
  clear hall
  have cA := chkS_of (canon_VF A)
  go_enter Try.func13, Try.ntmps13
  go_wp2_with fail
  refine (of_ok _ _ _ (HN0.out) hsm HALL.out).mono ?_
  rintro e v1 ⟨u1, rfl, h1, g1⟩
  have G1 := (Gr.refl _).trans g1
  have HN1 := Lib.hid ((HN0.out).gr g1)
  clear HN0
  have HL1 := Lib.hid ((HL0.out).gr g1)
  clear HL0
  clear g1
  have HX1 := Lib.hid h1
  clear h1
  go_wp2_with fail
  refine (mhas (HL1.out) _).mono ?_
  rintro e v2 ⟨rfl, g2⟩
  have G2 := (G1).trans g2
  have HN2 := Lib.hid ((HN1.out).gr g2)
  clear HN1
  have HL2 := Lib.hid ((HL1.out).gr g2)
  clear HL1
  have HX2 := Lib.hid ((HX1.out).gr g2)
  clear HX1
  clear G1
  clear g2
  go_wp2_with fail
  refine (mcount (HL2.out)).mono ?_
  rintro e v3 ⟨rfl, g3⟩
  have G3 := (G2).trans g3
  have HN3 := Lib.hid ((HN2.out).gr g3)
  clear HN2
  have HL3 := Lib.hid ((HL2.out).gr g3)
  clear HL2
  have HX3 := Lib.hid ((HX2.out).gr g3)
  clear HX2
  clear G2
  clear g3
  go_wp2_with fail
  refine (rspans_any _ _ _ (HL3.out).1).mono ?_
  rintro e v4 ⟨rfl, g4⟩
  have G4 := (G3).trans g4
  have HN4 := Lib.hid ((HN3.out).gr g4)
  clear HN3
  have HL4 := Lib.hid ((HL3.out).gr g4)
  clear HL3
  have HX4 := Lib.hid ((HX3.out).gr g4)
  clear HX3
  clear G3
  clear g4
  go_wp2_with fail
  refine (scheck_any _ _ _ (HL4.out).1).mono ?_
  rintro e v5 ⟨rfl, g5⟩
  have G5 := (G4).trans g5
  have HN5 := Lib.hid ((HN4.out).gr g5)
  clear HN4
  have HL5 := Lib.hid ((HL4.out).gr g5)
  clear HL4
  have HX5 := Lib.hid ((HX4.out).gr g5)
  clear HX4
  clear G4
  clear g5
  go_wp2_with fail
  refine (scheck_any _ _ _ (litR _ 0 0 _)).mono ?_
  rintro e v6 ⟨rfl, g6⟩
  have G6 := ((G5).alloc _).trans g6
  have HN6 := Lib.hid (((HN5.out).alloc _).gr g6)
  clear HN5
  have HL6 := Lib.hid (((HL5.out).alloc _).gr g6)
  clear HL5
  have HX6 := Lib.hid (((HX5.out).alloc _).gr g6)
  clear HX5
  clear G5
  clear g6
  go_wp2_with fail
  have HB0 : Hid ((v6.alloc (.cells #[.bool false, .bool false, .bool false, .bool false, .bool false, .bool false, .bool false, .bool false, .bool false, .bool false, .bool false, .bool false, .bool false, .bool false, .bool false, .bool false, .bool false, .bool false, .bool false, .bool false, .bool false, .bool false, .bool false, .bool false, .bool false, .bool false, .bool false, .bool false, .bool false, .bool false, .bool false, .bool false] 75)).heap[v6.heap.size]? = some (.cells (bArr fun _ => false) 75 (0, 0))) := heap_alloc_new _ _
  have GA : Hid (Gr v6 (v6.alloc (.cells #[.bool false, .bool false, .bool false, .bool false, .bool false, .bool false, .bool false, .bool false, .bool false, .bool false, .bool false, .bool false, .bool false, .bool false, .bool false, .bool false, .bool false, .bool false, .bool false, .bool false, .bool false, .bool false, .bool false, .bool false, .bool false, .bool false, .bool false, .bool false, .bool false, .bool false, .bool false, .bool false] 75))) := (Gr.refl _).alloc _
  have hBlt : v6.heap.size < (v6.alloc (.cells #[.bool false, .bool false, .bool false, .bool false, .bool false, .bool false, .bool false, .bool false, .bool false, .bool false, .bool false, .bool false, .bool false, .bool false, .bool false, .bool false, .bool false, .bool false, .bool false, .bool false, .bool false, .bool false, .bool false, .bool false, .bool false, .bool false, .bool false, .bool false, .bool false, .bool false, .bool false, .bool false] 75)).heap.size := Blk_lt HB0.out
  generalize v6.alloc (.cells #[.bool false, .bool false, .bool false, .bool false, .bool false, .bool false, .bool false, .bool false, .bool false, .bool false, .bool false, .bool false, .bool false, .bool false, .bool false, .bool false, .bool false, .bool false, .bool false, .bool false, .bool false, .bool false, .bool false, .bool false, .bool false, .bool false, .bool false, .bool false, .bool false, .bool false, .bool false, .bool false] 75) = W at *
  have HWV : Hid (w.heap.size ≤ v6.heap.size) := G6.le
  generalize hBB : v6.heap.size = BB at *
  have HBB := Lib.hid hBB
  clear hBB
  go_loopw [15, 55] (fun o i wr => ∃ k : Nat, k ≤ l.length ∧ i = .int .i64 k ∧ o = .int .i64 0 ∧ Gr v6 wr ∧ wr.heap[BB]? = some (.cells (bArr (maskI (l.take k)).testBit) 75 (0, 0))) (fun _ i _ => l.length - (intOf i).toNat)
  case atStart => exact ⟨0, by omega, rfl, rfl, GA.out, by rw [show bArr (maskI (l.take 0)).testBit = bArr (fun _ => false) from bArr_ext (fun i _ => by simp [maskI])]; exact HB0.out⟩
  case round =>
    obtain ⟨k, hk, rfl, rfl, hg, hblk⟩ := hrel
    have HB := Lib.hid hblk
    have HG := Lib.hid hg
    clear hblk hg
    by_cases hlt : k < l.length
    · obtain ⟨x, hp⟩ : ∃ p, l[k]? = some p := ⟨_, List.getElem?_eq_getElem hlt⟩
      obtain ⟨a2, c2, e2, -, hx2⟩ := HN6.out.gr HG.out
      obtain ⟨b, off, rfl, hb, hcell⟩ := hx2 (by intro e; rw [e] at hlt; simp at hlt)
      obtain ⟨rfl, -, rfl⟩ : na = some ⟨b, off, none⟩ ∧ l.length = l.length ∧ nc = c2 := by simpa using e2
      have c1 := hcell k x hp
      have hn : numB x = true := List.all_eq_true.1 HALL.out x (List.mem_of_getElem? hp)
      obtain ⟨y, rfl⟩ := Int.eq_ofNat_of_zero_le (show 0 ≤ x by simp [numB] at hn; omega)
      have hy : y < 32 := by simp [numB] at hn; omega
      have hy' : (y : Int) < 32 := by omega
      have hy2 : ¬ (31 : Int) < (y : Int) := by omega
      have hk4 : (k : Int) < 400 := by omega
      have q1 : wr.cell? ⟨BB, y, none⟩ = some (.bool ((maskI (l.take k)).testBit y)) := by rw [cell_of_row _ _ _ _ _ _ HB.out, bArr_at _ y hy]
      have q2 := frozen_of_row _ _ y _ _ HB.out
      have HB2 := Lib.hid (heap_set_bArr (b := true) HB.out hy)
      rw [bArr_ext (fun i _ => maskI_bitN hp hy i)] at HB2
      clear hcell e2 hp hn
      go_wp2_with fail
      go_roundw
      case rel => exact ⟨k + 1, by omega, by go_num, rfl, HG.out.setCell (Nat.le_of_eq HBB.out) _, HB2.out⟩
      case measure => simp [intOf]; omega
    · obtain rfl : k = l.length := by omega
      rw [List.take_length] at HB
      have G := HG
      have hBle : v6.heap.size ≤ BB := Nat.le_of_eq HBB.out
      go_wp2_with (refine BigFrame.wpList_want (by rfl) fun K hK => wp_load_row 75 (.tmp 14) rfl BB rfl 75 _ (0, 0) _ HB.out Try.underlying75 rfl (HS _).out (hK _ _ ?_))
      refine (told_any _ _).mono ?_
      rintro e z1 ⟨tv, rfl, ht⟩
      have HT1 : Hid (MS z1 tv (maskI l)) := ListAt.ms ht (HX6.out).2
      have G2 := Lib.hid (G.out.trans ht.1)
      clear ht
      have hem : eqM (maskI l) (maskI l) = true := eqM_true rfl
      go_wp2_with fail
      refine (mequal (HX6.out.gr G2.out) HT1.out).mono ?_
      rw [hem]
      rintro e z2 ⟨rfl, zg2⟩
      clear hem
      have G3 := Lib.hid (G2.out.trans zg2)
      have GF := Lib.hid (G6.trans (G2.out.trans zg2))
      have HLZ := Lib.hid (HL6.out.gr G3.out)
      go_wp2_with fail
      refine (mset HLZ.out).mono ?_
      rintro e z3 ⟨rfl, zg3⟩
      have GG := Lib.hid (GF.out.trans zg3)
      have HPO := Lib.hid (popc_le A)
      clear zg2 zg3
      go_wp2_with fail
      go_loop [18, 19, 107] (fun a h i => ∃ k : Nat, k ≤ 32 ∧ i = .int .i64 k ∧ a = .int .i64 (popTo A k : Nat) ∧ h = .bool (hasTo A n k)) (fun _ _ i => 32 - (intOf i).toNat)
      case atStart => exact ⟨0, by omega, rfl, rfl, rfl⟩
      case round =>
        obtain ⟨k, hk, rfl, rfl, rfl⟩ := hrel
        by_cases hlt : k < 32
        · have hix := fun wx => index_nums A.testBit k hlt wx
          have hk32 : (k : Int) < 32 := by omega
          have hpl : ((popTo A k : Nat) : Int) ≤ 32 := by have := popTo_le A k; omega
          have HP : Hid (popTo A (k + 1) = popTo A k + (A.testBit k).toNat) := rfl
          have HH : Hid (hasTo A n (k + 1) = (hasTo A n k || (A.testBit k && ((k : Int) == n)))) := rfl
          generalize popTo A k = pk at *
          generalize hasTo A n k = hk2 at *
          cases hb : A.testBit k
          · rw [hb] at hix HP HH
            go_wp2_with fail
            go_round
            case rel => exact ⟨k + 1, by omega, by go_num, by rw [HP.out]; simp, by rw [HH.out]; simp⟩
            case measure => simp [intOf]; omega
          · rw [hb] at hix HP HH
            cases hk2
            · cases hq : ((k : Int) == n)
              · rw [hq] at HH
                go_wp2_with fail
                go_round
                case rel => exact ⟨k + 1, by omega, by go_num, by rw [HP.out]; simp, by rw [HH.out]; simp⟩
                case measure => simp [intOf]; omega
              · rw [hq] at HH
                go_wp2_with fail
                go_round
                case rel => exact ⟨k + 1, by omega, by go_num, by rw [HP.out]; simp, by rw [HH.out]; simp⟩
                case measure => simp [intOf]; omega
            · go_wp2_with fail
              go_round
              case rel => exact ⟨k + 1, by omega, by go_num, by rw [HP.out]; simp, by rw [HH.out]; simp⟩
              case measure => simp [intOf]; omega
        · obtain rfl : k = 32 := by omega
          have e1 : popTo A 32 = popc A := rfl
          have e2 := hasTo_eq A n
          rw [e1, e2]
          clear e1 e2
          generalize bitB A n = bb at *
          generalize popc A = pp at *
          cases bb
          all_goals
            go_wp2_with fail
            go_ret
            exact ⟨rfl, GG.out⟩
end Go.Proofs.Ytphcjjhfgpdhcaa
