/- The walk of FilterSays. -/
import Derived.Test.YtphcjjhfgpdhcaaRefF
namespace Go.Proofs.Ytphcjjhfgpdhcaa
open Go.RowKit Rm
set_option linter.unusedVariables false

theorem fs_form {n : Nat} {w : World} {v : Value} {T : Nat → Nat} (h : FSn n w v T) : ∃ a l c, v = .slice a l c ∧ l ≤ n := by
  obtain ⟨F, ⟨a, c, e, _⟩, _, hl, _⟩ := h
  exact ⟨a, _, c, e, by rw [List.length_map]; exact hl⟩
set_option maxHeartbeats 8000000 in
set_option maxRecDepth 100000 in
theorem filterSays_A (f g : Value) (lf lg : List BoxI) (t n : Int) (w : World) (rf : RdF w f lf) (rg : RdF w g lg) (hc : (chkF lf == 0) = false) :
    Calls Try.prog 3 #[f, g, .agg #[.int .i64 t, .int .i64 n]] w fun e w' => e = .returned (.bool true) ∧ Gr w w' := by
  have HS := Lib.hid pinfo
  have HPZ := Lib.hid (fun f : Nat → Bool => show (pArr fun _ => false).size = (pArr f).size by rw [pArr_size, pArr_size])
  have HP1 := Lib.hid pArr_one
  have PZ := Lib.hid (fun (ev : Operand → Value) (o : Oper) (ho : o.op = .alloc 36) (wx : World) (N : Nat) (hN : wx.heap.size = N) => run_alloc_at points_zero ev o ho wx N hN)
  have HPI : Hid ((Try.prog.info? 24).map (·.size) = some (#[Value.int .i64 t, Value.int .i64 n] : Array Value).size) := point_info
  have e2 : chkF2 lf lg = chkF lf := by unfold chkF2; rw [hc]; rfl
  have HC : Hid ((chkF2 lf lg == 0) = false) := by rw [e2]; exact hc
  have HC1 := Lib.hid hc
  have hc' := bne_of' hc
  have HP0 := Lib.hid (heap_alloc_new w (.cells #[.int .i64 t, .int .i64 n] 24))
  have HF0 := Lib.hid (rf.alloc (.cells #[.int .i64 t, .int .i64 n] 24))
  have HG0 := Lib.hid (rg.alloc (.cells #[.int .i64 t, .int .i64 n] 24))
  have G0 := (Gr.refl w).alloc (.cells #[.int .i64 t, .int .i64 n] 24)
  clear rf rg
  go_enter Try.func3, Try.ntmps3
  go_wp2_with (first
    | (refine BigFrame.wpList_want (by rfl) fun K hK => wp_load_row 24 (.tmp 5) rfl w.heap.size rfl 24 _ (0, 0) _ HP0.out Try.underlying24 rfl HPI.out (hK _ _ ?_)))
  refine (fhas_bad t n (HF0.out) HC1.out).mono ?_
  rintro e w1 ⟨rfl, g1⟩
  have G1 := (G0).trans g1
  have HF_1 := Lib.hid (HF0.out.gr g1)
  clear HF0
  have HG_1 := Lib.hid (HG0.out.gr g1)
  clear HG0
  have HP_1 := Lib.hid ((Below.block g1 _ (Blk_lt HP0.out)).trans HP0.out)
  clear HP0
  clear g1 G0
  go_wp2_with fail
  refine (fwithin_bad (HF_1.out) (HG_1.out) HC.out).mono ?_
  rw [e2]
  rintro e w2 ⟨rfl, g2⟩
  have G2 := (G1).trans g2
  have HF_2 := Lib.hid (HF_1.out.gr g2)
  clear HF_1
  have HG_2 := Lib.hid (HG_1.out.gr g2)
  clear HG_1
  have HP_2 := Lib.hid ((Below.block g2 _ (Blk_lt HP_1.out)).trans HP_1.out)
  clear HP_1
  clear g2 G1
  go_wp2_with fail
  refine (fsame_bad (HF_2.out) (HG_2.out) HC.out).mono ?_
  rw [e2]
  rintro e w3 ⟨rfl, g3⟩
  have G3 := (G2).trans g3
  have HF_3 := Lib.hid (HF_2.out.gr g3)
  clear HF_2
  have HG_3 := Lib.hid (HG_2.out.gr g3)
  clear HG_2
  have HP_3 := Lib.hid ((Below.block g3 _ (Blk_lt HP_2.out)).trans HP_2.out)
  clear HP_2
  clear g3 G2
  go_wp2_with fail
  refine (fcount_bad (HF_3.out) HC1.out).mono ?_
  rintro e w4 ⟨rfl, g4⟩
  have G4 := (G3).trans g4
  have HF_4 := Lib.hid (HF_3.out.gr g4)
  clear HF_3
  have HG_4 := Lib.hid (HG_3.out.gr g4)
  clear HG_3
  have HP_4 := Lib.hid ((Below.block g4 _ (Blk_lt HP_3.out)).trans HP_3.out)
  clear HP_3
  clear g4 G3
  go_wp2_with fail
  refine (rfilter_any _ _ _ (HF_4.out)).mono ?_
  rintro e w5 ⟨rfl, g5⟩
  have G5 := (G4).trans g5
  have HF_5 := Lib.hid (HF_4.out.gr g5)
  clear HF_4
  have HG_5 := Lib.hid (HG_4.out.gr g5)
  clear HG_4
  have HP_5 := Lib.hid ((Below.block g5 _ (Blk_lt HP_4.out)).trans HP_4.out)
  clear HP_4
  clear g5 G4
  go_wp2_with fail
  refine (rfilter_any _ _ _ (HF_5.out)).mono ?_
  rintro e w6 ⟨rfl, g6⟩
  have G6 := (G5).trans g6
  have HF_6 := Lib.hid (HF_5.out.gr g6)
  clear HF_5
  have HG_6 := Lib.hid (HG_5.out.gr g6)
  clear HG_5
  have HP_6 := Lib.hid ((Below.block g6 _ (Blk_lt HP_5.out)).trans HP_5.out)
  clear HP_5
  clear g6 G5
  go_wp2_with (first
    | (refine BigFrame.wpList_want (by rfl) fun K hK => wp_load_row 24 (.tmp 5) rfl w.heap.size rfl 24 _ (0, 0) _ HP_6.out Try.underlying24 rfl HPI.out (hK _ _ ?_)))
  refine says_reg6 _ (fun _ _ _ _ _ h => h) _ _ w.heap.size f t n (chkF lf) rfl rfl rfl rfl HP_6.out (fun wx gx => fcheck_any _ _ wx (HF_6.out.gr gx)) (fun w7 g7 => ?_)
  simp only [Act.put, List.setIfInBounds_toArray, List.set_cons_zero, List.set_cons_succ]
  have G7 := (G6).trans g7
  have HF_7 := Lib.hid (HF_6.out.gr g7)
  clear HF_6
  have HG_7 := Lib.hid (HG_6.out.gr g7)
  clear HG_6
  have HP_7 := Lib.hid ((Below.block g7 _ (Blk_lt HP_6.out)).trans HP_6.out)
  clear HP_6
  clear g7 G6
  generalize chkF lf = cv at *
  go_wp2_with fail
  refine (fevery _).mono ?_
  rintro e w8 ⟨x0, rfl, hx0, g8⟩
  have G8 := (G7).trans g8
  have HF_8 := Lib.hid (HF_7.out.gr g8)
  clear HF_7
  have HG_8 := Lib.hid (HG_7.out.gr g8)
  clear HG_7
  have HP_8 := Lib.hid ((Below.block g8 _ (Blk_lt HP_7.out)).trans HP_7.out)
  clear HP_7
  have HV_8 := Lib.hid ((hx0.le (by omega) : FS _ _ _))
  clear g8 G7
  obtain ⟨ea, el, ec, rfl, hel⟩ := fs_form hx0
  have hel' : ¬ (16 : Int) < (el : Int) := by omega
  clear hx0
  go_wp2_with fail
  refine (rfilter_ok (by omega) (HV_8.out)).mono ?_
  rintro e w9 ⟨rfl, g9⟩
  have G9 := (G8).trans g9
  have HF_9 := Lib.hid (HF_8.out.gr g9)
  clear HF_8
  have HG_9 := Lib.hid (HG_8.out.gr g9)
  clear HG_8
  have HV_9 := Lib.hid (HV_8.out.gr g9)
  clear HV_8
  have HP_9 := Lib.hid ((Below.block g9 _ (Blk_lt HP_8.out)).trans HP_8.out)
  clear HP_8
  clear g9 G8
  go_wp2_with fail
  refine (of_fs (by omega) (HV_9.out)).mono ?_
  rintro e w10 ⟨rfl, g10⟩
  have G10 := (G9).trans g10
  have HF_10 := Lib.hid (HF_9.out.gr g10)
  clear HF_9
  have HG_10 := Lib.hid (HG_9.out.gr g10)
  clear HG_9
  have HV_10 := Lib.hid (HV_9.out.gr g10)
  clear HV_9
  have HP_10 := Lib.hid ((Below.block g10 _ (Blk_lt HP_9.out)).trans HP_9.out)
  clear HP_9
  clear g10 G9
  clear HV_10
  go_wp2_with fail
  refine (many_full _).mono ?_
  rintro e w11 ⟨rfl, g11⟩
  have G11 := (G10).trans g11
  have HF_11 := Lib.hid (HF_10.out.gr g11)
  clear HF_10
  have HG_11 := Lib.hid (HG_10.out.gr g11)
  clear HG_10
  have HP_11 := Lib.hid ((Below.block g11 _ (Blk_lt HP_10.out)).trans HP_10.out)
  clear HP_10
  clear g11 G10
  clear hel
  go_wp2_with (first
    | (refine BigFrame.wpList_want (by rfl) fun K hK => wp_load_row 24 (.tmp 5) rfl w.heap.size rfl 24 _ (0, 0) _ HP_11.out Try.underlying24 rfl HPI.out (hK _ _ ?_)))
  go_ret
  exact ⟨rfl, G11⟩
set_option maxHeartbeats 8000000 in
set_option maxRecDepth 100000 in
theorem filterSays_B1t (f g : Value) (T : Nat → Nat) (U : Nat → Nat) (a b : Nat) (ha : a < 16) (hb : b < 32) (w : World) (ff : FS w f T) (fg : FS w g U) (okT : OkT T) (okU : OkT U) :
    Calls Try.prog 3 #[f, g, .agg #[.int .i64 (a : Int), .int .i64 (b : Int)]] w fun e w' => e = .returned (.bool true) ∧ Gr w w' := by
  have HS := Lib.hid pinfo
  have HPZ := Lib.hid (fun f : Nat → Bool => show (pArr fun _ => false).size = (pArr f).size by rw [pArr_size, pArr_size])
  have HP1 := Lib.hid pArr_one
  have PZ := Lib.hid (fun (ev : Operand → Value) (o : Oper) (ho : o.op = .alloc 36) (wx : World) (N : Nat) (hN : wx.heap.size = N) => run_alloc_at points_zero ev o ho wx N hN)
  have HPI : Hid ((Try.prog.info? 24).map (·.size) = some (#[Value.int .i64 (a : Int), Value.int .i64 (b : Int)] : Array Value).size) := point_info
  have hpb : pointB (a : Int) (b : Int) = true := pointB_nat ha hb
  have herr : errP (a : Int) (b : Int) = 0 := by unfold errP; rw [hpb]; rfl
  have hat := ptF_at T ha hb
  obtain ⟨bb, hbb⟩ : ∃ bb, bitT T (a : Int) (b : Int) = bb := ⟨_, rfl⟩
  rw [hbb] at hat
  have HPB := Lib.hid hpb
  have HER := Lib.hid herr
  have HBB := Lib.hid hbb
  clear hpb herr hbb
  have HAT := Lib.hid hat
  clear hat
  have HO1 := Lib.hid okT
  have HO2 := Lib.hid okU
  clear okT okU
  have HSM := Lib.hid (eqP_same HO1.out HO2.out)
  have HWI := Lib.hid (eqP_within HO1.out HO2.out)
  have HP0 := Lib.hid (heap_alloc_new w (.cells #[.int .i64 (a : Int), .int .i64 (b : Int)] 24))
  have HE0 := Lib.hid (ff.alloc (.cells #[.int .i64 (a : Int), .int .i64 (b : Int)] 24))
  have HG0 := Lib.hid (fg.alloc (.cells #[.int .i64 (a : Int), .int .i64 (b : Int)] 24))
  have G0 := (Gr.refl w).alloc (.cells #[.int .i64 (a : Int), .int .i64 (b : Int)] 24)
  clear ff fg
  go_enter Try.func3, Try.ntmps3
  go_wp2_with (first
    | (refine BigFrame.wpList_want (by rfl) fun K hK => wp_load_row 24 (.tmp 5) rfl w.heap.size rfl 24 _ (0, 0) _ HP0.out Try.underlying24 rfl HPI.out (hK _ _ ?_)))
  refine (fhas_ok (HE0.out) (a : Int) (b : Int)).mono ?_
  rw [HBB.out, HER.out]
  rintro e w1 ⟨rfl, g1⟩
  have G1 := (G0).trans g1
  have HE_1 := Lib.hid (HE0.out.gr g1)
  clear HE0
  have HG_1 := Lib.hid (HG0.out.gr g1)
  clear HG0
  have HP_1 := Lib.hid ((Below.block g1 _ (Blk_lt HP0.out)).trans HP0.out)
  clear HP0
  clear g1 G0
  go_wp2_with fail
  refine (fwithin_ok (HE_1.out) (HG_1.out)).mono ?_
  rintro e w2 ⟨rfl, g2⟩
  have G2 := (G1).trans g2
  have HE_2 := Lib.hid (HE_1.out.gr g2)
  clear HE_1
  have HG_2 := Lib.hid (HG_1.out.gr g2)
  clear HG_1
  have HP_2 := Lib.hid ((Below.block g2 _ (Blk_lt HP_1.out)).trans HP_1.out)
  clear HP_1
  clear g2 G1
  go_wp2_with fail
  refine (fsame_ok (HE_2.out) (HG_2.out)).mono ?_
  rintro e w3 ⟨rfl, g3⟩
  have G3 := (G2).trans g3
  have HE_3 := Lib.hid (HE_2.out.gr g3)
  clear HE_2
  have HG_3 := Lib.hid (HG_2.out.gr g3)
  clear HG_2
  have HP_3 := Lib.hid ((Below.block g3 _ (Blk_lt HP_2.out)).trans HP_2.out)
  clear HP_2
  clear g3 G2
  go_wp2_with fail
  refine (fcount_ok (HE_3.out)).mono ?_
  rintro e w4 ⟨rfl, g4⟩
  have G4 := (G3).trans g4
  have HE_4 := Lib.hid (HE_3.out.gr g4)
  clear HE_3
  have HG_4 := Lib.hid (HG_3.out.gr g4)
  clear HG_3
  have HP_4 := Lib.hid ((Below.block g4 _ (Blk_lt HP_3.out)).trans HP_3.out)
  clear HP_3
  clear g4 G3
  go_wp2_with fail
  refine (rfilter_ok (by omega) (HE_4.out)).mono ?_
  rintro e w5 ⟨rfl, g5⟩
  have G5 := (G4).trans g5
  have HE_5 := Lib.hid (HE_4.out.gr g5)
  clear HE_4
  have HG_5 := Lib.hid (HG_4.out.gr g5)
  clear HG_4
  have HP_5 := Lib.hid ((Below.block g5 _ (Blk_lt HP_4.out)).trans HP_4.out)
  clear HP_4
  clear g5 G4
  go_wp2_with fail
  refine (rfilter_ok (by omega) (HE_5.out)).mono ?_
  rintro e w6 ⟨rfl, g6⟩
  have G6 := (G5).trans g6
  have HE_6 := Lib.hid (HE_5.out.gr g6)
  clear HE_5
  have HG_6 := Lib.hid (HG_5.out.gr g6)
  clear HG_5
  have HP_6 := Lib.hid ((Below.block g6 _ (Blk_lt HP_5.out)).trans HP_5.out)
  clear HP_5
  clear g6 G5
  go_wp2_with (first
    | (refine BigFrame.wpList_want (by rfl) fun K hK => wp_load_row 24 (.tmp 5) rfl w.heap.size rfl 24 _ (0, 0) _ HP_6.out Try.underlying24 rfl HPI.out (hK _ _ ?_)))
  refine says_reg6 _ (fun _ _ _ _ _ h => h) _ _ w.heap.size f (a : Int) (b : Int) (0) rfl rfl rfl rfl HP_6.out (fun wx gx => fcheck_ok (HE_6.out.gr gx)) (fun w7 g7 => ?_)
  simp only [Act.put, List.setIfInBounds_toArray, List.set_cons_zero, List.set_cons_succ]
  have G7 := (G6).trans g7
  have HE_7 := Lib.hid (HE_6.out.gr g7)
  clear HE_6
  have HG_7 := Lib.hid (HG_6.out.gr g7)
  clear HG_6
  have HP_7 := Lib.hid ((Below.block g7 _ (Blk_lt HP_6.out)).trans HP_6.out)
  clear HP_6
  clear g7 G6
  go_wp2_with fail
  refine (fevery _).mono ?_
  rintro e w8 ⟨x0, rfl, hx0, g8⟩
  have G8 := (G7).trans g8
  have HE_8 := Lib.hid (HE_7.out.gr g8)
  clear HE_7
  have HG_8 := Lib.hid (HG_7.out.gr g8)
  clear HG_7
  have HP_8 := Lib.hid ((Below.block g8 _ (Blk_lt HP_7.out)).trans HP_7.out)
  clear HP_7
  have HV_8 := Lib.hid ((hx0.le (by omega) : FS _ _ _))
  clear g8 G7
  obtain ⟨ea, el, ec, rfl, hel⟩ := fs_form hx0
  have hel' : ¬ (16 : Int) < (el : Int) := by omega
  clear hx0
  go_wp2_with fail
  refine (rfilter_ok (by omega) (HV_8.out)).mono ?_
  rintro e w9 ⟨rfl, g9⟩
  have G9 := (G8).trans g9
  have HE_9 := Lib.hid (HE_8.out.gr g9)
  clear HE_8
  have HG_9 := Lib.hid (HG_8.out.gr g9)
  clear HG_8
  have HV_9 := Lib.hid (HV_8.out.gr g9)
  clear HV_8
  have HP_9 := Lib.hid ((Below.block g9 _ (Blk_lt HP_8.out)).trans HP_8.out)
  clear HP_8
  clear g9 G8
  go_wp2_with fail
  refine (of_fs (by omega) (HV_9.out)).mono ?_
  rintro e w10 ⟨rfl, g10⟩
  have G10 := (G9).trans g10
  have HE_10 := Lib.hid (HE_9.out.gr g10)
  clear HE_9
  have HG_10 := Lib.hid (HG_9.out.gr g10)
  clear HG_9
  have HV_10 := Lib.hid (HV_9.out.gr g10)
  clear HV_9
  have HP_10 := Lib.hid ((Below.block g10 _ (Blk_lt HP_9.out)).trans HP_9.out)
  clear HP_9
  clear g10 G9
  clear HV_10
  go_wp2_with fail
  refine (many_full _).mono ?_
  rintro e w11 ⟨rfl, g11⟩
  have G11 := (G10).trans g11
  have HE_11 := Lib.hid (HE_10.out.gr g11)
  clear HE_10
  have HG_11 := Lib.hid (HG_10.out.gr g11)
  clear HG_10
  have HP_11 := Lib.hid ((Below.block g11 _ (Blk_lt HP_10.out)).trans HP_10.out)
  clear HP_10
  clear g11 G10
  clear hel
  go_wp2_with fail
  refine (rfilter_ok (by omega) (HG_11.out)).mono ?_
  rintro e w12 ⟨rfl, g12⟩
  have G12 := (G11).trans g12
  have HE_12 := Lib.hid (HE_11.out.gr g12)
  clear HE_11
  have HG_12 := Lib.hid (HG_11.out.gr g12)
  clear HG_11
  have HP_12 := Lib.hid ((Below.block g12 _ (Blk_lt HP_11.out)).trans HP_11.out)
  clear HP_11
  clear g12 G11
  go_wp2_with fail
  refine (of_fs (by omega) (HE_12.out)).mono ?_
  rintro e w13 ⟨rfl, g13⟩
  have G13 := (G12).trans g13
  have HE_13 := Lib.hid (HE_12.out.gr g13)
  clear HE_12
  have HG_13 := Lib.hid (HG_12.out.gr g13)
  clear HG_12
  have HP_13 := Lib.hid ((Below.block g13 _ (Blk_lt HP_12.out)).trans HP_12.out)
  clear HP_12
  clear g13 G12
  clear HE_13
  have HRHX := Lib.hid (heap_alloc_new w13 (.cells (pArr fun _ => false) 36))
  have gaHX : Gr w13 ((w13.alloc (.cells (pArr fun _ => false) 36)).setRow w13.heap.size (pArr (ptF T))) := (((Gr.refl w13).alloc _).setRow (Nat.le_refl _) _)
  have HNHX : Hid (((w13.alloc (.cells (pArr fun _ => false) 36)).setRow w13.heap.size (pArr (ptF T))).heap[w13.heap.size]? = some (.cells (pArr (ptF T)) 36 (0, 0))) := setRow_heap _ _ _ _ _ _ HRHX.out
  have G14 := (G13).trans gaHX
  have HG_14 := Lib.hid (HG_13.out.gr gaHX)
  clear HG_13
  have HP_14 := Lib.hid ((Below.block gaHX _ (Blk_lt HP_13.out)).trans HP_13.out)
  clear HP_13
  clear gaHX G13
  go_wp2_with (first
    | (refine Go.Great.wpList_allocTo rfl _ rfl _ _ (PZ.out _ _ rfl _ (w13.heap.size) rfl) ?_)
    | (refine wpList_store_row rfl 36 (.tmp 18) _ rfl w13.heap.size _ rfl rfl 36 _ HRHX.out (HS.out _) (HPZ.out _) (HP1.out _) ?_)
    | (refine BigFrame.wpList_want (by rfl) fun K hK => wp_load_row 24 (.tmp 5) rfl w.heap.size rfl 24 _ (0, 0) _ HP_14.out Try.underlying24 rfl HPI.out (hK _ _ ?_))
    | (refine BigFrame.wpList_want (by rfl) fun K hK => wp_load_row 36 (.tmp 18) rfl (w13.heap.size) rfl 36 _ (0, 0) _ HNHX.out Try.underlying36 rfl (HS.out _) (hK _ _ ?_)))
  refine (many_fs T _).mono ?_
  rintro e w15 ⟨rfl, g15⟩
  have G15 := (G14).trans g15
  have HG_15 := Lib.hid (HG_14.out.gr g15)
  clear HG_14
  have HP_15 := Lib.hid ((Below.block g15 _ (Blk_lt HP_14.out)).trans HP_14.out)
  clear HP_14
  have HX_15 := Lib.hid ((Below.block g15 _ (Blk_lt HNHX.out)).trans HNHX.out)
  clear HNHX
  clear g15 G14
  go_wp2_with (first
    | (refine BigFrame.wpList_want (by rfl) fun K hK => wp_load_row 24 (.tmp 5) rfl w.heap.size rfl 24 _ (0, 0) _ HP_15.out Try.underlying24 rfl HPI.out (hK _ _ ?_))
    | (refine BigFrame.wpList_want (by rfl) fun K hK => wp_load_row 36 (.tmp 18) rfl (w13.heap.size) rfl 36 _ (0, 0) _ HX_15.out Try.underlying36 rfl (HS.out _) (hK _ _ ?_)))
  refine (rpoint_any _ _ _).mono ?_
  rw [HPB.out]
  rintro e w16 ⟨rfl, g16⟩
  have G16 := (G15).trans g16
  have HG_16 := Lib.hid (HG_15.out.gr g16)
  clear HG_15
  have HP_16 := Lib.hid ((Below.block g16 _ (Blk_lt HP_15.out)).trans HP_15.out)
  clear HP_15
  have HX_16 := Lib.hid ((Below.block g16 _ (Blk_lt HX_15.out)).trans HX_15.out)
  clear HX_15
  clear g16 G15
  go_wp2_with (first
    | (refine BigFrame.wpList_want (by rfl) fun K hK => wp_load_row 24 (.tmp 5) rfl w.heap.size rfl 24 _ (0, 0) _ HP_16.out Try.underlying24 rfl HPI.out (hK _ _ ?_))
    | (refine BigFrame.wpList_want (by rfl) fun K hK => wp_load_row 36 (.tmp 18) rfl (w13.heap.size) rfl 36 _ (0, 0) _ HX_16.out Try.underlying36 rfl (HS.out _) (hK _ _ ?_)))
  refine (at_any (ptF T) a b ha hb _).mono ?_
  rw [HAT.out]
  rintro e w17 ⟨rfl, g17⟩
  have G17 := (G16).trans g17
  have HG_17 := Lib.hid (HG_16.out.gr g17)
  clear HG_16
  have HP_17 := Lib.hid ((Below.block g17 _ (Blk_lt HP_16.out)).trans HP_16.out)
  clear HP_16
  have HX_17 := Lib.hid ((Below.block g17 _ (Blk_lt HX_16.out)).trans HX_16.out)
  clear HX_16
  clear g17 G16
  cases bb
  all_goals
    go_wp2_with (first
      | (refine BigFrame.wpList_want (by rfl) fun K hK => wp_load_row 24 (.tmp 5) rfl w.heap.size rfl 24 _ (0, 0) _ HP_17.out Try.underlying24 rfl HPI.out (hK _ _ ?_))
      | (refine BigFrame.wpList_want (by rfl) fun K hK => wp_load_row 36 (.tmp 18) rfl (w13.heap.size) rfl 36 _ (0, 0) _ HX_17.out Try.underlying36 rfl (HS.out _) (hK _ _ ?_)))
    refine (of_fs (by omega) (HG_17.out)).mono ?_
    rintro e w18 ⟨rfl, g18⟩
    have G18 := (G17).trans g18
    have HG_18 := Lib.hid (HG_17.out.gr g18)
    clear HG_17
    have HP_18 := Lib.hid ((Below.block g18 _ (Blk_lt HP_17.out)).trans HP_17.out)
    clear HP_17
    have HX_18 := Lib.hid ((Below.block g18 _ (Blk_lt HX_17.out)).trans HX_17.out)
    clear HX_17
    clear g18 G17
    clear HG_18
    have HRHY := Lib.hid (heap_alloc_new w18 (.cells (pArr fun _ => false) 36))
    have gaHY : Gr w18 ((w18.alloc (.cells (pArr fun _ => false) 36)).setRow w18.heap.size (pArr (ptF U))) := (((Gr.refl w18).alloc _).setRow (Nat.le_refl _) _)
    have HNHY : Hid (((w18.alloc (.cells (pArr fun _ => false) 36)).setRow w18.heap.size (pArr (ptF U))).heap[w18.heap.size]? = some (.cells (pArr (ptF U)) 36 (0, 0))) := setRow_heap _ _ _ _ _ _ HRHY.out
    have G19 := (G18).trans gaHY
    have HP_19 := Lib.hid ((Below.block gaHY _ (Blk_lt HP_18.out)).trans HP_18.out)
    clear HP_18
    have HX_19 := Lib.hid ((Below.block gaHY _ (Blk_lt HX_18.out)).trans HX_18.out)
    clear HX_18
    clear gaHY G18
    go_wp2_with (first
      | (refine Go.Great.wpList_allocTo rfl _ rfl _ _ (PZ.out _ _ rfl _ (w18.heap.size) rfl) ?_)
      | (refine wpList_store_row rfl 36 (.tmp 19) _ rfl w18.heap.size _ rfl rfl 36 _ HRHY.out (HS.out _) (HPZ.out _) (HP1.out _) ?_)
      | (refine BigFrame.wpList_want (by rfl) fun K hK => wp_load_row 24 (.tmp 5) rfl w.heap.size rfl 24 _ (0, 0) _ HP_19.out Try.underlying24 rfl HPI.out (hK _ _ ?_))
      | (refine BigFrame.wpList_want (by rfl) fun K hK => wp_load_row 36 (.tmp 18) rfl (w13.heap.size) rfl 36 _ (0, 0) _ HX_19.out Try.underlying36 rfl (HS.out _) (hK _ _ ?_)))
    refine says_reg26 _ (fun _ _ _ _ _ h => h) _ _ (w13.heap.size) (w18.heap.size) (ptF T) (ptF U) rfl (congrArg Value.bool HWI.out.symm) rfl (congrArg Value.bool HSM.out.symm) rfl rfl rfl HX_19.out HNHY.out (fun w20 g20 => ?_)
    simp only [Act.put, List.setIfInBounds_toArray, List.set_cons_zero, List.set_cons_succ]
    have G20 := (G19).trans g20
    have HP_20 := Lib.hid ((Below.block g20 _ (Blk_lt HP_19.out)).trans HP_19.out)
    clear HP_19
    have HX_20 := Lib.hid ((Below.block g20 _ (Blk_lt HX_19.out)).trans HX_19.out)
    clear HX_19
    have HY_20 := Lib.hid ((Below.block g20 _ (Blk_lt HNHY.out)).trans HNHY.out)
    clear HNHY
    clear g20 G19
    go_wp2_with fail
    go_ret
    exact ⟨rfl, G20⟩
set_option maxHeartbeats 8000000 in
set_option maxRecDepth 100000 in
theorem filterSays_B1f (f g : Value) (T : Nat → Nat) (U : Nat → Nat) (t n : Int) (hpb : pointB t n = false) (w : World) (ff : FS w f T) (fg : FS w g U) (okT : OkT T) (okU : OkT U) :
    Calls Try.prog 3 #[f, g, .agg #[.int .i64 t, .int .i64 n]] w fun e w' => e = .returned (.bool true) ∧ Gr w w' := by
  have HS := Lib.hid pinfo
  have HPZ := Lib.hid (fun f : Nat → Bool => show (pArr fun _ => false).size = (pArr f).size by rw [pArr_size, pArr_size])
  have HP1 := Lib.hid pArr_one
  have PZ := Lib.hid (fun (ev : Operand → Value) (o : Oper) (ho : o.op = .alloc 36) (wx : World) (N : Nat) (hN : wx.heap.size = N) => run_alloc_at points_zero ev o ho wx N hN)
  have HPI : Hid ((Try.prog.info? 24).map (·.size) = some (#[Value.int .i64 t, Value.int .i64 n] : Array Value).size) := point_info
  have herr : errP t n = 1 := by unfold errP; rw [hpb]; rfl
  have hbb : bitT T t n = false := by unfold bitT; rw [hpb]; rfl
  have HPB := Lib.hid hpb
  have HER := Lib.hid herr
  have HBB := Lib.hid hbb
  clear hpb herr hbb
  have HO1 := Lib.hid okT
  have HO2 := Lib.hid okU
  clear okT okU
  have HSM := Lib.hid (eqP_same HO1.out HO2.out)
  have HWI := Lib.hid (eqP_within HO1.out HO2.out)
  have HP0 := Lib.hid (heap_alloc_new w (.cells #[.int .i64 t, .int .i64 n] 24))
  have HE0 := Lib.hid (ff.alloc (.cells #[.int .i64 t, .int .i64 n] 24))
  have HG0 := Lib.hid (fg.alloc (.cells #[.int .i64 t, .int .i64 n] 24))
  have G0 := (Gr.refl w).alloc (.cells #[.int .i64 t, .int .i64 n] 24)
  clear ff fg
  go_enter Try.func3, Try.ntmps3
  go_wp2_with (first
    | (refine BigFrame.wpList_want (by rfl) fun K hK => wp_load_row 24 (.tmp 5) rfl w.heap.size rfl 24 _ (0, 0) _ HP0.out Try.underlying24 rfl HPI.out (hK _ _ ?_)))
  refine (fhas_ok (HE0.out) t n).mono ?_
  rw [HBB.out, HER.out]
  rintro e w1 ⟨rfl, g1⟩
  have G1 := (G0).trans g1
  have HE_1 := Lib.hid (HE0.out.gr g1)
  clear HE0
  have HG_1 := Lib.hid (HG0.out.gr g1)
  clear HG0
  have HP_1 := Lib.hid ((Below.block g1 _ (Blk_lt HP0.out)).trans HP0.out)
  clear HP0
  clear g1 G0
  go_wp2_with fail
  refine (fwithin_ok (HE_1.out) (HG_1.out)).mono ?_
  rintro e w2 ⟨rfl, g2⟩
  have G2 := (G1).trans g2
  have HE_2 := Lib.hid (HE_1.out.gr g2)
  clear HE_1
  have HG_2 := Lib.hid (HG_1.out.gr g2)
  clear HG_1
  have HP_2 := Lib.hid ((Below.block g2 _ (Blk_lt HP_1.out)).trans HP_1.out)
  clear HP_1
  clear g2 G1
  go_wp2_with fail
  refine (fsame_ok (HE_2.out) (HG_2.out)).mono ?_
  rintro e w3 ⟨rfl, g3⟩
  have G3 := (G2).trans g3
  have HE_3 := Lib.hid (HE_2.out.gr g3)
  clear HE_2
  have HG_3 := Lib.hid (HG_2.out.gr g3)
  clear HG_2
  have HP_3 := Lib.hid ((Below.block g3 _ (Blk_lt HP_2.out)).trans HP_2.out)
  clear HP_2
  clear g3 G2
  go_wp2_with fail
  refine (fcount_ok (HE_3.out)).mono ?_
  rintro e w4 ⟨rfl, g4⟩
  have G4 := (G3).trans g4
  have HE_4 := Lib.hid (HE_3.out.gr g4)
  clear HE_3
  have HG_4 := Lib.hid (HG_3.out.gr g4)
  clear HG_3
  have HP_4 := Lib.hid ((Below.block g4 _ (Blk_lt HP_3.out)).trans HP_3.out)
  clear HP_3
  clear g4 G3
  go_wp2_with fail
  refine (rfilter_ok (by omega) (HE_4.out)).mono ?_
  rintro e w5 ⟨rfl, g5⟩
  have G5 := (G4).trans g5
  have HE_5 := Lib.hid (HE_4.out.gr g5)
  clear HE_4
  have HG_5 := Lib.hid (HG_4.out.gr g5)
  clear HG_4
  have HP_5 := Lib.hid ((Below.block g5 _ (Blk_lt HP_4.out)).trans HP_4.out)
  clear HP_4
  clear g5 G4
  go_wp2_with fail
  refine (rfilter_ok (by omega) (HE_5.out)).mono ?_
  rintro e w6 ⟨rfl, g6⟩
  have G6 := (G5).trans g6
  have HE_6 := Lib.hid (HE_5.out.gr g6)
  clear HE_5
  have HG_6 := Lib.hid (HG_5.out.gr g6)
  clear HG_5
  have HP_6 := Lib.hid ((Below.block g6 _ (Blk_lt HP_5.out)).trans HP_5.out)
  clear HP_5
  clear g6 G5
  go_wp2_with (first
    | (refine BigFrame.wpList_want (by rfl) fun K hK => wp_load_row 24 (.tmp 5) rfl w.heap.size rfl 24 _ (0, 0) _ HP_6.out Try.underlying24 rfl HPI.out (hK _ _ ?_)))
  refine says_reg6 _ (fun _ _ _ _ _ h => h) _ _ w.heap.size f t n (0) rfl rfl rfl rfl HP_6.out (fun wx gx => fcheck_ok (HE_6.out.gr gx)) (fun w7 g7 => ?_)
  simp only [Act.put, List.setIfInBounds_toArray, List.set_cons_zero, List.set_cons_succ]
  have G7 := (G6).trans g7
  have HE_7 := Lib.hid (HE_6.out.gr g7)
  clear HE_6
  have HG_7 := Lib.hid (HG_6.out.gr g7)
  clear HG_6
  have HP_7 := Lib.hid ((Below.block g7 _ (Blk_lt HP_6.out)).trans HP_6.out)
  clear HP_6
  clear g7 G6
  go_wp2_with fail
  refine (fevery _).mono ?_
  rintro e w8 ⟨x0, rfl, hx0, g8⟩
  have G8 := (G7).trans g8
  have HE_8 := Lib.hid (HE_7.out.gr g8)
  clear HE_7
  have HG_8 := Lib.hid (HG_7.out.gr g8)
  clear HG_7
  have HP_8 := Lib.hid ((Below.block g8 _ (Blk_lt HP_7.out)).trans HP_7.out)
  clear HP_7
  have HV_8 := Lib.hid ((hx0.le (by omega) : FS _ _ _))
  clear g8 G7
  obtain ⟨ea, el, ec, rfl, hel⟩ := fs_form hx0
  have hel' : ¬ (16 : Int) < (el : Int) := by omega
  clear hx0
  go_wp2_with fail
  refine (rfilter_ok (by omega) (HV_8.out)).mono ?_
  rintro e w9 ⟨rfl, g9⟩
  have G9 := (G8).trans g9
  have HE_9 := Lib.hid (HE_8.out.gr g9)
  clear HE_8
  have HG_9 := Lib.hid (HG_8.out.gr g9)
  clear HG_8
  have HV_9 := Lib.hid (HV_8.out.gr g9)
  clear HV_8
  have HP_9 := Lib.hid ((Below.block g9 _ (Blk_lt HP_8.out)).trans HP_8.out)
  clear HP_8
  clear g9 G8
  go_wp2_with fail
  refine (of_fs (by omega) (HV_9.out)).mono ?_
  rintro e w10 ⟨rfl, g10⟩
  have G10 := (G9).trans g10
  have HE_10 := Lib.hid (HE_9.out.gr g10)
  clear HE_9
  have HG_10 := Lib.hid (HG_9.out.gr g10)
  clear HG_9
  have HV_10 := Lib.hid (HV_9.out.gr g10)
  clear HV_9
  have HP_10 := Lib.hid ((Below.block g10 _ (Blk_lt HP_9.out)).trans HP_9.out)
  clear HP_9
  clear g10 G9
  clear HV_10
  go_wp2_with fail
  refine (many_full _).mono ?_
  rintro e w11 ⟨rfl, g11⟩
  have G11 := (G10).trans g11
  have HE_11 := Lib.hid (HE_10.out.gr g11)
  clear HE_10
  have HG_11 := Lib.hid (HG_10.out.gr g11)
  clear HG_10
  have HP_11 := Lib.hid ((Below.block g11 _ (Blk_lt HP_10.out)).trans HP_10.out)
  clear HP_10
  clear g11 G10
  clear hel
  go_wp2_with fail
  refine (rfilter_ok (by omega) (HG_11.out)).mono ?_
  rintro e w12 ⟨rfl, g12⟩
  have G12 := (G11).trans g12
  have HE_12 := Lib.hid (HE_11.out.gr g12)
  clear HE_11
  have HG_12 := Lib.hid (HG_11.out.gr g12)
  clear HG_11
  have HP_12 := Lib.hid ((Below.block g12 _ (Blk_lt HP_11.out)).trans HP_11.out)
  clear HP_11
  clear g12 G11
  go_wp2_with fail
  refine (of_fs (by omega) (HE_12.out)).mono ?_
  rintro e w13 ⟨rfl, g13⟩
  have G13 := (G12).trans g13
  have HE_13 := Lib.hid (HE_12.out.gr g13)
  clear HE_12
  have HG_13 := Lib.hid (HG_12.out.gr g13)
  clear HG_12
  have HP_13 := Lib.hid ((Below.block g13 _ (Blk_lt HP_12.out)).trans HP_12.out)
  clear HP_12
  clear g13 G12
  clear HE_13
  have HRHX := Lib.hid (heap_alloc_new w13 (.cells (pArr fun _ => false) 36))
  have gaHX : Gr w13 ((w13.alloc (.cells (pArr fun _ => false) 36)).setRow w13.heap.size (pArr (ptF T))) := (((Gr.refl w13).alloc _).setRow (Nat.le_refl _) _)
  have HNHX : Hid (((w13.alloc (.cells (pArr fun _ => false) 36)).setRow w13.heap.size (pArr (ptF T))).heap[w13.heap.size]? = some (.cells (pArr (ptF T)) 36 (0, 0))) := setRow_heap _ _ _ _ _ _ HRHX.out
  have G14 := (G13).trans gaHX
  have HG_14 := Lib.hid (HG_13.out.gr gaHX)
  clear HG_13
  have HP_14 := Lib.hid ((Below.block gaHX _ (Blk_lt HP_13.out)).trans HP_13.out)
  clear HP_13
  clear gaHX G13
  go_wp2_with (first
    | (refine Go.Great.wpList_allocTo rfl _ rfl _ _ (PZ.out _ _ rfl _ (w13.heap.size) rfl) ?_)
    | (refine wpList_store_row rfl 36 (.tmp 18) _ rfl w13.heap.size _ rfl rfl 36 _ HRHX.out (HS.out _) (HPZ.out _) (HP1.out _) ?_)
    | (refine BigFrame.wpList_want (by rfl) fun K hK => wp_load_row 24 (.tmp 5) rfl w.heap.size rfl 24 _ (0, 0) _ HP_14.out Try.underlying24 rfl HPI.out (hK _ _ ?_))
    | (refine BigFrame.wpList_want (by rfl) fun K hK => wp_load_row 36 (.tmp 18) rfl (w13.heap.size) rfl 36 _ (0, 0) _ HNHX.out Try.underlying36 rfl (HS.out _) (hK _ _ ?_)))
  refine (many_fs T _).mono ?_
  rintro e w15 ⟨rfl, g15⟩
  have G15 := (G14).trans g15
  have HG_15 := Lib.hid (HG_14.out.gr g15)
  clear HG_14
  have HP_15 := Lib.hid ((Below.block g15 _ (Blk_lt HP_14.out)).trans HP_14.out)
  clear HP_14
  have HX_15 := Lib.hid ((Below.block g15 _ (Blk_lt HNHX.out)).trans HNHX.out)
  clear HNHX
  clear g15 G14
  go_wp2_with (first
    | (refine BigFrame.wpList_want (by rfl) fun K hK => wp_load_row 24 (.tmp 5) rfl w.heap.size rfl 24 _ (0, 0) _ HP_15.out Try.underlying24 rfl HPI.out (hK _ _ ?_))
    | (refine BigFrame.wpList_want (by rfl) fun K hK => wp_load_row 36 (.tmp 18) rfl (w13.heap.size) rfl 36 _ (0, 0) _ HX_15.out Try.underlying36 rfl (HS.out _) (hK _ _ ?_)))
  refine (rpoint_any _ _ _).mono ?_
  rw [HPB.out]
  rintro e w16 ⟨rfl, g16⟩
  have G16 := (G15).trans g16
  have HG_16 := Lib.hid (HG_15.out.gr g16)
  clear HG_15
  have HP_16 := Lib.hid ((Below.block g16 _ (Blk_lt HP_15.out)).trans HP_15.out)
  clear HP_15
  have HX_16 := Lib.hid ((Below.block g16 _ (Blk_lt HX_15.out)).trans HX_15.out)
  clear HX_15
  clear g16 G15
  go_wp2_with (first
    | (refine BigFrame.wpList_want (by rfl) fun K hK => wp_load_row 24 (.tmp 5) rfl w.heap.size rfl 24 _ (0, 0) _ HP_16.out Try.underlying24 rfl HPI.out (hK _ _ ?_))
    | (refine BigFrame.wpList_want (by rfl) fun K hK => wp_load_row 36 (.tmp 18) rfl (w13.heap.size) rfl 36 _ (0, 0) _ HX_16.out Try.underlying36 rfl (HS.out _) (hK _ _ ?_)))
  refine (of_fs (by omega) (HG_16.out)).mono ?_
  rintro e w17 ⟨rfl, g17⟩
  have G17 := (G16).trans g17
  have HG_17 := Lib.hid (HG_16.out.gr g17)
  clear HG_16
  have HP_17 := Lib.hid ((Below.block g17 _ (Blk_lt HP_16.out)).trans HP_16.out)
  clear HP_16
  have HX_17 := Lib.hid ((Below.block g17 _ (Blk_lt HX_16.out)).trans HX_16.out)
  clear HX_16
  clear g17 G16
  clear HG_17
  have HRHY := Lib.hid (heap_alloc_new w17 (.cells (pArr fun _ => false) 36))
  have gaHY : Gr w17 ((w17.alloc (.cells (pArr fun _ => false) 36)).setRow w17.heap.size (pArr (ptF U))) := (((Gr.refl w17).alloc _).setRow (Nat.le_refl _) _)
  have HNHY : Hid (((w17.alloc (.cells (pArr fun _ => false) 36)).setRow w17.heap.size (pArr (ptF U))).heap[w17.heap.size]? = some (.cells (pArr (ptF U)) 36 (0, 0))) := setRow_heap _ _ _ _ _ _ HRHY.out
  have G18 := (G17).trans gaHY
  have HP_18 := Lib.hid ((Below.block gaHY _ (Blk_lt HP_17.out)).trans HP_17.out)
  clear HP_17
  have HX_18 := Lib.hid ((Below.block gaHY _ (Blk_lt HX_17.out)).trans HX_17.out)
  clear HX_17
  clear gaHY G17
  go_wp2_with (first
    | (refine Go.Great.wpList_allocTo rfl _ rfl _ _ (PZ.out _ _ rfl _ (w17.heap.size) rfl) ?_)
    | (refine wpList_store_row rfl 36 (.tmp 19) _ rfl w17.heap.size _ rfl rfl 36 _ HRHY.out (HS.out _) (HPZ.out _) (HP1.out _) ?_)
    | (refine BigFrame.wpList_want (by rfl) fun K hK => wp_load_row 24 (.tmp 5) rfl w.heap.size rfl 24 _ (0, 0) _ HP_18.out Try.underlying24 rfl HPI.out (hK _ _ ?_))
    | (refine BigFrame.wpList_want (by rfl) fun K hK => wp_load_row 36 (.tmp 18) rfl (w13.heap.size) rfl 36 _ (0, 0) _ HX_18.out Try.underlying36 rfl (HS.out _) (hK _ _ ?_)))
  refine says_reg26 _ (fun _ _ _ _ _ h => h) _ _ (w13.heap.size) (w17.heap.size) (ptF T) (ptF U) rfl (congrArg Value.bool HWI.out.symm) rfl (congrArg Value.bool HSM.out.symm) rfl rfl rfl HX_18.out HNHY.out (fun w19 g19 => ?_)
  simp only [Act.put, List.setIfInBounds_toArray, List.set_cons_zero, List.set_cons_succ]
  have G19 := (G18).trans g19
  have HP_19 := Lib.hid ((Below.block g19 _ (Blk_lt HP_18.out)).trans HP_18.out)
  clear HP_18
  have HX_19 := Lib.hid ((Below.block g19 _ (Blk_lt HX_18.out)).trans HX_18.out)
  clear HX_18
  have HY_19 := Lib.hid ((Below.block g19 _ (Blk_lt HNHY.out)).trans HNHY.out)
  clear HNHY
  clear g19 G18
  go_wp2_with fail
  go_ret
  exact ⟨rfl, G19⟩
set_option maxHeartbeats 8000000 in
set_option maxRecDepth 100000 in
theorem filterSays_B2t (f g : Value) (T : Nat → Nat) (lf lg : List BoxI) (a b : Nat) (ha : a < 16) (hb : b < 32) (w : World) (ff : FS w f T) (rf : RdF w f lf) (rg : RdF w g lg) (hf : (chkF lf == 0) = true) (hc : (chkF lg == 0) = false) :
    Calls Try.prog 3 #[f, g, .agg #[.int .i64 (a : Int), .int .i64 (b : Int)]] w fun e w' => e = .returned (.bool true) ∧ Gr w w' := by
  have HS := Lib.hid pinfo
  have HPZ := Lib.hid (fun f : Nat → Bool => show (pArr fun _ => false).size = (pArr f).size by rw [pArr_size, pArr_size])
  have HP1 := Lib.hid pArr_one
  have PZ := Lib.hid (fun (ev : Operand → Value) (o : Oper) (ho : o.op = .alloc 36) (wx : World) (N : Nat) (hN : wx.heap.size = N) => run_alloc_at points_zero ev o ho wx N hN)
  have HPI : Hid ((Try.prog.info? 24).map (·.size) = some (#[Value.int .i64 (a : Int), Value.int .i64 (b : Int)] : Array Value).size) := point_info
  have hpb : pointB (a : Int) (b : Int) = true := pointB_nat ha hb
  have herr : errP (a : Int) (b : Int) = 0 := by unfold errP; rw [hpb]; rfl
  have hat := ptF_at T ha hb
  obtain ⟨bb, hbb⟩ : ∃ bb, bitT T (a : Int) (b : Int) = bb := ⟨_, rfl⟩
  rw [hbb] at hat
  have HPB := Lib.hid hpb
  have HER := Lib.hid herr
  have HBB := Lib.hid hbb
  clear hpb herr hbb
  have HAT := Lib.hid hat
  clear hat
  have e2 : chkF2 lf lg = chkF lg := by unfold chkF2; rw [hf]; rfl
  have HC : Hid ((chkF2 lf lg == 0) = false) := by rw [e2]; exact hc
  have hc' := bne_of' hc
  clear hf
  have HP0 := Lib.hid (heap_alloc_new w (.cells #[.int .i64 (a : Int), .int .i64 (b : Int)] 24))
  have HE0 := Lib.hid (ff.alloc (.cells #[.int .i64 (a : Int), .int .i64 (b : Int)] 24))
  have HF0 := Lib.hid (rf.alloc (.cells #[.int .i64 (a : Int), .int .i64 (b : Int)] 24))
  have HG0 := Lib.hid (rg.alloc (.cells #[.int .i64 (a : Int), .int .i64 (b : Int)] 24))
  have G0 := (Gr.refl w).alloc (.cells #[.int .i64 (a : Int), .int .i64 (b : Int)] 24)
  clear ff rf rg
  go_enter Try.func3, Try.ntmps3
  go_wp2_with (first
    | (refine BigFrame.wpList_want (by rfl) fun K hK => wp_load_row 24 (.tmp 5) rfl w.heap.size rfl 24 _ (0, 0) _ HP0.out Try.underlying24 rfl HPI.out (hK _ _ ?_)))
  refine (fhas_ok (HE0.out) (a : Int) (b : Int)).mono ?_
  rw [HBB.out, HER.out]
  rintro e w1 ⟨rfl, g1⟩
  have G1 := (G0).trans g1
  have HE_1 := Lib.hid (HE0.out.gr g1)
  clear HE0
  have HF_1 := Lib.hid (HF0.out.gr g1)
  clear HF0
  have HG_1 := Lib.hid (HG0.out.gr g1)
  clear HG0
  have HP_1 := Lib.hid ((Below.block g1 _ (Blk_lt HP0.out)).trans HP0.out)
  clear HP0
  clear g1 G0
  go_wp2_with fail
  refine (fwithin_bad (HF_1.out) (HG_1.out) HC.out).mono ?_
  rw [e2]
  rintro e w2 ⟨rfl, g2⟩
  have G2 := (G1).trans g2
  have HE_2 := Lib.hid (HE_1.out.gr g2)
  clear HE_1
  have HF_2 := Lib.hid (HF_1.out.gr g2)
  clear HF_1
  have HG_2 := Lib.hid (HG_1.out.gr g2)
  clear HG_1
  have HP_2 := Lib.hid ((Below.block g2 _ (Blk_lt HP_1.out)).trans HP_1.out)
  clear HP_1
  clear g2 G1
  go_wp2_with fail
  refine (fsame_bad (HF_2.out) (HG_2.out) HC.out).mono ?_
  rw [e2]
  rintro e w3 ⟨rfl, g3⟩
  have G3 := (G2).trans g3
  have HE_3 := Lib.hid (HE_2.out.gr g3)
  clear HE_2
  have HF_3 := Lib.hid (HF_2.out.gr g3)
  clear HF_2
  have HG_3 := Lib.hid (HG_2.out.gr g3)
  clear HG_2
  have HP_3 := Lib.hid ((Below.block g3 _ (Blk_lt HP_2.out)).trans HP_2.out)
  clear HP_2
  clear g3 G2
  clear HF_3
  go_wp2_with fail
  refine (fcount_ok (HE_3.out)).mono ?_
  rintro e w4 ⟨rfl, g4⟩
  have G4 := (G3).trans g4
  have HE_4 := Lib.hid (HE_3.out.gr g4)
  clear HE_3
  have HG_4 := Lib.hid (HG_3.out.gr g4)
  clear HG_3
  have HP_4 := Lib.hid ((Below.block g4 _ (Blk_lt HP_3.out)).trans HP_3.out)
  clear HP_3
  clear g4 G3
  go_wp2_with fail
  refine (rfilter_ok (by omega) (HE_4.out)).mono ?_
  rintro e w5 ⟨rfl, g5⟩
  have G5 := (G4).trans g5
  have HE_5 := Lib.hid (HE_4.out.gr g5)
  clear HE_4
  have HG_5 := Lib.hid (HG_4.out.gr g5)
  clear HG_4
  have HP_5 := Lib.hid ((Below.block g5 _ (Blk_lt HP_4.out)).trans HP_4.out)
  clear HP_4
  clear g5 G4
  go_wp2_with fail
  refine (rfilter_ok (by omega) (HE_5.out)).mono ?_
  rintro e w6 ⟨rfl, g6⟩
  have G6 := (G5).trans g6
  have HE_6 := Lib.hid (HE_5.out.gr g6)
  clear HE_5
  have HG_6 := Lib.hid (HG_5.out.gr g6)
  clear HG_5
  have HP_6 := Lib.hid ((Below.block g6 _ (Blk_lt HP_5.out)).trans HP_5.out)
  clear HP_5
  clear g6 G5
  go_wp2_with (first
    | (refine BigFrame.wpList_want (by rfl) fun K hK => wp_load_row 24 (.tmp 5) rfl w.heap.size rfl 24 _ (0, 0) _ HP_6.out Try.underlying24 rfl HPI.out (hK _ _ ?_)))
  refine says_reg6 _ (fun _ _ _ _ _ h => h) _ _ w.heap.size f (a : Int) (b : Int) (0) rfl rfl rfl rfl HP_6.out (fun wx gx => fcheck_ok (HE_6.out.gr gx)) (fun w7 g7 => ?_)
  simp only [Act.put, List.setIfInBounds_toArray, List.set_cons_zero, List.set_cons_succ]
  have G7 := (G6).trans g7
  have HE_7 := Lib.hid (HE_6.out.gr g7)
  clear HE_6
  have HG_7 := Lib.hid (HG_6.out.gr g7)
  clear HG_6
  have HP_7 := Lib.hid ((Below.block g7 _ (Blk_lt HP_6.out)).trans HP_6.out)
  clear HP_6
  clear g7 G6
  go_wp2_with fail
  refine (fevery _).mono ?_
  rintro e w8 ⟨x0, rfl, hx0, g8⟩
  have G8 := (G7).trans g8
  have HE_8 := Lib.hid (HE_7.out.gr g8)
  clear HE_7
  have HG_8 := Lib.hid (HG_7.out.gr g8)
  clear HG_7
  have HP_8 := Lib.hid ((Below.block g8 _ (Blk_lt HP_7.out)).trans HP_7.out)
  clear HP_7
  have HV_8 := Lib.hid ((hx0.le (by omega) : FS _ _ _))
  clear g8 G7
  obtain ⟨ea, el, ec, rfl, hel⟩ := fs_form hx0
  have hel' : ¬ (16 : Int) < (el : Int) := by omega
  clear hx0
  go_wp2_with fail
  refine (rfilter_ok (by omega) (HV_8.out)).mono ?_
  rintro e w9 ⟨rfl, g9⟩
  have G9 := (G8).trans g9
  have HE_9 := Lib.hid (HE_8.out.gr g9)
  clear HE_8
  have HG_9 := Lib.hid (HG_8.out.gr g9)
  clear HG_8
  have HV_9 := Lib.hid (HV_8.out.gr g9)
  clear HV_8
  have HP_9 := Lib.hid ((Below.block g9 _ (Blk_lt HP_8.out)).trans HP_8.out)
  clear HP_8
  clear g9 G8
  go_wp2_with fail
  refine (of_fs (by omega) (HV_9.out)).mono ?_
  rintro e w10 ⟨rfl, g10⟩
  have G10 := (G9).trans g10
  have HE_10 := Lib.hid (HE_9.out.gr g10)
  clear HE_9
  have HG_10 := Lib.hid (HG_9.out.gr g10)
  clear HG_9
  have HV_10 := Lib.hid (HV_9.out.gr g10)
  clear HV_9
  have HP_10 := Lib.hid ((Below.block g10 _ (Blk_lt HP_9.out)).trans HP_9.out)
  clear HP_9
  clear g10 G9
  clear HV_10
  go_wp2_with fail
  refine (many_full _).mono ?_
  rintro e w11 ⟨rfl, g11⟩
  have G11 := (G10).trans g11
  have HE_11 := Lib.hid (HE_10.out.gr g11)
  clear HE_10
  have HG_11 := Lib.hid (HG_10.out.gr g11)
  clear HG_10
  have HP_11 := Lib.hid ((Below.block g11 _ (Blk_lt HP_10.out)).trans HP_10.out)
  clear HP_10
  clear g11 G10
  clear hel
  go_wp2_with fail
  refine (rfilter_any _ _ _ (HG_11.out)).mono ?_
  rintro e w12 ⟨rfl, g12⟩
  have G12 := (G11).trans g12
  have HE_12 := Lib.hid (HE_11.out.gr g12)
  clear HE_11
  have HG_12 := Lib.hid (HG_11.out.gr g12)
  clear HG_11
  have HP_12 := Lib.hid ((Below.block g12 _ (Blk_lt HP_11.out)).trans HP_11.out)
  clear HP_11
  clear g12 G11
  clear HG_12
  go_wp2_with fail
  refine (of_fs (by omega) (HE_12.out)).mono ?_
  rintro e w13 ⟨rfl, g13⟩
  have G13 := (G12).trans g13
  have HE_13 := Lib.hid (HE_12.out.gr g13)
  clear HE_12
  have HP_13 := Lib.hid ((Below.block g13 _ (Blk_lt HP_12.out)).trans HP_12.out)
  clear HP_12
  clear g13 G12
  clear HE_13
  generalize chkF lg = cv at *
  have HRHX := Lib.hid (heap_alloc_new w13 (.cells (pArr fun _ => false) 36))
  have gaHX : Gr w13 ((w13.alloc (.cells (pArr fun _ => false) 36)).setRow w13.heap.size (pArr (ptF T))) := (((Gr.refl w13).alloc _).setRow (Nat.le_refl _) _)
  have HNHX : Hid (((w13.alloc (.cells (pArr fun _ => false) 36)).setRow w13.heap.size (pArr (ptF T))).heap[w13.heap.size]? = some (.cells (pArr (ptF T)) 36 (0, 0))) := setRow_heap _ _ _ _ _ _ HRHX.out
  have G14 := (G13).trans gaHX
  have HP_14 := Lib.hid ((Below.block gaHX _ (Blk_lt HP_13.out)).trans HP_13.out)
  clear HP_13
  clear gaHX G13
  go_wp2_with (first
    | (refine Go.Great.wpList_allocTo rfl _ rfl _ _ (PZ.out _ _ rfl _ (w13.heap.size) rfl) ?_)
    | (refine wpList_store_row rfl 36 (.tmp 18) _ rfl w13.heap.size _ rfl rfl 36 _ HRHX.out (HS.out _) (HPZ.out _) (HP1.out _) ?_)
    | (refine BigFrame.wpList_want (by rfl) fun K hK => wp_load_row 24 (.tmp 5) rfl w.heap.size rfl 24 _ (0, 0) _ HP_14.out Try.underlying24 rfl HPI.out (hK _ _ ?_))
    | (refine BigFrame.wpList_want (by rfl) fun K hK => wp_load_row 36 (.tmp 18) rfl (w13.heap.size) rfl 36 _ (0, 0) _ HNHX.out Try.underlying36 rfl (HS.out _) (hK _ _ ?_)))
  refine (many_fs T _).mono ?_
  rintro e w15 ⟨rfl, g15⟩
  have G15 := (G14).trans g15
  have HP_15 := Lib.hid ((Below.block g15 _ (Blk_lt HP_14.out)).trans HP_14.out)
  clear HP_14
  have HX_15 := Lib.hid ((Below.block g15 _ (Blk_lt HNHX.out)).trans HNHX.out)
  clear HNHX
  clear g15 G14
  go_wp2_with (first
    | (refine BigFrame.wpList_want (by rfl) fun K hK => wp_load_row 24 (.tmp 5) rfl w.heap.size rfl 24 _ (0, 0) _ HP_15.out Try.underlying24 rfl HPI.out (hK _ _ ?_))
    | (refine BigFrame.wpList_want (by rfl) fun K hK => wp_load_row 36 (.tmp 18) rfl (w13.heap.size) rfl 36 _ (0, 0) _ HX_15.out Try.underlying36 rfl (HS.out _) (hK _ _ ?_)))
  refine (rpoint_any _ _ _).mono ?_
  rw [HPB.out]
  rintro e w16 ⟨rfl, g16⟩
  have G16 := (G15).trans g16
  have HP_16 := Lib.hid ((Below.block g16 _ (Blk_lt HP_15.out)).trans HP_15.out)
  clear HP_15
  have HX_16 := Lib.hid ((Below.block g16 _ (Blk_lt HX_15.out)).trans HX_15.out)
  clear HX_15
  clear g16 G15
  go_wp2_with (first
    | (refine BigFrame.wpList_want (by rfl) fun K hK => wp_load_row 24 (.tmp 5) rfl w.heap.size rfl 24 _ (0, 0) _ HP_16.out Try.underlying24 rfl HPI.out (hK _ _ ?_))
    | (refine BigFrame.wpList_want (by rfl) fun K hK => wp_load_row 36 (.tmp 18) rfl (w13.heap.size) rfl 36 _ (0, 0) _ HX_16.out Try.underlying36 rfl (HS.out _) (hK _ _ ?_)))
  refine (at_any (ptF T) a b ha hb _).mono ?_
  rw [HAT.out]
  rintro e w17 ⟨rfl, g17⟩
  have G17 := (G16).trans g17
  have HP_17 := Lib.hid ((Below.block g17 _ (Blk_lt HP_16.out)).trans HP_16.out)
  clear HP_16
  have HX_17 := Lib.hid ((Below.block g17 _ (Blk_lt HX_16.out)).trans HX_16.out)
  clear HX_16
  clear g17 G16
  cases bb
  all_goals
    go_wp2_with (first
      | (refine BigFrame.wpList_want (by rfl) fun K hK => wp_load_row 24 (.tmp 5) rfl w.heap.size rfl 24 _ (0, 0) _ HP_17.out Try.underlying24 rfl HPI.out (hK _ _ ?_))
      | (refine BigFrame.wpList_want (by rfl) fun K hK => wp_load_row 36 (.tmp 18) rfl (w13.heap.size) rfl 36 _ (0, 0) _ HX_17.out Try.underlying36 rfl (HS.out _) (hK _ _ ?_)))
    go_ret
    exact ⟨rfl, G17⟩
set_option maxHeartbeats 8000000 in
set_option maxRecDepth 100000 in
theorem filterSays_B2f (f g : Value) (T : Nat → Nat) (lf lg : List BoxI) (t n : Int) (hpb : pointB t n = false) (w : World) (ff : FS w f T) (rf : RdF w f lf) (rg : RdF w g lg) (hf : (chkF lf == 0) = true) (hc : (chkF lg == 0) = false) :
    Calls Try.prog 3 #[f, g, .agg #[.int .i64 t, .int .i64 n]] w fun e w' => e = .returned (.bool true) ∧ Gr w w' := by
  have HS := Lib.hid pinfo
  have HPZ := Lib.hid (fun f : Nat → Bool => show (pArr fun _ => false).size = (pArr f).size by rw [pArr_size, pArr_size])
  have HP1 := Lib.hid pArr_one
  have PZ := Lib.hid (fun (ev : Operand → Value) (o : Oper) (ho : o.op = .alloc 36) (wx : World) (N : Nat) (hN : wx.heap.size = N) => run_alloc_at points_zero ev o ho wx N hN)
  have HPI : Hid ((Try.prog.info? 24).map (·.size) = some (#[Value.int .i64 t, Value.int .i64 n] : Array Value).size) := point_info
  have herr : errP t n = 1 := by unfold errP; rw [hpb]; rfl
  have hbb : bitT T t n = false := by unfold bitT; rw [hpb]; rfl
  have HPB := Lib.hid hpb
  have HER := Lib.hid herr
  have HBB := Lib.hid hbb
  clear hpb herr hbb
  have e2 : chkF2 lf lg = chkF lg := by unfold chkF2; rw [hf]; rfl
  have HC : Hid ((chkF2 lf lg == 0) = false) := by rw [e2]; exact hc
  have hc' := bne_of' hc
  clear hf
  have HP0 := Lib.hid (heap_alloc_new w (.cells #[.int .i64 t, .int .i64 n] 24))
  have HE0 := Lib.hid (ff.alloc (.cells #[.int .i64 t, .int .i64 n] 24))
  have HF0 := Lib.hid (rf.alloc (.cells #[.int .i64 t, .int .i64 n] 24))
  have HG0 := Lib.hid (rg.alloc (.cells #[.int .i64 t, .int .i64 n] 24))
  have G0 := (Gr.refl w).alloc (.cells #[.int .i64 t, .int .i64 n] 24)
  clear ff rf rg
  go_enter Try.func3, Try.ntmps3
  go_wp2_with (first
    | (refine BigFrame.wpList_want (by rfl) fun K hK => wp_load_row 24 (.tmp 5) rfl w.heap.size rfl 24 _ (0, 0) _ HP0.out Try.underlying24 rfl HPI.out (hK _ _ ?_)))
  refine (fhas_ok (HE0.out) t n).mono ?_
  rw [HBB.out, HER.out]
  rintro e w1 ⟨rfl, g1⟩
  have G1 := (G0).trans g1
  have HE_1 := Lib.hid (HE0.out.gr g1)
  clear HE0
  have HF_1 := Lib.hid (HF0.out.gr g1)
  clear HF0
  have HG_1 := Lib.hid (HG0.out.gr g1)
  clear HG0
  have HP_1 := Lib.hid ((Below.block g1 _ (Blk_lt HP0.out)).trans HP0.out)
  clear HP0
  clear g1 G0
  go_wp2_with fail
  refine (fwithin_bad (HF_1.out) (HG_1.out) HC.out).mono ?_
  rw [e2]
  rintro e w2 ⟨rfl, g2⟩
  have G2 := (G1).trans g2
  have HE_2 := Lib.hid (HE_1.out.gr g2)
  clear HE_1
  have HF_2 := Lib.hid (HF_1.out.gr g2)
  clear HF_1
  have HG_2 := Lib.hid (HG_1.out.gr g2)
  clear HG_1
  have HP_2 := Lib.hid ((Below.block g2 _ (Blk_lt HP_1.out)).trans HP_1.out)
  clear HP_1
  clear g2 G1
  go_wp2_with fail
  refine (fsame_bad (HF_2.out) (HG_2.out) HC.out).mono ?_
  rw [e2]
  rintro e w3 ⟨rfl, g3⟩
  have G3 := (G2).trans g3
  have HE_3 := Lib.hid (HE_2.out.gr g3)
  clear HE_2
  have HF_3 := Lib.hid (HF_2.out.gr g3)
  clear HF_2
  have HG_3 := Lib.hid (HG_2.out.gr g3)
  clear HG_2
  have HP_3 := Lib.hid ((Below.block g3 _ (Blk_lt HP_2.out)).trans HP_2.out)
  clear HP_2
  clear g3 G2
  clear HF_3
  go_wp2_with fail
  refine (fcount_ok (HE_3.out)).mono ?_
  rintro e w4 ⟨rfl, g4⟩
  have G4 := (G3).trans g4
  have HE_4 := Lib.hid (HE_3.out.gr g4)
  clear HE_3
  have HG_4 := Lib.hid (HG_3.out.gr g4)
  clear HG_3
  have HP_4 := Lib.hid ((Below.block g4 _ (Blk_lt HP_3.out)).trans HP_3.out)
  clear HP_3
  clear g4 G3
  go_wp2_with fail
  refine (rfilter_ok (by omega) (HE_4.out)).mono ?_
  rintro e w5 ⟨rfl, g5⟩
  have G5 := (G4).trans g5
  have HE_5 := Lib.hid (HE_4.out.gr g5)
  clear HE_4
  have HG_5 := Lib.hid (HG_4.out.gr g5)
  clear HG_4
  have HP_5 := Lib.hid ((Below.block g5 _ (Blk_lt HP_4.out)).trans HP_4.out)
  clear HP_4
  clear g5 G4
  go_wp2_with fail
  refine (rfilter_ok (by omega) (HE_5.out)).mono ?_
  rintro e w6 ⟨rfl, g6⟩
  have G6 := (G5).trans g6
  have HE_6 := Lib.hid (HE_5.out.gr g6)
  clear HE_5
  have HG_6 := Lib.hid (HG_5.out.gr g6)
  clear HG_5
  have HP_6 := Lib.hid ((Below.block g6 _ (Blk_lt HP_5.out)).trans HP_5.out)
  clear HP_5
  clear g6 G5
  go_wp2_with (first
    | (refine BigFrame.wpList_want (by rfl) fun K hK => wp_load_row 24 (.tmp 5) rfl w.heap.size rfl 24 _ (0, 0) _ HP_6.out Try.underlying24 rfl HPI.out (hK _ _ ?_)))
  refine says_reg6 _ (fun _ _ _ _ _ h => h) _ _ w.heap.size f t n (0) rfl rfl rfl rfl HP_6.out (fun wx gx => fcheck_ok (HE_6.out.gr gx)) (fun w7 g7 => ?_)
  simp only [Act.put, List.setIfInBounds_toArray, List.set_cons_zero, List.set_cons_succ]
  have G7 := (G6).trans g7
  have HE_7 := Lib.hid (HE_6.out.gr g7)
  clear HE_6
  have HG_7 := Lib.hid (HG_6.out.gr g7)
  clear HG_6
  have HP_7 := Lib.hid ((Below.block g7 _ (Blk_lt HP_6.out)).trans HP_6.out)
  clear HP_6
  clear g7 G6
  go_wp2_with fail
  refine (fevery _).mono ?_
  rintro e w8 ⟨x0, rfl, hx0, g8⟩
  have G8 := (G7).trans g8
  have HE_8 := Lib.hid (HE_7.out.gr g8)
  clear HE_7
  have HG_8 := Lib.hid (HG_7.out.gr g8)
  clear HG_7
  have HP_8 := Lib.hid ((Below.block g8 _ (Blk_lt HP_7.out)).trans HP_7.out)
  clear HP_7
  have HV_8 := Lib.hid ((hx0.le (by omega) : FS _ _ _))
  clear g8 G7
  obtain ⟨ea, el, ec, rfl, hel⟩ := fs_form hx0
  have hel' : ¬ (16 : Int) < (el : Int) := by omega
  clear hx0
  go_wp2_with fail
  refine (rfilter_ok (by omega) (HV_8.out)).mono ?_
  rintro e w9 ⟨rfl, g9⟩
  have G9 := (G8).trans g9
  have HE_9 := Lib.hid (HE_8.out.gr g9)
  clear HE_8
  have HG_9 := Lib.hid (HG_8.out.gr g9)
  clear HG_8
  have HV_9 := Lib.hid (HV_8.out.gr g9)
  clear HV_8
  have HP_9 := Lib.hid ((Below.block g9 _ (Blk_lt HP_8.out)).trans HP_8.out)
  clear HP_8
  clear g9 G8
  go_wp2_with fail
  refine (of_fs (by omega) (HV_9.out)).mono ?_
  rintro e w10 ⟨rfl, g10⟩
  have G10 := (G9).trans g10
  have HE_10 := Lib.hid (HE_9.out.gr g10)
  clear HE_9
  have HG_10 := Lib.hid (HG_9.out.gr g10)
  clear HG_9
  have HV_10 := Lib.hid (HV_9.out.gr g10)
  clear HV_9
  have HP_10 := Lib.hid ((Below.block g10 _ (Blk_lt HP_9.out)).trans HP_9.out)
  clear HP_9
  clear g10 G9
  clear HV_10
  go_wp2_with fail
  refine (many_full _).mono ?_
  rintro e w11 ⟨rfl, g11⟩
  have G11 := (G10).trans g11
  have HE_11 := Lib.hid (HE_10.out.gr g11)
  clear HE_10
  have HG_11 := Lib.hid (HG_10.out.gr g11)
  clear HG_10
  have HP_11 := Lib.hid ((Below.block g11 _ (Blk_lt HP_10.out)).trans HP_10.out)
  clear HP_10
  clear g11 G10
  clear hel
  go_wp2_with fail
  refine (rfilter_any _ _ _ (HG_11.out)).mono ?_
  rintro e w12 ⟨rfl, g12⟩
  have G12 := (G11).trans g12
  have HE_12 := Lib.hid (HE_11.out.gr g12)
  clear HE_11
  have HG_12 := Lib.hid (HG_11.out.gr g12)
  clear HG_11
  have HP_12 := Lib.hid ((Below.block g12 _ (Blk_lt HP_11.out)).trans HP_11.out)
  clear HP_11
  clear g12 G11
  clear HG_12
  go_wp2_with fail
  refine (of_fs (by omega) (HE_12.out)).mono ?_
  rintro e w13 ⟨rfl, g13⟩
  have G13 := (G12).trans g13
  have HE_13 := Lib.hid (HE_12.out.gr g13)
  clear HE_12
  have HP_13 := Lib.hid ((Below.block g13 _ (Blk_lt HP_12.out)).trans HP_12.out)
  clear HP_12
  clear g13 G12
  clear HE_13
  generalize chkF lg = cv at *
  have HRHX := Lib.hid (heap_alloc_new w13 (.cells (pArr fun _ => false) 36))
  have gaHX : Gr w13 ((w13.alloc (.cells (pArr fun _ => false) 36)).setRow w13.heap.size (pArr (ptF T))) := (((Gr.refl w13).alloc _).setRow (Nat.le_refl _) _)
  have HNHX : Hid (((w13.alloc (.cells (pArr fun _ => false) 36)).setRow w13.heap.size (pArr (ptF T))).heap[w13.heap.size]? = some (.cells (pArr (ptF T)) 36 (0, 0))) := setRow_heap _ _ _ _ _ _ HRHX.out
  have G14 := (G13).trans gaHX
  have HP_14 := Lib.hid ((Below.block gaHX _ (Blk_lt HP_13.out)).trans HP_13.out)
  clear HP_13
  clear gaHX G13
  go_wp2_with (first
    | (refine Go.Great.wpList_allocTo rfl _ rfl _ _ (PZ.out _ _ rfl _ (w13.heap.size) rfl) ?_)
    | (refine wpList_store_row rfl 36 (.tmp 18) _ rfl w13.heap.size _ rfl rfl 36 _ HRHX.out (HS.out _) (HPZ.out _) (HP1.out _) ?_)
    | (refine BigFrame.wpList_want (by rfl) fun K hK => wp_load_row 24 (.tmp 5) rfl w.heap.size rfl 24 _ (0, 0) _ HP_14.out Try.underlying24 rfl HPI.out (hK _ _ ?_))
    | (refine BigFrame.wpList_want (by rfl) fun K hK => wp_load_row 36 (.tmp 18) rfl (w13.heap.size) rfl 36 _ (0, 0) _ HNHX.out Try.underlying36 rfl (HS.out _) (hK _ _ ?_)))
  refine (many_fs T _).mono ?_
  rintro e w15 ⟨rfl, g15⟩
  have G15 := (G14).trans g15
  have HP_15 := Lib.hid ((Below.block g15 _ (Blk_lt HP_14.out)).trans HP_14.out)
  clear HP_14
  have HX_15 := Lib.hid ((Below.block g15 _ (Blk_lt HNHX.out)).trans HNHX.out)
  clear HNHX
  clear g15 G14
  go_wp2_with (first
    | (refine BigFrame.wpList_want (by rfl) fun K hK => wp_load_row 24 (.tmp 5) rfl w.heap.size rfl 24 _ (0, 0) _ HP_15.out Try.underlying24 rfl HPI.out (hK _ _ ?_))
    | (refine BigFrame.wpList_want (by rfl) fun K hK => wp_load_row 36 (.tmp 18) rfl (w13.heap.size) rfl 36 _ (0, 0) _ HX_15.out Try.underlying36 rfl (HS.out _) (hK _ _ ?_)))
  refine (rpoint_any _ _ _).mono ?_
  rw [HPB.out]
  rintro e w16 ⟨rfl, g16⟩
  have G16 := (G15).trans g16
  have HP_16 := Lib.hid ((Below.block g16 _ (Blk_lt HP_15.out)).trans HP_15.out)
  clear HP_15
  have HX_16 := Lib.hid ((Below.block g16 _ (Blk_lt HX_15.out)).trans HX_15.out)
  clear HX_15
  clear g16 G15
  go_wp2_with (first
    | (refine BigFrame.wpList_want (by rfl) fun K hK => wp_load_row 24 (.tmp 5) rfl w.heap.size rfl 24 _ (0, 0) _ HP_16.out Try.underlying24 rfl HPI.out (hK _ _ ?_))
    | (refine BigFrame.wpList_want (by rfl) fun K hK => wp_load_row 36 (.tmp 18) rfl (w13.heap.size) rfl 36 _ (0, 0) _ HX_16.out Try.underlying36 rfl (HS.out _) (hK _ _ ?_)))
  go_ret
  exact ⟨rfl, G16⟩
theorem filterSays_walk (v : Value) (l : List BoxI) (v' : Value) (r : List BoxI) (t n : Int) (w : World) (hl : RdF w v l) (hr : RdF w v' r) :
    Calls Try.prog 3 #[v, v', .agg #[.int .i64 t, .int .i64 n]] w fun e w' => e = .returned (.bool true) ∧ Gr w w' := by
  cases h1 : (chkF l == 0)
  · exact filterSays_A v v' l r t n w hl hr h1
  · obtain ⟨T, a, b⟩ := fs_of hl h1
    cases hp : pointB t n
    · cases h2 : (chkF r == 0)
      · exact filterSays_B2f v v' T l r t n hp w a hl hr h1 h2
      · obtain ⟨U, c, d⟩ := fs_of hr h2
        exact filterSays_B1f v v' T U t n hp w a c b d
    · obtain ⟨x, y, hx, hy, rfl, rfl⟩ := point_of hp
      cases h2 : (chkF r == 0)
      · exact filterSays_B2t v v' T l r x y hx hy w a hl hr h1 h2
      · obtain ⟨U, c, d⟩ := fs_of hr h2
        exact filterSays_B1t v v' T U x y hx hy w a c b d
end Go.Proofs.Ytphcjjhfgpdhcaa
