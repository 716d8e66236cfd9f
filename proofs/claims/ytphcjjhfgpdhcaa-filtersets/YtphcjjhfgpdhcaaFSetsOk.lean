/- The walk of FilterSets, at filters. -/
import Derived.Test.YtphcjjhfgpdhcaaRefE
namespace Go.Proofs.Ytphcjjhfgpdhcaa
open Go.RowKit Rm
set_option linter.unusedVariables false

set_option maxHeartbeats 8000000 in
set_option maxRecDepth 100000 in
theorem filterSets_ok (f g : Value) (T U : Nat → Nat) (w : World) (ff : FS w f T) (fg : FS w g U) (okT : OkT T) (okU : OkT U) :
    Calls Try.prog 4 #[f, g] w fun e w' => e = .returned (.bool true) ∧ Gr w w' := by
  have HS := Lib.hid pinfo
  have HPZ := Lib.hid (fun f : Nat → Bool => show (pArr fun _ => false).size = (pArr f).size by rw [pArr_size, pArr_size])
  have HP1 := Lib.hid pArr_one
  have PZ := Lib.hid (fun (ev : Operand → Value) (o : Oper) (ho : o.op = .alloc 36) (wx : World) (N : Nat) (hN : wx.heap.size = N) => run_alloc_at points_zero ev o ho wx N hN)
  have HO1 := Lib.hid okT
  have HO2 := Lib.hid okU
  clear okT okU
  have HF0 := Lib.hid ff
  have HG0 := Lib.hid fg
  clear ff fg
  go_enter Try.func4, Try.ntmps4
  go_wp2_with fail
  refine (fjoin_ok (HF0.out) (HG0.out)).mono ?_
  rintro e w1 ⟨u1, rfl, h1, g1⟩
  have G1 := (Gr.refl _).trans g1
  have HF_1 := Lib.hid (HF0.out.gr g1)
  clear HF0
  have HG_1 := Lib.hid (HG0.out.gr g1)
  clear HG0
  have HJ_1 := Lib.hid (h1)
  clear g1
  clear h1
  go_wp2_with fail
  refine (fmeet_ok (HF_1.out) (HG_1.out)).mono ?_
  rintro e w2 ⟨u2, rfl, h2, g2⟩
  have G2 := (G1).trans g2
  have HF_2 := Lib.hid (HF_1.out.gr g2)
  clear HF_1
  have HG_2 := Lib.hid (HG_1.out.gr g2)
  clear HG_1
  have HJ_2 := Lib.hid (HJ_1.out.gr g2)
  clear HJ_1
  have HM_2 := Lib.hid (h2)
  clear g2 G1
  clear h2
  go_wp2_with fail
  refine (fless_ok (HF_2.out) (HG_2.out)).mono ?_
  rintro e w3 ⟨u3, rfl, h3, g3⟩
  have G3 := (G2).trans g3
  have HF_3 := Lib.hid (HF_2.out.gr g3)
  clear HF_2
  have HG_3 := Lib.hid (HG_2.out.gr g3)
  clear HG_2
  have HJ_3 := Lib.hid (HJ_2.out.gr g3)
  clear HJ_2
  have HM_3 := Lib.hid (HM_2.out.gr g3)
  clear HM_2
  have HL_3 := Lib.hid (h3)
  clear g3 G2
  clear h3
  go_wp2_with fail
  refine (fevery _).mono ?_
  rintro e w4 ⟨x0, rfl, hx0, g4⟩
  have G4 := (G3).trans g4
  have HF_4 := Lib.hid (HF_3.out.gr g4)
  clear HF_3
  have HG_4 := Lib.hid (HG_3.out.gr g4)
  clear HG_3
  have HJ_4 := Lib.hid (HJ_3.out.gr g4)
  clear HJ_3
  have HM_4 := Lib.hid (HM_3.out.gr g4)
  clear HM_3
  have HL_4 := Lib.hid (HL_3.out.gr g4)
  clear HL_3
  have HX_4 := Lib.hid ((hx0.le (by omega) : FS _ _ _))
  clear g4 G3
  clear hx0
  go_wp2_with fail
  refine (fless_ok (HX_4.out) (fs_nil _)).mono ?_
  rintro e w5 ⟨x1, rfl, hx1, g5⟩
  have G5 := (G4).trans g5
  have HF_5 := Lib.hid (HF_4.out.gr g5)
  clear HF_4
  have HG_5 := Lib.hid (HG_4.out.gr g5)
  clear HG_4
  have HJ_5 := Lib.hid (HJ_4.out.gr g5)
  clear HJ_4
  have HM_5 := Lib.hid (HM_4.out.gr g5)
  clear HM_4
  have HL_5 := Lib.hid (HL_4.out.gr g5)
  clear HL_4
  have HX_5 := Lib.hid (HX_4.out.gr g5)
  clear HX_4
  have HY_5 := Lib.hid (hx1.ext (fun t _ => lessFull t))
  clear g5 G4
  clear hx1
  clear HX_5
  go_wp2_with fail
  refine (rfilter_ok (by omega) (HY_5.out)).mono ?_
  rintro e w6 ⟨rfl, g6⟩
  have G6 := (G5).trans g6
  have HF_6 := Lib.hid (HF_5.out.gr g6)
  clear HF_5
  have HG_6 := Lib.hid (HG_5.out.gr g6)
  clear HG_5
  have HJ_6 := Lib.hid (HJ_5.out.gr g6)
  clear HJ_5
  have HM_6 := Lib.hid (HM_5.out.gr g6)
  clear HM_5
  have HL_6 := Lib.hid (HL_5.out.gr g6)
  clear HL_5
  have HY_6 := Lib.hid (HY_5.out.gr g6)
  clear HY_5
  clear g6 G5
  go_wp2_with fail
  refine (of_fs (by omega) (HY_6.out)).mono ?_
  rintro e w7 ⟨rfl, g7⟩
  have G7 := (G6).trans g7
  have HF_7 := Lib.hid (HF_6.out.gr g7)
  clear HF_6
  have HG_7 := Lib.hid (HG_6.out.gr g7)
  clear HG_6
  have HJ_7 := Lib.hid (HJ_6.out.gr g7)
  clear HJ_6
  have HM_7 := Lib.hid (HM_6.out.gr g7)
  clear HM_6
  have HL_7 := Lib.hid (HL_6.out.gr g7)
  clear HL_6
  have HY_7 := Lib.hid (HY_6.out.gr g7)
  clear HY_6
  clear g7 G6
  clear HY_7
  go_wp2_with fail
  refine (many_full _).mono ?_
  rintro e w8 ⟨rfl, g8⟩
  have G8 := (G7).trans g8
  have HF_8 := Lib.hid (HF_7.out.gr g8)
  clear HF_7
  have HG_8 := Lib.hid (HG_7.out.gr g8)
  clear HG_7
  have HJ_8 := Lib.hid (HJ_7.out.gr g8)
  clear HJ_7
  have HM_8 := Lib.hid (HM_7.out.gr g8)
  clear HM_7
  have HL_8 := Lib.hid (HL_7.out.gr g8)
  clear HL_7
  clear g8 G7
  go_wp2_with fail
  refine (rfilter_ok (by omega) (HF_8.out)).mono ?_
  rintro e w9 ⟨rfl, g9⟩
  have G9 := (G8).trans g9
  have HF_9 := Lib.hid (HF_8.out.gr g9)
  clear HF_8
  have HG_9 := Lib.hid (HG_8.out.gr g9)
  clear HG_8
  have HJ_9 := Lib.hid (HJ_8.out.gr g9)
  clear HJ_8
  have HM_9 := Lib.hid (HM_8.out.gr g9)
  clear HM_8
  have HL_9 := Lib.hid (HL_8.out.gr g9)
  clear HL_8
  clear g9 G8
  go_wp2_with fail
  refine (rfilter_ok (by omega) (HG_9.out)).mono ?_
  rintro e w10 ⟨rfl, g10⟩
  have G10 := (G9).trans g10
  have HF_10 := Lib.hid (HF_9.out.gr g10)
  clear HF_9
  have HG_10 := Lib.hid (HG_9.out.gr g10)
  clear HG_9
  have HJ_10 := Lib.hid (HJ_9.out.gr g10)
  clear HJ_9
  have HM_10 := Lib.hid (HM_9.out.gr g10)
  clear HM_9
  have HL_10 := Lib.hid (HL_9.out.gr g10)
  clear HL_9
  clear g10 G9
  go_wp2_with fail
  refine (of_fs (by omega) (HF_10.out)).mono ?_
  rintro e w11 ⟨rfl, g11⟩
  have G11 := (G10).trans g11
  have HF_11 := Lib.hid (HF_10.out.gr g11)
  clear HF_10
  have HG_11 := Lib.hid (HG_10.out.gr g11)
  clear HG_10
  have HJ_11 := Lib.hid (HJ_10.out.gr g11)
  clear HJ_10
  have HM_11 := Lib.hid (HM_10.out.gr g11)
  clear HM_10
  have HL_11 := Lib.hid (HL_10.out.gr g11)
  clear HL_10
  clear g11 G10
  go_wp2_with fail
  refine (of_fs (by omega) (HG_11.out)).mono ?_
  rintro e w12 ⟨rfl, g12⟩
  have G12 := (G11).trans g12
  have HF_12 := Lib.hid (HF_11.out.gr g12)
  clear HF_11
  have HG_12 := Lib.hid (HG_11.out.gr g12)
  clear HG_11
  have HJ_12 := Lib.hid (HJ_11.out.gr g12)
  clear HJ_11
  have HM_12 := Lib.hid (HM_11.out.gr g12)
  clear HM_11
  have HL_12 := Lib.hid (HL_11.out.gr g12)
  clear HL_11
  clear g12 G11
  clear HF_12
  clear HG_12
  have HR0 := Lib.hid (heap_alloc2_old w12 (.cells (pArr fun _ => false) 36) (.cells (pArr fun _ => false) 36))
  have HR1 := Lib.hid ((setRow_other ((w12.alloc (.cells (pArr fun _ => false) 36)).alloc (.cells (pArr fun _ => false) 36)) w12.heap.size (w12.heap.size + 1) (pArr (ptF T)) (by omega)).trans (heap_alloc2_new w12 (.cells (pArr fun _ => false) 36) (.cells (pArr fun _ => false) 36)))
  have ga : Gr w12 ((((w12.alloc (.cells (pArr fun _ => false) 36)).alloc (.cells (pArr fun _ => false) 36)).setRow w12.heap.size (pArr (ptF T))).setRow (w12.heap.size + 1) (pArr (ptF U))) := ((((Gr.refl w12).alloc _).alloc _).setRow (Nat.le_refl _) _).setRow (by omega) _
  have HA0 : Hid (((((w12.alloc (.cells (pArr fun _ => false) 36)).alloc (.cells (pArr fun _ => false) 36)).setRow w12.heap.size (pArr (ptF T))).setRow (w12.heap.size + 1) (pArr (ptF U))).heap[w12.heap.size]? = some (.cells (pArr (ptF T)) 36 (0, 0))) := (setRow_other _ _ _ _ (by omega)).trans (setRow_heap _ _ _ _ _ _ HR0.out)
  have HA1 : Hid (((((w12.alloc (.cells (pArr fun _ => false) 36)).alloc (.cells (pArr fun _ => false) 36)).setRow w12.heap.size (pArr (ptF T))).setRow (w12.heap.size + 1) (pArr (ptF U))).heap[w12.heap.size + 1]? = some (.cells (pArr (ptF U)) 36 (0, 0))) := setRow_heap _ _ _ _ _ _ HR1.out
  have G13 := (G12).trans ga
  have HJ_13 := Lib.hid (HJ_12.out.gr ga)
  clear HJ_12
  have HM_13 := Lib.hid (HM_12.out.gr ga)
  clear HM_12
  have HL_13 := Lib.hid (HL_12.out.gr ga)
  clear HL_12
  clear ga G12
  go_wp2_with (first
    | (refine Go.Great.wpList_allocTo rfl _ rfl _ _ (PZ.out _ _ rfl _ (w12.heap.size) rfl) ?_)
    | (refine Go.Great.wpList_allocTo rfl _ rfl _ _ (PZ.out _ _ rfl _ (w12.heap.size + 1) (World.size_alloc _ _)) ?_)
    | (refine wpList_store_row rfl 36 (.tmp 14) _ rfl w12.heap.size _ rfl rfl 36 _ HR0.out (HS.out _) (HPZ.out _) (HP1.out _) ?_)
    | (refine wpList_store_row rfl 36 (.tmp 15) _ rfl (w12.heap.size + 1) _ rfl rfl 36 _ HR1.out (HS.out _) (HPZ.out _) (HP1.out _) ?_)
    | (refine BigFrame.wpList_want (by rfl) fun K hK => wp_load_row 36 (.tmp 14) rfl (w12.heap.size) rfl 36 _ (0, 0) _ HA0.out Try.underlying36 rfl (HS.out _) (hK _ _ ?_))
    | (refine BigFrame.wpList_want (by rfl) fun K hK => wp_load_row 36 (.tmp 15) rfl (w12.heap.size + 1) rfl 36 _ (0, 0) _ HA1.out Try.underlying36 rfl (HS.out _) (hK _ _ ?_)))
  refine (each_or _ _ _).mono ?_
  rintro e w14 ⟨p, rfl, hp, g14⟩
  have G14 := (G13).trans g14
  have HJ_14 := Lib.hid (HJ_13.out.gr g14)
  clear HJ_13
  have HM_14 := Lib.hid (HM_13.out.gr g14)
  clear HM_13
  have HL_14 := Lib.hid (HL_13.out.gr g14)
  clear HL_13
  have HA_14 := Lib.hid ((Below.block g14 _ (Blk_lt HA0.out)).trans HA0.out)
  clear HA0
  have HB_14 := Lib.hid ((Below.block g14 _ (Blk_lt HA1.out)).trans HA1.out)
  clear HA1
  clear g14 G13
  have EQ := eqP_of (fun i hi => (ptF_or _ _ i).trans (hp i hi).symm)
  go_wp2_with fail
  refine (means_any (HJ_14.out) p).mono ?_
  rw [EQ]
  rintro e w15 ⟨rfl, g15⟩
  have G15 := (G14).trans g15
  have HJ_15 := Lib.hid (HJ_14.out.gr g15)
  clear HJ_14
  have HM_15 := Lib.hid (HM_14.out.gr g15)
  clear HM_14
  have HL_15 := Lib.hid (HL_14.out.gr g15)
  clear HL_14
  have HA_15 := Lib.hid ((Below.block g15 _ (Blk_lt HA_14.out)).trans HA_14.out)
  clear HA_14
  have HB_15 := Lib.hid ((Below.block g15 _ (Blk_lt HB_14.out)).trans HB_14.out)
  clear HB_14
  clear g15 G14
  clear EQ hp
  clear HJ_15
  go_wp2_with (first
    | (refine BigFrame.wpList_want (by rfl) fun K hK => wp_load_row 36 (.tmp 14) rfl (w12.heap.size) rfl 36 _ (0, 0) _ HA_15.out Try.underlying36 rfl (HS.out _) (hK _ _ ?_))
    | (refine BigFrame.wpList_want (by rfl) fun K hK => wp_load_row 36 (.tmp 15) rfl (w12.heap.size + 1) rfl 36 _ (0, 0) _ HB_15.out Try.underlying36 rfl (HS.out _) (hK _ _ ?_)))
  refine (each_and _ _ _).mono ?_
  rintro e w16 ⟨p, rfl, hp, g16⟩
  have G16 := (G15).trans g16
  have HM_16 := Lib.hid (HM_15.out.gr g16)
  clear HM_15
  have HL_16 := Lib.hid (HL_15.out.gr g16)
  clear HL_15
  have HA_16 := Lib.hid ((Below.block g16 _ (Blk_lt HA_15.out)).trans HA_15.out)
  clear HA_15
  have HB_16 := Lib.hid ((Below.block g16 _ (Blk_lt HB_15.out)).trans HB_15.out)
  clear HB_15
  clear g16 G15
  have EQ := eqP_of (fun i hi => (ptF_and _ _ i).trans (hp i hi).symm)
  go_wp2_with fail
  refine (means_any (HM_16.out) p).mono ?_
  rw [EQ]
  rintro e w17 ⟨rfl, g17⟩
  have G17 := (G16).trans g17
  have HM_17 := Lib.hid (HM_16.out.gr g17)
  clear HM_16
  have HL_17 := Lib.hid (HL_16.out.gr g17)
  clear HL_16
  have HA_17 := Lib.hid ((Below.block g17 _ (Blk_lt HA_16.out)).trans HA_16.out)
  clear HA_16
  have HB_17 := Lib.hid ((Below.block g17 _ (Blk_lt HB_16.out)).trans HB_16.out)
  clear HB_16
  clear g17 G16
  clear EQ hp
  clear HM_17
  go_wp2_with (first
    | (refine BigFrame.wpList_want (by rfl) fun K hK => wp_load_row 36 (.tmp 14) rfl (w12.heap.size) rfl 36 _ (0, 0) _ HA_17.out Try.underlying36 rfl (HS.out _) (hK _ _ ?_))
    | (refine BigFrame.wpList_want (by rfl) fun K hK => wp_load_row 36 (.tmp 15) rfl (w12.heap.size + 1) rfl 36 _ (0, 0) _ HB_17.out Try.underlying36 rfl (HS.out _) (hK _ _ ?_)))
  refine (each_less _ _ _).mono ?_
  rintro e w18 ⟨p, rfl, hp, g18⟩
  have G18 := (G17).trans g18
  have HL_18 := Lib.hid (HL_17.out.gr g18)
  clear HL_17
  have HA_18 := Lib.hid ((Below.block g18 _ (Blk_lt HA_17.out)).trans HA_17.out)
  clear HA_17
  have HB_18 := Lib.hid ((Below.block g18 _ (Blk_lt HB_17.out)).trans HB_17.out)
  clear HB_17
  clear g18 G17
  have EQ := eqP_of (fun i hi => (ptF_less HO1.out HO2.out i hi).trans (hp i hi).symm)
  go_wp2_with fail
  refine (means_any (HL_18.out) p).mono ?_
  rw [EQ]
  rintro e w19 ⟨rfl, g19⟩
  have G19 := (G18).trans g19
  have HL_19 := Lib.hid (HL_18.out.gr g19)
  clear HL_18
  have HA_19 := Lib.hid ((Below.block g19 _ (Blk_lt HA_18.out)).trans HA_18.out)
  clear HA_18
  have HB_19 := Lib.hid ((Below.block g19 _ (Blk_lt HB_18.out)).trans HB_18.out)
  clear HB_18
  clear g19 G18
  clear EQ hp
  clear HL_19
  go_wp2_with fail
  go_ret
  exact ⟨rfl, G19⟩
end Go.Proofs.Ytphcjjhfgpdhcaa
