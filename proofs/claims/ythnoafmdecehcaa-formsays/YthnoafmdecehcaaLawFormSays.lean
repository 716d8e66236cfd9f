/- The walk of FormSays. -/
import Derived.Test.YthnoafmdecehcaaRefM
import Derived.Test.YthnoafmdecehcaaRefE
import Derived.Test.YthnoafmdecehcaaFormB
import Derived.Test.YthnoafmdecehcaaFormD
namespace Rm
open Go Go.RowKit
theorem pv_at {l : List Nd} {a b : Nat} (hb : b < 32) : pv l (l.length - 1) (32 * a + b) = formP l a b := by
  unfold pv ptI formP
  rw [show (32 * a + b) / 32 = a by omega, show (32 * a + b) % 32 = b by omega]
end Rm
namespace Go.Proofs.Ythnoafmdecehcaa
open Go.RowKit Rm
set_option linter.unusedVariables false
theorem eqP_says {T : Nat → Nat} {l : List Nd} (h : RepT T (formP l)) : eqP (ptF T) (pv l (l.length - 1)) = true :=
  eqP_of (fun i hi => by unfold ptF; rw [h (i / 32) (by omega) (i % 32) (by omega)]; rfl)
theorem fp_means {b : Nat} {w : World} {v : Value} {l : List Nd} (h : FP b w v (formP l)) : Calls Try.prog 14 #[v, .agg (pArr (pv l (l.length - 1)))] w fun e w' => e = .returned (.bool true) ∧ Gr w w' := by
  obtain ⟨T, h1, h2⟩ := h
  have := means_any h1.fs (pv l (l.length - 1))
  rw [eqP_says h2] at this
  exact this
theorem chk_nil : chkL [] = 2 := rfl
theorem rpoint_ok {t x : Nat} (ht : t < 16) (hx : x < 32) (w : World) : Calls Try.prog 15 #[.agg #[.int .i64 (t : Int), .int .i64 (x : Int)]] w fun e w' => e = .returned (.bool true) ∧ Gr w w' := by
  have := rpoint_any (t : Int) (x : Int) w
  rw [pointB_nat ht hx] at this
  exact this
theorem at_says {l : List Nd} {t x : Nat} (ht : t < 16) (hx : x < 32) (w : World) : Calls Try.prog 16 #[.agg (pArr (pv l (l.length - 1))), .agg #[.int .i64 (t : Int), .int .i64 (x : Int)]] w fun e w' => e = .returned (.bool (formP l t x)) ∧ Gr w w' := by
  have := at_any (pv l (l.length - 1)) t x ht hx w
  rw [pv_at hx] at this
  exact this
theorem gpt_info : (Try.prog.info? 24).map (·.size) = some 2 := by kernel_rfl
def BlkOf (w : World) (B : Nat) (o : Obj) : Prop := w.heap[B]? = some o
theorem BlkOf.gr {w w' : World} {B : Nat} {o : Obj} (h : BlkOf w B o) (g : Gr w w') : BlkOf w' B o := (Below.block g _ (Blk_lt h)).trans h
set_option maxHeartbeats 8000000 in
set_option maxRecDepth 100000 in
theorem formSays_bad (v : Value) (l : List Nd) (t n : Int) (w : World) (hr : RdN w v l) (hc : (chkL l == 0) = false) :
    Calls Try.prog 3 #[v, .agg #[.int .i64 t, .int .i64 n]] w fun e w' => e = .returned (.bool true) ∧ Gr w w' := by
  have hc' := bne_of' hc
  have HC := Lib.hid hc
  clear hc
  have HV := Lib.hid (hr.alloc (.cells #[.int .i64 t, .int .i64 n] 24))
  have HP := Lib.hid (Two.new w t n 24)
  clear hr
  go_enter Try.func3, Try.ntmps3
  go_wp2_with fail
  refine (is_bad t n (HV.out) HC.out).mono ?_
  rintro e w1 ⟨rfl, g1⟩
  have G1 := ((Gr.refl w).alloc _).trans g1
  have HV_1 := Lib.hid (HV.out.gr g1)
  clear HV
  have HP_1 := Lib.hid (HP.out.gr g1)
  clear HP
  clear g1
  go_wp2_with fail
  refine (lfilter_bad (HV_1.out) HC.out).mono ?_
  rintro e w2 ⟨rfl, g2⟩
  have G2 := (G1).trans g2
  have HV_2 := Lib.hid (HV_1.out.gr g2)
  clear HV_1
  have HP_2 := Lib.hid (HP_1.out.gr g2)
  clear HP_1
  clear g2 G1
  go_wp2_with fail
  refine (rsentence_any _ _ _ (HV_2.out)).mono ?_
  rintro e w3 ⟨rfl, g3⟩
  have G3 := (G2).trans g3
  have HV_3 := Lib.hid (HV_2.out.gr g3)
  clear HV_2
  have HP_3 := Lib.hid (HP_2.out.gr g3)
  clear HP_2
  clear g3 G2
  go_wp2_with fail
  refine (lcheck_any _ _ _ (HV_3.out)).mono ?_
  rintro e w4 ⟨rfl, g4⟩
  have G4 := (G3).trans g4
  have HV_4 := Lib.hid (HV_3.out.gr g4)
  clear HV_3
  have HP_4 := Lib.hid (HP_3.out.gr g4)
  clear HP_3
  clear g4 G3
  go_wp2_with fail
  refine (lcheck_any _ _ _ (RdN.nil _)).mono ?_
  rw [chk_nil]
  rintro e w5 ⟨rfl, g5⟩
  have G5 := (G4).trans g5
  have HV_5 := Lib.hid (HV_4.out.gr g5)
  clear HV_4
  have HP_5 := Lib.hid (HP_4.out.gr g5)
  clear HP_4
  clear g5 G4
  generalize chkL l = cv at *
  go_wp2_with fail
  go_ret
  exact ⟨rfl, G5⟩
set_option maxHeartbeats 8000000 in
set_option maxRecDepth 100000 in
theorem formSays_point (v : Value) (l : List Nd) (t n : Int) (w : World) (hr : RdN w v l) (hc : OkL l) (hp : pointB t n = false) :
    Calls Try.prog 3 #[v, .agg #[.int .i64 t, .int .i64 n]] w fun e w' => e = .returned (.bool true) ∧ Gr w w' := by
  have HC := Lib.hid hc
  have HC0 := Lib.hid (chkL_of hc)
  have HPB := Lib.hid hp
  clear hc hp
  have HS := Lib.hid pinfo
  have HPZ := Lib.hid (fun f : Nat → Bool => show (pArr fun _ => false).size = (pArr f).size by rw [pArr_size, pArr_size])
  have HP1 := Lib.hid pArr_one
  have PZ := Lib.hid (fun (ev : Operand → Value) (o : Oper) (ho : o.op = .alloc 33) (wx : World) (N : Nat) (hN : wx.heap.size = N) => run_alloc_at points_zero ev o ho wx N hN)
  have HV := Lib.hid (hr.alloc (.cells #[.int .i64 t, .int .i64 n] 24))
  have HP := Lib.hid (Two.new w t n 24)
  clear hr
  go_enter Try.func3, Try.ntmps3
  go_wp2_with fail
  refine (is_point t n (HV.out) HC.out HPB.out).mono ?_
  rintro e w1 ⟨rfl, g1⟩
  have G1 := ((Gr.refl w).alloc _).trans g1
  have HV_1 := Lib.hid (HV.out.gr g1)
  clear HV
  have HP_1 := Lib.hid (HP.out.gr g1)
  clear HP
  clear g1
  go_wp2_with fail
  refine (lfilter_ok (HV_1.out) HC.out).mono ?_
  rintro e w2 ⟨ff, rfl, hff, g2⟩
  have G2 := (G1).trans g2
  have HV_2 := Lib.hid (HV_1.out.gr g2)
  clear HV_1
  have HP_2 := Lib.hid (HP_1.out.gr g2)
  clear HP_1
  have HF_2 := Lib.hid (hff)
  clear g2 G1
  clear hff
  go_wp2_with fail
  refine (rsentence_any _ _ _ (HV_2.out)).mono ?_
  rw [HC0.out]
  rintro e w3 ⟨rfl, g3⟩
  have G3 := (G2).trans g3
  have HV_3 := Lib.hid (HV_2.out.gr g3)
  clear HV_2
  have HP_3 := Lib.hid (HP_2.out.gr g3)
  clear HP_2
  have HF_3 := Lib.hid (HF_2.out.gr g3)
  clear HF_2
  clear g3 G2
  go_wp2_with fail
  refine (lcheck_any _ _ _ (HV_3.out)).mono ?_
  rw [HC0.out]
  rintro e w4 ⟨rfl, g4⟩
  have G4 := (G3).trans g4
  have HV_4 := Lib.hid (HV_3.out.gr g4)
  clear HV_3
  have HP_4 := Lib.hid (HP_3.out.gr g4)
  clear HP_3
  have HF_4 := Lib.hid (HF_3.out.gr g4)
  clear HF_3
  clear g4 G3
  go_wp2_with fail
  refine (lcheck_any _ _ _ (RdN.nil _)).mono ?_
  rw [chk_nil]
  rintro e w5 ⟨rfl, g5⟩
  have G5 := (G4).trans g5
  have HV_5 := Lib.hid (HV_4.out.gr g5)
  clear HV_4
  have HP_5 := Lib.hid (HP_4.out.gr g5)
  clear HP_4
  have HF_5 := Lib.hid (HF_4.out.gr g5)
  clear HF_4
  clear g5 G4
  go_wp2_with fail
  refine (rsays_ok (HV_5.out) HC.out).mono ?_
  rintro e w6 ⟨rfl, g6⟩
  have G6 := (G5).trans g6
  have HV_6 := Lib.hid (HV_5.out.gr g6)
  clear HV_5
  have HP_6 := Lib.hid (HP_5.out.gr g6)
  clear HP_5
  have HF_6 := Lib.hid (HF_5.out.gr g6)
  clear HF_5
  clear g6 G5
  clear HV_6
  obtain ⟨f, hf⟩ : ∃ f, pv l (l.length - 1) = f := ⟨_, rfl⟩
  rw [hf]
  have HFF := Lib.hid hf
  clear hf
  have HMEANS : Hid (∀ bx wx, FP bx wx ff (formP l) → Calls Try.prog 14 #[ff, .agg (pArr f)] wx fun e w' => e = .returned (.bool true) ∧ Gr wx w') := by rw [← HFF.out]; exact fun bx wx h => fp_means h
  have HR := Lib.hid (heap_alloc_new w6 (.cells (pArr fun _ => false) 33))
  have HN : Hid (((w6.alloc (.cells (pArr fun _ => false) 33)).setRow w6.heap.size (pArr f)).heap[w6.heap.size]? = some (.cells (pArr f) 33 (0, 0))) := setRow_heap _ _ _ _ _ _ HR.out
  have ga : Gr w6 ((w6.alloc (.cells (pArr fun _ => false) 33)).setRow w6.heap.size (pArr f)) := (((Gr.refl w6).alloc _).setRow (Nat.le_refl _) _)
  have HBX : Hid (BlkOf ((w6.alloc (.cells (pArr fun _ => false) 33)).setRow w6.heap.size (pArr f)) w6.heap.size (.cells (pArr f) 33 (0, 0))) := HN.out
  have G7 := (G6).trans ga
  have HP_7 := Lib.hid (HP_6.out.gr ga)
  clear HP_6
  have HF_7 := Lib.hid (HF_6.out.gr ga)
  clear HF_6
  clear ga G6
  obtain ⟨p0, p1, p2⟩ := HP_7.out
  go_wp2_with (first
      | (refine Go.Great.wpList_allocTo rfl _ rfl _ _ (PZ.out _ _ rfl _ w6.heap.size rfl) ?_)
      | (refine wpList_store_row rfl 33 (.tmp 10) (.tmp 52) rfl w6.heap.size _ rfl rfl 33 _ HR.out (HS.out _) (HPZ.out _) (HP1.out _) ?_)
      | (refine BigFrame.wpList_want (by rfl) fun K hK => wp_load_row 33 (.tmp 10) rfl (w6.heap.size) rfl 33 _ (0, 0) _ HN.out Try.underlying33 rfl (HS.out _) (hK _ _ ?_)))
  refine (HMEANS.out _ _ (HF_7.out)).mono ?_
  rintro e w8 ⟨rfl, g8⟩
  have G8 := (G7).trans g8
  have HP_8 := Lib.hid (HP_7.out.gr g8)
  clear HP_7
  have HF_8 := Lib.hid (HF_7.out.gr g8)
  clear HF_7
  have HX_8 := Lib.hid (HBX.out.gr g8)
  clear HBX
  clear g8 G7
  clear p0 p1 p2
  clear HF_8
  obtain ⟨p0, p1, p2⟩ := HP_8.out
  go_wp2_with fail
  refine (rpoint_any _ _ _).mono ?_
  rw [HPB.out]
  rintro e w9 ⟨rfl, g9⟩
  have G9 := (G8).trans g9
  have HP_9 := Lib.hid (HP_8.out.gr g9)
  clear HP_8
  have HX_9 := Lib.hid (HX_8.out.gr g9)
  clear HX_8
  clear g9 G8
  clear p0 p1 p2
  go_wp2_with fail
  go_ret
  exact ⟨rfl, G9⟩
set_option maxHeartbeats 8000000 in
set_option maxRecDepth 100000 in
theorem formSays_ok (v : Value) (l : List Nd) (t x : Nat) (w : World) (hr : RdN w v l) (hc : OkL l) (ht : t < 16) (hx : x < 32) :
    Calls Try.prog 3 #[v, .agg #[.int .i64 (t : Int), .int .i64 (x : Int)]] w fun e w' => e = .returned (.bool true) ∧ Gr w w' := by
  have HC := Lib.hid hc
  have HC0 := Lib.hid (chkL_of hc)
  have HT := Lib.hid ht
  have HXX := Lib.hid hx
  clear hc ht hx
  have HS := Lib.hid pinfo
  have HPZ := Lib.hid (fun f : Nat → Bool => show (pArr fun _ => false).size = (pArr f).size by rw [pArr_size, pArr_size])
  have HP1 := Lib.hid pArr_one
  have PZ := Lib.hid (fun (ev : Operand → Value) (o : Oper) (ho : o.op = .alloc 33) (wx : World) (N : Nat) (hN : wx.heap.size = N) => run_alloc_at points_zero ev o ho wx N hN)
  have HV := Lib.hid (hr.alloc (.cells #[.int .i64 (t : Int), .int .i64 (x : Int)] 24))
  have HP := Lib.hid (Two.new w (t : Int) (x : Int) 24)
  clear hr
  go_enter Try.func3, Try.ntmps3
  go_wp2_with fail
  refine (is_ok (HV.out) HC.out HT.out HXX.out).mono ?_
  rintro e w1 ⟨rfl, g1⟩
  have G1 := ((Gr.refl w).alloc _).trans g1
  have HV_1 := Lib.hid (HV.out.gr g1)
  clear HV
  have HP_1 := Lib.hid (HP.out.gr g1)
  clear HP
  clear g1
  go_wp2_with fail
  refine (lfilter_ok (HV_1.out) HC.out).mono ?_
  rintro e w2 ⟨ff, rfl, hff, g2⟩
  have G2 := (G1).trans g2
  have HV_2 := Lib.hid (HV_1.out.gr g2)
  clear HV_1
  have HP_2 := Lib.hid (HP_1.out.gr g2)
  clear HP_1
  have HF_2 := Lib.hid (hff)
  clear g2 G1
  clear hff
  go_wp2_with fail
  refine (rsentence_any _ _ _ (HV_2.out)).mono ?_
  rw [HC0.out]
  rintro e w3 ⟨rfl, g3⟩
  have G3 := (G2).trans g3
  have HV_3 := Lib.hid (HV_2.out.gr g3)
  clear HV_2
  have HP_3 := Lib.hid (HP_2.out.gr g3)
  clear HP_2
  have HF_3 := Lib.hid (HF_2.out.gr g3)
  clear HF_2
  clear g3 G2
  go_wp2_with fail
  refine (lcheck_any _ _ _ (HV_3.out)).mono ?_
  rw [HC0.out]
  rintro e w4 ⟨rfl, g4⟩
  have G4 := (G3).trans g4
  have HV_4 := Lib.hid (HV_3.out.gr g4)
  clear HV_3
  have HP_4 := Lib.hid (HP_3.out.gr g4)
  clear HP_3
  have HF_4 := Lib.hid (HF_3.out.gr g4)
  clear HF_3
  clear g4 G3
  go_wp2_with fail
  refine (lcheck_any _ _ _ (RdN.nil _)).mono ?_
  rw [chk_nil]
  rintro e w5 ⟨rfl, g5⟩
  have G5 := (G4).trans g5
  have HV_5 := Lib.hid (HV_4.out.gr g5)
  clear HV_4
  have HP_5 := Lib.hid (HP_4.out.gr g5)
  clear HP_4
  have HF_5 := Lib.hid (HF_4.out.gr g5)
  clear HF_4
  clear g5 G4
  go_wp2_with fail
  refine (rsays_ok (HV_5.out) HC.out).mono ?_
  rintro e w6 ⟨rfl, g6⟩
  have G6 := (G5).trans g6
  have HV_6 := Lib.hid (HV_5.out.gr g6)
  clear HV_5
  have HP_6 := Lib.hid (HP_5.out.gr g6)
  clear HP_5
  have HF_6 := Lib.hid (HF_5.out.gr g6)
  clear HF_5
  clear g6 G5
  clear HV_6
  obtain ⟨f, hf⟩ : ∃ f, pv l (l.length - 1) = f := ⟨_, rfl⟩
  rw [hf]
  have HFF := Lib.hid hf
  clear hf
  have HMEANS : Hid (∀ bx wx, FP bx wx ff (formP l) → Calls Try.prog 14 #[ff, .agg (pArr f)] wx fun e w' => e = .returned (.bool true) ∧ Gr wx w') := by rw [← HFF.out]; exact fun bx wx h => fp_means h
  have HAT : Hid (∀ wx, Calls Try.prog 16 #[.agg (pArr f), .agg #[.int .i64 (t : Int), .int .i64 (x : Int)]] wx fun e w' => e = .returned (.bool (formP l t x)) ∧ Gr wx w') := by rw [← HFF.out]; exact fun wx => at_says HT.out HXX.out wx
  have HR := Lib.hid (heap_alloc_new w6 (.cells (pArr fun _ => false) 33))
  have HN : Hid (((w6.alloc (.cells (pArr fun _ => false) 33)).setRow w6.heap.size (pArr f)).heap[w6.heap.size]? = some (.cells (pArr f) 33 (0, 0))) := setRow_heap _ _ _ _ _ _ HR.out
  have ga : Gr w6 ((w6.alloc (.cells (pArr fun _ => false) 33)).setRow w6.heap.size (pArr f)) := (((Gr.refl w6).alloc _).setRow (Nat.le_refl _) _)
  have HBX : Hid (BlkOf ((w6.alloc (.cells (pArr fun _ => false) 33)).setRow w6.heap.size (pArr f)) w6.heap.size (.cells (pArr f) 33 (0, 0))) := HN.out
  have G7 := (G6).trans ga
  have HP_7 := Lib.hid (HP_6.out.gr ga)
  clear HP_6
  have HF_7 := Lib.hid (HF_6.out.gr ga)
  clear HF_6
  clear ga G6
  obtain ⟨p0, p1, p2⟩ := HP_7.out
  go_wp2_with (first
      | (refine Go.Great.wpList_allocTo rfl _ rfl _ _ (PZ.out _ _ rfl _ w6.heap.size rfl) ?_)
      | (refine wpList_store_row rfl 33 (.tmp 10) (.tmp 52) rfl w6.heap.size _ rfl rfl 33 _ HR.out (HS.out _) (HPZ.out _) (HP1.out _) ?_)
      | (refine BigFrame.wpList_want (by rfl) fun K hK => wp_load_row 33 (.tmp 10) rfl (w6.heap.size) rfl 33 _ (0, 0) _ HN.out Try.underlying33 rfl (HS.out _) (hK _ _ ?_)))
  refine (HMEANS.out _ _ (HF_7.out)).mono ?_
  rintro e w8 ⟨rfl, g8⟩
  have G8 := (G7).trans g8
  have HP_8 := Lib.hid (HP_7.out.gr g8)
  clear HP_7
  have HF_8 := Lib.hid (HF_7.out.gr g8)
  clear HF_7
  have HX_8 := Lib.hid (HBX.out.gr g8)
  clear HBX
  clear g8 G7
  clear p0 p1 p2
  clear HF_8
  obtain ⟨p0, p1, p2⟩ := HP_8.out
  go_wp2_with fail
  refine (rpoint_ok HT.out HXX.out _).mono ?_
  rintro e w9 ⟨rfl, g9⟩
  have G9 := (G8).trans g9
  have HP_9 := Lib.hid (HP_8.out.gr g9)
  clear HP_8
  have HX_9 := Lib.hid (HX_8.out.gr g9)
  clear HX_8
  clear g9 G8
  clear p0 p1 p2
  obtain ⟨p0, p1, p2⟩ := HP_9.out
  go_wp2_with (refine BigFrame.wpList_want (by rfl) fun K hK => wp_load_row 33 (.tmp 10) rfl (w6.heap.size) rfl 33 _ (0, 0) _ HX_9.out Try.underlying33 rfl (HS.out _) (hK _ _ ?_))
  refine (HAT.out _).mono ?_
  rintro e w10 ⟨rfl, g10⟩
  have G10 := (G9).trans g10
  have HP_10 := Lib.hid (HP_9.out.gr g10)
  clear HP_9
  have HX_10 := Lib.hid (HX_9.out.gr g10)
  clear HX_9
  clear g10 G9
  clear p0 p1 p2
  generalize formP l t x = q
  cases q
  all_goals
    go_wp2_with fail
    go_ret
    exact ⟨rfl, G10⟩
theorem formSays_walk (v : Value) (l : List Nd) (t n : Int) (w : World) (hr : RdN w v l) :
    Calls Try.prog 3 #[v, .agg #[.int .i64 t, .int .i64 n]] w fun e w' => e = .returned (.bool true) ∧ Gr w w' := by
  cases hc : (chkL l == 0)
  · exact formSays_bad v l t n w hr hc
  · have hok := okL_of (by simpa using hc)
    cases hp : pointB t n
    · exact formSays_point v l t n w hr hok hp
    · obtain ⟨a, b, ha, hb, rfl, rfl⟩ := point_of hp
      exact formSays_ok v l a b w hr hok ha hb
end Go.Proofs.Ythnoafmdecehcaa
