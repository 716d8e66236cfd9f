/- The document's own read: a ! and pairs. -/
import Derived.Test.YtbodadddcbbjeaaDoorTsE
namespace Go.Proofs.YtbodadddcbbjeaaDoor
open Go.RowKit Rm
set_option linter.unusedVariables false
set_option linter.unusedSimpArgs false

set_option maxHeartbeats 4000000 in
set_option maxRecDepth 100000 in
theorem rd_not1 (r : List UInt8) (l : List Nd) (ua : Option Addr) (uc b : Nat) (w : World) (ho : OwnN b w (.slice ua l.length uc) l) (hl : l.length ≤ 1000) (hb0 : b ≤ w.heap.size) (H : RdNo r l) :
    Calls Tryd.prog 27 #[.string (str (33 :: r)), .slice ua l.length uc] w fun e w' => RSays b (.slice ua l.length uc) (none) w e w' := by
  obtain ⟨i0, hi0, hz0, hz1, hz2⟩ := info_parts node_info
  have hs := str_list (33 :: r)
  have hnn : (ByteArray.mk #[]).toList = [] := str_list []
  have hi := fun w => run_str_at (P := Tryd.prog) 9 33 r w Tryd.underlying9
  have ht := fun w => run_str_tail (P := Tryd.prog) 9 33 r w Tryd.underlying9
  have hb : ((33 : UInt8).toNat : Int) = 33 := rfl
  have H1 := Lib.hid H
  clear H
  have HO := Lib.hid ho
  clear ho
  go_enter Tryd.func27, Tryd.ntmps27
  go_wp2_with fail
  go_quiet (fail)
  have g0 : Hid (Gr w (w.drewN nq)) := (Gr.refl w).drewN nq
  have z0 : Hid ((w.drewN nq).heap.size = w.heap.size) := rfl
  generalize w.drewN nq = w1 at *
  have R0 := Lib.hid (RS.start w1 (HO.out.gr g0.out) (by have := z0.out; omega) 4 0 0)
  go_wp2_with fail
  refine (H1.out _ b _ R0.out.ow (by have := R0.out.gb.size; have := R0.out.bw; omega)).mono ?_
  rintro e w2 ⟨g2, r2, rfl⟩
  have R2 := Lib.hid (R0.out.call g2 (nil_own _ _) (.inr fun j e => nil_block e))
  obtain ⟨c1, c2, c3, f1, f2, f3⟩ := R2.out.cells
  have R3 := Lib.hid (R2.out.set1 (-1))
  go_wp2_with fail
  go_ret3
  exact RSays.from g0.out z0.out (R3.out.fail r2)

set_option maxHeartbeats 4000000 in
set_option maxRecDepth 100000 in
theorem rd_not2 (r : List UInt8) (l : List Nd) (ua : Option Addr) (uc b : Nat) (w : World) (ho : OwnN b w (.slice ua l.length uc) l) (hl : l.length ≤ 1000) (hb0 : b ≤ w.heap.size) (s1 : List UInt8) (m : List Nd) (H : RdOk r l s1 m) (hm : m.length ≤ 1000) (hm0 : 0 < m.length) :
    Calls Tryd.prog 27 #[.string (str (33 :: r)), .slice ua l.length uc] w fun e w' => RSays b (.slice ua l.length uc) (some (s1, m ++ [(4, ((m.length - 1 : Nat) : Int), 0)])) w e w' := by
  obtain ⟨i0, hi0, hz0, hz1, hz2⟩ := info_parts node_info
  have hs := str_list (33 :: r)
  have hnn : (ByteArray.mk #[]).toList = [] := str_list []
  have hi := fun w => run_str_at (P := Tryd.prog) 9 33 r w Tryd.underlying9
  have ht := fun w => run_str_tail (P := Tryd.prog) 9 33 r w Tryd.underlying9
  have hb : ((33 : UInt8).toNat : Int) = 33 := rfl
  have H1 := Lib.hid H
  clear H
  have hq1 : (m.length : Int) - 1 = ((m.length - 1 : Nat) : Int) := by omega
  have hk1 : (m.length : Int) ≤ 1000 := by omega
  generalize m.length - 1 = j1 at *
  have HO := Lib.hid ho
  clear ho
  go_enter Tryd.func27, Tryd.ntmps27
  go_wp2_with fail
  go_quiet (fail)
  have g0 : Hid (Gr w (w.drewN nq)) := (Gr.refl w).drewN nq
  have z0 : Hid ((w.drewN nq).heap.size = w.heap.size) := rfl
  generalize w.drewN nq = w1 at *
  have R0 := Lib.hid (RS.start w1 (HO.out.gr g0.out) (by have := z0.out; omega) 4 0 0)
  go_wp2_with fail
  refine (H1.out _ b _ R0.out.ow (by have := R0.out.gb.size; have := R0.out.bw; omega)).mono ?_
  rintro e w2 ⟨g2, u2, rfl, o2, d2⟩
  have R2 := Lib.hid (R0.out.call g2 o2 d2)
  obtain ⟨ua2, uc2, rfl, hu2⟩ := own_form o2
  clear g2 o2 d2
  obtain ⟨c1, c2, c3, f1, f2, f3⟩ := R2.out.cells
  have R3 := Lib.hid (R2.out.set1 (j1 : Int))
  have RX := Lib.hid (R3.out.gr ((Gr.refl _).alloc (.cells #[.int .i64 4, .int .i64 (j1 : Int), .int .i64 0] 30)))
  go_wp2_with (at_builtin; refine wpList_append_at _ rfl (.tmp 136) (.tmp 138) 22 rfl b 30 i0 _ 3 24 Tryd.underlying22 hi0 hz0 hz1 hz2 rfl (by omega) _ _ _ rfl RX.out.ow ⟨_, 0, none⟩ 1 1 [.int .i64 4, .int .i64 (j1 : Int), .int .i64 0] rfl rfl (newAt _ [.int .i64 4, .int .i64 (j1 : Int), .int .i64 0] 30 _ (by simp)) (by simp [Value.oneCell']) (by simp only [maxLen]; omega) (by omega) (by have := RX.out.gb.size; have := RX.out.bw; omega) (by omega) ?_; intro v9 w9 o9 g9 d9)
  go_ret3
  refine RSays.from g0.out z0.out (RX.out.fine g9 (OwnN.app (r := [(4, (j1 : Int), 0)]) o9 (by simp) rfl) (late_block d9 ?_) s1)
  simp

set_option maxHeartbeats 4000000 in
set_option maxRecDepth 100000 in
theorem rd_p1 (r : List UInt8) (l : List Nd) (ua : Option Addr) (uc b : Nat) (w : World) (ho : OwnN b w (.slice ua l.length uc) l) (hl : l.length ≤ 1000) (hb0 : b ≤ w.heap.size) (H : RdNo r l) :
    Calls Tryd.prog 27 #[.string (str (40 :: r)), .slice ua l.length uc] w fun e w' => RSays b (.slice ua l.length uc) (none) w e w' := by
  obtain ⟨i0, hi0, hz0, hz1, hz2⟩ := info_parts node_info
  have hs := str_list (40 :: r)
  have hnn : (ByteArray.mk #[]).toList = [] := str_list []
  have hi := fun w => run_str_at (P := Tryd.prog) 9 40 r w Tryd.underlying9
  have ht := fun w => run_str_tail (P := Tryd.prog) 9 40 r w Tryd.underlying9
  have hb : ((40 : UInt8).toNat : Int) = 40 := rfl
  have H1 := Lib.hid H
  clear H
  have HO := Lib.hid ho
  clear ho
  go_enter Tryd.func27, Tryd.ntmps27
  go_wp2_with fail
  go_quiet (fail)
  have g0 : Hid (Gr w (w.drewN nq)) := (Gr.refl w).drewN nq
  have z0 : Hid ((w.drewN nq).heap.size = w.heap.size) := rfl
  generalize w.drewN nq = w1 at *
  have R0 := Lib.hid (RS.start w1 (HO.out.gr g0.out) (by have := z0.out; omega) 0 0 0)
  go_wp2_with fail
  refine (H1.out _ b _ R0.out.ow (by have := R0.out.gb.size; have := R0.out.bw; omega)).mono ?_
  rintro e w2 ⟨g2, r2, rfl⟩
  have R2 := Lib.hid (R0.out.call g2 (nil_own _ _) (.inr fun j e => nil_block e))
  obtain ⟨c1, c2, c3, f1, f2, f3⟩ := R2.out.cells
  have R3 := Lib.hid (R2.out.set1 (-1))
  go_wp2_with fail
  go_ret3
  exact RSays.from g0.out z0.out (R3.out.fail r2)

set_option maxHeartbeats 4000000 in
set_option maxRecDepth 100000 in
theorem rd_p2a (r : List UInt8) (l : List Nd) (ua : Option Addr) (uc b : Nat) (w : World) (ho : OwnN b w (.slice ua l.length uc) l) (hl : l.length ≤ 1000) (hb0 : b ≤ w.heap.size) (m : List Nd) (H : RdOk r l [] m) (hm : m.length ≤ 1000) (hm0 : 0 < m.length) :
    Calls Tryd.prog 27 #[.string (str (40 :: r)), .slice ua l.length uc] w fun e w' => RSays b (.slice ua l.length uc) (none) w e w' := by
  obtain ⟨i0, hi0, hz0, hz1, hz2⟩ := info_parts node_info
  have hs := str_list (40 :: r)
  have hnn : (ByteArray.mk #[]).toList = [] := str_list []
  have hi := fun w => run_str_at (P := Tryd.prog) 9 40 r w Tryd.underlying9
  have ht := fun w => run_str_tail (P := Tryd.prog) 9 40 r w Tryd.underlying9
  have hb : ((40 : UInt8).toNat : Int) = 40 := rfl
  have H1 := Lib.hid H
  clear H
  have hq1 : (m.length : Int) - 1 = ((m.length - 1 : Nat) : Int) := by omega
  have hk1 : (m.length : Int) ≤ 1000 := by omega
  generalize m.length - 1 = j1 at *
  have hs1 := str_list []
  have HO := Lib.hid ho
  clear ho
  go_enter Tryd.func27, Tryd.ntmps27
  go_wp2_with fail
  go_quiet (fail)
  have g0 : Hid (Gr w (w.drewN nq)) := (Gr.refl w).drewN nq
  have z0 : Hid ((w.drewN nq).heap.size = w.heap.size) := rfl
  generalize w.drewN nq = w1 at *
  have R0 := Lib.hid (RS.start w1 (HO.out.gr g0.out) (by have := z0.out; omega) 0 0 0)
  go_wp2_with fail
  refine (H1.out _ b _ R0.out.ow (by have := R0.out.gb.size; have := R0.out.bw; omega)).mono ?_
  rintro e w2 ⟨g2, u2, rfl, o2, d2⟩
  have R2 := Lib.hid (R0.out.call g2 o2 d2)
  obtain ⟨ua2, uc2, rfl, hu2⟩ := own_form o2
  clear g2 o2 d2
  obtain ⟨c1, c2, c3, f1, f2, f3⟩ := R2.out.cells
  have R3 := Lib.hid (R2.out.set1 (j1 : Int))
  go_wp2_with fail
  go_ret3
  exact RSays.from g0.out z0.out (R3.out.fail [])

set_option maxHeartbeats 4000000 in
set_option maxRecDepth 100000 in
theorem rd_p2b (r : List UInt8) (l : List Nd) (ua : Option Addr) (uc b : Nat) (w : World) (ho : OwnN b w (.slice ua l.length uc) l) (hl : l.length ≤ 1000) (hb0 : b ≤ w.heap.size) (cc : UInt8) (s2 : List UInt8) (m : List Nd) (H : RdOk r l (cc :: s2) m) (hm : m.length ≤ 1000) (hm0 : 0 < m.length) (h38 : ¬ cc = 38) (h124 : ¬ cc = 124) :
    Calls Tryd.prog 27 #[.string (str (40 :: r)), .slice ua l.length uc] w fun e w' => RSays b (.slice ua l.length uc) (none) w e w' := by
  obtain ⟨i0, hi0, hz0, hz1, hz2⟩ := info_parts node_info
  have hs := str_list (40 :: r)
  have hnn : (ByteArray.mk #[]).toList = [] := str_list []
  have hi := fun w => run_str_at (P := Tryd.prog) 9 40 r w Tryd.underlying9
  have ht := fun w => run_str_tail (P := Tryd.prog) 9 40 r w Tryd.underlying9
  have hb : ((40 : UInt8).toNat : Int) = 40 := rfl
  have H1 := Lib.hid H
  clear H
  have hq1 : (m.length : Int) - 1 = ((m.length - 1 : Nat) : Int) := by omega
  have hk1 : (m.length : Int) ≤ 1000 := by omega
  generalize m.length - 1 = j1 at *
  have hs1 := str_list (cc :: s2)
  have hi1 := fun w => run_str_at (P := Tryd.prog) 9 cc s2 w Tryd.underlying9
  have ht1 := fun w => run_str_tail (P := Tryd.prog) 9 cc s2 w Tryd.underlying9
  have b38 := byte_ne h38 (n := 38) rfl
  have b124 := byte_ne h124 (n := 124) rfl
  have n38 : ((cc.toNat : Int) != 38) = true := by simp only [bne, b38]; rfl
  have n124 : ((cc.toNat : Int) != 124) = true := by simp only [bne, b124]; rfl
  clear h38 h124 b38 b124
  have HO := Lib.hid ho
  clear ho
  go_enter Tryd.func27, Tryd.ntmps27
  go_wp2_with fail
  go_quiet (fail)
  have g0 : Hid (Gr w (w.drewN nq)) := (Gr.refl w).drewN nq
  have z0 : Hid ((w.drewN nq).heap.size = w.heap.size) := rfl
  generalize w.drewN nq = w1 at *
  have R0 := Lib.hid (RS.start w1 (HO.out.gr g0.out) (by have := z0.out; omega) 0 0 0)
  go_wp2_with fail
  refine (H1.out _ b _ R0.out.ow (by have := R0.out.gb.size; have := R0.out.bw; omega)).mono ?_
  rintro e w2 ⟨g2, u2, rfl, o2, d2⟩
  have R2 := Lib.hid (R0.out.call g2 o2 d2)
  obtain ⟨ua2, uc2, rfl, hu2⟩ := own_form o2
  clear g2 o2 d2
  obtain ⟨c1, c2, c3, f1, f2, f3⟩ := R2.out.cells
  have R3 := Lib.hid (R2.out.set1 (j1 : Int))
  go_wp2_with fail
  go_ret3
  exact RSays.from g0.out z0.out (R3.out.fail (cc :: s2))

set_option maxHeartbeats 4000000 in
set_option maxRecDepth 100000 in
theorem rd_p3_5 (r : List UInt8) (l : List Nd) (ua : Option Addr) (uc b : Nat) (w : World) (ho : OwnN b w (.slice ua l.length uc) l) (hl : l.length ≤ 1000) (hb0 : b ≤ w.heap.size) (s2 : List UInt8) (m : List Nd) (H : RdOk r l (38 :: s2) m) (hm : m.length ≤ 1000) (hm0 : 0 < m.length) (HB : RdNo s2 m) :
    Calls Tryd.prog 27 #[.string (str (40 :: r)), .slice ua l.length uc] w fun e w' => RSays b (.slice ua l.length uc) (none) w e w' := by
  obtain ⟨i0, hi0, hz0, hz1, hz2⟩ := info_parts node_info
  have hs := str_list (40 :: r)
  have hnn : (ByteArray.mk #[]).toList = [] := str_list []
  have hi := fun w => run_str_at (P := Tryd.prog) 9 40 r w Tryd.underlying9
  have ht := fun w => run_str_tail (P := Tryd.prog) 9 40 r w Tryd.underlying9
  have hb : ((40 : UInt8).toNat : Int) = 40 := rfl
  have H1 := Lib.hid H
  clear H
  have hq1 : (m.length : Int) - 1 = ((m.length - 1 : Nat) : Int) := by omega
  have hk1 : (m.length : Int) ≤ 1000 := by omega
  generalize m.length - 1 = j1 at *
  have hs1 := str_list (38 :: s2)
  have hi1 := fun w => run_str_at (P := Tryd.prog) 9 38 s2 w Tryd.underlying9
  have ht1 := fun w => run_str_tail (P := Tryd.prog) 9 38 s2 w Tryd.underlying9
  have hbc : ((38 : UInt8).toNat : Int) = 38 := rfl
  have hib := ib38
  have H2 := Lib.hid HB
  clear HB
  have HO := Lib.hid ho
  clear ho
  go_enter Tryd.func27, Tryd.ntmps27
  go_wp2_with fail
  go_quiet (fail)
  have g0 : Hid (Gr w (w.drewN nq)) := (Gr.refl w).drewN nq
  have z0 : Hid ((w.drewN nq).heap.size = w.heap.size) := rfl
  generalize w.drewN nq = w1 at *
  have R0 := Lib.hid (RS.start w1 (HO.out.gr g0.out) (by have := z0.out; omega) 0 0 0)
  go_wp2_with fail
  refine (H1.out _ b _ R0.out.ow (by have := R0.out.gb.size; have := R0.out.bw; omega)).mono ?_
  rintro e w2 ⟨g2, u2, rfl, o2, d2⟩
  have R2 := Lib.hid (R0.out.call g2 o2 d2)
  obtain ⟨ua2, uc2, rfl, hu2⟩ := own_form o2
  clear g2 o2 d2
  obtain ⟨c1, c2, c3, f1, f2, f3⟩ := R2.out.cells
  have R3 := Lib.hid (R2.out.set1 (j1 : Int))
  have R4 := Lib.hid (R3.out.set0 5)
  go_wp2_with (first | (go_at_call 45; go_in) | (go_at_call 61; go_in))
  refine (H2.out _ b _ R4.out.ow (by have := R4.out.gb.size; have := R4.out.bw; omega)).mono ?_
  rintro e w5 ⟨g5, r5, rfl⟩
  have R5 := Lib.hid (R4.out.call g5 (nil_own _ _) (.inr fun j e => nil_block e))
  clear c1 c2 c3 f1 f2 f3
  obtain ⟨c1, c2, c3, f1, f2, f3⟩ := R5.out.cells
  have R6 := Lib.hid (R5.out.set2 (-1))
  go_wp2_with fail
  go_ret3
  exact RSays.from g0.out z0.out (R6.out.fail r5)

set_option maxHeartbeats 4000000 in
set_option maxRecDepth 100000 in
theorem rd_p4_5 (r : List UInt8) (l : List Nd) (ua : Option Addr) (uc b : Nat) (w : World) (ho : OwnN b w (.slice ua l.length uc) l) (hl : l.length ≤ 1000) (hb0 : b ≤ w.heap.size) (s2 : List UInt8) (m : List Nd) (H : RdOk r l (38 :: s2) m) (hm : m.length ≤ 1000) (hm0 : 0 < m.length) (s3 : List UInt8) (m2 : List Nd) (HB : RdOk s2 m s3 m2) (hm2 : m2.length ≤ 1000) (hm20 : 0 < m2.length) (HQ : PreIs s3 41 false) :
    Calls Tryd.prog 27 #[.string (str (40 :: r)), .slice ua l.length uc] w fun e w' => RSays b (.slice ua l.length uc) (none) w e w' := by
  obtain ⟨i0, hi0, hz0, hz1, hz2⟩ := info_parts node_info
  have hs := str_list (40 :: r)
  have hnn : (ByteArray.mk #[]).toList = [] := str_list []
  have hi := fun w => run_str_at (P := Tryd.prog) 9 40 r w Tryd.underlying9
  have ht := fun w => run_str_tail (P := Tryd.prog) 9 40 r w Tryd.underlying9
  have hb : ((40 : UInt8).toNat : Int) = 40 := rfl
  have H1 := Lib.hid H
  clear H
  have hq1 : (m.length : Int) - 1 = ((m.length - 1 : Nat) : Int) := by omega
  have hk1 : (m.length : Int) ≤ 1000 := by omega
  generalize m.length - 1 = j1 at *
  have hs1 := str_list (38 :: s2)
  have hi1 := fun w => run_str_at (P := Tryd.prog) 9 38 s2 w Tryd.underlying9
  have ht1 := fun w => run_str_tail (P := Tryd.prog) 9 38 s2 w Tryd.underlying9
  have hbc : ((38 : UInt8).toNat : Int) = 38 := rfl
  have hib := ib38
  have H2 := Lib.hid HB
  clear HB
  have hq2 : (m2.length : Int) - 1 = ((m2.length - 1 : Nat) : Int) := by omega
  have hk2 : (m2.length : Int) ≤ 1000 := by omega
  generalize m2.length - 1 = j2 at *
  have H3 := Lib.hid HQ
  clear HQ
  have HO := Lib.hid ho
  clear ho
  go_enter Tryd.func27, Tryd.ntmps27
  go_wp2_with fail
  go_quiet (fail)
  have g0 : Hid (Gr w (w.drewN nq)) := (Gr.refl w).drewN nq
  have z0 : Hid ((w.drewN nq).heap.size = w.heap.size) := rfl
  generalize w.drewN nq = w1 at *
  have R0 := Lib.hid (RS.start w1 (HO.out.gr g0.out) (by have := z0.out; omega) 0 0 0)
  go_wp2_with fail
  refine (H1.out _ b _ R0.out.ow (by have := R0.out.gb.size; have := R0.out.bw; omega)).mono ?_
  rintro e w2 ⟨g2, u2, rfl, o2, d2⟩
  have R2 := Lib.hid (R0.out.call g2 o2 d2)
  obtain ⟨ua2, uc2, rfl, hu2⟩ := own_form o2
  clear g2 o2 d2
  obtain ⟨c1, c2, c3, f1, f2, f3⟩ := R2.out.cells
  have R3 := Lib.hid (R2.out.set1 (j1 : Int))
  have R4 := Lib.hid (R3.out.set0 5)
  go_wp2_with (first | (go_at_call 45; go_in) | (go_at_call 61; go_in))
  refine (H2.out _ b _ R4.out.ow (by have := R4.out.gb.size; have := R4.out.bw; omega)).mono ?_
  rintro e w5 ⟨g5, u5, rfl, o5, d5⟩
  have R5 := Lib.hid (R4.out.call g5 o5 d5)
  obtain ⟨ua5, uc5, rfl, hu5⟩ := own_form o5
  clear g5 o5 d5
  clear c1 c2 c3 f1 f2 f3
  obtain ⟨c1, c2, c3, f1, f2, f3⟩ := R5.out.cells
  have R6 := Lib.hid (R5.out.set2 (j2 : Int))
  go_wp2_with fail
  refine (H3.out _).mono ?_
  rintro e wx ⟨rfl, rfl⟩
  go_wp2_with fail
  go_ret3
  exact RSays.from g0.out z0.out (R6.out.fail s3)

set_option maxHeartbeats 4000000 in
set_option maxRecDepth 100000 in
theorem rd_p5_5 (r : List UInt8) (l : List Nd) (ua : Option Addr) (uc b : Nat) (w : World) (ho : OwnN b w (.slice ua l.length uc) l) (hl : l.length ≤ 1000) (hb0 : b ≤ w.heap.size) (s2 : List UInt8) (m : List Nd) (H : RdOk r l (38 :: s2) m) (hm : m.length ≤ 1000) (hm0 : 0 < m.length) (s4 : List UInt8) (m2 : List Nd) (HB : RdOk s2 m (41 :: s4) m2) (hm2 : m2.length ≤ 1000) (hm20 : 0 < m2.length) (HQ : PreIs (41 :: s4) 41 true) :
    Calls Tryd.prog 27 #[.string (str (40 :: r)), .slice ua l.length uc] w fun e w' => RSays b (.slice ua l.length uc) (some (s4, m2 ++ [(5, ((m.length - 1 : Nat) : Int), ((m2.length - 1 : Nat) : Int))])) w e w' := by
  obtain ⟨i0, hi0, hz0, hz1, hz2⟩ := info_parts node_info
  have hs := str_list (40 :: r)
  have hnn : (ByteArray.mk #[]).toList = [] := str_list []
  have hi := fun w => run_str_at (P := Tryd.prog) 9 40 r w Tryd.underlying9
  have ht := fun w => run_str_tail (P := Tryd.prog) 9 40 r w Tryd.underlying9
  have hb : ((40 : UInt8).toNat : Int) = 40 := rfl
  have H1 := Lib.hid H
  clear H
  have hq1 : (m.length : Int) - 1 = ((m.length - 1 : Nat) : Int) := by omega
  have hk1 : (m.length : Int) ≤ 1000 := by omega
  generalize m.length - 1 = j1 at *
  have hs1 := str_list (38 :: s2)
  have hi1 := fun w => run_str_at (P := Tryd.prog) 9 38 s2 w Tryd.underlying9
  have ht1 := fun w => run_str_tail (P := Tryd.prog) 9 38 s2 w Tryd.underlying9
  have hbc : ((38 : UInt8).toNat : Int) = 38 := rfl
  have hib := ib38
  have H2 := Lib.hid HB
  clear HB
  have hq2 : (m2.length : Int) - 1 = ((m2.length - 1 : Nat) : Int) := by omega
  have hk2 : (m2.length : Int) ≤ 1000 := by omega
  generalize m2.length - 1 = j2 at *
  have H3 := Lib.hid HQ
  clear HQ
  have t41 := fun w => run_str_tail (P := Tryd.prog) 9 41 s4 w Tryd.underlying9
  have HO := Lib.hid ho
  clear ho
  go_enter Tryd.func27, Tryd.ntmps27
  go_wp2_with fail
  go_quiet (fail)
  have g0 : Hid (Gr w (w.drewN nq)) := (Gr.refl w).drewN nq
  have z0 : Hid ((w.drewN nq).heap.size = w.heap.size) := rfl
  generalize w.drewN nq = w1 at *
  have R0 := Lib.hid (RS.start w1 (HO.out.gr g0.out) (by have := z0.out; omega) 0 0 0)
  go_wp2_with fail
  refine (H1.out _ b _ R0.out.ow (by have := R0.out.gb.size; have := R0.out.bw; omega)).mono ?_
  rintro e w2 ⟨g2, u2, rfl, o2, d2⟩
  have R2 := Lib.hid (R0.out.call g2 o2 d2)
  obtain ⟨ua2, uc2, rfl, hu2⟩ := own_form o2
  clear g2 o2 d2
  obtain ⟨c1, c2, c3, f1, f2, f3⟩ := R2.out.cells
  have R3 := Lib.hid (R2.out.set1 (j1 : Int))
  have R4 := Lib.hid (R3.out.set0 5)
  go_wp2_with (first | (go_at_call 45; go_in) | (go_at_call 61; go_in))
  refine (H2.out _ b _ R4.out.ow (by have := R4.out.gb.size; have := R4.out.bw; omega)).mono ?_
  rintro e w5 ⟨g5, u5, rfl, o5, d5⟩
  have R5 := Lib.hid (R4.out.call g5 o5 d5)
  obtain ⟨ua5, uc5, rfl, hu5⟩ := own_form o5
  clear g5 o5 d5
  clear c1 c2 c3 f1 f2 f3
  obtain ⟨c1, c2, c3, f1, f2, f3⟩ := R5.out.cells
  have R6 := Lib.hid (R5.out.set2 (j2 : Int))
  go_wp2_with fail
  refine (H3.out _).mono ?_
  rintro e wx ⟨rfl, rfl⟩
  have RX := Lib.hid (R6.out.gr ((Gr.refl _).alloc (.cells #[.int .i64 5, .int .i64 (j1 : Int), .int .i64 (j2 : Int)] 30)))
  go_wp2_with (at_builtin; refine wpList_append_at _ rfl (.tmp 136) (.tmp 138) 22 rfl b 30 i0 _ 3 24 Tryd.underlying22 hi0 hz0 hz1 hz2 rfl (by omega) _ _ _ rfl RX.out.ow ⟨_, 0, none⟩ 1 1 [.int .i64 5, .int .i64 (j1 : Int), .int .i64 (j2 : Int)] rfl rfl (newAt _ [.int .i64 5, .int .i64 (j1 : Int), .int .i64 (j2 : Int)] 30 _ (by simp)) (by simp [Value.oneCell']) (by simp only [maxLen]; omega) (by omega) (by have := RX.out.gb.size; have := RX.out.bw; omega) (by omega) ?_; intro v9 w9 o9 g9 d9)
  go_ret3
  refine RSays.from g0.out z0.out (RX.out.fine g9 (OwnN.app (r := [(5, (j1 : Int), (j2 : Int))]) o9 (by simp) rfl) (late_block d9 ?_) s4)
  simp

set_option maxHeartbeats 4000000 in
set_option maxRecDepth 100000 in
theorem rd_p3_6 (r : List UInt8) (l : List Nd) (ua : Option Addr) (uc b : Nat) (w : World) (ho : OwnN b w (.slice ua l.length uc) l) (hl : l.length ≤ 1000) (hb0 : b ≤ w.heap.size) (s2 : List UInt8) (m : List Nd) (H : RdOk r l (124 :: s2) m) (hm : m.length ≤ 1000) (hm0 : 0 < m.length) (HB : RdNo s2 m) :
    Calls Tryd.prog 27 #[.string (str (40 :: r)), .slice ua l.length uc] w fun e w' => RSays b (.slice ua l.length uc) (none) w e w' := by
  obtain ⟨i0, hi0, hz0, hz1, hz2⟩ := info_parts node_info
  have hs := str_list (40 :: r)
  have hnn : (ByteArray.mk #[]).toList = [] := str_list []
  have hi := fun w => run_str_at (P := Tryd.prog) 9 40 r w Tryd.underlying9
  have ht := fun w => run_str_tail (P := Tryd.prog) 9 40 r w Tryd.underlying9
  have hb : ((40 : UInt8).toNat : Int) = 40 := rfl
  have H1 := Lib.hid H
  clear H
  have hq1 : (m.length : Int) - 1 = ((m.length - 1 : Nat) : Int) := by omega
  have hk1 : (m.length : Int) ≤ 1000 := by omega
  generalize m.length - 1 = j1 at *
  have hs1 := str_list (124 :: s2)
  have hi1 := fun w => run_str_at (P := Tryd.prog) 9 124 s2 w Tryd.underlying9
  have ht1 := fun w => run_str_tail (P := Tryd.prog) 9 124 s2 w Tryd.underlying9
  have hbc : ((124 : UInt8).toNat : Int) = 124 := rfl
  have hib := ib124
  have H2 := Lib.hid HB
  clear HB
  have HO := Lib.hid ho
  clear ho
  go_enter Tryd.func27, Tryd.ntmps27
  go_wp2_with fail
  go_quiet (fail)
  have g0 : Hid (Gr w (w.drewN nq)) := (Gr.refl w).drewN nq
  have z0 : Hid ((w.drewN nq).heap.size = w.heap.size) := rfl
  generalize w.drewN nq = w1 at *
  have R0 := Lib.hid (RS.start w1 (HO.out.gr g0.out) (by have := z0.out; omega) 0 0 0)
  go_wp2_with fail
  refine (H1.out _ b _ R0.out.ow (by have := R0.out.gb.size; have := R0.out.bw; omega)).mono ?_
  rintro e w2 ⟨g2, u2, rfl, o2, d2⟩
  have R2 := Lib.hid (R0.out.call g2 o2 d2)
  obtain ⟨ua2, uc2, rfl, hu2⟩ := own_form o2
  clear g2 o2 d2
  obtain ⟨c1, c2, c3, f1, f2, f3⟩ := R2.out.cells
  have R3 := Lib.hid (R2.out.set1 (j1 : Int))
  have R4 := Lib.hid (R3.out.set0 6)
  go_wp2_with (first | (go_at_call 45; go_in) | (go_at_call 61; go_in))
  refine (H2.out _ b _ R4.out.ow (by have := R4.out.gb.size; have := R4.out.bw; omega)).mono ?_
  rintro e w5 ⟨g5, r5, rfl⟩
  have R5 := Lib.hid (R4.out.call g5 (nil_own _ _) (.inr fun j e => nil_block e))
  clear c1 c2 c3 f1 f2 f3
  obtain ⟨c1, c2, c3, f1, f2, f3⟩ := R5.out.cells
  have R6 := Lib.hid (R5.out.set2 (-1))
  go_wp2_with fail
  go_ret3
  exact RSays.from g0.out z0.out (R6.out.fail r5)

set_option maxHeartbeats 4000000 in
set_option maxRecDepth 100000 in
theorem rd_p4_6 (r : List UInt8) (l : List Nd) (ua : Option Addr) (uc b : Nat) (w : World) (ho : OwnN b w (.slice ua l.length uc) l) (hl : l.length ≤ 1000) (hb0 : b ≤ w.heap.size) (s2 : List UInt8) (m : List Nd) (H : RdOk r l (124 :: s2) m) (hm : m.length ≤ 1000) (hm0 : 0 < m.length) (s3 : List UInt8) (m2 : List Nd) (HB : RdOk s2 m s3 m2) (hm2 : m2.length ≤ 1000) (hm20 : 0 < m2.length) (HQ : PreIs s3 41 false) :
    Calls Tryd.prog 27 #[.string (str (40 :: r)), .slice ua l.length uc] w fun e w' => RSays b (.slice ua l.length uc) (none) w e w' := by
  obtain ⟨i0, hi0, hz0, hz1, hz2⟩ := info_parts node_info
  have hs := str_list (40 :: r)
  have hnn : (ByteArray.mk #[]).toList = [] := str_list []
  have hi := fun w => run_str_at (P := Tryd.prog) 9 40 r w Tryd.underlying9
  have ht := fun w => run_str_tail (P := Tryd.prog) 9 40 r w Tryd.underlying9
  have hb : ((40 : UInt8).toNat : Int) = 40 := rfl
  have H1 := Lib.hid H
  clear H
  have hq1 : (m.length : Int) - 1 = ((m.length - 1 : Nat) : Int) := by omega
  have hk1 : (m.length : Int) ≤ 1000 := by omega
  generalize m.length - 1 = j1 at *
  have hs1 := str_list (124 :: s2)
  have hi1 := fun w => run_str_at (P := Tryd.prog) 9 124 s2 w Tryd.underlying9
  have ht1 := fun w => run_str_tail (P := Tryd.prog) 9 124 s2 w Tryd.underlying9
  have hbc : ((124 : UInt8).toNat : Int) = 124 := rfl
  have hib := ib124
  have H2 := Lib.hid HB
  clear HB
  have hq2 : (m2.length : Int) - 1 = ((m2.length - 1 : Nat) : Int) := by omega
  have hk2 : (m2.length : Int) ≤ 1000 := by omega
  generalize m2.length - 1 = j2 at *
  have H3 := Lib.hid HQ
  clear HQ
  have HO := Lib.hid ho
  clear ho
  go_enter Tryd.func27, Tryd.ntmps27
  go_wp2_with fail
  go_quiet (fail)
  have g0 : Hid (Gr w (w.drewN nq)) := (Gr.refl w).drewN nq
  have z0 : Hid ((w.drewN nq).heap.size = w.heap.size) := rfl
  generalize w.drewN nq = w1 at *
  have R0 := Lib.hid (RS.start w1 (HO.out.gr g0.out) (by have := z0.out; omega) 0 0 0)
  go_wp2_with fail
  refine (H1.out _ b _ R0.out.ow (by have := R0.out.gb.size; have := R0.out.bw; omega)).mono ?_
  rintro e w2 ⟨g2, u2, rfl, o2, d2⟩
  have R2 := Lib.hid (R0.out.call g2 o2 d2)
  obtain ⟨ua2, uc2, rfl, hu2⟩ := own_form o2
  clear g2 o2 d2
  obtain ⟨c1, c2, c3, f1, f2, f3⟩ := R2.out.cells
  have R3 := Lib.hid (R2.out.set1 (j1 : Int))
  have R4 := Lib.hid (R3.out.set0 6)
  go_wp2_with (first | (go_at_call 45; go_in) | (go_at_call 61; go_in))
  refine (H2.out _ b _ R4.out.ow (by have := R4.out.gb.size; have := R4.out.bw; omega)).mono ?_
  rintro e w5 ⟨g5, u5, rfl, o5, d5⟩
  have R5 := Lib.hid (R4.out.call g5 o5 d5)
  obtain ⟨ua5, uc5, rfl, hu5⟩ := own_form o5
  clear g5 o5 d5
  clear c1 c2 c3 f1 f2 f3
  obtain ⟨c1, c2, c3, f1, f2, f3⟩ := R5.out.cells
  have R6 := Lib.hid (R5.out.set2 (j2 : Int))
  go_wp2_with fail
  refine (H3.out _).mono ?_
  rintro e wx ⟨rfl, rfl⟩
  go_wp2_with fail
  go_ret3
  exact RSays.from g0.out z0.out (R6.out.fail s3)

set_option maxHeartbeats 4000000 in
set_option maxRecDepth 100000 in
theorem rd_p5_6 (r : List UInt8) (l : List Nd) (ua : Option Addr) (uc b : Nat) (w : World) (ho : OwnN b w (.slice ua l.length uc) l) (hl : l.length ≤ 1000) (hb0 : b ≤ w.heap.size) (s2 : List UInt8) (m : List Nd) (H : RdOk r l (124 :: s2) m) (hm : m.length ≤ 1000) (hm0 : 0 < m.length) (s4 : List UInt8) (m2 : List Nd) (HB : RdOk s2 m (41 :: s4) m2) (hm2 : m2.length ≤ 1000) (hm20 : 0 < m2.length) (HQ : PreIs (41 :: s4) 41 true) :
    Calls Tryd.prog 27 #[.string (str (40 :: r)), .slice ua l.length uc] w fun e w' => RSays b (.slice ua l.length uc) (some (s4, m2 ++ [(6, ((m.length - 1 : Nat) : Int), ((m2.length - 1 : Nat) : Int))])) w e w' := by
  obtain ⟨i0, hi0, hz0, hz1, hz2⟩ := info_parts node_info
  have hs := str_list (40 :: r)
  have hnn : (ByteArray.mk #[]).toList = [] := str_list []
  have hi := fun w => run_str_at (P := Tryd.prog) 9 40 r w Tryd.underlying9
  have ht := fun w => run_str_tail (P := Tryd.prog) 9 40 r w Tryd.underlying9
  have hb : ((40 : UInt8).toNat : Int) = 40 := rfl
  have H1 := Lib.hid H
  clear H
  have hq1 : (m.length : Int) - 1 = ((m.length - 1 : Nat) : Int) := by omega
  have hk1 : (m.length : Int) ≤ 1000 := by omega
  generalize m.length - 1 = j1 at *
  have hs1 := str_list (124 :: s2)
  have hi1 := fun w => run_str_at (P := Tryd.prog) 9 124 s2 w Tryd.underlying9
  have ht1 := fun w => run_str_tail (P := Tryd.prog) 9 124 s2 w Tryd.underlying9
  have hbc : ((124 : UInt8).toNat : Int) = 124 := rfl
  have hib := ib124
  have H2 := Lib.hid HB
  clear HB
  have hq2 : (m2.length : Int) - 1 = ((m2.length - 1 : Nat) : Int) := by omega
  have hk2 : (m2.length : Int) ≤ 1000 := by omega
  generalize m2.length - 1 = j2 at *
  have H3 := Lib.hid HQ
  clear HQ
  have t41 := fun w => run_str_tail (P := Tryd.prog) 9 41 s4 w Tryd.underlying9
  have HO := Lib.hid ho
  clear ho
  go_enter Tryd.func27, Tryd.ntmps27
  go_wp2_with fail
  go_quiet (fail)
  have g0 : Hid (Gr w (w.drewN nq)) := (Gr.refl w).drewN nq
  have z0 : Hid ((w.drewN nq).heap.size = w.heap.size) := rfl
  generalize w.drewN nq = w1 at *
  have R0 := Lib.hid (RS.start w1 (HO.out.gr g0.out) (by have := z0.out; omega) 0 0 0)
  go_wp2_with fail
  refine (H1.out _ b _ R0.out.ow (by have := R0.out.gb.size; have := R0.out.bw; omega)).mono ?_
  rintro e w2 ⟨g2, u2, rfl, o2, d2⟩
  have R2 := Lib.hid (R0.out.call g2 o2 d2)
  obtain ⟨ua2, uc2, rfl, hu2⟩ := own_form o2
  clear g2 o2 d2
  obtain ⟨c1, c2, c3, f1, f2, f3⟩ := R2.out.cells
  have R3 := Lib.hid (R2.out.set1 (j1 : Int))
  have R4 := Lib.hid (R3.out.set0 6)
  go_wp2_with (first | (go_at_call 45; go_in) | (go_at_call 61; go_in))
  refine (H2.out _ b _ R4.out.ow (by have := R4.out.gb.size; have := R4.out.bw; omega)).mono ?_
  rintro e w5 ⟨g5, u5, rfl, o5, d5⟩
  have R5 := Lib.hid (R4.out.call g5 o5 d5)
  obtain ⟨ua5, uc5, rfl, hu5⟩ := own_form o5
  clear g5 o5 d5
  clear c1 c2 c3 f1 f2 f3
  obtain ⟨c1, c2, c3, f1, f2, f3⟩ := R5.out.cells
  have R6 := Lib.hid (R5.out.set2 (j2 : Int))
  go_wp2_with fail
  refine (H3.out _).mono ?_
  rintro e wx ⟨rfl, rfl⟩
  have RX := Lib.hid (R6.out.gr ((Gr.refl _).alloc (.cells #[.int .i64 6, .int .i64 (j1 : Int), .int .i64 (j2 : Int)] 30)))
  go_wp2_with (at_builtin; refine wpList_append_at _ rfl (.tmp 136) (.tmp 138) 22 rfl b 30 i0 _ 3 24 Tryd.underlying22 hi0 hz0 hz1 hz2 rfl (by omega) _ _ _ rfl RX.out.ow ⟨_, 0, none⟩ 1 1 [.int .i64 6, .int .i64 (j1 : Int), .int .i64 (j2 : Int)] rfl rfl (newAt _ [.int .i64 6, .int .i64 (j1 : Int), .int .i64 (j2 : Int)] 30 _ (by simp)) (by simp [Value.oneCell']) (by simp only [maxLen]; omega) (by omega) (by have := RX.out.gb.size; have := RX.out.bw; omega) (by omega) ?_; intro v9 w9 o9 g9 d9)
  go_ret3
  refine RSays.from g0.out z0.out (RX.out.fine g9 (OwnN.app (r := [(6, (j1 : Int), (j2 : Int))]) o9 (by simp) rfl) (late_block d9 ?_) s4)
  simp
end Go.Proofs.YtbodadddcbbjeaaDoor
