/- TextSays: Show and Read answer what the document says. -/
import Derived.Test.YtbodadddcbbjeaaDoorTsK
namespace Rm
open Go Go.RowKit
theorem says_lit : readL [33, 35, 49] = (0, [(2, 1, 0), (4, 0, 0)]) := by kernel_rfl
theorem readL_few (s : List UInt8) : (readL s).2.length ≤ 1000 := by
  by_cases h : (readL s).1 = 0
  · obtain ⟨T, _, _, _, hc, e⟩ := readL_ok h
    rw [e, nodesAt_len]; omega
  · rw [readL_bad h]; simp
end Rm
namespace Go.Proofs.YtbodadddcbbjeaaDoor
open Go.RowKit Rm
set_option linter.unusedVariables false
set_option linter.unusedSimpArgs false
theorem litN2 (w : World) : RdN (w.alloc (.cells #[.int .i64 2, .int .i64 1, .int .i64 0, .int .i64 4, .int .i64 0, .int .i64 0] 30)) (.slice (some ⟨w.heap.size, 0, none⟩) 2 2) [(2, 1, 0), (4, 0, 0)] := by
  refine ⟨_, 2, rfl, Nat.le_refl _, fun _ => ⟨w.heap.size, 0, rfl, by simp, fun i p hp => ?_⟩⟩
  match i, hp with
  | 0, hp => simp at hp; subst hp; simp [go_sem]
  | 1, hp => simp at hp; subst hp; simp [go_sem]
  | i + 2, hp => simp at hp

set_option maxHeartbeats 4000000 in
set_option maxRecDepth 100000 in
theorem tsays_bad (v : Value) (l : List Nd) (s q : List UInt8) (k1 : Int) (m1 : List Nd) (hml : m1.length ≤ 1000) (hrs : readL s = (k1, m1)) (w : World) (hr : RdN w v l) (k : Int) (hk : chkL l = k) (hk0 : k ≠ 0) (hq0 : q = []) (hs : showS l = (k, q)) :
    Calls Tryd.prog 3 #[v, .string (str s)] w fun e w' => e = .returned (.bool true) ∧ Gr w w' := by
  subst hq0
  have hkb : (k == 0) = false := by simpa using hk0
  have hkk : (k != k) = false := by simp
  clear hk0
  have hnn : (ByteArray.mk #[]).toList = [] := str_list []
  have hq := str_list []
  have HM := Lib.hid hml
  have HS := Lib.hid hs
  have HRS := Lib.hid hrs
  clear hs hrs
  have V := Lib.hid (hr)
  clear hr
  go_enter Tryd.func3, Tryd.ntmps3
  go_wp2_with fail
  refine (show_any V.out).mono ?_
  rw [HS.out]
  rintro e w1 ⟨rfl, g1⟩
  have G1 := (Gr.refl _).trans g1
  have V_1 := Lib.hid (V.out.gr g1)
  clear V
  clear g1
  go_wp2_with fail
  refine (read_any s _).mono ?_
  rw [HRS.out]
  rintro e w2 ⟨u1, rfl, g2, o1⟩
  have G2 := (G1).trans g2
  have V_2 := Lib.hid (V_1.out.gr g2)
  clear V_1
  have O1_2 := Lib.hid (o1)
  clear g2 G1
  clear o1
  go_wp2_with fail
  refine (read_any [33, 35, 49] _).mono ?_
  rw [says_lit]
  rintro e w3 ⟨u2, rfl, g3, o2⟩
  have G3 := (G2).trans g3
  have V_3 := Lib.hid (V_2.out.gr g3)
  clear V_2
  have O1_3 := Lib.hid (O1_2.out.gr g3)
  clear O1_2
  have O2_3 := Lib.hid (o2)
  clear g3 G2
  clear o2
  go_wp2_with fail
  refine (nodes_same (O2_3.out.gr ((Gr.refl _).alloc _)).rd (litN2 _) (by simp)).mono ?_
  rintro e w4 ⟨rfl, g4⟩
  have h4 := ((Gr.refl _).alloc _).trans g4
  have G4 := (G3).trans h4
  have V_4 := Lib.hid (V_3.out.gr h4)
  clear V_3
  have O1_4 := Lib.hid (O1_3.out.gr h4)
  clear O1_3
  have O2_4 := Lib.hid (O2_3.out.gr h4)
  clear O2_3
  clear g4 h4 G3
  clear O2_4
  go_wp2_with fail
  refine (rsentence_any _ _ _ V_4.out).mono ?_
  rw [hk]
  rintro e w5 ⟨rfl, g5⟩
  have G5 := (G4).trans g5
  have V_5 := Lib.hid (V_4.out.gr g5)
  clear V_4
  have O1_5 := Lib.hid (O1_4.out.gr g5)
  clear O1_4
  clear g5 G4
  go_wp2_with fail
  refine (rread_any s _).mono ?_
  rw [HRS.out]
  rintro e w6 ⟨u3, rfl, g6, o3⟩
  have G6 := (G5).trans g6
  have V_6 := Lib.hid (V_5.out.gr g6)
  clear V_5
  have O1_6 := Lib.hid (O1_5.out.gr g6)
  clear O1_5
  have O3_6 := Lib.hid (o3)
  clear g6 G5
  clear o3
  go_wp2_with fail
  refine (nodes_same O1_6.out.rd O3_6.out.rd HM.out).mono ?_
  rintro e w7 ⟨rfl, g7⟩
  have G7 := (G6).trans g7
  have V_7 := Lib.hid (V_6.out.gr g7)
  clear V_6
  have O1_7 := Lib.hid (O1_6.out.gr g7)
  clear O1_6
  have O3_7 := Lib.hid (O3_6.out.gr g7)
  clear O3_6
  clear g7 G6
  go_wp2_with fail
  go_ret
  exact ⟨rfl, G7⟩

set_option maxHeartbeats 4000000 in
set_option maxRecDepth 100000 in
theorem tsays_large (v : Value) (l : List Nd) (s q : List UInt8) (k1 : Int) (m1 : List Nd) (hml : m1.length ≤ 1000) (hrs : readL s = (k1, m1)) (w : World) (hr : RdN w v l) (hok : OkL l) (hq0 : q = []) (hs : showS l = (2, q)) (he : rshowE l = .returned (.tuple #[.string (str q), .bool false])) :
    Calls Tryd.prog 3 #[v, .string (str s)] w fun e w' => e = .returned (.bool true) ∧ Gr w w' := by
  subst hq0
  have HC := Lib.hid (chkL_of hok)
  have HO := Lib.hid hok
  have HE := Lib.hid he
  clear hok he
  have hnn : (ByteArray.mk #[]).toList = [] := str_list []
  have hq := str_list []
  have HM := Lib.hid hml
  have HS := Lib.hid hs
  have HRS := Lib.hid hrs
  clear hs hrs
  have V := Lib.hid (hr)
  clear hr
  go_enter Tryd.func3, Tryd.ntmps3
  go_wp2_with fail
  refine (show_any V.out).mono ?_
  rw [HS.out]
  rintro e w1 ⟨rfl, g1⟩
  have G1 := (Gr.refl _).trans g1
  have V_1 := Lib.hid (V.out.gr g1)
  clear V
  clear g1
  go_wp2_with fail
  refine (read_any s _).mono ?_
  rw [HRS.out]
  rintro e w2 ⟨u1, rfl, g2, o1⟩
  have G2 := (G1).trans g2
  have V_2 := Lib.hid (V_1.out.gr g2)
  clear V_1
  have O1_2 := Lib.hid (o1)
  clear g2 G1
  clear o1
  go_wp2_with fail
  refine (read_any [33, 35, 49] _).mono ?_
  rw [says_lit]
  rintro e w3 ⟨u2, rfl, g3, o2⟩
  have G3 := (G2).trans g3
  have V_3 := Lib.hid (V_2.out.gr g3)
  clear V_2
  have O1_3 := Lib.hid (O1_2.out.gr g3)
  clear O1_2
  have O2_3 := Lib.hid (o2)
  clear g3 G2
  clear o2
  go_wp2_with fail
  refine (nodes_same (O2_3.out.gr ((Gr.refl _).alloc _)).rd (litN2 _) (by simp)).mono ?_
  rintro e w4 ⟨rfl, g4⟩
  have h4 := ((Gr.refl _).alloc _).trans g4
  have G4 := (G3).trans h4
  have V_4 := Lib.hid (V_3.out.gr h4)
  clear V_3
  have O1_4 := Lib.hid (O1_3.out.gr h4)
  clear O1_3
  have O2_4 := Lib.hid (O2_3.out.gr h4)
  clear O2_3
  clear g4 h4 G3
  clear O2_4
  go_wp2_with fail
  refine (rsentence_any _ _ _ V_4.out).mono ?_
  rw [HC.out]
  rintro e w5 ⟨rfl, g5⟩
  have G5 := (G4).trans g5
  have V_5 := Lib.hid (V_4.out.gr g5)
  clear V_4
  have O1_5 := Lib.hid (O1_4.out.gr g5)
  clear O1_4
  clear g5 G4
  go_wp2_with fail
  refine (rshow_ok V_5.out HO.out).mono ?_
  rw [HE.out]
  rintro e w6 ⟨rfl, g6⟩
  have G6 := (G5).trans g6
  have V_6 := Lib.hid (V_5.out.gr g6)
  clear V_5
  have O1_6 := Lib.hid (O1_5.out.gr g6)
  clear O1_5
  clear g6 G5
  go_wp2_with fail
  refine (rread_any s _).mono ?_
  rw [HRS.out]
  rintro e w7 ⟨u3, rfl, g7, o3⟩
  have G7 := (G6).trans g7
  have V_7 := Lib.hid (V_6.out.gr g7)
  clear V_6
  have O1_7 := Lib.hid (O1_6.out.gr g7)
  clear O1_6
  have O3_7 := Lib.hid (o3)
  clear g7 G6
  clear o3
  go_wp2_with fail
  refine (nodes_same O1_7.out.rd O3_7.out.rd HM.out).mono ?_
  rintro e w8 ⟨rfl, g8⟩
  have G8 := (G7).trans g8
  have V_8 := Lib.hid (V_7.out.gr g8)
  clear V_7
  have O1_8 := Lib.hid (O1_7.out.gr g8)
  clear O1_7
  have O3_8 := Lib.hid (O3_7.out.gr g8)
  clear O3_7
  clear g8 G7
  go_wp2_with fail
  go_ret
  exact ⟨rfl, G8⟩

set_option maxHeartbeats 4000000 in
set_option maxRecDepth 100000 in
theorem tsays_fine (v : Value) (l : List Nd) (s q : List UInt8) (k1 : Int) (m1 : List Nd) (hml : m1.length ≤ 1000) (hrs : readL s = (k1, m1)) (w : World) (hr : RdN w v l) (hok : OkL l) (hs : showS l = (0, q)) (he : rshowE l = .returned (.tuple #[.string (str q), .bool true])) :
    Calls Tryd.prog 3 #[v, .string (str s)] w fun e w' => e = .returned (.bool true) ∧ Gr w w' := by
  have HC := Lib.hid (chkL_of hok)
  have HO := Lib.hid hok
  have HE := Lib.hid he
  clear hok he
  have hnn : (ByteArray.mk #[]).toList = [] := str_list []
  have hq := str_list q
  have HM := Lib.hid hml
  have HS := Lib.hid hs
  have HRS := Lib.hid hrs
  clear hs hrs
  have V := Lib.hid (hr)
  clear hr
  go_enter Tryd.func3, Tryd.ntmps3
  go_wp2_with fail
  refine (show_any V.out).mono ?_
  rw [HS.out]
  rintro e w1 ⟨rfl, g1⟩
  have G1 := (Gr.refl _).trans g1
  have V_1 := Lib.hid (V.out.gr g1)
  clear V
  clear g1
  go_wp2_with fail
  refine (read_any s _).mono ?_
  rw [HRS.out]
  rintro e w2 ⟨u1, rfl, g2, o1⟩
  have G2 := (G1).trans g2
  have V_2 := Lib.hid (V_1.out.gr g2)
  clear V_1
  have O1_2 := Lib.hid (o1)
  clear g2 G1
  clear o1
  go_wp2_with fail
  refine (read_any [33, 35, 49] _).mono ?_
  rw [says_lit]
  rintro e w3 ⟨u2, rfl, g3, o2⟩
  have G3 := (G2).trans g3
  have V_3 := Lib.hid (V_2.out.gr g3)
  clear V_2
  have O1_3 := Lib.hid (O1_2.out.gr g3)
  clear O1_2
  have O2_3 := Lib.hid (o2)
  clear g3 G2
  clear o2
  go_wp2_with fail
  refine (nodes_same (O2_3.out.gr ((Gr.refl _).alloc _)).rd (litN2 _) (by simp)).mono ?_
  rintro e w4 ⟨rfl, g4⟩
  have h4 := ((Gr.refl _).alloc _).trans g4
  have G4 := (G3).trans h4
  have V_4 := Lib.hid (V_3.out.gr h4)
  clear V_3
  have O1_4 := Lib.hid (O1_3.out.gr h4)
  clear O1_3
  have O2_4 := Lib.hid (O2_3.out.gr h4)
  clear O2_3
  clear g4 h4 G3
  clear O2_4
  go_wp2_with fail
  refine (rsentence_any _ _ _ V_4.out).mono ?_
  rw [HC.out]
  rintro e w5 ⟨rfl, g5⟩
  have G5 := (G4).trans g5
  have V_5 := Lib.hid (V_4.out.gr g5)
  clear V_4
  have O1_5 := Lib.hid (O1_4.out.gr g5)
  clear O1_4
  clear g5 G4
  go_wp2_with fail
  refine (rshow_ok V_5.out HO.out).mono ?_
  rw [HE.out]
  rintro e w6 ⟨rfl, g6⟩
  have G6 := (G5).trans g6
  have V_6 := Lib.hid (V_5.out.gr g6)
  clear V_5
  have O1_6 := Lib.hid (O1_5.out.gr g6)
  clear O1_5
  clear g6 G5
  go_wp2_with fail
  refine (rread_any s _).mono ?_
  rw [HRS.out]
  rintro e w7 ⟨u3, rfl, g7, o3⟩
  have G7 := (G6).trans g7
  have V_7 := Lib.hid (V_6.out.gr g7)
  clear V_6
  have O1_7 := Lib.hid (O1_6.out.gr g7)
  clear O1_6
  have O3_7 := Lib.hid (o3)
  clear g7 G6
  clear o3
  go_wp2_with fail
  refine (nodes_same O1_7.out.rd O3_7.out.rd HM.out).mono ?_
  rintro e w8 ⟨rfl, g8⟩
  have G8 := (G7).trans g8
  have V_8 := Lib.hid (V_7.out.gr g8)
  clear V_7
  have O1_8 := Lib.hid (O1_7.out.gr g8)
  clear O1_7
  have O3_8 := Lib.hid (O3_7.out.gr g8)
  clear O3_7
  clear g8 G7
  go_wp2_with fail
  go_ret
  exact ⟨rfl, G8⟩

theorem textSays_walk (v : Value) (l : List Nd) (s : List UInt8) (W : World) (hr : RdN W v l) :
    Calls Tryd.prog 3 #[v, .string (str s)] W fun e W' => e = .returned (.bool true) ∧ Gr W W' := by
  by_cases hc : chkL l = 0
  · have hok := okL_of hc
    by_cases h4 : 400 < (text (treeOf l)).length
    · exact tsays_large v l s [] _ _ (readL_few s) rfl W hr hok rfl (by rw [showS_ok hok, if_pos h4]) (if_pos h4)
    · exact tsays_fine v l s (text (treeOf l)) _ _ (readL_few s) rfl W hr hok (by rw [showS_ok hok, if_neg h4]) (if_neg h4)
  · exact tsays_bad v l s [] _ _ (readL_few s) rfl W hr (chkL l) rfl hc rfl (by unfold showS; rw [if_pos hc])
end Go.Proofs.YtbodadddcbbjeaaDoor
