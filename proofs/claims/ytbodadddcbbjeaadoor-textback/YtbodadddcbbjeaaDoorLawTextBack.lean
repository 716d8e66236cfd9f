/- TextBack: what is read is shown as it was; what is shown is read as a sentence that says the same. -/
import Derived.Test.YtbodadddcbbjeaaDoorTextV
namespace Go.Proofs.YtbodadddcbbjeaaDoor
open Go.RowKit Rm
set_option linter.unusedVariables false
set_option linter.unusedSimpArgs false
theorem fp_keep_same'' {b b' : Nat} {w : World} {v v' : Value} {P Q : Pt} (h : FP b w v P) (h' : FP b' w v' Q) (e : P = Q) :
    Calls Tryd.prog 13 #[v, v'] w fun e w' => e = .returned (.bool true) ∧ Gr w w' := by
  subst e
  obtain ⟨T, h1, h2, h3⟩ := h.fs
  obtain ⟨U, k1, k2, k3⟩ := h'.fs
  have := same_any h1 k1
  rw [fp_same h2 k2 h3 k3] at this
  exact this
theorem back_lit : showS [(2, 3, 0), (3, 1, 9), (6, 0, 1)] = (0, [40, 35, 51, 124, 91, 49, 44, 57, 41, 41]) := by kernel_rfl
theorem lit3 (w : World) : RdN (w.alloc (.cells #[.int .i64 2, .int .i64 3, .int .i64 0, .int .i64 3, .int .i64 1, .int .i64 9, .int .i64 6, .int .i64 0, .int .i64 1] 30)) (.slice (some ⟨w.heap.size, 0, none⟩) 3 3) [(2, 3, 0), (3, 1, 9), (6, 0, 1)] := by
  refine ⟨_, 3, rfl, Nat.le_refl _, fun _ => ⟨w.heap.size, 0, rfl, by simp, fun i p hp => ?_⟩⟩
  match i, hp with
  | 0, hp => simp at hp; subst hp; simp [go_sem]
  | 1, hp => simp at hp; subst hp; simp [go_sem]
  | 2, hp => simp at hp; subst hp; simp [go_sem]
  | i + 3, hp => simp at hp
theorem show_lit (w : World) : Calls Tryd.prog 6 #[.slice (some ⟨w.heap.size, 0, none⟩) 3 3] (w.alloc (.cells #[.int .i64 2, .int .i64 3, .int .i64 0, .int .i64 3, .int .i64 1, .int .i64 9, .int .i64 6, .int .i64 0, .int .i64 1] 30)) fun e w' => e = .returned (.tuple #[.string (str [40, 35, 51, 124, 91, 49, 44, 57, 41, 41]), .int .i64 0]) ∧ Gr (w.alloc (.cells #[.int .i64 2, .int .i64 3, .int .i64 0, .int .i64 3, .int .i64 1, .int .i64 9, .int .i64 6, .int .i64 0, .int .i64 1] 30)) w' := by
  have := show_any (lit3 w)
  rwa [back_lit] at this
/-- Show's contract at a formula; Read's at a string -/
def ShowsAs (l : List Nd) (k : Int) (q : List UInt8) : Prop := ∀ v w, RdN w v l → Calls Tryd.prog 6 #[v] w fun e w' => e = .returned (.tuple #[.string (str q), .int .i64 k]) ∧ Gr w w'
theorem shows_as (l : List Nd) : ShowsAs l (showS l).1 (showS l).2 := fun v w h => show_any h
def ReadsAt (q : List UInt8) (k : Int) (m : List Nd) : Prop := ∀ w, Calls Tryd.prog 7 #[.string (str q)] w fun e w' => ∃ u, e = .returned (.tuple #[u, .int .i64 k]) ∧ Gr w w' ∧ OwnN w.heap.size w' u m
theorem reads_at (q : List UInt8) : ReadsAt q (readL q).1 (readL q).2 := read_any q

set_option maxHeartbeats 2000000 in
set_option maxRecDepth 100000 in
theorem tback_ok_ok (v : Value) (l : List Nd) (s q1 : List UInt8) (k1 k2 k3 : Int) (m2 m3 : List Nd) (w : World) (hr : RdN w v l) (S1 : ShowsAs l k1 q1) (R2 : ReadsAt q1 k2 m2) (R3 : ReadsAt s k3 m3)
    (h1 : k1 = 0) (h2 : k2 = 0) (o1 : OkL l) (o2 : OkL m2) (f2 : formP l = formP m2) (h3 : k3 = 0) (S3 : ShowsAs m3 0 s) :
    Calls Tryd.prog 4 #[v, .string (str s)] w fun e w' => e = .returned (.bool true) ∧ Gr w w' := by
  have hnn : (ByteArray.mk #[]).toList = [] := str_list []
  have hst := str_list s
  have hlt : (ByteArray.mk #[40, 35, 51, 124, 91, 49, 44, 57, 41, 41]).toList = [40, 35, 51, 124, 91, 49, 44, 57, 41, 41] := str_list _
  have hls := str_list [40, 35, 51, 124, 91, 49, 44, 57, 41, 41]
  subst h1 h2
  have HF := Lib.hid f2
  clear f2
  subst h3
  have HS3 := Lib.hid S3
  clear S3
  have HS := Lib.hid S1
  have H2 := Lib.hid R2
  have H3 := Lib.hid R3
  clear S1 R2 R3
  have V := Lib.hid (hr)
  clear hr
  go_enter Tryd.func4, Tryd.ntmps4
  go_wp2_with fail
  refine (show_lit _).mono ?_
  rintro e w1 ⟨rfl, g1⟩
  have h1 := ((Gr.refl _).alloc _).trans g1
  have G1 := (Gr.refl _).trans h1
  have V_1 := Lib.hid (V.out.gr h1)
  clear V
  clear g1 h1
  go_wp2_with fail
  refine (HS.out _ _ V_1.out).mono ?_
  rintro e w2 ⟨rfl, g2⟩
  have G2 := (G1).trans g2
  have V_2 := Lib.hid (V_1.out.gr g2)
  clear V_1
  clear g2 G1
  clear HS
  go_wp2_with fail
  refine (H2.out _).mono ?_
  rintro e w3 ⟨u2, rfl, g3, o3⟩
  have G3 := (G2).trans g3
  have V_3 := Lib.hid (V_2.out.gr g3)
  clear V_2
  have O2_3 := Lib.hid (o3)
  clear g3 G2
  clear o3 H2
  go_wp2_with fail
  refine (lfilter_ok V_3.out o1).mono ?_
  rintro e w4 ⟨r1, rfl, p1, g4⟩
  have G4 := (G3).trans g4
  have V_4 := Lib.hid (V_3.out.gr g4)
  clear V_3
  have O2_4 := Lib.hid (O2_3.out.gr g4)
  clear O2_3
  have P1_4 := Lib.hid (p1)
  clear g4 G3
  clear p1
  go_wp2_with fail
  refine (lfilter_ok O2_4.out.rd o2).mono ?_
  rintro e w5 ⟨r2, rfl, p2, g5⟩
  have G5 := (G4).trans g5
  have V_5 := Lib.hid (V_4.out.gr g5)
  clear V_4
  have O2_5 := Lib.hid (O2_4.out.gr g5)
  clear O2_4
  have P1_5 := Lib.hid (P1_4.out.gr g5)
  clear P1_4
  have P2_5 := Lib.hid (p2)
  clear g5 G4
  clear p2
  go_wp2_with fail
  refine (fp_keep_same'' P1_5.out P2_5.out HF.out).mono ?_
  rintro e w6 ⟨rfl, g6⟩
  have G6 := (G5).trans g6
  have V_6 := Lib.hid (V_5.out.gr g6)
  clear V_5
  have O2_6 := Lib.hid (O2_5.out.gr g6)
  clear O2_5
  have P1_6 := Lib.hid (P1_5.out.gr g6)
  clear P1_5
  have P2_6 := Lib.hid (P2_5.out.gr g6)
  clear P2_5
  clear g6 G5
  clear P1_6
  clear P2_6
  go_wp2_with fail
  refine (H3.out _).mono ?_
  rintro e w7 ⟨u3, rfl, g7, o4⟩
  have G7 := (G6).trans g7
  have V_7 := Lib.hid (V_6.out.gr g7)
  clear V_6
  have O2_7 := Lib.hid (O2_6.out.gr g7)
  clear O2_6
  have O3_7 := Lib.hid (o4)
  clear g7 G6
  clear o4 H3
  go_wp2_with fail
  refine (HS3.out _ _ O3_7.out.rd).mono ?_
  rintro e w8 ⟨rfl, g8⟩
  have G8 := (G7).trans g8
  have V_8 := Lib.hid (V_7.out.gr g8)
  clear V_7
  have O2_8 := Lib.hid (O2_7.out.gr g8)
  clear O2_7
  have O3_8 := Lib.hid (O3_7.out.gr g8)
  clear O3_7
  clear g8 G7
  go_wp2_with fail
  go_ret
  exact ⟨rfl, G8⟩

set_option maxHeartbeats 2000000 in
set_option maxRecDepth 100000 in
theorem tback_ok_bad (v : Value) (l : List Nd) (s q1 : List UInt8) (k1 k2 k3 : Int) (m2 m3 : List Nd) (w : World) (hr : RdN w v l) (S1 : ShowsAs l k1 q1) (R2 : ReadsAt q1 k2 m2) (R3 : ReadsAt s k3 m3)
    (h1 : k1 = 0) (h2 : k2 = 0) (o1 : OkL l) (o2 : OkL m2) (f2 : formP l = formP m2) (h3 : k3 ≠ 0) (hm3 : m3 = []) :
    Calls Tryd.prog 4 #[v, .string (str s)] w fun e w' => e = .returned (.bool true) ∧ Gr w w' := by
  have hnn : (ByteArray.mk #[]).toList = [] := str_list []
  have hst := str_list s
  have hlt : (ByteArray.mk #[40, 35, 51, 124, 91, 49, 44, 57, 41, 41]).toList = [40, 35, 51, 124, 91, 49, 44, 57, 41, 41] := str_list _
  have hls := str_list [40, 35, 51, 124, 91, 49, 44, 57, 41, 41]
  subst h1 h2
  have HF := Lib.hid f2
  clear f2
  subst hm3
  have hk3 : (k3 != 0) = true := by simpa using h3
  have HS := Lib.hid S1
  have H2 := Lib.hid R2
  have H3 := Lib.hid R3
  clear S1 R2 R3
  have V := Lib.hid (hr)
  clear hr
  go_enter Tryd.func4, Tryd.ntmps4
  go_wp2_with fail
  refine (show_lit _).mono ?_
  rintro e w1 ⟨rfl, g1⟩
  have h1 := ((Gr.refl _).alloc _).trans g1
  have G1 := (Gr.refl _).trans h1
  have V_1 := Lib.hid (V.out.gr h1)
  clear V
  clear g1 h1
  go_wp2_with fail
  refine (HS.out _ _ V_1.out).mono ?_
  rintro e w2 ⟨rfl, g2⟩
  have G2 := (G1).trans g2
  have V_2 := Lib.hid (V_1.out.gr g2)
  clear V_1
  clear g2 G1
  clear HS
  go_wp2_with fail
  refine (H2.out _).mono ?_
  rintro e w3 ⟨u2, rfl, g3, o3⟩
  have G3 := (G2).trans g3
  have V_3 := Lib.hid (V_2.out.gr g3)
  clear V_2
  have O2_3 := Lib.hid (o3)
  clear g3 G2
  clear o3 H2
  go_wp2_with fail
  refine (lfilter_ok V_3.out o1).mono ?_
  rintro e w4 ⟨r1, rfl, p1, g4⟩
  have G4 := (G3).trans g4
  have V_4 := Lib.hid (V_3.out.gr g4)
  clear V_3
  have O2_4 := Lib.hid (O2_3.out.gr g4)
  clear O2_3
  have P1_4 := Lib.hid (p1)
  clear g4 G3
  clear p1
  go_wp2_with fail
  refine (lfilter_ok O2_4.out.rd o2).mono ?_
  rintro e w5 ⟨r2, rfl, p2, g5⟩
  have G5 := (G4).trans g5
  have V_5 := Lib.hid (V_4.out.gr g5)
  clear V_4
  have O2_5 := Lib.hid (O2_4.out.gr g5)
  clear O2_4
  have P1_5 := Lib.hid (P1_4.out.gr g5)
  clear P1_4
  have P2_5 := Lib.hid (p2)
  clear g5 G4
  clear p2
  go_wp2_with fail
  refine (fp_keep_same'' P1_5.out P2_5.out HF.out).mono ?_
  rintro e w6 ⟨rfl, g6⟩
  have G6 := (G5).trans g6
  have V_6 := Lib.hid (V_5.out.gr g6)
  clear V_5
  have O2_6 := Lib.hid (O2_5.out.gr g6)
  clear O2_5
  have P1_6 := Lib.hid (P1_5.out.gr g6)
  clear P1_5
  have P2_6 := Lib.hid (P2_5.out.gr g6)
  clear P2_5
  clear g6 G5
  clear P1_6
  clear P2_6
  go_wp2_with fail
  refine (H3.out _).mono ?_
  rintro e w7 ⟨u3, rfl, g7, o4⟩
  have G7 := (G6).trans g7
  have V_7 := Lib.hid (V_6.out.gr g7)
  clear V_6
  have O2_7 := Lib.hid (O2_6.out.gr g7)
  clear O2_6
  have O3_7 := Lib.hid (o4)
  clear g7 G6
  clear o4 H3
  obtain ⟨ua3, uc3, rfl, hu3⟩ := own_form O3_7.out
  go_wp2_with fail
  go_ret
  exact ⟨rfl, G7⟩

set_option maxHeartbeats 2000000 in
set_option maxRecDepth 100000 in
theorem tback_large_ok (v : Value) (l : List Nd) (s q1 : List UInt8) (k1 k2 k3 : Int) (m2 m3 : List Nd) (w : World) (hr : RdN w v l) (S1 : ShowsAs l k1 q1) (R2 : ReadsAt q1 k2 m2) (R3 : ReadsAt s k3 m3)
    (h1 : k1 = 0) (h2 : k2 = 2) (h3 : k3 = 0) (S3 : ShowsAs m3 0 s) :
    Calls Tryd.prog 4 #[v, .string (str s)] w fun e w' => e = .returned (.bool true) ∧ Gr w w' := by
  have hnn : (ByteArray.mk #[]).toList = [] := str_list []
  have hst := str_list s
  have hlt : (ByteArray.mk #[40, 35, 51, 124, 91, 49, 44, 57, 41, 41]).toList = [40, 35, 51, 124, 91, 49, 44, 57, 41, 41] := str_list _
  have hls := str_list [40, 35, 51, 124, 91, 49, 44, 57, 41, 41]
  subst h1 h2
  subst h3
  have HS3 := Lib.hid S3
  clear S3
  have HS := Lib.hid S1
  have H2 := Lib.hid R2
  have H3 := Lib.hid R3
  clear S1 R2 R3
  have V := Lib.hid (hr)
  clear hr
  go_enter Tryd.func4, Tryd.ntmps4
  go_wp2_with fail
  refine (show_lit _).mono ?_
  rintro e w1 ⟨rfl, g1⟩
  have h1 := ((Gr.refl _).alloc _).trans g1
  have G1 := (Gr.refl _).trans h1
  have V_1 := Lib.hid (V.out.gr h1)
  clear V
  clear g1 h1
  go_wp2_with fail
  refine (HS.out _ _ V_1.out).mono ?_
  rintro e w2 ⟨rfl, g2⟩
  have G2 := (G1).trans g2
  have V_2 := Lib.hid (V_1.out.gr g2)
  clear V_1
  clear g2 G1
  clear HS
  go_wp2_with fail
  refine (H2.out _).mono ?_
  rintro e w3 ⟨u2, rfl, g3, o3⟩
  have G3 := (G2).trans g3
  have V_3 := Lib.hid (V_2.out.gr g3)
  clear V_2
  have O2_3 := Lib.hid (o3)
  clear g3 G2
  clear o3 H2
  go_wp2_with fail
  refine (H3.out _).mono ?_
  rintro e w4 ⟨u3, rfl, g4, o4⟩
  have G4 := (G3).trans g4
  have V_4 := Lib.hid (V_3.out.gr g4)
  clear V_3
  have O2_4 := Lib.hid (O2_3.out.gr g4)
  clear O2_3
  have O3_4 := Lib.hid (o4)
  clear g4 G3
  clear o4 H3
  go_wp2_with fail
  refine (HS3.out _ _ O3_4.out.rd).mono ?_
  rintro e w5 ⟨rfl, g5⟩
  have G5 := (G4).trans g5
  have V_5 := Lib.hid (V_4.out.gr g5)
  clear V_4
  have O2_5 := Lib.hid (O2_4.out.gr g5)
  clear O2_4
  have O3_5 := Lib.hid (O3_4.out.gr g5)
  clear O3_4
  clear g5 G4
  go_wp2_with fail
  go_ret
  exact ⟨rfl, G5⟩

set_option maxHeartbeats 2000000 in
set_option maxRecDepth 100000 in
theorem tback_large_bad (v : Value) (l : List Nd) (s q1 : List UInt8) (k1 k2 k3 : Int) (m2 m3 : List Nd) (w : World) (hr : RdN w v l) (S1 : ShowsAs l k1 q1) (R2 : ReadsAt q1 k2 m2) (R3 : ReadsAt s k3 m3)
    (h1 : k1 = 0) (h2 : k2 = 2) (h3 : k3 ≠ 0) (hm3 : m3 = []) :
    Calls Tryd.prog 4 #[v, .string (str s)] w fun e w' => e = .returned (.bool true) ∧ Gr w w' := by
  have hnn : (ByteArray.mk #[]).toList = [] := str_list []
  have hst := str_list s
  have hlt : (ByteArray.mk #[40, 35, 51, 124, 91, 49, 44, 57, 41, 41]).toList = [40, 35, 51, 124, 91, 49, 44, 57, 41, 41] := str_list _
  have hls := str_list [40, 35, 51, 124, 91, 49, 44, 57, 41, 41]
  subst h1 h2
  subst hm3
  have hk3 : (k3 != 0) = true := by simpa using h3
  have HS := Lib.hid S1
  have H2 := Lib.hid R2
  have H3 := Lib.hid R3
  clear S1 R2 R3
  have V := Lib.hid (hr)
  clear hr
  go_enter Tryd.func4, Tryd.ntmps4
  go_wp2_with fail
  refine (show_lit _).mono ?_
  rintro e w1 ⟨rfl, g1⟩
  have h1 := ((Gr.refl _).alloc _).trans g1
  have G1 := (Gr.refl _).trans h1
  have V_1 := Lib.hid (V.out.gr h1)
  clear V
  clear g1 h1
  go_wp2_with fail
  refine (HS.out _ _ V_1.out).mono ?_
  rintro e w2 ⟨rfl, g2⟩
  have G2 := (G1).trans g2
  have V_2 := Lib.hid (V_1.out.gr g2)
  clear V_1
  clear g2 G1
  clear HS
  go_wp2_with fail
  refine (H2.out _).mono ?_
  rintro e w3 ⟨u2, rfl, g3, o3⟩
  have G3 := (G2).trans g3
  have V_3 := Lib.hid (V_2.out.gr g3)
  clear V_2
  have O2_3 := Lib.hid (o3)
  clear g3 G2
  clear o3 H2
  go_wp2_with fail
  refine (H3.out _).mono ?_
  rintro e w4 ⟨u3, rfl, g4, o4⟩
  have G4 := (G3).trans g4
  have V_4 := Lib.hid (V_3.out.gr g4)
  clear V_3
  have O2_4 := Lib.hid (O2_3.out.gr g4)
  clear O2_3
  have O3_4 := Lib.hid (o4)
  clear g4 G3
  clear o4 H3
  obtain ⟨ua3, uc3, rfl, hu3⟩ := own_form O3_4.out
  go_wp2_with fail
  go_ret
  exact ⟨rfl, G4⟩

set_option maxHeartbeats 2000000 in
set_option maxRecDepth 100000 in
theorem tback_bad_ok (v : Value) (l : List Nd) (s q1 : List UInt8) (k1 k2 k3 : Int) (m2 m3 : List Nd) (w : World) (hr : RdN w v l) (S1 : ShowsAs l k1 q1) (R2 : ReadsAt q1 k2 m2) (R3 : ReadsAt s k3 m3)
    (h1 : k1 ≠ 0) (hq : q1 = []) (h3 : k3 = 0) (S3 : ShowsAs m3 0 s) :
    Calls Tryd.prog 4 #[v, .string (str s)] w fun e w' => e = .returned (.bool true) ∧ Gr w w' := by
  have hnn : (ByteArray.mk #[]).toList = [] := str_list []
  have hst := str_list s
  have hlt : (ByteArray.mk #[40, 35, 51, 124, 91, 49, 44, 57, 41, 41]).toList = [40, 35, 51, 124, 91, 49, 44, 57, 41, 41] := str_list _
  have hls := str_list [40, 35, 51, 124, 91, 49, 44, 57, 41, 41]
  subst hq
  have hk1 : (k1 == 0) = false := by simpa using h1
  have hs0 := str_list []
  subst h3
  have HS3 := Lib.hid S3
  clear S3
  have HS := Lib.hid S1
  have H2 := Lib.hid R2
  have H3 := Lib.hid R3
  clear S1 R2 R3
  have V := Lib.hid (hr)
  clear hr
  go_enter Tryd.func4, Tryd.ntmps4
  go_wp2_with fail
  refine (show_lit _).mono ?_
  rintro e w1 ⟨rfl, g1⟩
  have h1 := ((Gr.refl _).alloc _).trans g1
  have G1 := (Gr.refl _).trans h1
  have V_1 := Lib.hid (V.out.gr h1)
  clear V
  clear g1 h1
  go_wp2_with fail
  refine (HS.out _ _ V_1.out).mono ?_
  rintro e w2 ⟨rfl, g2⟩
  have G2 := (G1).trans g2
  have V_2 := Lib.hid (V_1.out.gr g2)
  clear V_1
  clear g2 G1
  clear HS
  go_wp2_with fail
  refine (H3.out _).mono ?_
  rintro e w3 ⟨u3, rfl, g3, o4⟩
  have G3 := (G2).trans g3
  have V_3 := Lib.hid (V_2.out.gr g3)
  clear V_2
  have O3_3 := Lib.hid (o4)
  clear g3 G2
  clear o4 H3
  go_wp2_with fail
  refine (HS3.out _ _ O3_3.out.rd).mono ?_
  rintro e w4 ⟨rfl, g4⟩
  have G4 := (G3).trans g4
  have V_4 := Lib.hid (V_3.out.gr g4)
  clear V_3
  have O3_4 := Lib.hid (O3_3.out.gr g4)
  clear O3_3
  clear g4 G3
  go_wp2_with fail
  go_ret
  exact ⟨rfl, G4⟩

set_option maxHeartbeats 2000000 in
set_option maxRecDepth 100000 in
theorem tback_bad_bad (v : Value) (l : List Nd) (s q1 : List UInt8) (k1 k2 k3 : Int) (m2 m3 : List Nd) (w : World) (hr : RdN w v l) (S1 : ShowsAs l k1 q1) (R2 : ReadsAt q1 k2 m2) (R3 : ReadsAt s k3 m3)
    (h1 : k1 ≠ 0) (hq : q1 = []) (h3 : k3 ≠ 0) (hm3 : m3 = []) :
    Calls Tryd.prog 4 #[v, .string (str s)] w fun e w' => e = .returned (.bool true) ∧ Gr w w' := by
  have hnn : (ByteArray.mk #[]).toList = [] := str_list []
  have hst := str_list s
  have hlt : (ByteArray.mk #[40, 35, 51, 124, 91, 49, 44, 57, 41, 41]).toList = [40, 35, 51, 124, 91, 49, 44, 57, 41, 41] := str_list _
  have hls := str_list [40, 35, 51, 124, 91, 49, 44, 57, 41, 41]
  subst hq
  have hk1 : (k1 == 0) = false := by simpa using h1
  have hs0 := str_list []
  subst hm3
  have hk3 : (k3 != 0) = true := by simpa using h3
  have HS := Lib.hid S1
  have H2 := Lib.hid R2
  have H3 := Lib.hid R3
  clear S1 R2 R3
  have V := Lib.hid (hr)
  clear hr
  go_enter Tryd.func4, Tryd.ntmps4
  go_wp2_with fail
  refine (show_lit _).mono ?_
  rintro e w1 ⟨rfl, g1⟩
  have h1 := ((Gr.refl _).alloc _).trans g1
  have G1 := (Gr.refl _).trans h1
  have V_1 := Lib.hid (V.out.gr h1)
  clear V
  clear g1 h1
  go_wp2_with fail
  refine (HS.out _ _ V_1.out).mono ?_
  rintro e w2 ⟨rfl, g2⟩
  have G2 := (G1).trans g2
  have V_2 := Lib.hid (V_1.out.gr g2)
  clear V_1
  clear g2 G1
  clear HS
  go_wp2_with fail
  refine (H3.out _).mono ?_
  rintro e w3 ⟨u3, rfl, g3, o4⟩
  have G3 := (G2).trans g3
  have V_3 := Lib.hid (V_2.out.gr g3)
  clear V_2
  have O3_3 := Lib.hid (o4)
  clear g3 G2
  clear o4 H3
  obtain ⟨ua3, uc3, rfl, hu3⟩ := own_form O3_3.out
  go_wp2_with fail
  go_ret
  exact ⟨rfl, G3⟩

theorem textBack_walk (v : Value) (l : List Nd) (s : List UInt8) (W : World) (hr : RdN W v l) :
    Calls Tryd.prog 4 #[v, .string (str s)] W fun e W' => e = .returned (.bool true) ∧ Gr W W' := by
  by_cases h3 : (readL s).1 = 0
  · have S3 : ShowsAs (readL s).2 0 s := by have := shows_as (readL s).2; rwa [(read_show h3).1] at this
    by_cases h1 : (showS l).1 = 0
    · obtain ⟨o1, ⟨h2, o2, f2⟩ | h2⟩ := show_read h1
      · exact tback_ok_ok v l s _ _ _ _ _ _ W hr (shows_as l) (reads_at _) (reads_at s) h1 h2 o1 o2 f2.symm h3 S3
      · exact tback_large_ok v l s _ _ _ _ _ _ W hr (shows_as l) (reads_at _) (reads_at s) h1 h2 h3 S3
    · exact tback_bad_ok v l s _ _ _ _ _ _ W hr (shows_as l) (reads_at _) (reads_at s) h1 (showS_bad h1) h3 S3
  · by_cases h1 : (showS l).1 = 0
    · obtain ⟨o1, ⟨h2, o2, f2⟩ | h2⟩ := show_read h1
      · exact tback_ok_bad v l s _ _ _ _ _ _ W hr (shows_as l) (reads_at _) (reads_at s) h1 h2 o1 o2 f2.symm h3 (readL_bad h3)
      · exact tback_large_bad v l s _ _ _ _ _ _ W hr (shows_as l) (reads_at _) (reads_at s) h1 h2 h3 (readL_bad h3)
    · exact tback_bad_bad v l s _ _ _ _ _ _ W hr (shows_as l) (reads_at _) (reads_at s) h1 (showS_bad h1) h3 (readL_bad h3)
end Go.Proofs.YtbodadddcbbjeaaDoor
