/- The walk of FormBack. -/
import Derived.Test.YthnoafmdecehcaaFormH
import Derived.Test.YthnoafmdecehcaaFormB
import Derived.Test.YthnoafmdecehcaaFormD
namespace Rm
open Go Go.RowKit
theorem canon15 : canon 15 = [(0, 4)] := by decide +kernel
theorem vld01 : Vld 0 1 := by refine ⟨?_, ?_, ?_⟩ <;> decide
theorem ofL9 : (ofL [((0, 1), 15)]).length = 9 := by rw [ofL_len]; unfold boxNs boxN; rw [List.foldl_cons, List.foldl_nil, canon15]; decide
end Rm
namespace Go.Proofs.Ythnoafmdecehcaa
open Go.RowKit Rm
set_option linter.unusedVariables false
theorem lit_rdF (w : World) (y n f t m : Nat) (hc : canon m = [(f, t)]) (hm : m < 2 ^ 32) (B : Nat) (hB : w.heap.size = B) :
    RdF ((w.alloc (.cells #[.int .i64 f, .int .i64 t] 53)).alloc (.cells #[.int .i64 y, .int .i64 n, .slice (some ⟨B, 0, none⟩) 1 1] 56)) (.slice (some ⟨B + 1, 0, none⟩) 1 1) ([((y, n), m)].map boxI) := by
  subst hB
  refine ⟨_, 1, rfl, by simp, fun _ => ⟨w.heap.size + 1, 0, rfl, by simp, ?_⟩⟩
  intro i p hp
  cases i with
  | succ i => simp at hp
  | zero =>
    simp at hp
    subst hp
    refine ⟨.slice (some ⟨w.heap.size, 0, none⟩) 1 1, ?_, ?_, ?_, ?_⟩
    · simp [go_sem, boxI]
    · simp [go_sem, boxI]
    · simp [go_sem]
    · have h := (lit1 w f t 53 m hc hm).1
      exact h.gr ((Gr.refl _).alloc _)
theorem ok_lit9 : OkF [((0, 1), 15)] := by
  intro b hb
  obtain rfl : b = ((0, 1), 15) := by simpa using hb
  exact ⟨vld01, by decide⟩
theorem of_lit (w : World) (B : Nat) (hB : w.heap.size = B) : Calls Try.prog 17 #[.slice (some ⟨B + 1, 0, none⟩) 1 1] ((w.alloc (.cells #[.int .i64 0, .int .i64 4] 53)).alloc (.cells #[.int .i64 0, .int .i64 1, .slice (some ⟨B, 0, none⟩) 1 1] 56))
    fun e w' => ∃ a c, e = .returned (.tuple #[.slice a 9 c, .int .i64 0]) ∧ Gr ((w.alloc (.cells #[.int .i64 0, .int .i64 4] 53)).alloc (.cells #[.int .i64 0, .int .i64 1, .slice (some ⟨B, 0, none⟩) 1 1] 56)) w' := by
  have h := lof_any (lit_rdF w 0 1 0 4 15 canon15 (by decide) B hB) ok_lit9 (by simp)
  refine h.mono ?_
  rintro e w' ⟨g, h | ⟨h, u, rfl, ho⟩⟩
  · have := ofL9; omega
  · unfold OwnN at ho
    rw [ofL9] at ho
    obtain ⟨a, c, rfl, _⟩ := own_form ho
    exact ⟨a, c, rfl, g⟩
theorem same_fp {b : Nat} {w : World} {v v' : Value} {T : Nat → Nat} {P : Pt} (h : FS w v T) (hT : OkT T) (hr : RepT T P) (h' : FP b w v' P) :
    Calls Try.prog 23 #[v, v'] w fun e w' => e = .returned (.bool true) ∧ Gr w w' := by
  obtain ⟨U, k1, k2, k3⟩ := h'.fs
  have := same_any h k1
  rw [fp_same hT k2 hr k3] at this
  exact this
theorem has_rep {w : World} {v : Value} {T : Nat → Nat} {P : Pt} {t x : Nat} (h : FS w v T) (hr : RepT T P) (ht : t < 16) (hx : x < 32) :
    Calls Try.prog 21 #[v, .agg #[.int .i64 (t : Int), .int .i64 (x : Int)]] w fun e w' => e = .returned (.tuple #[.bool (P t x), .int .i64 0]) ∧ Gr w w' := by
  have := fhas_ok h (t : Int) (x : Int)
  have e1 : bitT T (t : Int) (x : Int) = P t x := by
    unfold bitT
    rw [pointB_nat ht hx]
    simpa using hr t ht x hx
  have e2 : errP (t : Int) (x : Int) = 0 := by unfold errP; rw [pointB_nat ht hx]; rfl
  rw [e1, e2] at this
  exact this
theorem has_badp {w : World} {v : Value} {T : Nat → Nat} {t n : Int} (h : FS w v T) (hp : pointB t n = false) :
    Calls Try.prog 21 #[v, .agg #[.int .i64 t, .int .i64 n]] w fun e w' => e = .returned (.tuple #[.bool false, .int .i64 1]) ∧ Gr w w' := by
  have := fhas_ok h t n
  have e1 : bitT T t n = false := by unfold bitT; rw [hp]; rfl
  have e2 : errP t n = 1 := by unfold errP; rw [hp]; rfl
  rw [e1, e2] at this
  exact this
set_option maxHeartbeats 4000000 in
set_option maxRecDepth 100000 in
theorem formBack_bad (v : Value) (l : List BoxI) (t n : Int) (w : World) (hr : RdF w v l) (hc : (chkF l == 0) = false) :
    Calls Try.prog 6 #[v, .agg #[.int .i64 t, .int .i64 n]] w fun e w' => e = .returned (.bool true) ∧ Gr w w' := by
  have hc' := bne_of' hc
  have HC := Lib.hid hc
  clear hc
  have HP := Lib.hid (Two.new w t n 24)
  have HR := Lib.hid (hr.gr ((Gr.refl w).alloc (.cells #[.int .i64 t, .int .i64 n] 24)))
  clear hr
  go_enter Try.func6, Try.ntmps6
  go_wp2_with fail
  refine (of_lit (w.alloc _) (w.heap.size + 1) (by simp)).mono ?_
  rintro e w1 ⟨la, lc, rfl, g1⟩
  have h1 := (((Gr.refl _).alloc _).alloc _).trans g1
  have G1 := ((Gr.refl w).alloc _).trans h1
  have HR_1 := Lib.hid (HR.out.gr h1)
  clear HR
  have HP_1 := Lib.hid (HP.out.gr h1)
  clear HP
  clear g1 h1
  go_wp2_with fail
  refine (lof_bad (HR_1.out) HC.out).mono ?_
  rintro e w2 ⟨rfl, g2⟩
  have G2 := (G1).trans g2
  have HR_2 := Lib.hid (HR_1.out.gr g2)
  clear HR_1
  have HP_2 := Lib.hid (HP_1.out.gr g2)
  clear HP_1
  clear g2 G1
  go_wp2_with fail
  go_ret
  exact ⟨rfl, G2⟩
set_option maxHeartbeats 4000000 in
set_option maxRecDepth 100000 in
theorem formBack_large (v : Value) (F : List Bx) (t n : Int) (w : World) (hr : RdF w v (F.map boxI)) (hF : OkF F) (hl : F.length ≤ 40) (hb : 30 < (ofL F).length) :
    Calls Try.prog 6 #[v, .agg #[.int .i64 t, .int .i64 n]] w fun e w' => e = .returned (.bool true) ∧ Gr w w' := by
  have HF := Lib.hid hF
  have HB := Lib.hid hb
  clear hF hb
  have HP := Lib.hid (Two.new w t n 24)
  have HR := Lib.hid (hr.gr ((Gr.refl w).alloc (.cells #[.int .i64 t, .int .i64 n] 24)))
  clear hr
  go_enter Try.func6, Try.ntmps6
  go_wp2_with fail
  refine (of_lit (w.alloc _) (w.heap.size + 1) (by simp)).mono ?_
  rintro e w1 ⟨la, lc, rfl, g1⟩
  have h1 := (((Gr.refl _).alloc _).alloc _).trans g1
  have G1 := ((Gr.refl w).alloc _).trans h1
  have HR_1 := Lib.hid (HR.out.gr h1)
  clear HR
  have HP_1 := Lib.hid (HP.out.gr h1)
  clear HP
  clear g1 h1
  go_wp2_with fail
  refine (lof_any (HR_1.out) HF.out hl).mono ?_
  rintro e w2 ⟨g2, hcase⟩
  have G2 := (G1).trans g2
  have HR_2 := Lib.hid (HR_1.out.gr g2)
  clear HR_1
  have HP_2 := Lib.hid (HP_1.out.gr g2)
  clear HP_1
  clear g2 G1
  obtain rfl : e = .returned (.tuple #[.slice none 0 0, .int .i64 2]) := by
    rcases hcase with ⟨_, h⟩ | ⟨h, _⟩
    · exact h
    · have := HB.out; omega
  clear hcase
  go_wp2_with fail
  go_ret
  exact ⟨rfl, G2⟩
set_option maxHeartbeats 4000000 in
set_option maxRecDepth 100000 in
theorem formBack_point (v : Value) (F : List Bx) (t n : Int) (w : World) (hr : RdF w v (F.map boxI)) (hF : OkF F) (hl : F.length ≤ 40) (hb : (ofL F).length ≤ 30) (hp : pointB t n = false) :
    Calls Try.prog 6 #[v, .agg #[.int .i64 t, .int .i64 n]] w fun e w' => e = .returned (.bool true) ∧ Gr w w' := by
  have HF := Lib.hid hF
  have HB := Lib.hid hb
  have HOK : Hid (OkL (ofL F)) := (ofL_ok hF).1.okL (ofL_ok hF).2.1 hb
  have HREP : Hid (RepT (tabF F) (formP (ofL F))) := fun t ht x hx => ((ofL_ok hF).2.2 t ht x hx).symm
  have HTT : Hid (OkT (tabF F)) := fun t _ => tabF_lt hF t
  have hs : FS w v (tabF F) := ⟨F, hr, hF, hl, fun _ _ => rfl⟩
  have HPB := Lib.hid hp
  clear hp
  clear hF hb
  have HP := Lib.hid (Two.new w t n 24)
  have HR := Lib.hid (hr.gr ((Gr.refl w).alloc (.cells #[.int .i64 t, .int .i64 n] 24)))
  have HS := Lib.hid (hs.gr ((Gr.refl w).alloc (.cells #[.int .i64 t, .int .i64 n] 24)))
  clear hr hs
  go_enter Try.func6, Try.ntmps6
  go_wp2_with fail
  refine (of_lit (w.alloc _) (w.heap.size + 1) (by simp)).mono ?_
  rintro e w1 ⟨la, lc, rfl, g1⟩
  have h1 := (((Gr.refl _).alloc _).alloc _).trans g1
  have G1 := ((Gr.refl w).alloc _).trans h1
  have HR_1 := Lib.hid (HR.out.gr h1)
  clear HR
  have HS_1 := Lib.hid (HS.out.gr h1)
  clear HS
  have HP_1 := Lib.hid (HP.out.gr h1)
  clear HP
  clear g1 h1
  go_wp2_with fail
  refine (lof_any (HR_1.out) HF.out hl).mono ?_
  rintro e w2 ⟨g2, hcase⟩
  have G2 := (G1).trans g2
  have HR_2 := Lib.hid (HR_1.out.gr g2)
  clear HR_1
  have HS_2 := Lib.hid (HS_1.out.gr g2)
  clear HS_1
  have HP_2 := Lib.hid (HP_1.out.gr g2)
  clear HP_1
  clear g2 G1
  obtain ⟨u, rfl, hu⟩ : ∃ u, e = .returned (.tuple #[u, .int .i64 0]) ∧ OwnN _ w2 u (ofL F) := by
    rcases hcase with ⟨h, _⟩ | ⟨_, h⟩
    · have := HB.out; omega
    · exact h
  have HU := Lib.hid hu.rd
  clear hcase hu
  clear HR_2
  go_wp2_with fail
  refine (lfilter_ok (HU.out) HOK.out).mono ?_
  rintro e w3 ⟨ff, rfl, hff, g3⟩
  have G3 := (G2).trans g3
  have HS_3 := Lib.hid (HS_2.out.gr g3)
  clear HS_2
  have HP_3 := Lib.hid (HP_2.out.gr g3)
  clear HP_2
  have HU_3 := Lib.hid (HU.out.gr g3)
  clear HU
  have HG_3 := Lib.hid (hff)
  clear g3 G2
  clear hff
  obtain ⟨p0, p1, p2⟩ := HP_3.out
  go_wp2_with fail
  refine (same_fp (HS_3.out) HTT.out HREP.out (HG_3.out)).mono ?_
  rintro e w4 ⟨rfl, g4⟩
  have G4 := (G3).trans g4
  have HS_4 := Lib.hid (HS_3.out.gr g4)
  clear HS_3
  have HP_4 := Lib.hid (HP_3.out.gr g4)
  clear HP_3
  have HU_4 := Lib.hid (HU_3.out.gr g4)
  clear HU_3
  have HG_4 := Lib.hid (HG_3.out.gr g4)
  clear HG_3
  clear g4 G3
  clear p0 p1 p2
  clear HG_4
  obtain ⟨p0, p1, p2⟩ := HP_4.out
  go_wp2_with fail
  refine (is_point t n (HU_4.out) HOK.out HPB.out).mono ?_
  rintro e w5 ⟨rfl, g5⟩
  have G5 := (G4).trans g5
  have HS_5 := Lib.hid (HS_4.out.gr g5)
  clear HS_4
  have HP_5 := Lib.hid (HP_4.out.gr g5)
  clear HP_4
  have HU_5 := Lib.hid (HU_4.out.gr g5)
  clear HU_4
  clear g5 G4
  clear p0 p1 p2
  obtain ⟨p0, p1, p2⟩ := HP_5.out
  go_wp2_with fail
  refine (has_badp (HS_5.out) HPB.out).mono ?_
  rintro e w6 ⟨rfl, g6⟩
  have G6 := (G5).trans g6
  have HS_6 := Lib.hid (HS_5.out.gr g6)
  clear HS_5
  have HP_6 := Lib.hid (HP_5.out.gr g6)
  clear HP_5
  have HU_6 := Lib.hid (HU_5.out.gr g6)
  clear HU_5
  clear g6 G5
  clear p0 p1 p2
  go_wp2_with fail
  go_ret
  exact ⟨rfl, G6⟩
set_option maxHeartbeats 4000000 in
set_option maxRecDepth 100000 in
theorem formBack_ok (v : Value) (F : List Bx) (t x : Nat) (w : World) (hr : RdF w v (F.map boxI)) (hF : OkF F) (hl : F.length ≤ 40) (hb : (ofL F).length ≤ 30) (ht : t < 16) (hx : x < 32) :
    Calls Try.prog 6 #[v, .agg #[.int .i64 (t : Int), .int .i64 (x : Int)]] w fun e w' => e = .returned (.bool true) ∧ Gr w w' := by
  have HF := Lib.hid hF
  have HB := Lib.hid hb
  have HOK : Hid (OkL (ofL F)) := (ofL_ok hF).1.okL (ofL_ok hF).2.1 hb
  have HREP : Hid (RepT (tabF F) (formP (ofL F))) := fun t ht x hx => ((ofL_ok hF).2.2 t ht x hx).symm
  have HTT : Hid (OkT (tabF F)) := fun t _ => tabF_lt hF t
  have hs : FS w v (tabF F) := ⟨F, hr, hF, hl, fun _ _ => rfl⟩
  have HT := Lib.hid ht
  have HXX := Lib.hid hx
  clear ht hx
  clear hF hb
  have HP := Lib.hid (Two.new w (t : Int) (x : Int) 24)
  have HR := Lib.hid (hr.gr ((Gr.refl w).alloc (.cells #[.int .i64 (t : Int), .int .i64 (x : Int)] 24)))
  have HS := Lib.hid (hs.gr ((Gr.refl w).alloc (.cells #[.int .i64 (t : Int), .int .i64 (x : Int)] 24)))
  clear hr hs
  go_enter Try.func6, Try.ntmps6
  go_wp2_with fail
  refine (of_lit (w.alloc _) (w.heap.size + 1) (by simp)).mono ?_
  rintro e w1 ⟨la, lc, rfl, g1⟩
  have h1 := (((Gr.refl _).alloc _).alloc _).trans g1
  have G1 := ((Gr.refl w).alloc _).trans h1
  have HR_1 := Lib.hid (HR.out.gr h1)
  clear HR
  have HS_1 := Lib.hid (HS.out.gr h1)
  clear HS
  have HP_1 := Lib.hid (HP.out.gr h1)
  clear HP
  clear g1 h1
  go_wp2_with fail
  refine (lof_any (HR_1.out) HF.out hl).mono ?_
  rintro e w2 ⟨g2, hcase⟩
  have G2 := (G1).trans g2
  have HR_2 := Lib.hid (HR_1.out.gr g2)
  clear HR_1
  have HS_2 := Lib.hid (HS_1.out.gr g2)
  clear HS_1
  have HP_2 := Lib.hid (HP_1.out.gr g2)
  clear HP_1
  clear g2 G1
  obtain ⟨u, rfl, hu⟩ : ∃ u, e = .returned (.tuple #[u, .int .i64 0]) ∧ OwnN _ w2 u (ofL F) := by
    rcases hcase with ⟨h, _⟩ | ⟨_, h⟩
    · have := HB.out; omega
    · exact h
  have HU := Lib.hid hu.rd
  clear hcase hu
  clear HR_2
  go_wp2_with fail
  refine (lfilter_ok (HU.out) HOK.out).mono ?_
  rintro e w3 ⟨ff, rfl, hff, g3⟩
  have G3 := (G2).trans g3
  have HS_3 := Lib.hid (HS_2.out.gr g3)
  clear HS_2
  have HP_3 := Lib.hid (HP_2.out.gr g3)
  clear HP_2
  have HU_3 := Lib.hid (HU.out.gr g3)
  clear HU
  have HG_3 := Lib.hid (hff)
  clear g3 G2
  clear hff
  obtain ⟨p0, p1, p2⟩ := HP_3.out
  go_wp2_with fail
  refine (same_fp (HS_3.out) HTT.out HREP.out (HG_3.out)).mono ?_
  rintro e w4 ⟨rfl, g4⟩
  have G4 := (G3).trans g4
  have HS_4 := Lib.hid (HS_3.out.gr g4)
  clear HS_3
  have HP_4 := Lib.hid (HP_3.out.gr g4)
  clear HP_3
  have HU_4 := Lib.hid (HU_3.out.gr g4)
  clear HU_3
  have HG_4 := Lib.hid (HG_3.out.gr g4)
  clear HG_3
  clear g4 G3
  clear p0 p1 p2
  clear HG_4
  obtain ⟨p0, p1, p2⟩ := HP_4.out
  go_wp2_with fail
  refine (is_ok (HU_4.out) HOK.out HT.out HXX.out).mono ?_
  rintro e w5 ⟨rfl, g5⟩
  have G5 := (G4).trans g5
  have HS_5 := Lib.hid (HS_4.out.gr g5)
  clear HS_4
  have HP_5 := Lib.hid (HP_4.out.gr g5)
  clear HP_4
  have HU_5 := Lib.hid (HU_4.out.gr g5)
  clear HU_4
  clear g5 G4
  clear p0 p1 p2
  obtain ⟨p0, p1, p2⟩ := HP_5.out
  go_wp2_with fail
  refine (has_rep (HS_5.out) HREP.out HT.out HXX.out).mono ?_
  rintro e w6 ⟨rfl, g6⟩
  have G6 := (G5).trans g6
  have HS_6 := Lib.hid (HS_5.out.gr g6)
  clear HS_5
  have HP_6 := Lib.hid (HP_5.out.gr g6)
  clear HP_5
  have HU_6 := Lib.hid (HU_5.out.gr g6)
  clear HU_5
  clear g6 G5
  clear p0 p1 p2
  generalize formP (ofL F) t x = q
  cases q
  all_goals
    go_wp2_with fail
    go_ret
    exact ⟨rfl, G6⟩
theorem formBack_walk (v : Value) (l : List BoxI) (t n : Int) (w : World) (hr : RdF w v l) :
    Calls Try.prog 6 #[v, .agg #[.int .i64 t, .int .i64 n]] w fun e w' => e = .returned (.bool true) ∧ Gr w w' := by
  cases hc : (chkF l == 0)
  · exact formBack_bad v l t n w hr hc
  · obtain ⟨F, rfl, hF, hl⟩ := okF_of (by simpa using hc)
    by_cases hb : (ofL F).length ≤ 30
    · cases hp : pointB t n
      · exact formBack_point v F t n w hr hF hl hb hp
      · obtain ⟨a, b, ha, hb', rfl, rfl⟩ := point_of hp
        exact formBack_ok v F a b w hr hF hl hb ha hb'
    · exact formBack_large v F t n w hr hF hl (by omega)
end Go.Proofs.Ythnoafmdecehcaa
