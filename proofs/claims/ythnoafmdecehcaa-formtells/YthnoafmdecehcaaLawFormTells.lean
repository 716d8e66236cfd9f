/- The walk of FormTells. -/
import Derived.Test.YthnoafmdecehcaaRefM
import Derived.Test.YthnoafmdecehcaaRefN
import Derived.Test.YthnoafmdecehcaaRefE
namespace Go.Proofs.Ythnoafmdecehcaa
open Go.RowKit Rm
set_option linter.unusedVariables false
theorem okF_nil : OkF [] := fun b hb => by cases hb
theorem ofL_nil : ofL [] = [(1, 0, 0), (4, 0, 0)] := rfl
theorem okL_two : OkL [(1, 0, 0), (4, 0, 0)] := okL_of (by decide)
/-- Of a filter without boxes -/
theorem of_none (w : World) : Calls Try.prog 17 #[.slice none 0 0] w fun e w' => ∃ a c, e = .returned (.tuple #[.slice a 2 c, .int .i64 0]) ∧ RdN w' (.slice a 2 c) [(1, 0, 0), (4, 0, 0)] ∧ Gr w w' := by
  have h := lof_any (F := []) (RdF.nil w) okF_nil (by simp)
  refine h.mono ?_
  rintro e w' ⟨g, h | ⟨h, u, rfl, ho⟩⟩
  · rw [ofL_nil] at h; simp at h
  · rw [ofL_nil] at ho
    have hr := ho.rd
    obtain ⟨a, c, rfl, _⟩ := own_form ho
    exact ⟨a, c, rfl, hr, g⟩
theorem eqP_tells {F : List Bx} (hF : OkF F) : eqP (pv (ofL F) ((ofL F).length - 1)) (ptF (tabF F)) = true :=
  eqP_of (fun i hi => by
    have := (ofL_ok hF).2.2 (i / 32) (by omega) (i % 32) (by omega)
    unfold pv ptI ptF
    rw [← this]
    rfl)
set_option maxHeartbeats 8000000 in
set_option maxRecDepth 100000 in
theorem formTells_bad (v : Value) (l : List BoxI) (w : World) (hr : RdF w v l) (hc : (chkF l == 0) = false) :
    Calls Try.prog 4 #[v] w fun e w' => e = .returned (.bool true) ∧ Gr w w' := by
  have hc' := bne_of' hc
  have HC := Lib.hid hc
  have HK2 := Lib.hid (chkL_of okL_two)
  clear hc
  have HR := Lib.hid (hr)
  clear hr
  go_enter Try.func4, Try.ntmps4
  go_wp2_with fail
  refine (lof_bad (HR.out) HC.out).mono ?_
  rintro e w1 ⟨rfl, g1⟩
  have G1 := (Gr.refl _).trans g1
  have HR_1 := Lib.hid (HR.out.gr g1)
  clear HR
  clear g1
  go_wp2_with fail
  refine (of_none _).mono ?_
  rintro e w2 ⟨na, nc, rfl, hnn, g2⟩
  have G2 := (G1).trans g2
  have HR_2 := Lib.hid (HR_1.out.gr g2)
  clear HR_1
  have HN_2 := Lib.hid (hnn)
  clear g2 G1
  clear hnn
  go_wp2_with fail
  refine (rsentence_any _ _ _ (HN_2.out)).mono ?_
  rw [HK2.out]
  rintro e w3 ⟨rfl, g3⟩
  have G3 := (G2).trans g3
  have HR_3 := Lib.hid (HR_2.out.gr g3)
  clear HR_2
  have HN_3 := Lib.hid (HN_2.out.gr g3)
  clear HN_2
  clear g3 G2
  clear HN_3
  go_wp2_with fail
  refine (rfilter_any _ _ _ (HR_3.out)).mono ?_
  rintro e w4 ⟨rfl, g4⟩
  have G4 := (G3).trans g4
  have HR_4 := Lib.hid (HR_3.out.gr g4)
  clear HR_3
  clear g4 G3
  go_wp2_with fail
  go_ret
  exact ⟨rfl, G4⟩
set_option maxHeartbeats 8000000 in
set_option maxRecDepth 100000 in
theorem formTells_large (v : Value) (F : List Bx) (w : World) (hr : RdF w v (F.map boxI)) (hF : OkF F) (hl : F.length ≤ 40) (hb : 30 < (ofL F).length) :
    Calls Try.prog 4 #[v] w fun e w' => e = .returned (.bool true) ∧ Gr w w' := by
  have HF := Lib.hid hF
  have HB := Lib.hid hb
  have HK2 := Lib.hid (chkL_of okL_two)
  have HCF := Lib.hid (chkF_of hF hl)
  have hbn : (30 : Int) < ((boxNs F : Nat) : Int) := by rw [← ofL_len]; omega
  have HR := Lib.hid (hr)
  clear hr hF hb
  go_enter Try.func4, Try.ntmps4
  go_wp2_with fail
  refine (lof_any (HR.out) HF.out hl).mono ?_
  rintro e w1 ⟨g1, hcase⟩
  have G1 := (Gr.refl _).trans g1
  have HR_1 := Lib.hid (HR.out.gr g1)
  clear HR
  clear g1
  obtain rfl : e = .returned (.tuple #[.slice none 0 0, .int .i64 2]) := by
    rcases hcase with ⟨_, h⟩ | ⟨h, _⟩
    · exact h
    · have := HB.out; omega
  clear hcase
  go_wp2_with fail
  refine (of_none _).mono ?_
  rintro e w2 ⟨na, nc, rfl, hnn, g2⟩
  have G2 := (G1).trans g2
  have HR_2 := Lib.hid (HR_1.out.gr g2)
  clear HR_1
  have HN_2 := Lib.hid (hnn)
  clear g2 G1
  clear hnn
  go_wp2_with fail
  refine (rsentence_any _ _ _ (HN_2.out)).mono ?_
  rw [HK2.out]
  rintro e w3 ⟨rfl, g3⟩
  have G3 := (G2).trans g3
  have HR_3 := Lib.hid (HR_2.out.gr g3)
  clear HR_2
  have HN_3 := Lib.hid (HN_2.out.gr g3)
  clear HN_2
  clear g3 G2
  clear HN_3
  go_wp2_with fail
  refine (rfilter_any _ _ _ (HR_3.out)).mono ?_
  rw [HCF.out]
  rintro e w4 ⟨rfl, g4⟩
  have G4 := (G3).trans g4
  have HR_4 := Lib.hid (HR_3.out.gr g4)
  clear HR_3
  clear g4 G3
  go_wp2_with fail
  refine (rnodes_ok (HR_4.out) HF.out hl).mono ?_
  rintro e w5 ⟨rfl, g5⟩
  have G5 := (G4).trans g5
  have HR_5 := Lib.hid (HR_4.out.gr g5)
  clear HR_4
  clear g5 G4
  go_wp2_with fail
  go_ret
  exact ⟨rfl, G5⟩
set_option maxHeartbeats 8000000 in
set_option maxRecDepth 100000 in
theorem formTells_ok (v : Value) (F : List Bx) (w : World) (hr : RdF w v (F.map boxI)) (hF : OkF F) (hl : F.length ≤ 40) (hb : (ofL F).length ≤ 30) :
    Calls Try.prog 4 #[v] w fun e w' => e = .returned (.bool true) ∧ Gr w w' := by
  have HF := Lib.hid hF
  have HB := Lib.hid hb
  have HK2 := Lib.hid (chkL_of okL_two)
  have HCF := Lib.hid (chkF_of hF hl)
  have HOK : Hid (OkL (ofL F)) := (ofL_ok hF).1.okL (ofL_ok hF).2.1 hb
  have HK3 := Lib.hid (chkL_of HOK.out)
  have HLE := Lib.hid (ofL_len F)
  have hbn : ¬ (30 : Int) < ((boxNs F : Nat) : Int) := by rw [← ofL_len]; omega
  obtain ⟨f1, hf1⟩ : ∃ f1, pv (ofL F) ((ofL F).length - 1) = f1 := ⟨_, rfl⟩
  obtain ⟨f2, hf2⟩ : ∃ f2, ptF (tabF F) = f2 := ⟨_, rfl⟩
  have heq : ∀ wx : World, (Op.equalIn 10000 33 (.agg (pArr f1)) (.agg (pArr f2))).run Try.prog wx = .ok true wx := fun wx => by rw [eq_points, ← hf1, ← hf2, eqP_tells hF]
  have HF1 := Lib.hid hf1
  have HF2 := Lib.hid hf2
  have HR := Lib.hid (hr)
  clear hr hF hb hf1 hf2
  go_enter Try.func4, Try.ntmps4
  go_wp2_with fail
  refine (lof_any (HR.out) HF.out hl).mono ?_
  rintro e w1 ⟨g1, hcase⟩
  have G1 := (Gr.refl _).trans g1
  have HR_1 := Lib.hid (HR.out.gr g1)
  clear HR
  clear g1
  obtain ⟨u, rfl, hu⟩ : ∃ u, e = .returned (.tuple #[u, .int .i64 0]) ∧ OwnN _ w1 u (ofL F) := by
    rcases hcase with ⟨h, _⟩ | ⟨_, h⟩
    · have := HB.out; omega
    · exact h
  obtain ⟨ua, uc, rfl, -⟩ := own_form hu
  have HU0 := hu.rd
  rw [HLE.out] at HU0 ⊢
  have HU := Lib.hid HU0
  clear hcase hu HU0
  go_wp2_with fail
  refine (of_none _).mono ?_
  rintro e w2 ⟨na, nc, rfl, hnn, g2⟩
  have G2 := (G1).trans g2
  have HR_2 := Lib.hid (HR_1.out.gr g2)
  clear HR_1
  have HU_2 := Lib.hid (HU.out.gr g2)
  clear HU
  have HN_2 := Lib.hid (hnn)
  clear g2 G1
  clear hnn
  go_wp2_with fail
  refine (rsentence_any _ _ _ (HN_2.out)).mono ?_
  rw [HK2.out]
  rintro e w3 ⟨rfl, g3⟩
  have G3 := (G2).trans g3
  have HR_3 := Lib.hid (HR_2.out.gr g3)
  clear HR_2
  have HU_3 := Lib.hid (HU_2.out.gr g3)
  clear HU_2
  have HN_3 := Lib.hid (HN_2.out.gr g3)
  clear HN_2
  clear g3 G2
  clear HN_3
  go_wp2_with fail
  refine (rfilter_any _ _ _ (HR_3.out)).mono ?_
  rw [HCF.out]
  rintro e w4 ⟨rfl, g4⟩
  have G4 := (G3).trans g4
  have HR_4 := Lib.hid (HR_3.out.gr g4)
  clear HR_3
  have HU_4 := Lib.hid (HU_3.out.gr g4)
  clear HU_3
  clear g4 G3
  go_wp2_with fail
  refine (rnodes_ok (HR_4.out) HF.out hl).mono ?_
  rintro e w5 ⟨rfl, g5⟩
  have G5 := (G4).trans g5
  have HR_5 := Lib.hid (HR_4.out.gr g5)
  clear HR_4
  have HU_5 := Lib.hid (HU_4.out.gr g5)
  clear HU_4
  clear g5 G4
  go_wp2_with fail
  refine (rnodes_ok (HR_5.out) HF.out hl).mono ?_
  rintro e w6 ⟨rfl, g6⟩
  have G6 := (G5).trans g6
  have HR_6 := Lib.hid (HR_5.out.gr g6)
  clear HR_5
  have HU_6 := Lib.hid (HU_5.out.gr g6)
  clear HU_5
  clear g6 G5
  go_wp2_with fail
  refine (rsentence_any _ _ _ (HU_6.out)).mono ?_
  rw [HK3.out]
  rintro e w7 ⟨rfl, g7⟩
  have G7 := (G6).trans g7
  have HR_7 := Lib.hid (HR_6.out.gr g7)
  clear HR_6
  have HU_7 := Lib.hid (HU_6.out.gr g7)
  clear HU_6
  clear g7 G6
  go_wp2_with fail
  refine (rsays_ok (HU_7.out) HOK.out).mono ?_
  rw [HF1.out]
  rintro e w8 ⟨rfl, g8⟩
  have G8 := (G7).trans g8
  have HR_8 := Lib.hid (HR_7.out.gr g8)
  clear HR_7
  have HU_8 := Lib.hid (HU_7.out.gr g8)
  clear HU_7
  clear g8 G7
  clear HU_8
  go_wp2_with fail
  refine (of_pts _ F _ (HR_8.out) HF.out hl).mono ?_
  rw [HF2.out]
  rintro e w9 ⟨rfl, g9⟩
  have G9 := (G8).trans g9
  have HR_9 := Lib.hid (HR_8.out.gr g9)
  clear HR_8
  clear g9 G8
  go_wp2_with fail
  go_ret
  exact ⟨rfl, G9⟩
theorem formTells_walk (v : Value) (l : List BoxI) (w : World) (hr : RdF w v l) :
    Calls Try.prog 4 #[v] w fun e w' => e = .returned (.bool true) ∧ Gr w w' := by
  cases hc : (chkF l == 0)
  · exact formTells_bad v l w hr hc
  · obtain ⟨F, rfl, hF, hl⟩ := okF_of (by simpa using hc)
    by_cases hb : (ofL F).length ≤ 30
    · exact formTells_ok v F w hr hF hl hb
    · exact formTells_large v F w hr hF hl (by omega)
end Go.Proofs.Ythnoafmdecehcaa
