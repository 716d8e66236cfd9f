/- TopText: a filter is told by a sentence, that by text, and back: the same points all the way. -/
import Derived.Test.YtbodadddcbbjeaaDoorTextV
namespace Rm
open Go Go.RowKit
theorem show_two {l : List Nd} (h : OkL l) : (showS l).1 = 0 ∨ (showS l).1 = 2 := by
  rw [showS_ok h]
  split
  · exact .inr rfl
  · exact .inl rfl
end Rm
namespace Go.Proofs.YtbodadddcbbjeaaDoor
open Go.RowKit Rm
theorem cnt512 : cntT fullT = 512 := by decide +kernel
set_option linter.unusedVariables false
set_option linter.unusedSimpArgs false
theorem rep_eq {T U : Nat → Nat} {P : Pt} (hT : OkT T) (hU : OkT U) (h : RepT T P) (h' : RepT U P) : ∀ t, t < 16 → T t = U t := by
  intro t ht
  apply Nat.eq_of_testBit_eq
  intro i
  rcases Nat.lt_or_ge i 32 with c | c
  · rw [h t ht i c, h' t ht i c]
  · rw [Nat.testBit_lt_two_pow (Nat.lt_of_lt_of_le (hT t ht) (Nat.pow_le_pow_right (by omega) c)), Nat.testBit_lt_two_pow (Nat.lt_of_lt_of_le (hU t ht) (Nat.pow_le_pow_right (by omega) c))]
theorem fs_as {b : Nat} {w : World} {v : Value} {U : Nat → Nat} {P Q : Pt} (h : FP b w v P) (e : P = Q) (hU : OkT U) (hr : RepT U Q) : FS w v U := by
  subst e
  obtain ⟨T, h1, h2, h3⟩ := h.fs
  obtain ⟨F, f1, f2, f3, f4⟩ := h1
  exact ⟨F, f1, f2, f3, fun t ht => (f4 t ht).trans (rep_eq h2 hU h3 hr t ht)⟩
set_option maxHeartbeats 400000 in
set_option maxRecDepth 100000 in
theorem tbegun_any (w : World) : Calls Tryd.prog 14 #[] w fun e w' => e = .returned (.bool true) ∧ Gr w w' := by
  have hc := cnt512
  go_enter Tryd.func14, Tryd.ntmps14
  go_wp2_with fail
  refine (fevery w).mono ?_
  rintro e w1 ⟨v, rfl, hv, g1⟩
  go_wp2_with fail
  refine (fcount_ok (hv.le (by omega))).mono ?_
  rw [hc]
  rintro e w2 ⟨rfl, g2⟩
  clear hv
  go_wp2_with fail
  go_ret
  exact ⟨rfl, g1.trans g2⟩
theorem tsame_ok {v v' : Value} {T : Nat → Nat} {w : World} (h : FS w v T) (h' : FS w v' T) :
    Calls Tryd.prog 17 #[v, v'] w fun e w' => e = .returned (.tuple #[.bool true, .int .i64 0]) ∧ Gr w w' := by
  have := fsame_ok h h'
  rwa [sameT_of (fun _ _ => rfl)] at this

set_option maxHeartbeats 4000000 in
set_option maxRecDepth 100000 in
theorem ttext_bad1 (v u : Value) (w : World) (l : List BoxI) (hr : RdF w v l) (hc : chkF l ≠ 0) :
    Calls Tryd.prog 5 #[v, u] w fun e w' => e = .returned (.bool true) ∧ Gr w w' := by
  have HA := Lib.hid (hr)
  clear hr
  have hk : (chkF l != 0) = true := by simpa using hc
  generalize hck : chkF l = k at *
  go_enter Tryd.func5, Tryd.ntmps5
  go_wp2_with fail
  refine (tbegun_any _).mono ?_
  rintro e w1 ⟨rfl, g1⟩
  have G1 := (Gr.refl _).trans g1
  have HA_1 := Lib.hid (HA.out.gr g1)
  clear HA
  clear g1
  go_wp2_with fail
  refine (fcheck_any _ _ _ HA_1.out).mono ?_
  rw [hck]
  rintro e w2 ⟨rfl, g2⟩
  have G2 := (G1).trans g2
  have HA_2 := Lib.hid (HA_1.out.gr g2)
  clear HA_1
  clear g2 G1
  go_wp2_with fail
  go_ret
  exact ⟨rfl, G2⟩

set_option maxHeartbeats 4000000 in
set_option maxRecDepth 100000 in
theorem ttext_bad2 (v u : Value) (w : World) (l m : List BoxI) (hr : RdF w v l) (hr2 : RdF w u m) (hc : chkF l = 0) (hc2 : chkF m ≠ 0) :
    Calls Tryd.prog 5 #[v, u] w fun e w' => e = .returned (.bool true) ∧ Gr w w' := by
  have HA := Lib.hid (hr)
  have HB := Lib.hid hr2
  clear hr hr2
  have hk : (chkF m != 0) = true := by simpa using hc2
  generalize hck : chkF m = k at *
  go_enter Tryd.func5, Tryd.ntmps5
  go_wp2_with fail
  refine (tbegun_any _).mono ?_
  rintro e w1 ⟨rfl, g1⟩
  have G1 := (Gr.refl _).trans g1
  have HA_1 := Lib.hid (HA.out.gr g1)
  clear HA
  have HB_1 := Lib.hid (HB.out.gr g1)
  clear HB
  clear g1
  go_wp2_with fail
  refine (fcheck_any _ _ _ HA_1.out).mono ?_
  rw [hc]
  rintro e w2 ⟨rfl, g2⟩
  have G2 := (G1).trans g2
  have HA_2 := Lib.hid (HA_1.out.gr g2)
  clear HA_1
  have HB_2 := Lib.hid (HB_1.out.gr g2)
  clear HB_1
  clear g2 G1
  go_wp2_with fail
  refine (fcheck_any _ _ _ HB_2.out).mono ?_
  rw [hck]
  rintro e w3 ⟨rfl, g3⟩
  have G3 := (G2).trans g3
  have HA_3 := Lib.hid (HA_2.out.gr g3)
  clear HA_2
  have HB_3 := Lib.hid (HB_2.out.gr g3)
  clear HB_2
  clear g3 G2
  go_wp2_with fail
  go_ret
  exact ⟨rfl, G3⟩

set_option maxHeartbeats 4000000 in
set_option maxRecDepth 100000 in
theorem ttext_large (v u : Value) (w : World) (F G : List Bx) (hr : RdF w v (F.map boxI)) (hF : OkF F) (hl : F.length ≤ 40) (hr2 : RdF w u (G.map boxI)) (hG : OkF G) (hl2 : G.length ≤ 40) (hb : 30 < (ofL F).length) :
    Calls Tryd.prog 5 #[v, u] w fun e w' => e = .returned (.bool true) ∧ Gr w w' := by
  have HA := Lib.hid hr
  have HB := Lib.hid hr2
  have HFA : Hid (FS w v (tabF F)) := ⟨F, hr, hF, hl, fun _ _ => rfl⟩
  have HFB : Hid (FS w u (tabF G)) := ⟨G, hr2, hG, hl2, fun _ _ => rfl⟩
  have HF := Lib.hid hF
  have HREP : Hid (RepT (tabF F) (formP (ofL F))) := fun t ht x hx => ((ofL_ok hF).2.2 t ht x hx).symm
  have HTT : Hid (OkT (tabF F)) := fun t _ => tabF_lt hF t
  have hcF := chkF_of hF hl
  have hcG := chkF_of hG hl2
  have HCF := Lib.hid hcF
  have HCG := Lib.hid hcG
  have HL := Lib.hid hb
  clear hr hr2 hF hG hcF hcG hb
  go_enter Tryd.func5, Tryd.ntmps5
  go_wp2_with fail
  refine (tbegun_any _).mono ?_
  rintro e w1 ⟨rfl, g1⟩
  have G1 := (Gr.refl _).trans g1
  have HA_1 := Lib.hid (HA.out.gr g1)
  clear HA
  have HB_1 := Lib.hid (HB.out.gr g1)
  clear HB
  have HFA_1 := Lib.hid (HFA.out.gr g1)
  clear HFA
  have HFB_1 := Lib.hid (HFB.out.gr g1)
  clear HFB
  clear g1
  go_wp2_with fail
  refine (fcheck_any _ _ _ HA_1.out).mono ?_
  rw [HCF.out]
  rintro e w2 ⟨rfl, g2⟩
  have G2 := (G1).trans g2
  have HA_2 := Lib.hid (HA_1.out.gr g2)
  clear HA_1
  have HB_2 := Lib.hid (HB_1.out.gr g2)
  clear HB_1
  have HFA_2 := Lib.hid (HFA_1.out.gr g2)
  clear HFA_1
  have HFB_2 := Lib.hid (HFB_1.out.gr g2)
  clear HFB_1
  clear g2 G1
  go_wp2_with fail
  refine (fcheck_any _ _ _ HB_2.out).mono ?_
  rw [HCG.out]
  rintro e w3 ⟨rfl, g3⟩
  have G3 := (G2).trans g3
  have HA_3 := Lib.hid (HA_2.out.gr g3)
  clear HA_2
  have HB_3 := Lib.hid (HB_2.out.gr g3)
  clear HB_2
  have HFA_3 := Lib.hid (HFA_2.out.gr g3)
  clear HFA_2
  have HFB_3 := Lib.hid (HFB_2.out.gr g3)
  clear HFB_2
  clear g3 G2
  go_wp2_with fail
  refine (lof_any HA_3.out HF.out hl).mono ?_
  rintro e w4 ⟨g4, hcase⟩
  have G4 := (G3).trans g4
  have HA_4 := Lib.hid (HA_3.out.gr g4)
  clear HA_3
  have HB_4 := Lib.hid (HB_3.out.gr g4)
  clear HB_3
  have HFA_4 := Lib.hid (HFA_3.out.gr g4)
  clear HFA_3
  have HFB_4 := Lib.hid (HFB_3.out.gr g4)
  clear HFB_3
  clear g4 G3
  obtain rfl : e = .returned (.tuple #[.slice none 0 0, .int .i64 2]) := by
    rcases hcase with ⟨_, h⟩ | ⟨h, _⟩
    · exact h
    · have := HL.out; omega
  clear hcase
  clear HA_4
  clear HB_4
  go_wp2_with fail
  go_ret
  exact ⟨rfl, G4⟩

set_option maxHeartbeats 4000000 in
set_option maxRecDepth 100000 in
theorem ttext_show (v u : Value) (w : World) (F G : List Bx) (hr : RdF w v (F.map boxI)) (hF : OkF F) (hl : F.length ≤ 40) (hr2 : RdF w u (G.map boxI)) (hG : OkF G) (hl2 : G.length ≤ 40) (hb : (ofL F).length ≤ 30) (q : List UInt8) (hs : showS (ofL F) = (2, q)) :
    Calls Tryd.prog 5 #[v, u] w fun e w' => e = .returned (.bool true) ∧ Gr w w' := by
  have HS := Lib.hid hs
  clear hs
  have HA := Lib.hid hr
  have HB := Lib.hid hr2
  have HFA : Hid (FS w v (tabF F)) := ⟨F, hr, hF, hl, fun _ _ => rfl⟩
  have HFB : Hid (FS w u (tabF G)) := ⟨G, hr2, hG, hl2, fun _ _ => rfl⟩
  have HF := Lib.hid hF
  have HREP : Hid (RepT (tabF F) (formP (ofL F))) := fun t ht x hx => ((ofL_ok hF).2.2 t ht x hx).symm
  have HTT : Hid (OkT (tabF F)) := fun t _ => tabF_lt hF t
  have hcF := chkF_of hF hl
  have hcG := chkF_of hG hl2
  have HCF := Lib.hid hcF
  have HCG := Lib.hid hcG
  have HL := Lib.hid hb
  clear hr hr2 hF hG hcF hcG hb
  go_enter Tryd.func5, Tryd.ntmps5
  go_wp2_with fail
  refine (tbegun_any _).mono ?_
  rintro e w1 ⟨rfl, g1⟩
  have G1 := (Gr.refl _).trans g1
  have HA_1 := Lib.hid (HA.out.gr g1)
  clear HA
  have HB_1 := Lib.hid (HB.out.gr g1)
  clear HB
  have HFA_1 := Lib.hid (HFA.out.gr g1)
  clear HFA
  have HFB_1 := Lib.hid (HFB.out.gr g1)
  clear HFB
  clear g1
  go_wp2_with fail
  refine (fcheck_any _ _ _ HA_1.out).mono ?_
  rw [HCF.out]
  rintro e w2 ⟨rfl, g2⟩
  have G2 := (G1).trans g2
  have HA_2 := Lib.hid (HA_1.out.gr g2)
  clear HA_1
  have HB_2 := Lib.hid (HB_1.out.gr g2)
  clear HB_1
  have HFA_2 := Lib.hid (HFA_1.out.gr g2)
  clear HFA_1
  have HFB_2 := Lib.hid (HFB_1.out.gr g2)
  clear HFB_1
  clear g2 G1
  go_wp2_with fail
  refine (fcheck_any _ _ _ HB_2.out).mono ?_
  rw [HCG.out]
  rintro e w3 ⟨rfl, g3⟩
  have G3 := (G2).trans g3
  have HA_3 := Lib.hid (HA_2.out.gr g3)
  clear HA_2
  have HB_3 := Lib.hid (HB_2.out.gr g3)
  clear HB_2
  have HFA_3 := Lib.hid (HFA_2.out.gr g3)
  clear HFA_2
  have HFB_3 := Lib.hid (HFB_2.out.gr g3)
  clear HFB_2
  clear g3 G2
  go_wp2_with fail
  refine (lof_any HA_3.out HF.out hl).mono ?_
  rintro e w4 ⟨g4, hcase⟩
  have G4 := (G3).trans g4
  have HA_4 := Lib.hid (HA_3.out.gr g4)
  clear HA_3
  have HB_4 := Lib.hid (HB_3.out.gr g4)
  clear HB_3
  have HFA_4 := Lib.hid (HFA_3.out.gr g4)
  clear HFA_3
  have HFB_4 := Lib.hid (HFB_3.out.gr g4)
  clear HFB_3
  clear g4 G3
  obtain ⟨lu, rfl, hu⟩ : ∃ u, e = .returned (.tuple #[u, .int .i64 0]) ∧ OwnN _ w4 u (ofL F) := by
    rcases hcase with ⟨h, _⟩ | ⟨_, h⟩
    · have := HL.out; omega
    · exact h
  have HU := Lib.hid hu.rd
  clear hcase hu
  clear HA_4
  clear HB_4
  go_wp2_with fail
  refine (show_any HU.out).mono ?_
  rw [HS.out]
  rintro e w5 ⟨rfl, g5⟩
  have G5 := (G4).trans g5
  have HFA_5 := Lib.hid (HFA_4.out.gr g5)
  clear HFA_4
  have HFB_5 := Lib.hid (HFB_4.out.gr g5)
  clear HFB_4
  have HU_5 := Lib.hid (HU.out.gr g5)
  clear HU
  clear g5 G4
  clear HU_5
  go_wp2_with fail
  go_ret
  exact ⟨rfl, G5⟩

set_option maxHeartbeats 4000000 in
set_option maxRecDepth 100000 in
theorem ttext_read (v u : Value) (w : World) (F G : List Bx) (hr : RdF w v (F.map boxI)) (hF : OkF F) (hl : F.length ≤ 40) (hr2 : RdF w u (G.map boxI)) (hG : OkF G) (hl2 : G.length ≤ 40) (hb : (ofL F).length ≤ 30) (q : List UInt8) (hs : showS (ofL F) = (0, q)) (m : List Nd) (hq : readL q = (2, m)) :
    Calls Tryd.prog 5 #[v, u] w fun e w' => e = .returned (.bool true) ∧ Gr w w' := by
  have HS := Lib.hid hs
  clear hs
  have HQ := Lib.hid hq
  clear hq
  have HA := Lib.hid hr
  have HB := Lib.hid hr2
  have HFA : Hid (FS w v (tabF F)) := ⟨F, hr, hF, hl, fun _ _ => rfl⟩
  have HFB : Hid (FS w u (tabF G)) := ⟨G, hr2, hG, hl2, fun _ _ => rfl⟩
  have HF := Lib.hid hF
  have HREP : Hid (RepT (tabF F) (formP (ofL F))) := fun t ht x hx => ((ofL_ok hF).2.2 t ht x hx).symm
  have HTT : Hid (OkT (tabF F)) := fun t _ => tabF_lt hF t
  have hcF := chkF_of hF hl
  have hcG := chkF_of hG hl2
  have HCF := Lib.hid hcF
  have HCG := Lib.hid hcG
  have HL := Lib.hid hb
  clear hr hr2 hF hG hcF hcG hb
  go_enter Tryd.func5, Tryd.ntmps5
  go_wp2_with fail
  refine (tbegun_any _).mono ?_
  rintro e w1 ⟨rfl, g1⟩
  have G1 := (Gr.refl _).trans g1
  have HA_1 := Lib.hid (HA.out.gr g1)
  clear HA
  have HB_1 := Lib.hid (HB.out.gr g1)
  clear HB
  have HFA_1 := Lib.hid (HFA.out.gr g1)
  clear HFA
  have HFB_1 := Lib.hid (HFB.out.gr g1)
  clear HFB
  clear g1
  go_wp2_with fail
  refine (fcheck_any _ _ _ HA_1.out).mono ?_
  rw [HCF.out]
  rintro e w2 ⟨rfl, g2⟩
  have G2 := (G1).trans g2
  have HA_2 := Lib.hid (HA_1.out.gr g2)
  clear HA_1
  have HB_2 := Lib.hid (HB_1.out.gr g2)
  clear HB_1
  have HFA_2 := Lib.hid (HFA_1.out.gr g2)
  clear HFA_1
  have HFB_2 := Lib.hid (HFB_1.out.gr g2)
  clear HFB_1
  clear g2 G1
  go_wp2_with fail
  refine (fcheck_any _ _ _ HB_2.out).mono ?_
  rw [HCG.out]
  rintro e w3 ⟨rfl, g3⟩
  have G3 := (G2).trans g3
  have HA_3 := Lib.hid (HA_2.out.gr g3)
  clear HA_2
  have HB_3 := Lib.hid (HB_2.out.gr g3)
  clear HB_2
  have HFA_3 := Lib.hid (HFA_2.out.gr g3)
  clear HFA_2
  have HFB_3 := Lib.hid (HFB_2.out.gr g3)
  clear HFB_2
  clear g3 G2
  go_wp2_with fail
  refine (lof_any HA_3.out HF.out hl).mono ?_
  rintro e w4 ⟨g4, hcase⟩
  have G4 := (G3).trans g4
  have HA_4 := Lib.hid (HA_3.out.gr g4)
  clear HA_3
  have HB_4 := Lib.hid (HB_3.out.gr g4)
  clear HB_3
  have HFA_4 := Lib.hid (HFA_3.out.gr g4)
  clear HFA_3
  have HFB_4 := Lib.hid (HFB_3.out.gr g4)
  clear HFB_3
  clear g4 G3
  obtain ⟨lu, rfl, hu⟩ : ∃ u, e = .returned (.tuple #[u, .int .i64 0]) ∧ OwnN _ w4 u (ofL F) := by
    rcases hcase with ⟨h, _⟩ | ⟨_, h⟩
    · have := HL.out; omega
    · exact h
  have HU := Lib.hid hu.rd
  clear hcase hu
  clear HA_4
  clear HB_4
  go_wp2_with fail
  refine (show_any HU.out).mono ?_
  rw [HS.out]
  rintro e w5 ⟨rfl, g5⟩
  have G5 := (G4).trans g5
  have HFA_5 := Lib.hid (HFA_4.out.gr g5)
  clear HFA_4
  have HFB_5 := Lib.hid (HFB_4.out.gr g5)
  clear HFB_4
  have HU_5 := Lib.hid (HU.out.gr g5)
  clear HU
  clear g5 G4
  clear HU_5
  go_wp2_with fail
  refine (read_any q _).mono ?_
  rw [HQ.out]
  rintro e w6 ⟨u2, rfl, g6, o2⟩
  have G6 := (G5).trans g6
  have HFA_6 := Lib.hid (HFA_5.out.gr g6)
  clear HFA_5
  have HFB_6 := Lib.hid (HFB_5.out.gr g6)
  clear HFB_5
  have O2_6 := Lib.hid (o2)
  clear g6 G5
  clear o2
  go_wp2_with fail
  go_ret
  exact ⟨rfl, G6⟩

set_option maxHeartbeats 4000000 in
set_option maxRecDepth 100000 in
theorem ttext_fine (v u : Value) (w : World) (F G : List Bx) (hr : RdF w v (F.map boxI)) (hF : OkF F) (hl : F.length ≤ 40) (hr2 : RdF w u (G.map boxI)) (hG : OkF G) (hl2 : G.length ≤ 40) (hb : (ofL F).length ≤ 30) (q : List UInt8) (hs : showS (ofL F) = (0, q)) (m : List Nd) (hq : readL q = (0, m)) (hm : OkL m) (he : formP m = formP (ofL F)) :
    Calls Tryd.prog 5 #[v, u] w fun e w' => e = .returned (.bool true) ∧ Gr w w' := by
  have HS := Lib.hid hs
  clear hs
  have HQ := Lib.hid hq
  clear hq
  have HM := Lib.hid hm
  have HE := Lib.hid he
  clear hm he
  have HA := Lib.hid hr
  have HB := Lib.hid hr2
  have HFA : Hid (FS w v (tabF F)) := ⟨F, hr, hF, hl, fun _ _ => rfl⟩
  have HFB : Hid (FS w u (tabF G)) := ⟨G, hr2, hG, hl2, fun _ _ => rfl⟩
  have HF := Lib.hid hF
  have HREP : Hid (RepT (tabF F) (formP (ofL F))) := fun t ht x hx => ((ofL_ok hF).2.2 t ht x hx).symm
  have HTT : Hid (OkT (tabF F)) := fun t _ => tabF_lt hF t
  have hcF := chkF_of hF hl
  have hcG := chkF_of hG hl2
  have HCF := Lib.hid hcF
  have HCG := Lib.hid hcG
  have HL := Lib.hid hb
  clear hr hr2 hF hG hcF hcG hb
  go_enter Tryd.func5, Tryd.ntmps5
  go_wp2_with fail
  refine (tbegun_any _).mono ?_
  rintro e w1 ⟨rfl, g1⟩
  have G1 := (Gr.refl _).trans g1
  have HA_1 := Lib.hid (HA.out.gr g1)
  clear HA
  have HB_1 := Lib.hid (HB.out.gr g1)
  clear HB
  have HFA_1 := Lib.hid (HFA.out.gr g1)
  clear HFA
  have HFB_1 := Lib.hid (HFB.out.gr g1)
  clear HFB
  clear g1
  go_wp2_with fail
  refine (fcheck_any _ _ _ HA_1.out).mono ?_
  rw [HCF.out]
  rintro e w2 ⟨rfl, g2⟩
  have G2 := (G1).trans g2
  have HA_2 := Lib.hid (HA_1.out.gr g2)
  clear HA_1
  have HB_2 := Lib.hid (HB_1.out.gr g2)
  clear HB_1
  have HFA_2 := Lib.hid (HFA_1.out.gr g2)
  clear HFA_1
  have HFB_2 := Lib.hid (HFB_1.out.gr g2)
  clear HFB_1
  clear g2 G1
  go_wp2_with fail
  refine (fcheck_any _ _ _ HB_2.out).mono ?_
  rw [HCG.out]
  rintro e w3 ⟨rfl, g3⟩
  have G3 := (G2).trans g3
  have HA_3 := Lib.hid (HA_2.out.gr g3)
  clear HA_2
  have HB_3 := Lib.hid (HB_2.out.gr g3)
  clear HB_2
  have HFA_3 := Lib.hid (HFA_2.out.gr g3)
  clear HFA_2
  have HFB_3 := Lib.hid (HFB_2.out.gr g3)
  clear HFB_2
  clear g3 G2
  go_wp2_with fail
  refine (lof_any HA_3.out HF.out hl).mono ?_
  rintro e w4 ⟨g4, hcase⟩
  have G4 := (G3).trans g4
  have HA_4 := Lib.hid (HA_3.out.gr g4)
  clear HA_3
  have HB_4 := Lib.hid (HB_3.out.gr g4)
  clear HB_3
  have HFA_4 := Lib.hid (HFA_3.out.gr g4)
  clear HFA_3
  have HFB_4 := Lib.hid (HFB_3.out.gr g4)
  clear HFB_3
  clear g4 G3
  obtain ⟨lu, rfl, hu⟩ : ∃ u, e = .returned (.tuple #[u, .int .i64 0]) ∧ OwnN _ w4 u (ofL F) := by
    rcases hcase with ⟨h, _⟩ | ⟨_, h⟩
    · have := HL.out; omega
    · exact h
  have HU := Lib.hid hu.rd
  clear hcase hu
  clear HA_4
  clear HB_4
  go_wp2_with fail
  refine (show_any HU.out).mono ?_
  rw [HS.out]
  rintro e w5 ⟨rfl, g5⟩
  have G5 := (G4).trans g5
  have HFA_5 := Lib.hid (HFA_4.out.gr g5)
  clear HFA_4
  have HFB_5 := Lib.hid (HFB_4.out.gr g5)
  clear HFB_4
  have HU_5 := Lib.hid (HU.out.gr g5)
  clear HU
  clear g5 G4
  clear HU_5
  go_wp2_with fail
  refine (read_any q _).mono ?_
  rw [HQ.out]
  rintro e w6 ⟨u2, rfl, g6, o2⟩
  have G6 := (G5).trans g6
  have HFA_6 := Lib.hid (HFA_5.out.gr g6)
  clear HFA_5
  have HFB_6 := Lib.hid (HFB_5.out.gr g6)
  clear HFB_5
  have O2_6 := Lib.hid (o2)
  clear g6 G5
  clear o2
  go_wp2_with fail
  refine (lfilter_ok O2_6.out.rd HM.out).mono ?_
  rintro e w7 ⟨ff, rfl, hff, g7⟩
  have G7 := (G6).trans g7
  have HFA_7 := Lib.hid (HFA_6.out.gr g7)
  clear HFA_6
  have HFB_7 := Lib.hid (HFB_6.out.gr g7)
  clear HFB_6
  have O2_7 := Lib.hid (O2_6.out.gr g7)
  clear O2_6
  have HG_7 := Lib.hid (fs_as hff HE.out HTT.out HREP.out)
  clear g7 G6
  clear hff
  clear O2_7
  go_wp2_with fail
  refine (tsame_ok HFA_7.out HG_7.out).mono ?_
  rintro e w8 ⟨rfl, g8⟩
  have G8 := (G7).trans g8
  have HFA_8 := Lib.hid (HFA_7.out.gr g8)
  clear HFA_7
  have HFB_8 := Lib.hid (HFB_7.out.gr g8)
  clear HFB_7
  have HG_8 := Lib.hid (HG_7.out.gr g8)
  clear HG_7
  clear g8 G7
  go_wp2_with fail
  refine (fwithin_ok HFA_8.out HFB_8.out).mono ?_
  rintro e w9 ⟨rfl, g9⟩
  have G9 := (G8).trans g9
  have HFA_9 := Lib.hid (HFA_8.out.gr g9)
  clear HFA_8
  have HFB_9 := Lib.hid (HFB_8.out.gr g9)
  clear HFB_8
  have HG_9 := Lib.hid (HG_8.out.gr g9)
  clear HG_8
  clear g9 G8
  go_wp2_with fail
  refine (fwithin_ok HG_9.out HFB_9.out).mono ?_
  rintro e w10 ⟨rfl, g10⟩
  have G10 := (G9).trans g10
  have HFA_10 := Lib.hid (HFA_9.out.gr g10)
  clear HFA_9
  have HFB_10 := Lib.hid (HFB_9.out.gr g10)
  clear HFB_9
  have HG_10 := Lib.hid (HG_9.out.gr g10)
  clear HG_9
  clear g10 G9
  generalize withinT (tabF F) (tabF G) = q2
  cases q2
  all_goals
    go_wp2_with fail
    go_ret
    exact ⟨rfl, G10⟩

theorem topText_walk (v : Value) (l : List BoxI) (u : Value) (m : List BoxI) (w : World) (hr : RdF w v l) (hr2 : RdF w u m) :
    Calls Tryd.prog 5 #[v, u] w fun e w' => e = .returned (.bool true) ∧ Gr w w' := by
  by_cases hc : chkF l = 0
  · by_cases hc2 : chkF m = 0
    · obtain ⟨F, rfl, hF, hl⟩ := okF_of hc
      obtain ⟨G, rfl, hG, hl2⟩ := okF_of hc2
      rcases Nat.lt_or_ge 30 (ofL F).length with c | c
      · exact ttext_large v u w F G hr hF hl hr2 hG hl2 c
      · have hk : OkL (ofL F) := (ofL_ok hF).1.okL (ofL_ok hF).2.1 c
        rcases show_two hk with h | h
        · obtain ⟨_, ⟨h2, o2, f2⟩ | h2⟩ := show_read h
          · exact ttext_fine v u w F G hr hF hl hr2 hG hl2 c (showS (ofL F)).2 (by rw [← h]) (readL (showS (ofL F)).2).2 (by rw [← h2]) o2 f2
          · exact ttext_read v u w F G hr hF hl hr2 hG hl2 c (showS (ofL F)).2 (by rw [← h]) (readL (showS (ofL F)).2).2 (by rw [← h2])
        · exact ttext_show v u w F G hr hF hl hr2 hG hl2 c (showS (ofL F)).2 (by rw [← h])
    · exact ttext_bad2 v u w l m hr hr2 hc hc2
  · exact ttext_bad1 v u w l hr hc
end Go.Proofs.YtbodadddcbbjeaaDoor
