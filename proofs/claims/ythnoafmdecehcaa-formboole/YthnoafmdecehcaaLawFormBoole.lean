/- The walk of FormBoole. -/
import Derived.Test.YthnoafmdecehcaaFormG
import Derived.Test.YthnoafmdecehcaaFormC
namespace Rm
open Go Go.RowKit
def notL (l : List Nd) (m : Nat) : List Nd := l ++ [(4, (m : Int), 0), (4, 0, 0), (6, (m : Int) + 1, (m : Int) + 2)]
def bothL (l : List Nd) (m : Nat) : List Nd := l ++ [(5, (m : Int), 0), (4, (m : Int) + 1, 0)]
theorem okN_not {a i : Nat} (h : a < i) : OkN (4, (a : Int), 0) i := ⟨rfl, by simp [okN, earB]; omega⟩
theorem okN_both {a b i : Nat} (h : a < i) (hb : b < i) : OkN (5, (a : Int), (b : Int)) i := ⟨rfl, by simp [okN, earB]; omega⟩
theorem okN_any {a b i : Nat} (h : a < i) (hb : b < i) : OkN (6, (a : Int), (b : Int)) i := ⟨rfl, by simp [okN, earB]; omega⟩
theorem notL_eq (l : List Nd) (m : Nat) : notL l m = ((l ++ [(4, (m : Int), 0)]) ++ [(4, ((0 : Nat) : Int), 0)]) ++ [(6, ((m + 1 : Nat) : Int), ((m + 2 : Nat) : Int))] := by simp [notL]
theorem bothL_eq (l : List Nd) (m : Nat) : bothL l m = (l ++ [(5, (m : Int), ((0 : Nat) : Int))]) ++ [(4, ((m + 1 : Nat) : Int), 0)] := by simp [bothL]
theorem okL_not {l : List Nd} {m : Nat} (h : OkL l) (hm : l.length = m + 1) (hl : l.length + 4 ≤ 30) : OkL (notL l m) := by
  rw [notL_eq]
  refine ((h.snoc (by omega) (okN_not (by omega))).snoc (by simp; omega) (okN_not (by simp))).snoc (by simp; omega) (okN_any (by simp; omega) (by simp; omega))
theorem okL_both {l : List Nd} {m : Nat} (h : OkL l) (hm : l.length = m + 1) (hl : l.length + 4 ≤ 30) : OkL (bothL l m) := by
  rw [bothL_eq]
  refine (h.snoc (by omega) (okN_both (by omega) (by omega))).snoc (by simp; omega) (okN_not (by simp; omega))
theorem ndP_not (a : Nat) (b : Int) (v : Nat → Pt) (t x : Nat) : ndP (4, (a : Int), b) v t x = !(v a t x) := rfl
theorem ndP_both (a b : Nat) (v : Nat → Pt) (t x : Nat) : ndP (5, (a : Int), (b : Int)) v t x = (v a t x && v b t x) := rfl
theorem ndP_any (a b : Nat) (v : Nat → Pt) (t x : Nat) : ndP (6, (a : Int), (b : Int)) v t x = (v a t x || v b t x) := rfl
theorem formP_not {l : List Nd} {m : Nat} (hm : l.length = m + 1) (t x : Nat) : formP (notL l m) t x = (!(getP (semL l) m t x) || !(getP (semL l) 0 t x)) := by
  rw [notL_eq, formP_snoc, ndP_any, semL_snoc, semL_snoc]
  have hs := semL_len l
  have e1 : m + 1 = (semL l).length := by omega
  have e2 : m + 2 = (semL l ++ [ndP (4, (m : Int), 0) (getP (semL l))]).length := by simp; omega
  rw [getP_app (i := m + 1) (by simp; omega), e2, getP_end, e1, getP_end, ndP_not, ndP_not, getP_app (by omega)]
theorem formP_both {l : List Nd} {m : Nat} (hm : l.length = m + 1) (t x : Nat) : formP (bothL l m) t x = !(getP (semL l) m t x && getP (semL l) 0 t x) := by
  rw [bothL_eq, formP_snoc, ndP_not, semL_snoc]
  have hs := semL_len l
  have e1 : m + 1 = (semL l).length := by omega
  rw [e1, getP_end, ndP_both]
theorem morgan {l : List Nd} {m : Nat} (hm : l.length = m + 1) : formP (notL l m) = formP (bothL l m) := by
  funext t x
  rw [formP_not hm, formP_both hm]
  cases getP (semL l) m t x <;> rfl
end Rm
namespace Go.Proofs.Ythnoafmdecehcaa
open Go.RowKit Rm
set_option linter.unusedVariables false
theorem ok_lit : OkL [(2, 1, 0)] := okL_of (by decide)
theorem val_lit : formP [(2, 1, 0)] 2 0 = true := by decide
theorem is_lit (w : World) (B : Nat) (hB : w.heap.size = B) : Calls Try.prog 9 #[.slice (some ⟨B, 0, none⟩) 1 1, .agg #[.int .i64 2, .int .i64 0]] (w.alloc (.cells #[.int .i64 2, .int .i64 1, .int .i64 0] 46)) fun e w' => e = .returned (.tuple #[.bool true, .int .i64 0]) ∧ Gr (w.alloc (.cells #[.int .i64 2, .int .i64 1, .int .i64 0] 46)) w' := by
  have h := is_ok (t := 2) (x := 0) (lit_node w 2 1 0 B hB) ok_lit (by omega) (by omega)
  rw [val_lit] at h
  exact h
theorem fp_same {T U : Nat → Nat} {P : Pt} (hT : OkT T) (hU : OkT U) (h : RepT T P) (h' : RepT U P) : sameT T U = true := by
  refine sameT_of (fun t ht => ?_)
  apply Nat.eq_of_testBit_eq
  intro i
  rcases Nat.lt_or_ge i 32 with c | c
  · rw [h t ht i c, h' t ht i c]
  · rw [Nat.testBit_lt_two_pow (Nat.lt_of_lt_of_le (hT t ht) (Nat.pow_le_pow_right (by omega) c)), Nat.testBit_lt_two_pow (Nat.lt_of_lt_of_le (hU t ht) (Nat.pow_le_pow_right (by omega) c))]
theorem FP.fs {base : Nat} {w : World} {v : Value} {P : Pt} (h : FP base w v P) : ∃ T, FS w v T ∧ OkT T ∧ RepT T P := by
  obtain ⟨T, h1, h2⟩ := h
  exact ⟨T, h1.fs.le (by omega), okT_of h1, h2⟩
/-- has a filter a point? -/
theorem fp_has {base : Nat} {w : World} {v : Value} {P : Pt} {t x : Nat} (h : FP base w v P) (ht : t < 16) (hx : x < 32) :
    Calls Try.prog 21 #[v, .agg #[.int .i64 (t : Int), .int .i64 (x : Int)]] w fun e w' => e = .returned (.tuple #[.bool (P t x), .int .i64 0]) ∧ Gr w w' := by
  obtain ⟨T, h1, h2, h3⟩ := h.fs
  have := fhas_ok h1 (t : Int) (x : Int)
  have e1 : bitT T (t : Int) (x : Int) = P t x := by
    unfold bitT
    rw [pointB_nat ht hx]
    simpa using h3 t ht x hx
  have e2 : errP (t : Int) (x : Int) = 0 := by unfold errP; rw [pointB_nat ht hx]; rfl
  rw [e1, e2] at this
  exact this
theorem fp_keep_same {b b' : Nat} {w : World} {v v' : Value} {P : Pt} (h : FP b w v P) (h' : FP b' w v' P) :
    Calls Try.prog 23 #[v, v'] w fun e w' => e = .returned (.bool true) ∧ Gr w w' := by
  obtain ⟨T, h1, h2, h3⟩ := h.fs
  obtain ⟨U, k1, k2, k3⟩ := h'.fs
  have := same_any h1 k1
  rw [fp_same h2 k2 h3 k3] at this
  exact this
set_option maxHeartbeats 4000000 in
set_option maxRecDepth 100000 in
theorem formBoole_bad (v : Value) (l : List Nd) (t n : Int) (w : World) (hr : RdN w v l) (hc : (chkL l == 0) = false) :
    Calls Try.prog 5 #[v, .agg #[.int .i64 t, .int .i64 n]] w fun e w' => e = .returned (.bool true) ∧ Gr w w' := by
  have hc' := bne_of' hc
  have HC := Lib.hid hc
  clear hc
  have HP := Lib.hid (Two.new w t n 24)
  have HV0 := Lib.hid (hr.alloc (.cells #[.int .i64 t, .int .i64 n] 24))
  clear hr
  go_enter Try.func5, Try.ntmps5
  go_wp2_with fail
  refine (is_lit (w.alloc _) (w.heap.size + 1) (by simp)).mono ?_
  rintro e w1 ⟨rfl, g1⟩
  have h1 := ((Gr.refl _).alloc _).trans g1
  have G1 := ((Gr.refl w).alloc _).trans h1
  have HV_1 := Lib.hid (HV0.out.gr h1)
  clear HV0
  have HP_1 := Lib.hid (HP.out.gr h1)
  clear HP
  clear g1 h1
  obtain ⟨p0, p1, p2⟩ := HP_1.out
  go_wp2_with fail
  refine (is_bad t n (HV_1.out) HC.out).mono ?_
  rintro e w2 ⟨rfl, g2⟩
  have G2 := (G1).trans g2
  have HV_2 := Lib.hid (HV_1.out.gr g2)
  clear HV_1
  have HP_2 := Lib.hid (HP_1.out.gr g2)
  clear HP_1
  clear g2 G1
  go_wp2_with fail
  go_ret
  exact ⟨rfl, G2⟩
set_option maxHeartbeats 4000000 in
set_option maxRecDepth 100000 in
theorem formBoole_point (v : Value) (l : List Nd) (t n : Int) (w : World) (hr : RdN w v l) (hc : OkL l) (hp : pointB t n = false) :
    Calls Try.prog 5 #[v, .agg #[.int .i64 t, .int .i64 n]] w fun e w' => e = .returned (.bool true) ∧ Gr w w' := by
  have HC := Lib.hid hc
  have HPB := Lib.hid hp
  clear hc hp
  have HP := Lib.hid (Two.new w t n 24)
  have HV0 := Lib.hid (hr.alloc (.cells #[.int .i64 t, .int .i64 n] 24))
  clear hr
  go_enter Try.func5, Try.ntmps5
  go_wp2_with fail
  refine (is_lit (w.alloc _) (w.heap.size + 1) (by simp)).mono ?_
  rintro e w1 ⟨rfl, g1⟩
  have h1 := ((Gr.refl _).alloc _).trans g1
  have G1 := ((Gr.refl w).alloc _).trans h1
  have HV_1 := Lib.hid (HV0.out.gr h1)
  clear HV0
  have HP_1 := Lib.hid (HP.out.gr h1)
  clear HP
  clear g1 h1
  obtain ⟨p0, p1, p2⟩ := HP_1.out
  go_wp2_with fail
  refine (is_point t n (HV_1.out) HC.out HPB.out).mono ?_
  rintro e w2 ⟨rfl, g2⟩
  have G2 := (G1).trans g2
  have HV_2 := Lib.hid (HV_1.out.gr g2)
  clear HV_1
  have HP_2 := Lib.hid (HP_1.out.gr g2)
  clear HP_1
  clear g2 G1
  go_wp2_with fail
  go_ret
  exact ⟨rfl, G2⟩
set_option maxHeartbeats 4000000 in
set_option maxRecDepth 100000 in
theorem formBoole_large (v : Value) (l : List Nd) (t x : Nat) (w : World) (hr : RdN w v l) (hc : OkL l) (ht : t < 16) (hx : x < 32) (hl : 26 < l.length) :
    Calls Try.prog 5 #[v, .agg #[.int .i64 (t : Int), .int .i64 (x : Int)]] w fun e w' => e = .returned (.bool true) ∧ Gr w w' := by
  obtain ⟨m, hm⟩ : ∃ m, l.length = m + 1 := ⟨l.length - 1, by have := hc.1; omega⟩
  have HC := Lib.hid hc
  have HT := Lib.hid ht
  have HXX := Lib.hid hx
  have hbig : (30 : Int) < (m : Int) + 1 + 4 := by omega
  have hm30 : (m : Int) < 30 := by have := hc.2.1; omega
  obtain ⟨va, vc, rfl, hvc⟩ := rdN_form hr
  have HL := Lib.hid hm
  have hsub : (m : Int) + 1 - 1 = (m : Int) := by omega
  rw [hm] at hr hvc ⊢
  clear hc ht hx hm
  clear hl
  have HP := Lib.hid (Two.new w (t : Int) (x : Int) 24)
  have HV0 := Lib.hid (hr.alloc (.cells #[.int .i64 (t : Int), .int .i64 (x : Int)] 24))
  clear hr
  go_enter Try.func5, Try.ntmps5
  go_wp2_with fail
  refine (is_lit (w.alloc _) (w.heap.size + 1) (by simp)).mono ?_
  rintro e w1 ⟨rfl, g1⟩
  have h1 := ((Gr.refl _).alloc _).trans g1
  have G1 := ((Gr.refl w).alloc _).trans h1
  have HV_1 := Lib.hid (HV0.out.gr h1)
  clear HV0
  have HP_1 := Lib.hid (HP.out.gr h1)
  clear HP
  clear g1 h1
  obtain ⟨p0, p1, p2⟩ := HP_1.out
  go_wp2_with fail
  refine (is_ok (HV_1.out) HC.out HT.out HXX.out).mono ?_
  rintro e w2 ⟨rfl, g2⟩
  have G2 := (G1).trans g2
  have HV_2 := Lib.hid (HV_1.out.gr g2)
  clear HV_1
  have HP_2 := Lib.hid (HP_1.out.gr g2)
  clear HP_1
  clear g2 G1
  clear p0 p1 p2
  go_wp2_with fail
  refine (lfilter_ok (HV_2.out) HC.out).mono ?_
  rintro e w3 ⟨ff, rfl, hff, g3⟩
  have G3 := (G2).trans g3
  have HV_3 := Lib.hid (HV_2.out.gr g3)
  clear HV_2
  have HP_3 := Lib.hid (HP_2.out.gr g3)
  clear HP_2
  have HF_3 := Lib.hid (hff)
  clear g3 G2
  clear hff
  obtain ⟨p0, p1, p2⟩ := HP_3.out
  go_wp2_with fail
  refine (fp_has (HF_3.out) HT.out HXX.out).mono ?_
  rintro e w4 ⟨rfl, g4⟩
  have G4 := (G3).trans g4
  have HV_4 := Lib.hid (HV_3.out.gr g4)
  clear HV_3
  have HP_4 := Lib.hid (HP_3.out.gr g4)
  clear HP_3
  have HF_4 := Lib.hid (HF_3.out.gr g4)
  clear HF_3
  clear g4 G3
  clear p0 p1 p2
  clear HF_4
  obtain ⟨r, hr⟩ : ∃ r, formP l t x = r := ⟨_, rfl⟩
  rw [hr]
  clear hr
  cases r
  all_goals
    go_wp2_with fail
    go_ret
    exact ⟨rfl, G4⟩
set_option maxHeartbeats 4000000 in
set_option maxRecDepth 100000 in
theorem formBoole_ok (v : Value) (l : List Nd) (t x : Nat) (w : World) (hr : RdN w v l) (hc : OkL l) (ht : t < 16) (hx : x < 32) (hl : l.length ≤ 26) :
    Calls Try.prog 5 #[v, .agg #[.int .i64 (t : Int), .int .i64 (x : Int)]] w fun e w' => e = .returned (.bool true) ∧ Gr w w' := by
  obtain ⟨m, hm⟩ : ∃ m, l.length = m + 1 := ⟨l.length - 1, by have := hc.1; omega⟩
  have HC := Lib.hid hc
  have HT := Lib.hid ht
  have HXX := Lib.hid hx
  have HN := Lib.hid (okL_not hc hm (by omega))
  have HB := Lib.hid (okL_both hc hm (by omega))
  have HMO := Lib.hid (morgan hm)
  have hsm : ¬ (30 : Int) < (m : Int) + 1 + 4 := by omega
  have hne : l ≠ [] := by intro e; rw [e] at hm; simp at hm
  have HNE := Lib.hid hne
  have hm30 : (m : Int) < 30 := by omega
  obtain ⟨i0, hi0, hz0, hz1, hz2⟩ := info_parts node_info
  obtain ⟨va, vc, rfl, hvc⟩ := rdN_form hr
  have HL := Lib.hid hm
  have hsub : (m : Int) + 1 - 1 = (m : Int) := by omega
  have HLN : Hid ((l.length : Nat) ≤ 26) := by unfold Hid; omega
  rw [hm] at hr hvc ⊢
  clear hc ht hx hm
  clear hne hl
  have HP := Lib.hid (Two.new w (t : Int) (x : Int) 24)
  have HV0 := Lib.hid (hr.alloc (.cells #[.int .i64 (t : Int), .int .i64 (x : Int)] 24))
  clear hr
  go_enter Try.func5, Try.ntmps5
  go_wp2_with fail
  refine (is_lit (w.alloc _) (w.heap.size + 1) (by simp)).mono ?_
  rintro e w1 ⟨rfl, g1⟩
  have h1 := ((Gr.refl _).alloc _).trans g1
  have G1 := ((Gr.refl w).alloc _).trans h1
  have HV_1 := Lib.hid (HV0.out.gr h1)
  clear HV0
  have HP_1 := Lib.hid (HP.out.gr h1)
  clear HP
  clear g1 h1
  obtain ⟨p0, p1, p2⟩ := HP_1.out
  go_wp2_with fail
  refine (is_ok (HV_1.out) HC.out HT.out HXX.out).mono ?_
  rintro e w2 ⟨rfl, g2⟩
  have G2 := (G1).trans g2
  have HV_2 := Lib.hid (HV_1.out.gr g2)
  clear HV_1
  have HP_2 := Lib.hid (HP_1.out.gr g2)
  clear HP_1
  clear g2 G1
  clear p0 p1 p2
  go_wp2_with fail
  refine (lfilter_ok (HV_2.out) HC.out).mono ?_
  rintro e w3 ⟨ff, rfl, hff, g3⟩
  have G3 := (G2).trans g3
  have HV_3 := Lib.hid (HV_2.out.gr g3)
  clear HV_2
  have HP_3 := Lib.hid (HP_2.out.gr g3)
  clear HP_2
  have HF_3 := Lib.hid (hff)
  clear g3 G2
  clear hff
  obtain ⟨p0, p1, p2⟩ := HP_3.out
  go_wp2_with fail
  refine (fp_has (HF_3.out) HT.out HXX.out).mono ?_
  rintro e w4 ⟨rfl, g4⟩
  have G4 := (G3).trans g4
  have HV_4 := Lib.hid (HV_3.out.gr g4)
  clear HV_3
  have HP_4 := Lib.hid (HP_3.out.gr g4)
  clear HP_3
  have HF_4 := Lib.hid (HF_3.out.gr g4)
  clear HF_3
  clear g4 G3
  clear p0 p1 p2
  clear HF_4
  obtain ⟨r, hr⟩ : ∃ r, formP l t x = r := ⟨_, rfl⟩
  rw [hr]
  clear hr
  cases r
  all_goals
    go_wp2_with fail
    refine (clone_nodes (HV_4.out) HNE.out (by have := HLN.out; omega)).mono ?_
    rintro e cn ⟨un, rfl, hon, gcn⟩
    have HLc := HL.out
    have HLd := HLN.out
    have HOn := Lib.hid hon
    unfold OwnN at hon
    rw [HL.out] at hon
    obtain ⟨uan, ucn, rfl, -⟩ := own_form hon
    have HWn := Lib.hid hon
    clear hon HLc HLd
    go_wp2_with (at_builtin; refine wpList_append_own _ rfl (.tmp 76) (.tmp 86) 22 rfl w4.heap.size 46 i0 _ 3 24 Try.underlying22 hi0 hz0 hz1 hz2 rfl (by omega) _ _ _ rfl (HWn.out.alloc _) ⟨cn.heap.size, 0, none⟩ 3 3 [.int .i64 4, .int .i64 (m : Int), .int .i64 0, .int .i64 4, .int .i64 0, .int .i64 0, .int .i64 6, .int .i64 ((m : Int) + 1), .int .i64 ((m : Int) + 2)] rfl rfl (newK _ _ _) (by simp [Value.oneCell']) (by simp only [maxLen]; omega) (by omega) (by have := gcn.le; simp; omega) ?_; intro nn dn hnn hgn _)
    have gdn := (gcn.alloc _).grown hgn (fun k hk => (HWn.out.lt k hk).1)
    have HQn := Lib.hid (show OwnN w4.heap.size dn nn (notL l m) from OwnN.app (l := l) (r := [(4, (m : Int), 0), (4, 0, 0), (6, (m : Int) + 1, (m : Int) + 2)]) hnn (by rw [List.length_append, HL.out]; rfl) rfl)
    clear hnn hgn gcn HWn HOn
    have G5 := (G4).trans gdn
    have HV_5 := Lib.hid (HV_4.out.gr gdn)
    clear HV_4
    have HP_5 := Lib.hid (HP_4.out.gr gdn)
    clear HP_4
    clear gdn G4
    go_wp2_with fail
    refine (clone_nodes (HV_5.out) HNE.out (by have := HLN.out; omega)).mono ?_
    rintro e cb ⟨ub, rfl, hob, gcb⟩
    have HLc := HL.out
    have HLd := HLN.out
    have HOb := Lib.hid hob
    unfold OwnN at hob
    rw [HL.out] at hob
    obtain ⟨uab, ucb, rfl, -⟩ := own_form hob
    have HWb := Lib.hid hob
    clear hob HLc HLd
    go_wp2_with (at_builtin; refine wpList_append_own _ rfl (.tmp 89) (.tmp 96) 22 rfl dn.heap.size 46 i0 _ 3 24 Try.underlying22 hi0 hz0 hz1 hz2 rfl (by omega) _ _ _ rfl (HWb.out.alloc _) ⟨cb.heap.size, 0, none⟩ 2 2 [.int .i64 5, .int .i64 (m : Int), .int .i64 0, .int .i64 4, .int .i64 ((m : Int) + 1), .int .i64 0] rfl rfl (newK _ _ _) (by simp [Value.oneCell']) (by simp only [maxLen]; omega) (by omega) (by have := gcb.le; simp; omega) ?_; intro nb db hnb hgb _; obtain ⟨p0, p1, p2⟩ := (HP_5.out.gr ((gcb.alloc _).grown hgb (fun k hk => (HWb.out.lt k hk).1))))
    have gdb := (gcb.alloc _).grown hgb (fun k hk => (HWb.out.lt k hk).1)
    have HQb := Lib.hid (show OwnN dn.heap.size db nb (bothL l m) from OwnN.app (l := l) (r := [(5, (m : Int), 0), (4, (m : Int) + 1, 0)]) hnb (by rw [List.length_append, HL.out]; rfl) rfl)
    clear hnb hgb gcb HWb HOb
    have G6 := (G5).trans gdb
    have HV_6 := Lib.hid (HV_5.out.gr gdb)
    clear HV_5
    have HP_6 := Lib.hid (HP_5.out.gr gdb)
    clear HP_5
    have HQn_6 := Lib.hid (HQn.out.gr gdb)
    clear HQn
    clear gdb G5
    clear HV_6
    refine (is_ok (HQn_6.out.rd) HN.out HT.out HXX.out).mono ?_
    rw [HMO.out]
    rintro e w7 ⟨rfl, g7⟩
    have G7 := (G6).trans g7
    have HP_7 := Lib.hid (HP_6.out.gr g7)
    clear HP_6
    have HQn_7 := Lib.hid (HQn_6.out.gr g7)
    clear HQn_6
    have HQb_7 := Lib.hid (HQb.out.gr g7)
    clear HQb
    clear g7 G6
    clear p0 p1 p2
    obtain ⟨p0, p1, p2⟩ := HP_7.out
    go_wp2_with fail
    refine (is_ok (HQb_7.out.rd) HB.out HT.out HXX.out).mono ?_
    rintro e w8 ⟨rfl, g8⟩
    have G8 := (G7).trans g8
    have HP_8 := Lib.hid (HP_7.out.gr g8)
    clear HP_7
    have HQn_8 := Lib.hid (HQn_7.out.gr g8)
    clear HQn_7
    have HQb_8 := Lib.hid (HQb_7.out.gr g8)
    clear HQb_7
    clear g8 G7
    clear p0 p1 p2
    clear HP_8
    go_wp2_with fail
    refine (lfilter_ok (HQn_8.out.rd) HN.out).mono ?_
    rw [HMO.out]
    rintro e w9 ⟨fn, rfl, hfn, g9⟩
    have G9 := (G8).trans g9
    have HQn_9 := Lib.hid (HQn_8.out.gr g9)
    clear HQn_8
    have HQb_9 := Lib.hid (HQb_8.out.gr g9)
    clear HQb_8
    have HFn_9 := Lib.hid (hfn)
    clear g9 G8
    clear hfn
    clear HQn_9
    go_wp2_with fail
    refine (lfilter_ok (HQb_9.out.rd) HB.out).mono ?_
    rintro e w10 ⟨fb, rfl, hfb, g10⟩
    have G10 := (G9).trans g10
    have HQb_10 := Lib.hid (HQb_9.out.gr g10)
    clear HQb_9
    have HFn_10 := Lib.hid (HFn_9.out.gr g10)
    clear HFn_9
    have HFb_10 := Lib.hid (hfb)
    clear g10 G9
    clear hfb
    clear HQb_10
    generalize formP (bothL l m) t x = q
    go_wp2_with fail
    refine (fp_keep_same (HFn_10.out) (HFb_10.out)).mono ?_
    rintro e w11 ⟨rfl, g11⟩
    have G11 := (G10).trans g11
    have HFn_11 := Lib.hid (HFn_10.out.gr g11)
    clear HFn_10
    have HFb_11 := Lib.hid (HFb_10.out.gr g11)
    clear HFb_10
    clear g11 G10
    go_wp2_with fail
    go_ret
    exact ⟨rfl, G11⟩
theorem formBoole_walk (v : Value) (l : List Nd) (t n : Int) (w : World) (hr : RdN w v l) :
    Calls Try.prog 5 #[v, .agg #[.int .i64 t, .int .i64 n]] w fun e w' => e = .returned (.bool true) ∧ Gr w w' := by
  cases hc : (chkL l == 0)
  · exact formBoole_bad v l t n w hr hc
  · have hok := okL_of (by simpa using hc)
    cases hp : pointB t n
    · exact formBoole_point v l t n w hr hok hp
    · obtain ⟨a, b, ha, hb, rfl, rfl⟩ := point_of hp
      by_cases h : l.length ≤ 26
      · exact formBoole_ok v l a b w hr hok ha hb h
      · exact formBoole_large v l a b w hr hok ha hb (by omega)
end Go.Proofs.Ythnoafmdecehcaa
