/- The walk of FilterOwn. -/
import Derived.Test.YtbodadddcbbjeaaOwnJ
namespace Go.Proofs.Ytbodadddcbbjeaa
open Go.RowKit Rm
set_option linter.unusedVariables false
/-- an argument of the law -/
structure OwnArg (w : World) (f : Value) (l : List BoxI) : Prop where
  x : RdX w f l
  rd : RdF w f l
  len : l.length * 40 ≤ 2 ^ 47
  box : ∀ p ∈ l, p.2.length * 16 ≤ 2 ^ 47
theorem OwnArg.len' {w : World} {f : Value} {l : List BoxI} (h : OwnArg w f l) : l.length ≤ 2 ^ 47 := by have := h.len; omega
theorem OwnArg.box' {w : World} {f : Value} {l : List BoxI} (h : OwnArg w f l) : ∀ p ∈ l, p.2.length ≤ 2 ^ 47 := fun p hp => by have := h.box p hp; omega
theorem OwnArg.gr {w w' : World} {f : Value} {l : List BoxI} (h : OwnArg w f l) (g : Gr w w') : OwnArg w' f l := by
  obtain ⟨⟨O, a, b, c⟩, d, e, i⟩ := h
  exact ⟨⟨O, a, b.gr g, fun k p q h1 h2 => ⟨(c k p q h1 h2).1, (c k p q h1 h2).2.gr g⟩⟩, d.gr g, e, i⟩
set_option maxRecDepth 100000 in
set_option maxHeartbeats 8000000 in
set_option maxRecDepth 100000 in
theorem filterOwn_walk {f g nv lv : Value} {lf lg : List BoxI} {ln : List Int} {ll : List Nd} {w : World} (af : OwnArg w f lf) (ag : OwnArg w g lg) (an : RdC 1 w nv ln.length (ln.map (Value.int .i64))) (an' : Rd1 w nv ln) (hn : ln.length * 8 ≤ 2 ^ 47)
    (al : RdC 3 w lv ll.length (flatN ll)) (al' : RdN w lv ll) (hl : ll.length * 24 ≤ 2 ^ 47) :
    Calls Try.prog 5 #[f, g, nv, lv] w fun e w' => e = .returned (.bool true) ∧ Gr w w' := by
  have AF := Lib.hid af
  have AG := Lib.hid ag
  have AN := Lib.hid an
  have AN' := Lib.hid an'
  have HN := Lib.hid hn
  have AL := Lib.hid al
  have AL' := Lib.hid al'
  have HL := Lib.hid hl
  clear af ag an an' hn al al' hl
  go_enter Try.func5, Try.ntmps5
  go_wp2_with fail
  refine (begun_any _).mono ?_
  rintro e w1 ⟨rfl, q1⟩
  have G1 := Lib.hid q1
  clear q1
  go_wp2_with fail
  refine (room_ok (AF.out.gr G1.out).x AF.out.len AF.out.box).mono ?_
  rintro e w2 ⟨x, rfl, q2, X2⟩
  have HX := Lib.hid X2
  have G2 := Lib.hid q2
  clear q2 X2
  go_wp2_with fail
  refine (room_ok (AG.out.gr (G1.out.trans G2.out)).x AG.out.len AG.out.box).mono ?_
  rintro e w3 ⟨y, rfl, q3, X3⟩
  have HY := Lib.hid X3
  have G3 := Lib.hid q3
  clear q3 X3
  go_wp2_with fail
  refine (roomyI _ _ _ (-7) _ (AN.out.gr ((G1.out.trans G2.out).trans G3.out)) HN.out).mono ?_
  rintro e w4 ⟨gi, rfl, q4, i4, X4⟩
  have HI := Lib.hid X4
  have G4 := Lib.hid q4
  have LI := Lib.hid i4
  clear q4 i4 X4
  go_wp2_with fail
  refine (roomyN _ _ _ (-7) 0 0 _ (AL.out.gr (((G1.out.trans G2.out).trans G3.out).trans G4.out)) HL.out).mono ?_
  rintro e w5 ⟨gn, rfl, q5, i5, X5⟩
  have HNN := Lib.hid X5
  have G5 := Lib.hid q5
  have LN := Lib.hid i5
  clear q5 i5 X5
  have X5 := Lib.hid (((HX.out.gr G3.out).gr G4.out).gr G5.out)
  have Y5 := Lib.hid ((HY.out.gr G4.out).gr G5.out)
  go_wp2_with fail
  refine (fjoin_res X5.out.rd Y5.out.rd).mono ?_
  rintro e w6 ⟨a, ca, rfl, q6, r6⟩
  have G6 := Lib.hid q6
  have RA := Lib.hid r6
  clear q6 r6
  go_wp2_with fail
  refine (fmeet_res (X5.out.gr G6.out).rd (Y5.out.gr G6.out).rd).mono ?_
  rintro e w7 ⟨b, cb, rfl, q7, r7⟩
  have G7 := Lib.hid q7
  have RB := Lib.hid r7
  clear q7 r7
  go_wp2_with fail
  refine (fless_res (X5.out.gr (G6.out.trans G7.out)).rd (Y5.out.gr (G6.out.trans G7.out)).rd).mono ?_
  rintro e w8 ⟨c, cc, rfl, q8, r8⟩
  have G8 := Lib.hid q8
  have RC := Lib.hid r8
  clear q8 r8
  go_wp2_with fail
  have K8 := Lib.hid ((G6.out.trans G7.out).trans G8.out)
  have ON : Hid (∀ W, Gr w5 W → W.ownsRow w4.heap.size 40 3 (.slice (some ⟨gn, 0, none⟩) ll.length (ll.length + 3)) ll.length (flatN ll)) := fun W g => own_gr (rm_own (flatN_len ll) rfl LN.out (by have := HL.out; omega) HNN.out) g
  have OI : Hid (∀ W, Gr w5 W → W.ownsRow w3.heap.size 3 1 (.slice (some ⟨gi, 0, none⟩) ln.length (ln.length + 3)) ln.length (ln.map (Value.int .i64))) := fun W g => own_gr (rm_own (by simp) rfl LI.out (by have := HN.out; omega) HI.out) (G5.out.trans g)
  refine (lfilter_res (RdN.own (ON.out _ K8.out))).mono ?_
  rintro e w9 ⟨d, cd, rfl, q9, r9⟩
  have G9 := Lib.hid q9
  have RD := Lib.hid r9
  clear q9 r9
  go_wp2_with fail
  refine (lof_res (X5.out.gr (K8.out.trans G9.out)).rd).mono ?_
  rintro e w10 ⟨o, co, rfl, q10, r10⟩
  have G10 := Lib.hid q10
  have RO := Lib.hid r10
  clear q10 r10
  go_wp2_with fail
  refine (fevery_res _).mono ?_
  rintro e w11 ⟨e1, rfl, q11, r11⟩
  have G11 := Lib.hid q11
  have RE1 := Lib.hid r11
  clear q11 r11
  go_wp2_with fail
  refine (fevery_res _).mono ?_
  rintro e w12 ⟨e2, rfl, q12, r12⟩
  have G12 := Lib.hid q12
  have RE2 := Lib.hid r12
  clear q12 r12
  go_wp2_with fail
  have K12 := Lib.hid ((((K8.out.trans G9.out).trans G10.out).trans G11.out).trans G12.out)
  refine (of_res (rd1_own (OI.out _ K12.out))).mono ?_
  rintro e w13 ⟨s, cs, rfl, q13, r13⟩
  have G13 := Lib.hid q13
  have RS := Lib.hid r13
  clear q13 r13
  go_wp2_with fail
  have K13 := Lib.hid (K12.out.trans G13.out)
  have W5 := Lib.hid ((((G1.out.trans G2.out).trans G3.out).trans G4.out).trans G5.out)
  refine (kept_ok (X5.out.gr K13.out) (AF.out.gr (W5.out.trans K13.out)).rd AF.out.len' AF.out.box').mono ?_
  rintro e w14 ⟨rfl, q14⟩
  have G14 := Lib.hid q14
  clear q14
  go_wp2_with fail
  have K14 := Lib.hid (K13.out.trans G14.out)
  refine (kept_ok (Y5.out.gr K14.out) (AG.out.gr (W5.out.trans K14.out)).rd AG.out.len' AG.out.box').mono ?_
  rintro e w15 ⟨rfl, q15⟩
  have G15 := Lib.hid q15
  clear q15
  go_wp2_with fail
  have K15 := Lib.hid (K14.out.trans G15.out)
  refine (equalI (rd1_own (OI.out _ K15.out)) (AN'.out.gr (W5.out.trans K15.out)) (by have := HN.out; omega)).mono ?_
  rintro e w16 ⟨rfl, q16⟩
  have G16 := Lib.hid q16
  clear q16
  go_wp2_with fail
  have K16 := Lib.hid (K15.out.trans G16.out)
  refine (markedI gi _ (ln.map (Value.int .i64)) (-7) _ (by simp) (by have := HN.out; omega) ((Below.block (G5.out.trans K16.out) _ (Blk_lt HI.out)).trans HI.out)).mono ?_
  rintro e w17 ⟨rfl, q17⟩
  have G17 := Lib.hid q17
  clear q17
  go_wp2_with fail
  have K17 := Lib.hid (K16.out.trans G17.out)
  refine (equalN (RdN.own (ON.out _ K17.out)) (AL'.out.gr (W5.out.trans K17.out)) (by have := HL.out; omega)).mono ?_
  rintro e w18 ⟨rfl, q18⟩
  have G18 := Lib.hid q18
  clear q18
  go_wp2_with fail
  have K18 := Lib.hid (K17.out.trans G18.out)
  refine (markedN gn _ (flatN ll) (-7) 0 0 _ (flatN_len ll) (by have := HL.out; omega) ((Below.block K18.out _ (Blk_lt HNN.out)).trans HNN.out)).mono ?_
  rintro e w19 ⟨rfl, q19⟩
  have K19 := Lib.hid (K18.out.trans q19)
  have D19 := Lib.hid (((((G14.out.trans G15.out).trans G16.out).trans G17.out).trans G18.out).trans q19)
  clear q19
  obtain ⟨la, n1, m1, h1⟩ := RA.out
  obtain ⟨lb, n2, m2, h2⟩ := RB.out
  obtain ⟨lc, n3, m3, h3⟩ := RC.out
  obtain ⟨ld, n4, m4, h4⟩ := RD.out
  obtain ⟨le1, n5, m5, h5⟩ := RE1.out
  obtain ⟨le2, n6, m6, h6⟩ := RE2.out
  have P12 := (((((G7.out.trans G8.out).trans G9.out).trans G10.out).trans G11.out).trans G12.out).trans (G13.out.trans D19.out)
  obtain ⟨L, LO, HH, hsix⟩ := Six.of (h1.gr P12) (h2.gr ((((((G8.out.trans G9.out).trans G10.out).trans G11.out).trans G12.out).trans G13.out).trans D19.out)) (h3.gr (((((G9.out.trans G10.out).trans G11.out).trans G12.out).trans G13.out).trans D19.out)) (h4.gr ((((G10.out.trans G11.out).trans G12.out).trans G13.out).trans D19.out)) (h5.gr ((G12.out.trans G13.out).trans D19.out)) (h6.gr (G13.out.trans D19.out)) G6.out.le G7.out.le G8.out.le G9.out.le G10.out.le G11.out.le G12.out.le n1 n2 n3 n4 n5 n6 m1 m2 m3 m4 m5 m6
  obtain ⟨aa, ac, rfl⟩ := h1.form
  obtain ⟨ba, bc, rfl⟩ := h2.form
  obtain ⟨ca', cc', rfl⟩ := h3.form
  obtain ⟨da, dc, rfl⟩ := h4.form
  obtain ⟨ea, ec, rfl⟩ := h5.form
  obtain ⟨fa, fc, rfl⟩ := h6.form
  have SIX := Lib.hid hsix
  clear hsix h1 h2 h3 h4 h5 h6 n1 n2 n3 n4 n5 n6 m1 m2 m3 m4 m5 m6 P12 RA RB RC RD RE1 RE2
  go_wp2_with fail
  obtain ⟨Z, hZ⟩ : ∃ Z : List Value, Z = [.slice aa la.length ac, .slice ba lb.length bc, .slice ca' lc.length cc', .slice da ld.length dc, .slice ea le1.length ec, .slice fa le2.length fc] := ⟨_, rfl⟩
  rw [← hZ] at SIX
  have BZ : Hid ((w19.alloc (.cells #[.slice aa la.length ac, .slice ba lb.length bc, .slice ca' lc.length cc', .slice da ld.length dc, .slice ea le1.length ec, .slice fa le2.length fc] 27)).heap[w19.heap.size]? = some (.cells Z.toArray 27 (0, 0))) := by rw [hZ]; exact heap_alloc_new _ _
  have G20 : Hid (Gr w19 (w19.alloc (.cells #[.slice aa la.length ac, .slice ba lb.length bc, .slice ca' lc.length cc', .slice da ld.length dc, .slice ea le1.length ec, .slice fa le2.length fc] 27))) := (Gr.refl w19).alloc _
  generalize w19.alloc (.cells #[.slice aa la.length ac, .slice ba lb.length bc, .slice ca' lc.length cc', .slice da ld.length dc, .slice ea le1.length ec, .slice fa le2.length fc] 27) = w20 at *
  clear hZ
  have K20 := Lib.hid (K19.out.trans G20.out)
  obtain ⟨i0, hi0, hz0, hz1, hz2⟩ := info_parts filter_info
  go_loopw [28, 123] (fun u i wr => ∃ (k : Nat) (V : List Value), k ≤ 6 ∧ i = .int .i64 k ∧ Gr w20 wr ∧ V.length = k ∧ wr.ownsRow w20.heap.size 27 1 u V.length V ∧ ∀ j v, V[j]? = some v → OwnBx w20.heap.size wr.heap.size wr v (L j)) (fun _ i _ => 6 - (intOf i).toNat)
  case atStart => exact ⟨0, [], by omega, rfl, Gr.refl _, rfl, World.ownsRow_nil _ _ _ _, fun j v hv => by simp at hv⟩
  case round =>
    obtain ⟨k, V, hk, rfl, hg, hVl, hown, hV⟩ := hrel
    have HV := Lib.hid hV
    have HO := Lib.hid hown
    have HG := Lib.hid hg
    have HVL := Lib.hid hVl
    obtain ⟨ua, uc, rfl, huc⟩ := own_form hown
    clear hV hown hg
    by_cases hlt : k < 6
    · have hlt' : (k : Int) < 6 := by omega
      have hk0 : (0 : Int) ≤ (k : Int) := by omega
      obtain ⟨z, hz⟩ : ∃ z, Z[k]? = some z := ⟨_, List.getElem?_eq_getElem (by rw [SIX.out.six]; exact hlt)⟩
      have OZ := Lib.hid ((SIX.out.own k z hz).gr (G20.out.trans HG.out))
      obtain ⟨za, zc, rfl⟩ := OZ.out.form
      have hcb := (Below.block HG.out _ (Blk_lt BZ.out)).trans BZ.out
      have cz : wr.cell? ⟨w19.heap.size, k, none⟩ = some (.slice za (L k).length zc) := by rw [cell_of_row _ _ _ _ _ _ hcb]; simpa using hz
      have hbl : w19.heap.size < wr.heap.size := Blk_lt hcb
      clear hcb hz hVl
      go_wp2_with fail
      refine (room_ok OZ.out.rdx (by have := SIX.out.len k hlt; omega) (fun p hp => by have := SIX.out.box k hlt p hp; omega)).mono ?_
      rintro e w3' ⟨r, rfl, g3, R3⟩
      have R3' := Lib.hid (R3.own (by have := SIX.out.len k hlt; omega) (fun p hp => by have := SIX.out.box k hlt p hp; omega))
      obtain ⟨ra, rc, rfl⟩ := R3'.out.form
      have G3' := Lib.hid g3
      have O3 := Lib.hid (own_gr HO.out g3)
      have HF : Hid ((V ++ [Value.slice ra (L k).length rc]).length = V.length + 1) := by unfold Hid; simp
      have hV6 : V.length < 6 := by have := HVL.out; omega
      have HW := (HG.out.trans g3).le
      clear g3 R3 cz OZ
      go_wp2_with (at_builtin; refine wpList_append_own _ rfl (.tmp 127) (.tmp 130) 49 rfl w20.heap.size 27 i0 _ 1 24 Try.underlying49 hi0 hz0 hz1 hz2 rfl (by omega) _ _ _ rfl (O3.out.alloc _) ⟨w3'.heap.size, 0, none⟩ 1 1 [.slice ra (L k).length rc] rfl rfl (new1 _ _ _) (by intro u hu; simp at hu; subst hu; rfl) (by simp only [maxLen]; omega) (by omega) (by simp; omega) ?_; intro v1 w4' hown hg1 _)
      go_roundw
      case rel =>
        refine ⟨k + 1, V ++ [.slice ra (L k).length rc], by omega, by go_num, ((HG.out.trans G3'.out).alloc _).grown hg1 (fun k hk => (O3.out.lt k hk).1), by rw [HF.out, HVL.out], by rw [HF.out]; exact hown, fun j x hx => ?_⟩
        have hsz := hg1.size
        rcases Nat.lt_or_ge j V.length with c | c
        · rw [List.getElem?_append_left c] at hx
          exact ((((HV.out j x hx).gr G3'.out).gr ((Gr.refl _).alloc _)).grown (O3.out.alloc _) hg1 (by decide) (by decide)).hi (by have := G3'.out.size; simp at hsz; omega)
        · rw [List.getElem?_append_right c] at hx
          have h0 : j - V.length = 0 := by
            rcases Nat.eq_zero_or_pos (j - V.length) with z | z
            · exact z
            · rw [List.getElem?_eq_none (by simp; omega)] at hx; cases hx
          rw [h0] at hx
          obtain rfl : Value.slice ra (L k).length rc = x := by simpa using hx
          rw [show j = k by have := HVL.out; omega]
          have := ((R3'.out.gr ((Gr.refl _).alloc _)).grown (O3.out.alloc _) hg1 (by decide) (by decide)).hi (hi' := w4'.heap.size) (by simp at hsz; omega)
          exact this.lo HG.out.le
      case measure => simp [intOf]; omega
    · obtain rfl : k = 6 := by omega
      go_wp2_with fail
      have e6 := Lib.hid HVL.out
      obtain ⟨gv, hua⟩ : ∃ gv, ua = some ⟨gv, 0, none⟩ := by
        rcases HO.out.2 with ⟨e, e2⟩ | ⟨gv, cap, cur, e, _⟩
        · have := HVL.out; omega
        · cases e; exact ⟨_, rfl⟩
      subst hua
      obtain ⟨lo', hlo, ro⟩ := RO.out
      have RO' := Lib.hid (ro.gr ((((G11.out.trans G12.out).trans G13.out).trans D19.out).trans (G20.out.trans HG.out)))
      obtain ⟨ls, hls, rs⟩ := RS.out
      have RS' := Lib.hid (rs.gr (D19.out.trans (G20.out.trans HG.out)))
      clear ro rs huc hk
      refine (cloneN (RO'.out.rdc (flatN_one _)) (by omega)).mono ?_
      rintro e w21 ⟨oc, rfl, own21, q21⟩
      have C21 := Lib.hid (RowIn.of own21)
      have G21 := Lib.hid q21
      clear own21 q21
      go_wp2_with fail
      refine (cloneS ((RS'.out.gr G21.out).rdc (flat_one2 _)) (by omega)).mono ?_
      rintro e w22 ⟨sc, rfl, own22, q22⟩
      have C22 := Lib.hid (RowIn.of own22)
      have G22 := Lib.hid q22
      clear own22 q22
      go_wp2_with fail
      have E20 := Lib.hid (HG.out.trans (G21.out.trans G22.out))
      have E5 := Lib.hid (K20.out.trans E20.out)
      have E4 := Lib.hid (G5.out.trans E5.out)
      have E3 := Lib.hid (G4.out.trans E4.out)
      have E2 := Lib.hid (G3.out.trans E3.out)
      obtain ⟨xx, wfx⟩ := ((HX.out.own AF.out.len' AF.out.box').gr E2.out).wf
      refine (waste_ok wfx AF.out.len').mono ?_
      rintro e v1 ⟨rfl, p1⟩
      have W1 := Lib.hid p1
      clear p1 wfx
      go_wp2_with fail
      obtain ⟨yy, wfy⟩ := (((HY.out.own AG.out.len' AG.out.box').gr E3.out).wst W1.out (.inr (Nat.le_refl _))).wf
      refine (waste_ok wfy AG.out.len').mono ?_
      rintro e v2 ⟨rfl, p2⟩
      have W2 := Lib.hid p2
      clear p2 wfy
      go_wp2_with fail
      have RI := Lib.hid ((((RowIn.of (rm_own (e := 3) (s := 1) (n := ln.length) (by simp) rfl LI.out (by have := HN.out; omega) HI.out)).gr E4.out).wst W1.out (.inr G3.out.le)).wst W2.out (.inr (Nat.le_refl _)))
      refine (spoilI 3 RI.out.1).mono ?_
      rintro e v3 ⟨rfl, p3, -⟩
      have W3 : Hid (Wst w3.heap.size w4.heap.size v2 v3) := Wst.grown p3 (fun k e => by cases e; exact ⟨LI.out, Blk_lt HI.out⟩)
      clear p3 RI
      go_wp2_with fail
      have RN := Lib.hid (((((RowIn.of (rm_own (e := 40) (flatN_len ll) rfl LN.out (by have := HL.out; omega) HNN.out)).gr E5.out).wst W1.out (.inr (Nat.le_trans G3.out.le G4.out.le))).wst W2.out (.inr G4.out.le)).wst W3.out (.inr (Nat.le_refl _)))
      refine (spoilN 0 0 0 RN.out.1).mono ?_
      rintro e v4 ⟨rfl, p4, -⟩
      have W4 : Hid (Wst w4.heap.size w5.heap.size v3 v4) := Wst.grown p4 (fun k e => by cases e; exact ⟨LN.out, Blk_lt HNN.out⟩)
      clear p4 RN
      have z2 := G2.out.le
      have z3 := G3.out.le
      have z4 := G4.out.le
      have z5 := G5.out.le
      have z12 := K12.out.le
      have z9 := (K8.out.trans G9.out).le
      have z13 := G13.out.le
      have z19 := D19.out.le
      have z20 := G20.out.le
      have z20r := HG.out.le
      have z21 := G21.out.le
      have zb := Blk_lt BZ.out
      have WW : Hid (Wst w1.heap.size w5.heap.size w22 v4) := (((W1.out.le (Nat.le_refl _) (by omega)).trans (W2.out.le (by omega) (by omega))).trans (W3.out.le (by omega) (by omega))).trans (W4.out.le (by omega) (Nat.le_refl _))
      have S4 := Lib.hid ((SIX.out.gr (G20.out.trans E20.out)).wst WW.out (Nat.le_refl _))
      have V4 : Hid (∀ j v, V[j]? = some v → OwnBx w20.heap.size wr.heap.size v4 v (L j)) := fun j v hv => ((HV.out j v hv).gr (G21.out.trans G22.out)).wst WW.out (.inr (by omega))
      have R4 := Lib.hid (((RowIn.of HO.out).gr (G21.out.trans G22.out)).wst WW.out (.inr (by omega)))
      have B4 : Hid (v4.heap[w19.heap.size]? = some (.cells Z.toArray 27 (0, 0))) := (WW.out.block _ (by have := E20.out.le; omega) (by omega)).trans ((Below.block E20.out _ zb).trans BZ.out)
      have O4 := Lib.hid ((RO'.out.gr (G21.out.trans G22.out)).wst WW.out (.inr z9))
      have OC4 := Lib.hid ((C21.out.gr G22.out).wst WW.out (.inr (by omega)))
      have T4 := Lib.hid ((RS'.out.gr (G21.out.trans G22.out)).wst WW.out (.inr z12))
      have TC4 := Lib.hid (C22.out.wst WW.out (.inr (by omega)))
      have GR4 := Lib.hid (Wst.toGr (W5.out.trans E5.out) WW.out G1.out.le)
      have HS12 : Hid (∀ i, i < 6 → HH i ≤ w12.heap.size) := S4.out.hi
      have Y1 : Hid (w12.heap.size ≤ w19.heap.size ∧ w19.heap.size ≤ w20.heap.size ∧ w20.heap.size ≤ wr.heap.size ∧ wr.heap.size ≤ w21.heap.size ∧ w.heap.size ≤ w5.heap.size) := ⟨by omega, z20, z20r, z21, W5.out.le⟩
      clear z2 z3 z4 z5 z12 z9 z13 z19 z20 z20r z21 zb SIX HV HO BZ RO' RS' C21 C22 W1 W2 W3 W4 WW
      go_wp2_with fail
      go_loopw [148] (fun i ws => ∃ k : Nat, k ≤ 6 ∧ i = .int .i64 k ∧ Wk LO HH k v4 ws) (fun i _ => 6 - (intOf i).toNat)
      case atStart => exact ⟨0, by omega, rfl, Wk.zero _ _ _⟩
      case round =>
        obtain ⟨k, hk, rfl, hw'⟩ := hrel
        generalize wr = ws at *
        by_cases hlt : k < 6
        · have hlt' : (k : Int) < 6 := by omega
          have hk0 : (0 : Int) ≤ (k : Int) := by omega
          have hkV : (k : Int) < (V.length : Int) := by rw [e6.out]; exact hlt'
          have hkV' : k < V.length := by rw [e6.out]; exact hlt
          obtain ⟨z, hz⟩ : ∃ z, Z[k]? = some z := ⟨_, List.getElem?_eq_getElem (by rw [S4.out.six]; exact hlt)⟩
          obtain ⟨u, hu⟩ : ∃ u, V[k]? = some u := ⟨_, List.getElem?_eq_getElem hkV'⟩
          have y1 := Y1.out
          have HW := Lib.hid hw'
          have OZ := Lib.hid ((S4.out.own k z hz).wk hw' (fun i hi => .inr (S4.out.apart i k hi hlt)))
          have OV := Lib.hid ((V4.out k u hu).wk hw' (fun i hi => .inr (by have := HS12.out i (by omega); omega)))
          have RV := R4.out.wk hw' (fun i hi => .inr (by have := HS12.out i (by omega); omega))
          obtain ⟨ra, rc, er, hrc, hrx⟩ := RdV.own RV.1
          cases er
          obtain ⟨rb, ro, er, hrb, hcl⟩ := hrx (by intro e; rw [e] at hkV'; simp at hkV')
          cases er
          have cu := hcl k u hu
          rw [Nat.zero_add] at cu
          have hcb := (hw'.block _ (Blk_lt B4.out) (fun i hi => by have := HS12.out i (by omega); omega)).trans B4.out
          have cz : ws.cell? ⟨w19.heap.size, k, none⟩ = some z := by rw [cell_of_row _ _ _ _ _ _ hcb]; simpa using hz
          have hbl : w19.heap.size < ws.heap.size := Blk_lt hcb
          obtain ⟨za, zc, rfl⟩ := OZ.out.form
          obtain ⟨uu, uv, rfl⟩ := OV.out.form
          clear hcb hz hu hcl hrx RV hw' y1
          go_wp2_with fail
          refine (sameFilter_ok OZ.out.rd OV.out.rd (by have := S4.out.len k hlt; omega) (fun p hp => by have := S4.out.box k hlt p hp; omega)).mono ?_
          rintro e x1 ⟨rfl, gx⟩
          have GX := Lib.hid gx
          clear gx cu cz
          go_wp2_with fail
          obtain ⟨zs, wfz⟩ := (OZ.out.gr GX.out).wf
          refine (waste_ok wfz (by have := S4.out.len k hlt; omega)).mono ?_
          rintro e x2 ⟨rfl, pz⟩
          have WZ := Lib.hid pz
          clear pz wfz
          go_wp2_with fail
          go_roundw
          case rel => exact ⟨k + 1, by omega, by go_num, (HW.out.gr GX.out).wst WZ.out⟩
          case measure => simp [intOf]; omega
        · obtain rfl : k = 6 := by omega
          have HW := Lib.hid hw'
          have EO := Lib.hid (O4.out.wk hw' (fun i hi => (S4.out.mid i hi).imp id id))
          have y1 := Y1.out
          have EOC := Lib.hid (OC4.out.wk hw' (fun i hi => .inr (by have := HS12.out i hi; omega)))
          have ET := Lib.hid (T4.out.wk hw' (fun i hi => .inr (HS12.out i hi)))
          have ETC := Lib.hid (TC4.out.wk hw' (fun i hi => .inr (by have := HS12.out i hi; omega)))
          have GE := Lib.hid (Wk.toGr GR4.out hw' (fun i hi => by have := S4.out.lo i hi; omega))
          clear hw' y1
          go_wp2_with fail
          refine (equalN (RdN.own EO.out.1) (RdN.own EOC.out.1) (by omega)).mono ?_
          rintro e x1 ⟨rfl, gx⟩
          have GX := Lib.hid gx
          clear gx
          go_wp2_with fail
          refine (equalS (Rd2.own (ET.out.gr GX.out).1) (Rd2.own (ETC.out.gr GX.out).1) (by omega)).mono ?_
          rintro e x2 ⟨rfl, gy⟩
          have GY := Lib.hid gy
          clear gy
          go_wp2_with fail
          go_ret
          exact ⟨rfl, (GE.out.trans GX.out).trans GY.out⟩
end Go.Proofs.Ytbodadddcbbjeaa
