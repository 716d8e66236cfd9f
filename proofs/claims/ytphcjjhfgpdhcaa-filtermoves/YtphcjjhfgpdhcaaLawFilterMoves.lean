/- The walk of FilterMoves. -/
import Derived.Test.YtphcjjhfgpdhcaaMovesA
import Derived.IntWalk
namespace Rm
open Go Go.RowKit
theorem tab_moves (F : List Bx) (t k : Nat) (i : Nat) : tabF (F.drop t ++ (F.take t ++ F.take k)) i = tabF F i := by
  refine tabF_same (fun b => ?_) i
  constructor
  · intro h
    rcases List.mem_append.1 h with h | h
    · exact List.mem_of_mem_drop h
    · rcases List.mem_append.1 h with h | h
      · exact List.mem_of_mem_take h
      · exact List.mem_of_mem_take h
  · intro h
    rw [← List.take_append_drop t F] at h
    rcases List.mem_append.1 h with h | h
    · exact List.mem_append.2 (.inr (List.mem_append.2 (.inl h)))
    · exact List.mem_append.2 (.inl h)
theorem okF_sub {F G : List Bx} (h : OkF F) (hs : ∀ b ∈ G, b ∈ F) : OkF G := fun b hb => h b (hs b hb)
theorem within_sub {F G : List Bx} (h : OkF F) (hs : ∀ b ∈ G, b ∈ F) : withinT (tabF G) (tabF F) = true :=
  within_of (fun t _ => tabF_lt (okF_sub h hs) t) (fun t _ => tabF_lt h t) (fun t _ i _ hb => by
    rw [tabF_bit] at *
    obtain ⟨b, h1, h2⟩ := hb
    exact ⟨b, hs b h1, h2⟩)
end Rm
namespace Go.Proofs.Ytphcjjhfgpdhcaa
open Go.RowKit Rm
set_option linter.unusedVariables false
attribute [local go_sem ↓] Go.wp_at_zero Go.wp_at_succ
theorem SrcAt.drew {w : World} {bb : Nat} {X : List (Nat × List Value)} (h : SrcAt w bb X) : SrcAt w.drew bb X := h

set_option maxHeartbeats 2000000 in
set_option maxRecDepth 100000 in
theorem filterMoves_bad (f : Value) (l : List BoxI) (turn k : Int) (w : World) (rf : RdF w f l) (hc : (chkF l == 0) = false) :
    Calls Try.prog 8 #[f, .int .i64 turn, .int .i64 k] w fun e w' => e = .returned (.bool true) ∧ Gr w w' := by
  have hc' := bne_of' hc
  have HF := Lib.hid rf
  clear rf
  go_enter Try.func8, Try.ntmps8
  go_wp2_with fail
  refine (begun_any _).mono ?_
  rintro e v1 ⟨rfl, g1⟩
  go_wp2_with fail
  refine (fcheck_any _ _ _ (HF.out.gr g1)).mono ?_
  rintro e v2 ⟨rfl, g2⟩
  go_wp2_with fail
  go_ret
  exact ⟨rfl, g1.trans g2⟩

set_option maxHeartbeats 2000000 in
set_option maxRecDepth 100000 in
theorem filterMoves_len (f : Value) (F : List Bx) (turn k : Int) (w : World) (rf : RdF w f (F.map boxI)) (hF : OkF F) (hl : F.length ≤ 40) (hc : F.length = 0 ∨ 20 < F.length) :
    Calls Try.prog 8 #[f, .int .i64 turn, .int .i64 k] w fun e w' => e = .returned (.bool true) ∧ Gr w w' := by
  have HF : Hid (FS w f (tabF F)) := ⟨F, rf, hF, hl, fun _ _ => rfl⟩
  obtain ⟨a, c, rfl, _⟩ := rf
  rw [List.length_map] at *
  rcases hc with hc | hc
  · have hz : ((F.length : Int) == 0) = true := by rw [beq_iff_eq]; omega
    clear hF hl
    generalize F.length = n at *
    subst hc
    go_enter Try.func8, Try.ntmps8
    go_wp2_with fail
    refine (begun_any _).mono ?_
    rintro e v1 ⟨rfl, g1⟩
    go_wp2_with fail
    refine (fcheck_ok (HF.out.gr g1)).mono ?_
    rintro e v2 ⟨rfl, g2⟩
    go_wp2_with fail
    go_ret
    exact ⟨rfl, g1.trans g2⟩
  · have hz : ((F.length : Int) == 0) = false := by rw [Bool.eq_false_iff]; intro h; rw [beq_iff_eq] at h; omega
    have hz2 : (20 : Int) < (F.length : Int) := by omega
    clear hF
    generalize F.length = n at *
    go_enter Try.func8, Try.ntmps8
    go_wp2_with fail
    refine (begun_any _).mono ?_
    rintro e v1 ⟨rfl, g1⟩
    go_wp2_with fail
    refine (fcheck_ok (HF.out.gr g1)).mono ?_
    rintro e v2 ⟨rfl, g2⟩
    go_wp2_with fail
    go_ret
    exact ⟨rfl, g1.trans g2⟩

theorem moved_fs {w v5 v6 : World} {b off : Nat} {O O' : List (Bx × Value)} {X : List (Nat × List Value)} {u : Value} {base : Nat} {o : Obj} (ho : v6.ownsRow base 56 3 u (sumN X) (catN X)) (e : sumN X = O'.length ∧ catN X = flatO O') (hok : OkF (O'.map (·.1))) (hl : O'.length ≤ 40)
    (hc : CellsAt w b off O) (g5 : Gr w v5) (g6 : Gr (v5.alloc o).drew v6) (hm : ∀ p ∈ O', p ∈ O) : FS v6 u (tabF (O'.map (·.1))) := by
  rw [e.1, e.2] at ho
  refine ⟨_, own_rdF ho ?_, hok, by rw [List.length_map]; exact hl, fun _ _ => rfl⟩
  intro p hp
  exact (hc.2.2 p (hm p hp)).gr ((g5.alloc o).drew.trans g6)

set_option maxHeartbeats 4000000 in
set_option maxRecDepth 100000 in
theorem filterMoves_ok (f : Value) (F : List Bx) (turn kk : Int) (w : World) (rf : RdF w f (F.map boxI)) (hF : OkF F) (h1 : 0 < F.length) (h20 : F.length ≤ 20) :
    Calls Try.prog 8 #[f, .int .i64 turn, .int .i64 kk] w fun e w' => e = .returned (.bool true) ∧ Gr w w' := by
  have hne : F ≠ [] := by intro e; rw [e] at h1; simp at h1
  have HF : Hid (FS w f (tabF F)) := ⟨F, rf, hF, by omega, fun _ _ => rfl⟩
  have HOK := Lib.hid hF
  obtain ⟨b, off, cp, hcp, rfl, hbw⟩ : ∃ b off cp, F.length ≤ cp ∧ f = .slice (some ⟨b, off, none⟩) F.length cp ∧ b < w.heap.size := by
    obtain ⟨a, c, e, hc, hx⟩ := rf
    obtain ⟨b, off, rfl, hb, _⟩ := hx (by simpa using hne)
    rw [List.length_map] at *
    exact ⟨b, off, c, hc, e, hb⟩
  obtain ⟨O, hO, hcells⟩ := rdF_cells rf hne
  have HC := Lib.hid hcells
  obtain ⟨t0, t1⟩ := rem_lt turn (F.length : Int) (by omega)
  obtain ⟨k0, k1⟩ := rem_lt kk (F.length : Int) (by omega)
  obtain ⟨t, ht⟩ := Int.eq_ofNat_of_zero_le t0
  obtain ⟨k, hk⟩ := Int.eq_ofNat_of_zero_le k0
  have HT := Lib.hid ht
  have HK := Lib.hid hk
  rw [ht] at t1
  rw [hk] at k1
  have hOl : O.length = F.length := by rw [← hO]; simp
  have HO := Lib.hid hO
  have hz : ((F.length : Int) == 0) = false := by simp; omega
  have hz2 : ¬ (20 : Int) < (F.length : Int) := by omega
  have QS : Hid (sameT (tabF F) (tabF ((O.drop t ++ (O.take t ++ O.take k)).map (·.1))) = true) := sameT_of (fun i _ => by
    rw [List.map_append, List.map_append, List.map_drop, List.map_take, List.map_take, hO, tab_moves])
  have QW : Hid (withinT (tabF ((O.take k ++ O.drop (k + 1)).map (·.1))) (tabF F) = true) := within_sub hF (fun b hb => by
    rw [List.map_append, List.map_drop, List.map_take, hO] at hb
    rcases List.mem_append.1 hb with h | h
    · exact List.mem_of_mem_take h
    · exact List.mem_of_mem_drop h)
  have QO1 : Hid (OkF ((O.drop t ++ (O.take t ++ O.take k)).map (·.1))) := okF_sub hF (fun b hb => by
    rw [List.map_append, List.map_append, List.map_drop, List.map_take, List.map_take, hO] at hb
    rcases List.mem_append.1 hb with h | h
    · exact List.mem_of_mem_drop h
    · rcases List.mem_append.1 h with h | h
      · exact List.mem_of_mem_take h
      · exact List.mem_of_mem_take h)
  have QO2 : Hid (OkF ((O.take k ++ O.drop (k + 1)).map (·.1))) := okF_sub hF (fun b hb => by
    rw [List.map_append, List.map_drop, List.map_take, hO] at hb
    rcases List.mem_append.1 hb with h | h
    · exact List.mem_of_mem_take h
    · exact List.mem_of_mem_drop h)
  have htl : t < F.length := by omega
  have hkl : k < F.length := by omega
  have hcp' : (F.length : Int) ≤ (cp : Int) := by omega
  have hn20 : (F.length : Int) ≤ 20 := by omega
  have ht0 : (0 : Int) ≤ (t : Int) := by omega
  have hk0 : (0 : Int) ≤ (k : Int) := by omega
  have htc : (t : Int) ≤ (cp : Int) := by omega
  have hkc : (k : Int) ≤ (cp : Int) := by omega
  have htn : (t : Int) ≤ (F.length : Int) := by omega
  have hkn : (k : Int) ≤ (F.length : Int) := by omega
  have htne : ¬ (cp = t) := by omega
  have htne2 : ¬ (t = cp) := by omega
  have htne3 : ¬ (cp ≤ t) := by omega
  have htne4 : ¬ (cp - t = 0) := by omega
  have htne5 : ¬ ((t : Int) = (cp : Int)) := by omega
  have HRM := Lib.hid (fun (x : Int) (wx : World) => keepWithin_any x (F.length : Int) (by omega) (by omega) wx)
  clear rf hF hne hcells hO t0 k0 ht hk
  generalize F.length = n at *
  go_enter Try.func8, Try.ntmps8
  go_wp2_with fail
  refine (begun_any _).mono ?_
  rintro e v1 ⟨rfl, g1⟩
  go_wp2_with fail
  refine (fcheck_ok (HF.out.gr g1)).mono ?_
  rintro e v2 ⟨rfl, g2⟩
  have G2 := g1.trans g2
  clear g1 g2
  go_wp2_with fail
  refine (HRM.out _ _).mono ?_
  rw [HT.out]
  rintro e v3 ⟨rfl, rfl⟩
  go_wp2_with fail
  refine (HRM.out _ _).mono ?_
  rw [HK.out]
  rintro e v4 ⟨rfl, rfl⟩
  have C2 := Lib.hid (HC.out.gr G2.drew)
  go_wp2_with fail
  have L1 : (O.drop t).length = n - t := by rw [List.length_drop, hOl]
  have L2 : (O.take t).length = t := by rw [List.length_take, hOl]; omega
  have L3 : (O.take k).length = k := by rw [List.length_take, hOl]; omega
  have L4 : (O.drop (k + 1)).length = n - (k + 1) := by rw [List.length_drop, hOl]
  have S1 := Lib.hid (src3 (c1 := cp - t) (c2 := cp) (c3 := cp) (HC.out.gr G2 |>.drop t) (HC.out.gr G2 |>.take t) (HC.out.gr G2 |>.take k) L1 L2 L3 22 v2.heap.size rfl)
  have E1 : Hid (sumN [(n - t, flatO (O.drop t)), (t, flatO (O.take t)), (k, flatO (O.take k))] = (O.drop t ++ (O.take t ++ O.take k)).length ∧ catN [(n - t, flatO (O.drop t)), (t, flatO (O.take t)), (k, flatO (O.take k))] = flatO (O.drop t ++ (O.take t ++ O.take k))) := by
    refine ⟨?_, ?_⟩
    · rw [List.length_append, List.length_append, L1, L2, L3]; simp [sumN]
    · rw [flatO_app, flatO_app]; simp [catN]
  have N1 : Hid (sumN [(n - t, flatO (O.drop t)), (t, flatO (O.take t)), (k, flatO (O.take k))] ≤ 1000) := by unfold Hid; simp [sumN]; omega
  have E2 : Hid (sumN [(k, flatO (O.take k)), (n - (k + 1), flatO (O.drop (k + 1)))] = (O.take k ++ O.drop (k + 1)).length ∧ catN [(k, flatO (O.take k)), (n - (k + 1), flatO (O.drop (k + 1)))] = flatO (O.take k ++ O.drop (k + 1))) := by
    refine ⟨?_, ?_⟩
    · rw [List.length_append, L3, L4]; simp [sumN]
    · rw [flatO_app]; simp [catN]
  have N2 : Hid (sumN [(k, flatO (O.take k)), (n - (k + 1), flatO (O.drop (k + 1)))] ≤ 1000) := by unfold Hid; simp [sumN]; omega
  have M1 : Hid ((O.drop t ++ (O.take t ++ O.take k)).length ≤ 40) := by unfold Hid; rw [List.length_append, List.length_append, L1, L2, L3]; omega
  have M2 : Hid ((O.take k ++ O.drop (k + 1)).length ≤ 40) := by unfold Hid; rw [List.length_append, L3, L4]; omega
  have MEM2 : Hid (∀ p ∈ O.take k ++ O.drop (k + 1), p ∈ O) := fun p hp => by
    rcases List.mem_append.1 hp with h | h
    · exact List.mem_of_mem_take h
    · exact List.mem_of_mem_drop h
  have HL3 := Lib.hid L3
  have HL4 := Lib.hid L4
  clear L1 L2 L3 L4 C2 hOl
  go_region_held3 (fun _ => True) (trivial)
    (first
      | (go_at_call 39; refine (concat_any [(n - t, flatO (O.drop t)), (t, flatO (O.take t)), (k, flatO (O.take k))] _ _ _ (S1.out.drew) N1.out (by simp)).mono ?_; rintro e v5 ⟨u, rfl, hg5, ho5⟩))
  have G5 := Lib.hid ((G2.alloc _).drew.trans hg5)
  have H5 : Hid (FS v5 u (tabF ((O.drop t ++ (O.take t ++ O.take k)).map (·.1)))) := by
    rw [E1.out.1, E1.out.2] at ho5
    refine ⟨_, own_rdF ho5 ?_, QO1.out, by rw [List.length_map]; exact M1.out, fun _ _ => rfl⟩
    intro p hp
    have hp' : p ∈ O := by
      rcases List.mem_append.1 hp with h | h
      · exact List.mem_of_mem_drop h
      · rcases List.mem_append.1 h with h | h
        · exact List.mem_of_mem_take h
        · exact List.mem_of_mem_take h
    exact (HC.out.2.2 p hp').gr G5.out
  clear hg5 ho5 G2 S1
  have hw1 : IntKind.i64.wrap ((k : Int) + 1) = (k : Int) + 1 := IntWalk.i64_in _ (by omega)
  have hw2 : ((k : Int) + 1).toNat = k + 1 := by omega
  have hw3 : (0 : Int) ≤ (k : Int) + 1 := by omega
  have hw4 : (k : Int) + 1 ≤ (n : Int) := by omega
  have hw5 : (k : Int) + 1 ≤ (cp : Int) := by omega
  go_wp2_with fail
  by_cases hcut : cp = k + 1
  · have S2 := Lib.hid (src2 (c1 := cp) (c2 := 0) (o2 := off) (HC.out.gr G5.out |>.take k) (show CellsAt v5 b off (O.drop (k + 1)) from by
      have h0 : O.drop (k + 1) = [] := List.eq_nil_of_length_eq_zero (by rw [HL4.out]; omega)
      rw [h0]
      exact ⟨(HC.out.gr G5.out).1, fun j u hu => by simp [flatO] at hu, fun p hp => by cases hp⟩) HL3.out HL4.out 22 v5.heap.size rfl)
    have hc0 : cp - (k + 1) = 0 := by omega
    have hif : (if cp = k + 1 then some (⟨b, off, none⟩ : Addr) else some ⟨b, off + (k + 1) * 3, none⟩) = some ⟨b, off, none⟩ := if_pos hcut
    clear hcut
    go_region_held3 (fun _ => True) (trivial)
      (first
        | (go_at_call 39; refine (concat_any [(k, flatO (O.take k)), (n - (k + 1), flatO (O.drop (k + 1)))] _ _ _ (S2.out.drew) N2.out (by simp)).mono ?_; rintro e v6 ⟨u2, rfl, hg6, ho6⟩)
        | (go_at_call 16; refine (fwithin_ok (moved_fs ho6 E2.out QO2.out M2.out HC.out G5.out hg6 MEM2.out) ((HF.out.gr G5.out).gr (((Gr.refl _).alloc _).drew.trans hg6))).mono ?_; rw [QW.out]; rintro e v7 ⟨rfl, hg7⟩))
    have G7 := Lib.hid ((((Gr.refl v5).alloc _).drew.trans hg6).trans hg7)
    clear hg6 hg7 ho6
    go_wp2_with fail
    refine (same_any ((HF.out.gr G5.out).gr G7.out) (H5.out.gr G7.out)).mono ?_
    rw [QS.out]
    rintro e v8 ⟨rfl, g8⟩
    go_wp2_with fail
    go_ret
    exact ⟨rfl, (G5.out.trans G7.out).trans g8⟩
  · have hc1 : ¬ (cp - (k + 1) = 0) := by omega
    have hc2 : ¬ (cp ≤ k + 1) := by omega
    have S2 := Lib.hid (src2 (c1 := cp) (c2 := cp - (k + 1)) (HC.out.gr G5.out |>.take k) (HC.out.gr G5.out |>.drop (k + 1)) HL3.out HL4.out 22 v5.heap.size rfl)
    go_region_held3 (fun _ => True) (trivial)
      (first
        | (go_at_call 39; refine (concat_any [(k, flatO (O.take k)), (n - (k + 1), flatO (O.drop (k + 1)))] _ _ _ (S2.out.drew) N2.out (by simp)).mono ?_; rintro e v6 ⟨u2, rfl, hg6, ho6⟩)
        | (go_at_call 16; refine (fwithin_ok (moved_fs ho6 E2.out QO2.out M2.out HC.out G5.out hg6 MEM2.out) ((HF.out.gr G5.out).gr (((Gr.refl _).alloc _).drew.trans hg6))).mono ?_; rw [QW.out]; rintro e v7 ⟨rfl, hg7⟩))
    have G7 := Lib.hid ((((Gr.refl v5).alloc _).drew.trans hg6).trans hg7)
    clear hg6 hg7 ho6
    go_wp2_with fail
    refine (same_any ((HF.out.gr G5.out).gr G7.out) (H5.out.gr G7.out)).mono ?_
    rw [QS.out]
    rintro e v8 ⟨rfl, g8⟩
    go_wp2_with fail
    go_ret
    exact ⟨rfl, (G5.out.trans G7.out).trans g8⟩

theorem filterMoves_walk (f : Value) (l : List BoxI) (turn : Int) (_w1 : (Lit.int .i64 turn).wf = true) (k : Int) (_w2 : (Lit.int .i64 k).wf = true) (w : World) (rf : RdF w f l) :
    Calls Try.prog 8 #[f, .int .i64 turn, .int .i64 k] w fun e w' => e = .returned (.bool true) ∧ Gr w w' := by
  cases hc : (chkF l == 0)
  · exact filterMoves_bad f l turn k w rf hc
  · obtain ⟨F, rfl, hF, hn⟩ := okF_of (by simpa using hc)
    by_cases h : F.length = 0 ∨ 20 < F.length
    · exact filterMoves_len f F turn k w rf hF hn h
    · exact filterMoves_ok f F turn k w rf hF (by omega) (by omega)
end Go.Proofs.Ytphcjjhfgpdhcaa
