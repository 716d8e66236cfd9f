/- Joined: ConcatP, PtH, PtL, PtM, OpenB, OpenQ, PtN, PtO. -/
import Derived.Test.YtghjfakellaecaaGreatPa4
import Derived.Lib.AppendZerosOnto
import Derived.Lib.AppendZeros
import Derived.Laws.AppendOwnNone
/- The contracts of slices.Grow at nil and of slices.Concat, over parts. -/
namespace Go.Proofs.YtghjfakellaecaaGreat
open Go.RowKit Rm
set_option linter.unusedVariables false

theorem ccp_info : (Tryz.prog.info? 35).map (fun i => (i.zero, i.size, i.bytes)) = some (some (.agg #[.slice none 0 0, .slice none 0 0, .slice none 0 0]), 3, 72) := by kernel_rfl
theorem own_formP {w : World} {base : Nat} {e : TypeId} {s n : Nat} {v : Value} {xs : List Value} (h : w.ownsRow base e s v n xs) : ∃ a c, v = .slice a n c ∧ n ≤ c := by
  rcases h.2 with ⟨rfl, rfl⟩ | ⟨g, cap, cur, rfl, _, _, hn, _⟩
  · exact ⟨none, 0, rfl, Nat.le_refl _⟩
  · exact ⟨_, cap, rfl, hn⟩
/-- an empty slice with room, in new memory -/
def RoomP (w w' : World) (v : Value) : Prop := Gr w w' ∧ w'.ownsRow w.heap.size 35 3 v 0 []

set_option maxHeartbeats 1000000 in
set_option maxRecDepth 100000 in
theorem growP_nil (n : Nat) (w : World) (hn : n ≤ 1000) :
    Calls Tryz.prog 88 #[.slice none 0 0, .int .i64 (n : Int)] w fun e w' => ∃ v, e = .returned v ∧ RoomP w w' v := by
  obtain ⟨i0, hi0, hz0, hz1, hz2⟩ := info_parts ccp_info
  by_cases h0 : n = 0
  · subst h0
    go_enter Tryz.func88, Tryz.ntmps88
    go_wp2
    go_ret
    exact ⟨_, rfl, Gr.refl _, World.ownsRow_nil _ _ _ _⟩
  · have hold : (Builtin.firstCells i0.size 0 (.slice none 0 0)).run Tryz.prog w.drew = .ok ([] : List Value).toArray w.drew := run_firstCells_none w.drew i0.size 0 0 0
    have hrz : ∀ ty, (Builtin.append_ #[22, 3] ty #[.slice none 0 0, .int .i64 (n : Int)]).run Tryz.prog w = _ := fun ty =>
      Lib.run_append_grow_zeros w 22 3 ty 35 i0 _ .i64 .i64 Tryz.underlying22 Tryz.underlying3 hi0 hz0 none 0 0 [] hold n (by omega) (by rw [hz1]; omega) (by omega) (by omega)
        (by rw [hz2]; omega) (by rw [hz2]; exact growslice_fits (by omega) (by omega))
    have HRZ := Lib.hid hrz
    have hGn : 0 + n ≤ grownCap w (0 + n) 0 35 := grownCap_ge w _ _ _
    have hGm : grownCap w (0 + n) 0 35 ≤ maxLen := grownCap_le_maxLen w (0 + n) 0 35 (by unfold maxLen; omega)
    rw [Nat.zero_add] at hGn hGm
    have h1 : (0 : Int) < (n : Int) := by omega
    have h2 : ¬ ((n : Int) < 0) := by omega
    clear hold hrz hz0 hi0
    go_enter Tryz.func88, Tryz.ntmps88
    go_wp2_with (at_builtin; refine Lib.wpList_append_run _ rfl _ _ _ _ rfl _ _ rfl rfl _ _ (HRZ.out _) ?_)
    go_ret
    refine ⟨_, rfl, ((Gr.refl w).drew).alloc _, ?_⟩
    have hb : w.heap.size ≤ w.drew.heap.size := Nat.le_refl _
    refine World.ownsRow_made (base := w.heap.size) (e := 35) (size := 3) w.drew _ _ hb hGm ?_
    simp only [Array.size_append, size_zeroCells]
    show n * 3 + (grownCap w n 0 35 - n) * 3 = grownCap w n 0 35 * 3
    omega

/-- what is handed to Concat: the lengths and the cells of each slice -/
def SrcP (w : World) (bb : Nat) (X : List (Nat × List Value)) : Prop :=
  bb < w.heap.size ∧ ∀ i p, X[i]? = some p → ∃ v, w.cell? ⟨bb, i, none⟩ = some v ∧ RdC 3 w v p.1 p.2
def sumP (X : List (Nat × List Value)) : Nat := (X.map (·.1)).sum
def catP (X : List (Nat × List Value)) : List Value := (X.map (·.2)).flatten
theorem sumP_take {X : List (Nat × List Value)} {k : Nat} {p : Nat × List Value} (h : X[k]? = some p) : sumP (X.take (k + 1)) = sumP (X.take k) + p.1 := by
  obtain ⟨hk, e⟩ := List.getElem?_eq_some_iff.1 h
  rw [List.take_succ_eq_append_getElem hk, e]
  simp [sumP]
theorem catP_take {X : List (Nat × List Value)} {k : Nat} {p : Nat × List Value} (h : X[k]? = some p) : catP (X.take (k + 1)) = catP (X.take k) ++ p.2 := by
  obtain ⟨hk, e⟩ := List.getElem?_eq_some_iff.1 h
  rw [List.take_succ_eq_append_getElem hk, e]
  simp [catP]
theorem sumP_app (a b : List (Nat × List Value)) : sumP (a ++ b) = sumP a + sumP b := by simp [sumP]
theorem sumP_le (X : List (Nat × List Value)) (k : Nat) : sumP (X.take k) ≤ sumP X := by
  have h := sumP_app (X.take k) (X.drop k)
  rw [List.take_append_drop] at h
  omega

set_option maxHeartbeats 2000000 in
set_option maxRecDepth 100000 in
theorem concatP (X : List (Nat × List Value)) (bb cap : Nat) (w : World) (hX : SrcP w bb X) (hs : sumP X ≤ 1000) (hl : X.length ≤ 10) :
    Calls Tryz.prog 38 #[.slice (some ⟨bb, 0, none⟩) X.length cap] w fun e w' => ∃ v, e = .returned v ∧ Gr w w' ∧ w'.ownsRow w.heap.size 35 3 v (sumP X) (catP X) := by
  obtain ⟨i0, hi0, hz0, hz1, hz2⟩ := info_parts ccp_info
  have HX := Lib.hid hX
  have HSL := Lib.hid (sumP_le X)
  have hl' : (X.length : Int) ≤ 10 := by omega
  have hbb := hX.1
  clear hX
  go_enter Tryz.func38, Tryz.ntmps38
  go_wp2
  go_loop [3, 11] (fun a i => ∃ k : Nat, k ≤ X.length ∧ i = .int .i64 k ∧ a = .int .i64 (sumP (X.take k) : Nat)) (fun _ i => X.length - (intOf i).toNat)
  case atStart => exact ⟨0, by omega, rfl, rfl⟩
  case round =>
    obtain ⟨k, hk, rfl, rfl⟩ := hrel
    by_cases hlt : k < X.length
    · obtain ⟨p, hp⟩ : ∃ p, X[k]? = some p := ⟨_, List.getElem?_eq_getElem hlt⟩
      obtain ⟨v0, c1, pl, p1, hv0⟩ := HX.out.2 k p hp
      have HS := Lib.hid (sumP_take hp)
      have hs1 := HSL.out (k + 1)
      have hs2 : sumP (X.take k) + p.1 ≤ 1000 := by rw [← sumP_take hp]; omega
      have hk10 : (k : Int) < 10 := by omega
      obtain ⟨ao, c, rfl⟩ : ∃ ao c, v0 = .slice ao p.1 c := by
        rcases hv0 with ⟨rfl, z⟩ | ⟨ad, c, rfl, _⟩
        · exact ⟨none, 0, by rw [z]⟩
        · exact ⟨some ad, c, rfl⟩
      clear hp hs1 hv0
      generalize sumP (X.take k) = sk at *
      have hs3 : (sk : Int) + (p.1 : Int) ≤ 1000 := by omega
      have hs4 : ¬ ((sk : Int) + (p.1 : Int) < 0) := by omega
      go_wp2_with fail
      go_round
      case rel => exact ⟨k + 1, by omega, by go_num, by rw [HS.out]; simp⟩
      case measure => simp [intOf]; omega
    · obtain rfl : k = X.length := by omega
      rw [List.take_length]
      go_wp2_with fail
      refine (growP_nil (sumP X) _ hs).mono ?_
      rintro e w1 ⟨v, rfl, hg1, ho1⟩
      have HO1 := Lib.hid ho1
      have HG1 := Lib.hid hg1
      clear hg1 ho1
      go_wp2_with fail
      go_loopw [6, 27] (fun v i wr => ∃ k : Nat, k ≤ X.length ∧ i = .int .i64 k ∧ Gr w wr ∧ wr.ownsRow w.heap.size 35 3 v (sumP (X.take k)) (catP (X.take k))) (fun _ i _ => X.length - (intOf i).toNat)
      case atStart => exact ⟨0, by omega, rfl, HG1.out, HO1.out⟩
      case round =>
        obtain ⟨k, hk, rfl, hg, hown⟩ := hrel
        by_cases hlt : k < X.length
        · obtain ⟨p, hp⟩ : ∃ p, X[k]? = some p := ⟨_, List.getElem?_eq_getElem hlt⟩
          obtain ⟨v0, c1, hv0⟩ := HX.out.2 k p hp
          obtain ⟨pl, p1, ⟨rfl, z1⟩ | ⟨ad, c, rfl, hnc, hb, hc⟩⟩ := hv0.gr hg
          · rw [← hg.cells.1 bb _ hbb] at c1
            have HS := Lib.hid (sumP_take hp)
            have HC := Lib.hid (catP_take hp)
            have z2 : p.2 = [] := List.eq_nil_of_length_eq_zero (by simp [pl, z1])
            rw [z1] at HS
            rw [z2] at HC
            have hk10 : (k : Int) < 10 := by omega
            have HO := Lib.hid hown
            obtain ⟨va, vc, rfl, hvc⟩ := own_formP hown
            clear hp hown z1 z2 hv0 pl p1
            go_wp2_with (at_builtin; refine wpList_append_own_none rfl (.tmp 31) (.tmp 32) 22 rfl w.heap.size 35 i0 3 Tryz.underlying22 hi0 _ _ _ rfl HO.out rfl ?_)
            go_roundw
            case rel => exact ⟨k + 1, by omega, by go_num, hg, by rw [HS.out, HC.out, List.append_nil]; exact HO.out⟩
            case measure => simp [intOf]; omega
          · rw [← hg.cells.1 bb _ hbb] at c1
            have HP := Lib.hid hc
            have HS := Lib.hid (sumP_take hp)
            have HC := Lib.hid (catP_take hp)
            have hs1 := HSL.out (k + 1)
            have hs2 : sumP (X.take k) + p.1 ≤ 1000 := by rw [← sumP_take hp]; omega
            have hk10 : (k : Int) < 10 := by omega
            have HPL := Lib.hid pl
            have HP1 := Lib.hid p1
            have HO := Lib.hid hown
            obtain ⟨va, vc, rfl, hvc⟩ := own_formP hown
            clear hp hs1 hc pl p1 hown hv0 hb
            generalize sumP (X.take k) = sk at *
            go_wp2_with (at_builtin; refine wpList_append_own _ rfl (.tmp 31) (.tmp 32) 22 rfl w.heap.size 35 i0 _ 3 72 Tryz.underlying22 hi0 hz0 hz1 hz2 rfl (by omega) _ _ _ rfl HO.out ad p.1 c p.2 rfl HPL.out HP.out HP1.out (by simp only [maxLen]; omega) (by omega) hg.le ?_; intro v1 w2 hown hg1 _)
            go_roundw
            case rel => exact ⟨k + 1, by omega, by go_num, hg.grown hg1 (fun k hk => (HO.out.lt k hk).1), by rw [HS.out, HC.out]; exact hown⟩
            case measure => simp [intOf]; omega
        · obtain rfl : k = X.length := by omega
          rw [List.take_length] at hown
          go_wp2_with fail
          go_ret
          exact ⟨_, rfl, hg, hown⟩
end Go.Proofs.YtghjfakellaecaaGreat

/- part.Join, Narrow. -/
set_option linter.unusedVariables false
set_option linter.unusedSimpArgs false
namespace Gx
open Go Go.RowKit Rm
theorem flatE_inv {E : Type} {enc : E → List Value} {s : Nat} (h : EncOk enc s) : ∀ (K : List E) (j : Nat) (u : Value), (flatE enc K)[j]? = some u → ∃ i x r, K[i]? = some x ∧ (enc x)[r]? = some u ∧ j = i * s + r := by
  intro K
  induction K with
  | nil => intro j u hj; simp [flatE] at hj
  | cons a K ih =>
    intro j u hj
    have e : flatE enc (a :: K) = enc a ++ flatE enc K := by simp [flatE]
    rw [e] at hj
    by_cases q : j < (enc a).length
    · rw [List.getElem?_append_left q] at hj
      exact ⟨0, a, j, by simp, hj, by omega⟩
    · rw [List.getElem?_append_right (by omega)] at hj
      obtain ⟨i, x, r, h1, h2, h3⟩ := ih _ _ hj
      rw [h.len] at q h3
      exact ⟨i + 1, x, r, by simpa using h1, h2, by rw [Nat.add_mul]; omega⟩
end Gx
namespace Go.Proofs.YtghjfakellaecaaGreat
open Go.RowKit Rm Gx
theorem rdc_of {E : Type} {enc : E → List Value} {s : Nat} (h : EncOk enc s) {w : World} {a : Option Addr} {K : List E} {c : Nat} (hr : RdA enc s w a K) (hc : K.length ≤ c) (hn : a = none → c = 0) : RdC s w (.slice a K.length c) K.length (flatE enc K) := by
  refine ⟨flatE_len h K, flatE_ones h K, ?_⟩
  cases a with
  | none =>
    have := hn rfl
    subst this
    have : K.length = 0 := by omega
    exact .inl ⟨by rw [this], this⟩
  | some ad =>
    refine .inr ⟨ad, c, rfl, hc, fun h0 => ?_, fun j u hj => ?_⟩
    · obtain ⟨b, off, e, hb, -⟩ := hr (by intro q; rw [q] at h0; exact h0 rfl)
      injection e with e
      subst e
      exact hb
    · obtain ⟨i, x, r, h1, h2, rfl⟩ := flatE_inv h K j u hj
      obtain ⟨b, off, e, hb, hx⟩ := hr (by intro q; rw [q] at h1; simp at h1)
      injection e with e
      subst e
      rw [add_n, show off + (i * s + r) = off + i * s + r by omega]
      exact hx i x h1 r u h2
theorem concatK (K L : List PtX) (va vb : Option Addr) (vc vd b : Nat) (t : TypeId) (w : World) (hl : K.length ≤ 30) (hl' : L.length ≤ 30) (hc : K.length ≤ vc) (hc' : L.length ≤ vd) (hn : va = none → vc = 0) (hn' : vb = none → vd = 0)
    (hv : RdA encP 3 w va K) (hv' : RdA encP 3 w vb L) (hb : Bk w b #[.slice va K.length vc, .slice vb L.length vd] t) :
    Calls Tryz.prog 38 #[.slice (some ⟨b, 0, none⟩) 2 2] w fun e w' => ∃ a c, e = .returned (.slice a (K ++ L).length c) ∧ w'.ownsRow w.heap.size 35 3 (.slice a (K ++ L).length c) (K ++ L).length (flatE encP (K ++ L)) ∧ Gr w w' := by
  have hS : SrcP w b [(K.length, flatE encP K), (L.length, flatE encP L)] := by
    refine ⟨hb.lt, fun i p hp => ?_⟩
    match i, hp with
    | 0, hp =>
      simp at hp; subst hp
      exact ⟨_, hb.cell 0 rfl, rdc_of encP_ok hv hc hn⟩
    | 1, hp =>
      simp at hp; subst hp
      exact ⟨_, hb.cell 1 rfl, rdc_of encP_ok hv' hc' hn'⟩
    | i + 2, hp => simp at hp
  refine (concatP _ b 2 w hS (by simp [sumP]; omega) (by simp)).mono ?_
  rintro e w' ⟨v, rfl, g, h⟩
  have e1 : sumP [(K.length, flatE encP K), (L.length, flatE encP L)] = (K ++ L).length := by simp [sumP]
  have e2 : catP [(K.length, flatE encP K), (L.length, flatE encP L)] = flatE encP (K ++ L) := by simp [catP, flatE_app]
  rw [e1, e2] at h
  obtain ⟨a, c, rfl, -⟩ := ow_form h
  exact ⟨a, c, rfl, h, g⟩
/-- what Join answers -/
def ResP (base : Nat) (w : World) (e : Ending) (F : List PtX) : Prop :=
  (F.length ≤ 30 ∧ ∃ v, e = .returned (.tuple #[v, .int .i64 0]) ∧ w.ownsRow base 35 3 v F.length (flatE encP F) ∧ OwnsP base w F) ∨ (30 < F.length ∧ e = .returned (.tuple #[.slice none 0 0, .int .i64 2]))
theorem ow_lessP {w : World} {base base' s n : Nat} {t : TypeId} {v : Value} {xs : List Value} (h : w.ownsRow base t s v n xs) (hb : base' ≤ base) : w.ownsRow base' t s v n xs := by
  obtain ⟨h1, h2 | ⟨g, cap, cur, e, h3, h4⟩⟩ := h
  · exact ⟨h1, .inl h2⟩
  · exact ⟨h1, .inr ⟨g, cap, cur, e, Nat.le_trans hb h3, h4⟩⟩
set_option maxHeartbeats 8000000 in
set_option maxRecDepth 100000 in
theorem pjoin_ok (K L : List PtX) (va vb : Option Addr) (vc vd : Nat) (hl : K.length ≤ 30) (hl2 : L.length ≤ 30) (hc : K.length ≤ vc) (hc2 : L.length ≤ vd) (hn : va = none → vc = 0) (hn2 : vb = none → vd = 0) (w : World) (hv : RdA encP 3 w va K) (hv2 : RdA encP 3 w vb L) (hm : MeansP w K) (hm2 : MeansP w L) :
    Calls Tryz.prog 9 #[.slice va K.length vc, .slice vb L.length vd] w fun e w' => ∃ R : List PtX, R.map PtX.m = (K ++ L).map (nar fullT) ∧ ResP w.heap.size w' e (fewP R) ∧ Gr w w' := by
  refine enter (N := 25) Tryz.func9 rfl rfl rfl (fun a0 ok0 h0 => ?_)
  have e0_0 : a0.eval (.tmp 0) = .slice va K.length vc := h0 0 _ rfl
  have e0_1 : a0.eval (.tmp 1) = .slice vb L.length vd := h0 1 _ rfl
  clear h0
  have G0 := Gr.refl w
  refine wp_seq_k (fun K1 hK1 => ?_)
  refine wp_region_lit ?_
  refine sv ok0 rfl (wn _ rfl) rfl (o_as ev_const) (fun an2 n2 => ?_)
  refine sv n2.ok rfl (wn _ rfl) rfl (o_as ev_const) (fun an3 n3 => ?_)
  refine wpList_nil ?_
  refine th_n (hK1 _ _ ?_)
  refine wp_seq_k (fun K4 hK4 => ?_)
  refine wp_seq_k (fun K5 hK5 => ?_)
  refine wp_region_lit ?_
  refine sv n3.ok rfl (wn _ rfl) rfl (o_mv (n3.ne rfl (n2.ne rfl e0_0))) (fun an6 n6 => ?_)
  have e7 := n6.ne rfl (n3.ne rfl (n2.ne rfl e0_1))
  refine sv n6.ok rfl (wn _ rfl) rfl (o_mv e7) (fun an8 n8 => ?_)
  refine sc n8.ok rfl (wn _ rfl) rfl (o_f2 Tryz.func43 rfl rfl rfl (n8.ne rfl n6.at_) n8.at_) (pcheckBoth_ok K L va vb vc vd w hl hl2 (hv.gr G0) (hv2.gr G0) (hm.gr G0) (hm2.gr G0)) ?_
  rintro _ w10 ⟨rfl, g11⟩
  refine ⟨_, rfl, fun an9 n9 => ?_⟩
  have G12 := G0.trans g11
  refine sv n9.ok rfl (wn _ rfl) rfl (o_as n9.at_) (fun an13 n13 => ?_)
  refine wpList_nil ?_
  refine th_n (hK5 _ _ ?_)
  refine wp_seq_k (fun K14 hK14 => ?_)
  refine wp_region_lit ?_
  refine sv n13.ok rfl (wn _ rfl) rfl (o_mv n13.at_) (fun an15 n15 => ?_)
  refine sv n15.ok rfl (wn _ rfl) rfl (o_neq (b := false) n15.at_ ev_const (by decide)) (fun an16 n16 => ?_)
  refine wpList_nil ?_
  refine th_n (hK14 _ _ ?_)
  refine wp_cond_false (n16.at_) ?_
  refine wp_skip ?_
  refine th_n (hK4 _ _ ?_)
  refine wp_seq_k (fun K17 hK17 => ?_)
  refine wp_region_lit ?_
  have e18 := n16.ne rfl (n15.ne rfl (n13.ne rfl (n9.ne rfl (n8.ne rfl (n6.ne rfl (n3.ne rfl (n2.ne rfl e0_0)))))))
  refine sv n16.ok rfl (wn _ rfl) rfl (o_mv e18) (fun an19 n19 => ?_)
  have e20 := n19.ne rfl (n16.ne rfl (n15.ne rfl (n13.ne rfl (n9.ne rfl (n8.ne rfl e7)))))
  refine sv n19.ok rfl (wn _ rfl) rfl (o_mv e20) (fun an21 n21 => ?_)
  obtain ⟨i22, i22a, i22b, i22c⟩ := info3_of (show (Tryz.prog.info? 22).map (fun i => (i.zero, i.size)) = some (some (.slice none 0 0), 1) by kernel_rfl)
  refine sals (cs := #[.slice va K.length vc, .slice vb L.length vd]) n21.ok rfl (wn _ rfl) rfl (o_bs (vs := [(0, .slice va K.length vc), (1, .slice vb L.length vd)]) (by simp [(n21.ne rfl n19.at_), n21.at_, ev_const]) Tryz.underlying148 i22a i22b (by rw [i22c]; rfl) (by rw [i22c]; rfl) (by rw [i22c]; kernel_rfl)) (fun an23 w25 b24 W26 n23 => ?_)
  have l27 : w.heap.size ≤ b24 := by rw [W26.eq]; exact G12.size
  have G28 := G12.trans W26.gr
  refine sc n23.ok rfl (wn _ rfl) rfl (o_f1 Tryz.func38 rfl rfl rfl n23.at_) (concatK K L va vb vc vd b24 _ w25 hl hl2 hc hc2 hn hn2 (hv.gr G28) (hv2.gr G28) W26.bk) ?_
  rintro _ w30 ⟨ca, cc, rfl, hO0, g31⟩
  refine ⟨_, rfl, fun an29 n29 => ?_⟩
  have G32 := G28.trans g31
  have B33 := W26.bk.gr g31
  refine sc n29.ok rfl (wn _ rfl) rfl (o_f0 Tryz.func12 rfl rfl rfl ) (fevery w30) ?_
  rintro _ w35 ⟨ev, rfl, hev, g36⟩
  refine ⟨_, rfl, fun an34 n34 => ?_⟩
  have G37 := G32.trans g36
  have B38 := B33.gr g36
  have F39 := ow_gr hO0 g36
  have hGn := G37.size
  refine sc n34.ok rfl (wn _ rfl) rfl (o_f2 Tryz.func45 rfl rfl rfl (n34.ne rfl n29.at_) n34.at_) (narrow_any (K ++ L) ca cc _ fullT (by rw [List.length_append]; omega) w35 (RdA.own encP_ok F39 rfl) (fun x hx => (List.mem_append.1 hx).elim (fun h => (hm x h).gr G37) (fun h => (hm2 x h).gr G37)) (hev.le (by decide))) ?_
  rintro _ w41 ⟨R, v1, rfl, hR, hO1, hP1, g42⟩
  obtain ⟨ra, rc, rfl, hrc⟩ := ow_form hO1
  have hRl : R.length = ((K ++ L)).length := by have := congrArg List.length hR; simpa using this
  refine ⟨_, rfl, fun an40 n40 => ?_⟩
  have G43 := G37.trans g42
  have B44 := B38.gr g42
  have F45 := ow_gr F39 g42
  have F46 := hev.gr g42
  refine sc n40.ok rfl (wn _ rfl) rfl (o_f1 Tryz.func44 rfl rfl rfl n40.at_) (reduce_any R ra rc (by rw [hRl, List.length_append]; omega) w41 (RdA.own encP_ok hO1 rfl) (OwnsP.mean hP1)) ?_
  rintro _ w48 ⟨v2, rfl, hO2, g49⟩
  obtain ⟨qa, qc, rfl, hqc⟩ := ow_form hO2
  refine ⟨_, rfl, fun an47 n47 => ?_⟩
  have G50 := G43.trans g49
  have B51 := B44.gr g49
  have F52 := ow_gr F45 g49
  have F53 := F46.gr g49
  have F54 := ow_gr hO1 g49
  have F55 := hP1.tk (tk_gr g49)
  refine sv n47.ok rfl (wn _ rfl) rfl (o_as n47.at_) (fun an56 n56 => ?_)
  refine wpList_nil ?_
  refine th_n (hK17 _ _ ?_)
  refine wp_seq_k (fun K57 hK57 => ?_)
  refine wp_seq_k (fun K58 hK58 => ?_)
  refine wp_region_lit ?_
  refine sv n56.ok rfl (wn _ rfl) rfl (o_mv n56.at_) (fun an59 n59 => ?_)
  refine sv n59.ok rfl (wn _ rfl) rfl (o_len n59.at_ Tryz.underlying22) (fun an60 n60 => ?_)
  refine sv n60.ok rfl (wn _ rfl) rfl (o_gtI n60.at_ ev_const) (fun an61 n61 => ?_)
  refine wpList_nil ?_
  refine th_n (hK58 _ _ ?_)
  by_cases c62 : (30 : Int) < (((fewP R).length : Nat) : Int)
  · refine wp_cond_true ((n61.at_).trans (congrArg Value.bool (decide_eq_true c62))) ?_
    refine wp_seq_k (fun K63 hK63 => ?_)
    refine wp_region_lit ?_
    refine sv n61.ok rfl (wn _ rfl) rfl (o_as ev_const) (fun an64 n64 => ?_)
    refine sv n64.ok rfl (wn _ rfl) rfl (o_as ev_const) (fun an65 n65 => ?_)
    refine wpList_nil ?_
    refine th_n (hK63 _ _ ?_)
    refine wp_ret ?_
    refine th_r ?_
    exact ret2 n65.ok rfl ((n65.ne rfl n64.at_)) (n65.at_) ⟨R, hR, .inr ⟨by have := c62; omega, rfl⟩, G50⟩
  · refine wp_cond_false ((n61.at_).trans (congrArg Value.bool (decide_eq_false c62))) ?_
    refine wp_skip ?_
    refine th_n (hK57 _ _ ?_)
    refine wp_seq_k (fun K66 hK66 => ?_)
    refine wp_region_lit ?_
    have e67 := n61.ne rfl (n60.ne rfl (n59.ne rfl n56.at_))
    refine sv n61.ok rfl (wn _ rfl) rfl (o_mv e67) (fun an68 n68 => ?_)
    refine sv n68.ok rfl (wn _ rfl) rfl (o_as n68.at_) (fun an69 n69 => ?_)
    refine sv n69.ok rfl (wn _ rfl) rfl (o_as ev_const) (fun an70 n70 => ?_)
    refine wpList_nil ?_
    refine th_n (hK66 _ _ ?_)
    refine wp_ret ?_
    exact ret2 n70.ok rfl ((n70.ne rfl n69.at_)) (n70.at_) ⟨R, hR, .inl ⟨by have := c62; omega, _, rfl, (ow_lessP hO2 G43.size), fun x hx => (F55 x (fewP_mem hx)).base hGn⟩, G50⟩
end Go.Proofs.YtghjfakellaecaaGreat

/- reedkeep.parts, partBegun, both; small lists of parts. -/
set_option linter.unusedVariables false
set_option linter.unusedSimpArgs false
namespace Gx
open Go Go.RowKit Rm
/-- a slice of values, each read in its way -/
def RdV {α : Type} (R : World → Value → α → Prop) (w : World) (a : Option Addr) (L : List α) : Prop :=
  L ≠ [] → ∃ b off, a = some ⟨b, off, none⟩ ∧ b < w.heap.size ∧ ∀ i x, L[i]? = some x → ∃ u, w.cell? ⟨b, off + i * 1, none⟩ = some u ∧ R w u x
theorem RdV.gr {α : Type} {R : World → Value → α → Prop} (hR : ∀ w w' u x, Gr w w' → R w u x → R w' u x) {w w' : World} {a : Option Addr} {L : List α} (h : RdV R w a L) (g : Gr w w') : RdV R w' a L := fun hn => by
  obtain ⟨b, off, e, hb, hx⟩ := h hn
  refine ⟨b, off, e, Nat.lt_of_lt_of_le hb g.le, fun i x hi => ?_⟩
  obtain ⟨u, h1, h2⟩ := hx i x hi
  exact ⟨u, (g.cells.1 b _ hb).trans h1, hR _ _ _ _ g h2⟩
end Gx
namespace Rm
open Go Go.RowKit Gx
/-- two lists say the same -/
def EqP (K L : List PtX) : Prop := ∀ t n a c, t < 16 → n < 32 → inR a c → hasP K t n a c = hasP L t n a c
theorem EqP.sub {K L : List PtX} (h : EqP K L) : subP K L := fun t n a c h1 h2 h3 hk => by rw [← h t n a c h1 h2 h3]; exact hk
theorem EqP.symm {K L : List PtX} (h : EqP K L) : EqP L K := fun t n a c h1 h2 h3 => (h t n a c h1 h2 h3).symm
theorem EqP.trans {K L M : List PtX} (h : EqP K L) (k : EqP L M) : EqP K M := fun t n a c h1 h2 h3 => (h t n a c h1 h2 h3).trans (k t n a c h1 h2 h3)
theorem EqP.refl (K : List PtX) : EqP K K := fun _ _ _ _ _ _ _ => rfl
theorem hasP_app (K L : List PtX) (t n a c : Nat) : hasP (K ++ L) t n a c = (hasP K t n a c || hasP L t n a c) := by simp [hasP]
theorem empty_no {x : PtX} (hT : OkT x.T) (h : emptyP x = true) {t n a c : Nat} (ht : t < 16) (hn : n < 32) (hi : inR a c) : ((x.T t).testBit n && x.D a c) = false := by
  unfold emptyP at h
  rw [Bool.or_eq_true] at h
  rcases h with h | h
  · have h0 := cntTo_none hT 16 (Nat.le_refl _) (show cntT x.T = 0 by simpa using h) t ht
    rw [h0]; simp
  · have hd : x.D a c = false := by
      cases q : x.D a c
      · rfl
      · exfalso
        rw [← form_mem x.D a c hi] at q
        have h1 : cntD (memB (formV x.D) (formM x.D)) = 0 := by simpa using h
        have h2 : kcntTo (memB (formV x.D) (formM x.D) a) 1024 = 0 := by
          have h5 := hi.1
          generalize memB (formV x.D) (formM x.D) = E at h1 ⊢
          have : cntS E a = 0 := by
            unfold cntD at h1
            have ha : a = 0 ∨ a = 1 ∨ a = 2 ∨ a = 3 ∨ a = 4 := by omega
            rcases ha with rfl | rfl | rfl | rfl | rfl <;> omega
          exact this
        have key : ∀ n, kcntTo (memB (formV x.D) (formM x.D) a) n = 0 → ∀ i, i < n → memB (formV x.D) (formM x.D) a i = false := by
          intro n
          induction n with
          | zero => intro _ i hi; omega
          | succ n ih =>
            intro h i hi
            unfold kcntTo at h
            rcases Nat.lt_or_ge i n with q | q
            · exact ih (by split at h <;> omega) i q
            · obtain rfl : i = n := by omega
              cases q3 : memB (formV x.D) (formM x.D) a i
              · rfl
              · rw [q3] at h; simp at h
        rw [key 1024 h2 c (by have := hi.2.2; omega)] at q
        cases q
    rw [hd]; simp
theorem under_has {x y : PtX} (hx : OkT x.T) (hy : OkT y.T) (h : underP x y = true) {t n a c : Nat} (ht : t < 16) (hn : n < 32) (hi : inR a c) (hk : ((x.T t).testBit n && x.D a c) = true) : ((y.T t).testBit n && y.D a c) = true := by
  unfold underP at h
  rw [Bool.and_eq_true] at h hk ⊢
  exact ⟨within_bit hx hy h.2 ht hn hk.1, (wS_iff _ _).1 h.1 a c hi hk.2⟩
theorem stepP_has {K : List PtX} {x : PtX} (hK : ∀ y ∈ K, OkT y.T) (hx : OkT x.T) {t n a c : Nat} (ht : t < 16) (hn : n < 32) (hi : inR a c) : hasP (stepP K x) t n a c = hasP (K ++ [x]) t n a c := by
  unfold stepP
  split
  · rename_i h
    rw [hasP_app, hasP_app, Bool.eq_iff_iff]
    simp only [Bool.or_eq_true]
    constructor
    · rintro (q | q)
      · obtain ⟨y, hy, hq⟩ := List.any_eq_true.1 q
        exact .inl (List.any_eq_true.2 ⟨y, (List.mem_filter.1 hy).1, hq⟩)
      · exact .inr q
    · rintro (q | q)
      · obtain ⟨y, hy, hq⟩ := List.any_eq_true.1 q
        cases hu : underP y x
        · exact .inl (List.any_eq_true.2 ⟨y, List.mem_filter.2 ⟨hy, by simp [hu]⟩, hq⟩)
        · exact .inr (List.any_eq_true.2 ⟨x, List.mem_singleton.2 rfl, under_has (hK y hy) hx hu ht hn hi hq⟩)
      · exact .inr q
  · rename_i h
    rw [hasP_app, Bool.eq_iff_iff, Bool.or_eq_true]
    constructor
    · exact .inl
    · rintro (q | q)
      · exact q
      · obtain ⟨y, hy, hq⟩ := List.any_eq_true.1 q
        rw [List.mem_singleton.1 hy] at hq
        cases he : emptyP x
        · rw [he] at h
          simp only [Bool.not_false, Bool.true_and, Bool.not_eq_true', Bool.not_eq_false] at h
          obtain ⟨z, hz, hu⟩ := List.any_eq_true.1 h
          exact List.any_eq_true.2 ⟨z, hz, under_has hx (hK z hz) hu ht hn hi hq⟩
        · rw [empty_no hx he ht hn hi] at hq; cases hq
theorem fewP_has {L : List PtX} (hL : ∀ y ∈ L, OkT y.T) : EqP (fewP L) L := fun t n a c ht hn hi => by
  have key : ∀ (L K : List PtX), (∀ y ∈ L, OkT y.T) → (∀ y ∈ K, OkT y.T) → hasP (L.foldl stepP K) t n a c = hasP (K ++ L) t n a c := by
    intro L
    induction L with
    | nil => intro K _ _; simp
    | cons x L ih =>
      intro K hL hK
      have hx := hL x (List.mem_cons_self ..)
      rw [List.foldl_cons, ih _ (fun y hy => hL y (List.mem_cons_of_mem _ hy)) (fun y hy => by
        rcases stepP_mem hy with h | rfl
        · exact hK y h
        · exact hx), hasP_app, stepP_has hK hx ht hn hi, hasP_app, Bool.or_assoc, ← hasP_app, ← hasP_app]
      rfl
  exact key L [] hL (fun y hy => by cases hy)
/-- what a reduced list is -/
structure FewP (K : List PtX) : Prop where
  ne : ∀ x ∈ K, emptyP x = false
  no : ∀ (i j : Nat) (x y : PtX), K[i]? = some x → K[j]? = some y → i ≠ j → underP x y = false
theorem stepP_few {K : List PtX} {x : PtX} (h : FewP K) : FewP (stepP K x) := by
  unfold stepP
  split
  · rename_i hc
    rw [Bool.and_eq_true, Bool.not_eq_true', Bool.not_eq_true'] at hc
    have hany := List.any_eq_false.1 hc.2
    have hsub : ∀ i y, (K.filter (fun y => !underP y x))[i]? = some y → ∃ i', K[i']? = some y ∧ underP y x = false := fun i y hy => by
      have hm := List.mem_of_getElem? hy
      obtain ⟨h1, h2⟩ := List.mem_filter.1 hm
      obtain ⟨i', hi'⟩ := List.getElem?_of_mem h1
      exact ⟨i', hi', by simpa using h2⟩
    refine ⟨fun y hy => ?_, fun i j y z hi hj hij => ?_⟩
    · rcases List.mem_append.1 hy with hy | hy
      · exact h.ne y (List.mem_filter.1 hy).1
      · rw [List.mem_singleton.1 hy]; exact hc.1
    · by_cases q1 : i < (K.filter (fun y => !underP y x)).length
      · rw [List.getElem?_append_left q1] at hi
        by_cases q2 : j < (K.filter (fun y => !underP y x)).length
        · rw [List.getElem?_append_left q2] at hj
          -- both are kept: their places in the list differ
          have hp : (K.filter (fun y => !underP y x)).Pairwise (fun a b => underP a b = false ∧ underP b a = false) := by
            refine List.Pairwise.filter _ ?_
            rw [List.pairwise_iff_getElem]
            intro a b ha hb hab
            exact ⟨h.no a b _ _ (List.getElem?_eq_getElem ha) (List.getElem?_eq_getElem hb) (by omega), h.no b a _ _ (List.getElem?_eq_getElem hb) (List.getElem?_eq_getElem ha) (by omega)⟩
          rw [List.pairwise_iff_getElem] at hp
          obtain ⟨_, e1⟩ := List.getElem?_eq_some_iff.1 hi
          obtain ⟨_, e2⟩ := List.getElem?_eq_some_iff.1 hj
          rcases Nat.lt_or_ge i j with q | q
          · have := (hp i j q1 q2 q).1; rwa [e1, e2] at this
          · have := (hp j i q2 q1 (by omega)).2; rwa [e1, e2] at this
        · rw [List.getElem?_append_right (by omega)] at hj
          have : z = x := by
            have := List.mem_of_getElem? hj
            simpa using this
          subst this
          obtain ⟨_, _, hu⟩ := hsub i y hi
          exact hu
      · rw [List.getElem?_append_right (by omega)] at hi
        have hyx : y = x := by
          have := List.mem_of_getElem? hi
          simpa using this
        subst hyx
        have hi0 : i = (K.filter (fun z => !underP z y)).length := by
          have := (List.getElem?_eq_some_iff.1 hi).1
          simp only [List.length_singleton] at this
          omega
        by_cases q2 : j < (K.filter (fun z => !underP z y)).length
        · rw [List.getElem?_append_left q2] at hj
          have := hany z (List.mem_filter.1 (List.mem_of_getElem? hj)).1
          simpa using this
        · rw [List.getElem?_append_right (by omega)] at hj
          have := (List.getElem?_eq_some_iff.1 hj).1
          simp only [List.length_singleton] at this
          omega
  · exact h
theorem fewP_few (L : List PtX) : FewP (fewP L) := by
  have key : ∀ (L K : List PtX), FewP K → FewP (L.foldl stepP K) := by
    intro L
    induction L with
    | nil => intro K h; exact h
    | cons x L ih => intro K h; exact ih _ (stepP_few h)
  exact key L [] ⟨(fun x hx => by cases hx), fun i j x y hi => by simp at hi⟩
end Rm
namespace Go.Proofs.YtghjfakellaecaaGreat
open Go.RowKit Rm Gx
theorem FSn.okT {n : Nat} {w : World} {v : Value} {T : Nat → Nat} (h : FSn n w v T) : OkT T := fun t ht => h.lt t ht
/-- lists whose meanings go with one another say the same, where the numbers are left or cut -/
theorem nar_has {U : Nat → Nat} {R L : List PtX} (h : R.map PtX.m = L.map (nar U)) (t n a c : Nat) : hasP R t n a c = ((U t).testBit n && hasP L t n a c) := by
  induction R generalizing L with
  | nil =>
    have : L = [] := by simpa using h.symm
    subst this; simp [hasP]
  | cons x R ih =>
    cases L with
    | nil => simp at h
    | cons y L =>
      simp only [List.map_cons, List.cons.injEq] at h
      have h1 := ih h.2
      have hx : x.T t = y.T t &&& U t ∧ x.D = y.D := by
        have := h.1
        unfold PtX.m nar at this
        simp only [Prod.mk.injEq] at this
        exact ⟨congrFun this.1 t, this.2⟩
      unfold hasP at h1 ⊢
      simp only [List.any_cons, h1, hx.1, hx.2, Nat.testBit_and]
      cases (y.T t).testBit n <;> cases (U t).testBit n <;> cases y.D a c <;> simp
theorem full_has {R L : List PtX} (h : R.map PtX.m = L.map (nar fullT)) : EqP R L := fun t n a c ht hn hi => by
  rw [nar_has h]
  have : (fullT t).testBit n = true := by
    unfold fullT
    rw [show (4294967295 : Nat) = 2 ^ 32 - 1 from rfl, Nat.testBit_two_pow_sub_one]
    simpa using hn
  rw [this, Bool.true_and]
theorem KnO.form3 {base : Nat} {w : World} {k : Value} {v : List Nat} {m : List (Nat × Nat)} (h : KnO base w k v m) : ∃ va vn vc ma mn mc, k = .agg #[.slice va vn vc, .slice ma mn mc] := by
  obtain ⟨va, vc, ma, mc, h⟩ := h.form
  exact ⟨va, _, vc, ma, _, mc, h⟩
/-- a part whose filter was there at first and whose dots are owned -/
structure PartAt (w0 w : World) (x : PtX) : Prop where
  fs : FS w0 x.f x.T
  kn : KnO w0.heap.size w x.k (formV x.D) (formM x.D)
  few : (formM x.D).length ≤ 60
def PartsAt (w0 w : World) (K : List PtX) : Prop := ∀ x ∈ K, PartAt w0 w x
theorem PartAt.tk {w0 w w' : World} {x : PtX} (h : PartAt w0 w x) (k : Tk w w') : PartAt w0 w' x := ⟨h.fs, h.kn.tk k, h.few⟩
theorem PartsAt.tk {w0 w w' : World} {K : List PtX} (h : PartsAt w0 w K) (k : Tk w w') : PartsAt w0 w' K := fun x hx => (h x hx).tk k
theorem PartsAt.snoc {w0 w : World} {K : List PtX} {x : PtX} (h : PartsAt w0 w K) (hx : PartAt w0 w x) : PartsAt w0 w (K ++ [x]) := fun y hy => by
  rcases List.mem_append.1 hy with hy | hy
  · exact h y hy
  · rw [List.mem_singleton.1 hy]; exact hx
theorem PartsAt.mean {w0 w : World} {K : List PtX} (h : PartsAt w0 w K) (g : Gr w0 w) : MeansP w K := fun x hx => ⟨(h x hx).fs.gr g, (h x hx).kn.rd, (h x hx).few⟩
theorem ok0 : OkV [] [] := ⟨by simp, by simp, by simp, by simp, by simp⟩
theorem knO_nil {base : Nat} {w : World} : KnO base w (.agg #[.slice none 0 0, .slice none 0 0]) (formV (memB [] [])) (formM (memB [] [])) := by
  rw [(form_self ok0).1, (form_self ok0).2]
  exact ⟨_, _, rfl, World.ownsRow_nil _ _ _ _, World.ownsRow_nil _ _ _ _⟩
theorem few_nil : (formM (memB [] [])).length ≤ 60 := by rw [(form_self ok0).2]; simp
set_option maxHeartbeats 8000000 in
set_option maxRecDepth 100000 in
theorem parts_any (Fs : List (List BoxI)) (Ls : List (List (List Int))) (va vb : Option Addr) (vc vd : Nat) (hc : Fs.length ≤ vc) (w : World) (hF : RdV (fun w u x => RdF w u x) w va Fs) (hLs : RdV (fun w u x => RdLL w u x) w vb Ls) :
    Calls Tryz.prog 21 #[.slice va Fs.length vc, .slice vb Ls.length vd] w fun e w' => ∃ (K : List PtX) (v : Value), e = .returned v ∧ K.length ≤ 10 ∧ w'.ownsRow w.heap.size 35 3 v K.length (flatE encP K) ∧ MeansP w' K ∧ Gr w w' := by
  refine enter (N := 41) Tryz.func21 rfl rfl rfl (fun a0 ok0 h0 => ?_)
  have e0_0 : a0.eval (.tmp 0) = .slice va Fs.length vc := h0 0 _ rfl
  have e0_1 : a0.eval (.tmp 1) = .slice vb Ls.length vd := h0 1 _ rfl
  clear h0
  have G0 := Gr.refl w
  obtain ⟨base, z1⟩ : ∃ n, n = w.heap.size := ⟨_, rfl⟩
  have l2 : w.heap.size ≤ base := by rw [z1]; exact G0.size
  have z3 : base ≤ w.heap.size := Nat.le_of_eq z1
  have O4 := World.ownsRow_nil w base 35 3
  have hps : PartsAt w w ([] : List PtX) := fun x hx => by cases hx
  refine wp_seq_k (fun K5 hK5 => ?_)
  refine wp_region_lit ?_
  refine sv ok0 rfl (wn _ rfl) rfl (o_as ev_const) (fun an6 n6 => ?_)
  refine wpList_nil ?_
  refine th_n (hK5 _ _ ?_)
  refine wp_seq_k (fun K7 hK7 => ?_)
  refine wp_region_lit ?_
  refine sv n6.ok rfl (wn _ rfl) rfl (o_as ev_const) (fun an8 n8 => ?_)
  refine wpList_nil ?_
  refine th_n (hK7 _ _ ?_)
  refine wp_seq_k (fun K9 hK9 => ?_)
  refine wp_seq_k (fun K10 hK10 => ?_)
  refine wp_region_lit ?_
  refine sv n8.ok rfl (wn _ rfl) rfl (o_mv (n8.ne rfl (n6.ne rfl e0_0))) (fun an11 n11 => ?_)
  have e12 := n11.ne rfl (n8.ne rfl (n6.ne rfl e0_0))
  refine sv n11.ok rfl (wn _ rfl) rfl (o_mv e12) (fun an13 n13 => ?_)
  refine sv n13.ok rfl (wn _ rfl) rfl (o_len n13.at_ Tryz.underlying53) (fun an14 n14 => ?_)
  refine sv n14.ok rfl (wn _ rfl) rfl (o_min n14.at_ ev_const (nmin_int _ _)) (fun an15 n15 => ?_)
  have e16 := n15.ne rfl (n14.ne rfl (n13.ne rfl n11.at_))
  refine sv n15.ok rfl (wn _ rfl) rfl (o_cut (k := min (Fs.length) (10)) (s := 1) e16 n15.at_ Tryz.underlying53 (by kernel_rfl) (by omega)) (fun an17 n17 => ?_)
  refine sv n17.ok rfl (wn _ rfl) rfl (o_len n17.at_ Tryz.underlying53) (fun an18 n18 => ?_)
  refine sv n18.ok rfl (wn _ rfl) rfl (o_mv ev_const) (fun an19 n19 => ?_)
  refine wpList_nil ?_
  refine th_n (hK10 _ _ ?_)
  refine wp_block ?_
  have e21 := n19.ne rfl (n18.ne rfl (n17.ne rfl (n15.ne rfl (n14.ne rfl (n13.ne rfl (n11.ne rfl (n8.ne rfl (n6.ne rfl e0_1))))))))
  have e22 := n19.ne rfl (n18.ne rfl (n17.ne rfl (n15.ne rfl (n14.ne rfl (n13.ne rfl (n11.ne rfl (n8.ne rfl n6.at_)))))))
  have e23 := n19.ne rfl (n18.ne rfl (n17.ne rfl (n15.ne rfl (n14.ne rfl (n13.ne rfl (n11.ne rfl n8.at_))))))
  refine lp (fun (nL : Nat) (aL : Act) (wL : World) => ∃ i : Nat, ∃ K : List PtX, ∃ ra : Option Addr, ∃ rc : Nat, nL = min (Fs.length) 10 - i ∧ Ok 41 aL ∧ Gr w wL ∧ (aL.eval (.tmp 1) = .slice vb Ls.length vd) ∧ (aL.eval (.tmp 4) = .slice none 0 0) ∧ (aL.eval (.tmp 5) = .slice ra K.length rc) ∧ (aL.eval (.tmp 13) = .slice va (min (Fs.length) (10)) vc) ∧ (aL.eval (.tmp 14) = .int .i64 ((min (Fs.length) (10) : Nat) : Int)) ∧ (aL.eval (.tmp 15) = .int .i64 (i : Int)) ∧ (PartsAt w wL K) ∧ (World.ownsRow wL base 35 3 (.slice ra K.length rc) (K.length) ((flatE encP K))) ∧ (base ≤ wL.heap.size) ∧ (i ≤ min (Fs.length) 10) ∧ (K.length ≤ i)) _ ⟨0, [], none, 0, rfl, n19.ok, G0, e21, e22, e23, (n19.ne rfl (n18.ne rfl n17.at_)), (n19.ne rfl n18.at_), n19.at_, hps, O4, z3, by omega, by simp⟩ ?_
  rintro m24 aI20 w26 ⟨i, K, ra, rc, hmI20, okI20, GI20, s1I20, s4I20, s5I20, s13I20, s14I20, s15I20, fpsI20, orI20, zbaseI20, hiI20, hKlI20⟩ KI20 hKI20
  refine wp_seq_k (fun K27 hK27 => ?_)
  refine wp_region_lit ?_
  refine sv okI20 rfl (wn _ rfl) rfl (o_ltI s15I20 s14I20) (fun an28 n28 => ?_)
  refine wpList_nil ?_
  refine th_n (hK27 _ _ ?_)
  refine wp_seq_k (fun K29 hK29 => ?_)
  by_cases c30 : (i : Int) < ((min (Fs.length) (10) : Nat) : Int)
  · refine wp_cond_true ((n28.at_).trans (congrArg Value.bool (decide_eq_true c30))) ?_
    refine wp_skip ?_
    refine th_n (hK29 _ _ ?_)
    refine wp_seq_k (fun K31 hK31 => ?_)
    refine wp_block ?_
    refine wp_seq_k (fun K32 hK32 => ?_)
    refine wp_region_lit ?_
    refine sv n28.ok rfl (wn _ rfl) rfl (o_mv (n28.ne rfl s15I20)) (fun an33 n33 => ?_)
    have h34l : i < List.length Fs := by omega
    obtain ⟨bh34, fh34, h34a, h34b, h34c⟩ := hF (ne_nil_of_lt h34l)
    obtain ⟨xh34, h34x⟩ : ∃ x, (Fs)[i]? = some x := ⟨_, List.getElem?_eq_getElem h34l⟩
    obtain ⟨uh34, h34d, h34e⟩ := h34c _ _ h34x
    obtain ⟨fah34, fch34, rfl, -, -⟩ := id h34e
    refine sv n33.ok rfl (wn _ rfl) rfl (o_iaV (i := i) (s := 1) h34a (n33.ne rfl (n28.ne rfl s13I20)) (n33.ne rfl (n28.ne rfl s15I20)) Tryz.underlying53 (by kernel_rfl) (by omega)) (fun an35 n35 => ?_)
    refine sv n35.ok rfl (wn _ rfl) rfl (o_ld n35.at_ (Tryz.isAgg23 _) ((Below.cell GI20 h34b).trans h34d)) (fun an36 n36 => ?_)
    refine sv n36.ok rfl (wn _ rfl) rfl (o_as (n36.ne rfl (n35.ne rfl n33.at_))) (fun an37 n37 => ?_)
    refine sv n37.ok rfl (wn _ rfl) rfl (o_as (n37.ne rfl n36.at_)) (fun an38 n38 => ?_)
    refine wpList_nil ?_
    refine th_n (hK32 _ _ ?_)
    refine wp_seq_k (fun K39 hK39 => ?_)
    refine wp_seq_k (fun K40 hK40 => ?_)
    refine wp_region_lit ?_
    refine sv n38.ok rfl (wn _ rfl) rfl (o_mv n38.at_) (fun an41 n41 => ?_)
    refine sc n41.ok rfl (wn _ rfl) rfl (o_f1 Tryz.func47 rfl rfl rfl n41.at_) (fcheck_any _ _ w26 (h34e.gr GI20)) ?_
    rintro _ w43 ⟨rfl, g44⟩
    refine ⟨_, rfl, fun an42 n42 => ?_⟩
    have G45 := GI20.trans g44
    have z46 := Nat.le_trans zbaseI20 g44.size
    have O47 := ow_gr orI20 g44
    have F48 := fpsI20.tk (tk_gr g44)
    refine sv n42.ok rfl (wn _ rfl) rfl (o_neI n42.at_ ev_const) (fun an49 n49 => ?_)
    refine wpList_nil ?_
    refine th_n (hK40 _ _ ?_)
    by_cases c50 : ¬ (chkF xh34) = 0
    · refine wp_cond_true ((n49.at_).trans (congrArg Value.bool (decide_eq_true c50))) ?_
      refine wp_exit ?_
      refine th_x ?_
      refine ib_x ?_
      refine th_n (hK31 _ _ ?_)
      refine wp_region_lit ?_
      have e51 := n49.ne rfl (n42.ne rfl (n41.ne rfl (n38.ne rfl (n37.ne rfl (n36.ne rfl (n35.ne rfl (n33.ne rfl (n28.ne rfl s15I20))))))))
      refine sv n49.ok rfl (wn _ rfl) rfl (o_add (r := ((i + 1 : Nat) : Int)) e51 ev_const (by omega) (by omega)) (fun an52 n52 => ?_)
      refine sv n52.ok rfl (wn _ rfl) rfl (o_mv n52.at_) (fun an53 n53 => ?_)
      refine wpList_nil ?_
      have e54 := n53.ne rfl (n52.ne rfl (n49.ne rfl (n42.ne rfl (n41.ne rfl (n38.ne rfl (n37.ne rfl (n36.ne rfl (n35.ne rfl (n33.ne rfl (n28.ne rfl s1I20))))))))))
      have e55 := n53.ne rfl (n52.ne rfl (n49.ne rfl (n42.ne rfl (n41.ne rfl (n38.ne rfl (n37.ne rfl (n36.ne rfl (n35.ne rfl (n33.ne rfl (n28.ne rfl s4I20))))))))))
      have e56 := n53.ne rfl (n52.ne rfl (n49.ne rfl (n42.ne rfl (n41.ne rfl (n38.ne rfl (n37.ne rfl (n36.ne rfl (n35.ne rfl (n33.ne rfl (n28.ne rfl s5I20))))))))))
      have e57 := n53.ne rfl (n52.ne rfl (n49.ne rfl (n42.ne rfl (n41.ne rfl (n38.ne rfl (n37.ne rfl (n36.ne rfl (n35.ne rfl (n33.ne rfl (n28.ne rfl s13I20))))))))))
      have e58 := n53.ne rfl (n52.ne rfl (n49.ne rfl (n42.ne rfl (n41.ne rfl (n38.ne rfl (n37.ne rfl (n36.ne rfl (n35.ne rfl (n33.ne rfl (n28.ne rfl s14I20))))))))))
      exact th_n (hKI20 _ _ _ (by omega) ⟨i + 1, K, ra, rc, rfl, n53.ok, G45, e54, e55, e56, e57, e58, n53.at_, F48, O47, z46, by omega, by omega⟩)
    · refine wp_cond_false ((n49.at_).trans (congrArg Value.bool (decide_eq_false c50))) ?_
      obtain ⟨Fh34, hFh341, hFh342, hFh343⟩ := okF_of (Decidable.of_not_not c50)
      refine wp_skip ?_
      refine th_n (hK39 _ _ ?_)
      refine wp_seq_k (fun K59 hK59 => ?_)
      refine wp_region_lit ?_
      have e60 := n49.ne rfl (n42.ne rfl (n41.ne rfl n38.at_))
      refine sv n49.ok rfl (wn _ rfl) rfl (o_mv e60) (fun an61 n61 => ?_)
      refine sv n61.ok rfl (wn _ rfl) rfl (o_bd (cells := #[.slice fah34 (xh34.length) fch34, .slice none 0 0, .slice none 0 0]) (vs := [(0, .slice fah34 (xh34.length) fch34)]) (by simp [n61.at_, ev_const]) (by kernel_rfl)) (fun an62 n62 => ?_)
      refine sal (cs := #[.slice none 0 0, .slice none 0 0, .slice none 0 0]) n62.ok rfl (wn _ rfl) rfl (o_al (z := .agg #[.slice none 0 0, .slice none 0 0, .slice none 0 0]) (by kernel_rfl)) (fun an63 w65 b64 W66 n63 => ?_)
      have l67 : w.heap.size ≤ b64 := by rw [W66.eq]; exact G45.size
      have l68 : ∀ k, Value.ownBlock (.slice ra K.length rc) = some k → k < b64 := fun k e => by rw [W66.eq]; exact ow_in O47 k e
      have G69 := G45.trans W66.gr
      have z70 := Nat.le_trans z46 W66.gr.size
      have O71 := ow_gr O47 W66.gr
      have F72 := F48.tk (tk_gr W66.gr)
      refine ssR rfl (wn _ rfl) (o_stR n63.at_ (n63.ne rfl n62.at_) W66.bk (by kernel_rfl) rfl (by simp [Value.oneCell'])) W66.bk (fun w73 u74 u74b => ?_)
      have G75 : Gr w w73 := Below.upd G69 l67 u74
      have z76 : base ≤ w73.heap.size := by rw [u74.size]; exact z70
      have O77 := ow_upd_ne O71 u74 l68
      have F78 := F72.tk (tk_upd u74 W66.bk (by decide))
      refine wpList_nil ?_
      refine th_n (hK59 _ _ ?_)
      refine wp_seq_k (fun K79 hK79 => ?_)
      refine wp_seq_k (fun K80 hK80 => ?_)
      refine wp_region_lit ?_
      have e81 := n63.ne rfl (n62.ne rfl (n61.ne rfl (n49.ne rfl (n42.ne rfl (n41.ne rfl (n38.ne rfl n37.at_))))))
      refine sv n63.ok rfl (wn _ rfl) rfl (o_mv e81) (fun an82 n82 => ?_)
      have e83 := n82.ne rfl (n63.ne rfl (n62.ne rfl (n61.ne rfl (n49.ne rfl (n42.ne rfl (n41.ne rfl (n38.ne rfl (n37.ne rfl (n36.ne rfl (n35.ne rfl (n33.ne rfl (n28.ne rfl s1I20))))))))))))
      refine sv n82.ok rfl (wn _ rfl) rfl (o_mv e83) (fun an84 n84 => ?_)
      refine sv n84.ok rfl (wn _ rfl) rfl (o_len n84.at_ Tryz.underlying54) (fun an85 n85 => ?_)
      refine sv n85.ok rfl (wn _ rfl) rfl (o_ltI (n85.ne rfl (n84.ne rfl n82.at_)) n85.at_) (fun an86 n86 => ?_)
      refine wpList_nil ?_
      refine th_n (hK80 _ _ ?_)
      by_cases c87 : (i : Int) < ((Ls.length : Nat) : Int)
      · refine wp_cond_true ((n86.at_).trans (congrArg Value.bool (decide_eq_true c87))) ?_
        refine wp_region_lit ?_
        have e88 := n86.ne rfl (n85.ne rfl (n84.ne rfl e83))
        refine sv n86.ok rfl (wn _ rfl) rfl (o_mv e88) (fun an89 n89 => ?_)
        have e90 := n89.ne rfl (n86.ne rfl (n85.ne rfl (n84.ne rfl (n82.ne rfl e81))))
        refine sv n89.ok rfl (wn _ rfl) rfl (o_mv e90) (fun an91 n91 => ?_)
        have h92l : i < List.length Ls := by omega
        obtain ⟨bh92, fh92, h92a, h92b, h92c⟩ := hLs (ne_nil_of_lt h92l)
        obtain ⟨xh92, h92x⟩ : ∃ x, (Ls)[i]? = some x := ⟨_, List.getElem?_eq_getElem h92l⟩
        obtain ⟨uh92, h92d, h92e⟩ := h92c _ _ h92x
        refine sv n91.ok rfl (wn _ rfl) rfl (o_iaV (i := i) (s := 1) h92a (n91.ne rfl n89.at_) n91.at_ Tryz.underlying54 (by kernel_rfl) (by omega)) (fun an93 n93 => ?_)
        refine sv n93.ok rfl (wn _ rfl) rfl (o_ld n93.at_ (Tryz.isAgg113 _) ((Below.cell G75 h92b).trans h92d)) (fun an94 n94 => ?_)
        refine sc n94.ok rfl (wn _ rfl) rfl (o_f1 Tryz.func60 rfl rfl rfl n94.at_) (kset_any _ xh92 w73 (h92e.gr G75)) ?_
        rintro _ w96 ⟨k1, rfl, hk1, g97⟩
        obtain ⟨va1, vn1, vc1, ma1, mn1, mc1, rfl⟩ := hk1.form3
        refine ⟨_, rfl, fun an95 n95 => ?_⟩
        have G98 := G75.trans g97
        have B99 := u74b.gr g97
        have z100 := Nat.le_trans z76 g97.size
        have O101 := ow_gr O77 g97
        have F102 := F78.tk (tk_gr g97)
        have e103 := n95.ne rfl (n94.ne rfl (n93.ne rfl (n91.ne rfl (n89.ne rfl (n86.ne rfl (n85.ne rfl (n84.ne rfl (n82.ne rfl n63.at_))))))))
        refine sv n95.ok rfl (wn _ rfl) rfl (o_fa (z := 2) e103 Tryz.underlying35 rfl (by kernel_rfl) rfl rfl) (fun an104 n104 => ?_)
        refine ssP (vs := [.slice va1 vn1 vc1, .slice ma1 mn1 mc1]) (cs' := #[.slice fah34 (xh34.length) fch34, .slice va1 vn1 vc1, .slice ma1 mn1 mc1]) (wn _ rfl) n104.at_ (n104.ne rfl n95.at_) (by kernel_rfl) B99 rfl (by simp [Value.oneCell']) rfl (fun w105 u106 u106b => ?_)
        have G107 : Gr w w105 := Below.upd G98 l67 u106
        have z108 : base ≤ w105.heap.size := by rw [u106.size]; exact z100
        have O109 := ow_upd_ne O101 u106 l68
        have F110 := F102.tk (tk_upd u106 B99 (by decide))
        have F111 := (hk1.less G75.size).tk (tk_upd u106 B99 (by decide))
        refine wpList_nil ?_
        refine th_n (hK79 _ _ ?_)
        refine wp_region_lit ?_
        have e112 := n104.ne rfl (n95.ne rfl (n94.ne rfl (n93.ne rfl (n91.ne rfl (n89.ne rfl (n86.ne rfl (n85.ne rfl (n84.ne rfl (n82.ne rfl (n63.ne rfl (n62.ne rfl (n61.ne rfl (n49.ne rfl (n42.ne rfl (n41.ne rfl (n38.ne rfl (n37.ne rfl (n36.ne rfl (n35.ne rfl (n33.ne rfl (n28.ne rfl s5I20)))))))))))))))))))))
        refine sv n104.ok rfl (wn _ rfl) rfl (o_mv e112) (fun an113 n113 => ?_)
        refine sv n113.ok rfl (wn _ rfl) rfl (o_ldR (n113.ne rfl (n104.ne rfl e103)) u106b Tryz.underlying35 rfl (by kernel_rfl)) (fun an114 n114 => ?_)
        obtain ⟨i115, i115a, i115b, i115c⟩ := info3_of (show (Tryz.prog.info? 35).map (fun i => (i.zero, i.size)) = some (some (.agg #[.slice none 0 0, .slice none 0 0, .slice none 0 0]), 3) by kernel_rfl)
        refine sals (cs := #[.slice fah34 (xh34.length) fch34, .slice va1 vn1 vc1, .slice ma1 mn1 mc1]) n114.ok rfl (wn _ rfl) rfl (o_bs (vs := [(0, .agg #[.slice fah34 (xh34.length) fch34, .slice va1 vn1 vc1, .slice ma1 mn1 mc1])]) (by simp [n114.at_, ev_const]) Tryz.underlying22 i115a i115b (by rw [i115c]; rfl) (by rw [i115c]; rfl) (by rw [i115c]; kernel_rfl)) (fun an116 w118 b117 W119 n116 => ?_)
        have l120 : b64 < b117 := by rw [W119.eq]; exact u106b.lt
        have l121 : w.heap.size ≤ b117 := by rw [W119.eq]; exact G107.size
        have l122 : ∀ k, Value.ownBlock (.slice ra K.length rc) = some k → k < b117 := fun k e => by rw [W119.eq]; exact ow_in O109 k e
        have G123 := G107.trans W119.gr
        have B124 := u106b.gr W119.gr
        have z125 := Nat.le_trans z108 W119.gr.size
        have O126 := ow_gr O109 W119.gr
        have F127 := F110.tk (tk_gr W119.gr)
        have F128 := F111.gr W119.gr
        obtain ⟨y129, hy130⟩ : ∃ y : PtX, y = ⟨fah34, xh34.length, fch34, va1, vn1, vc1, ma1, mn1, mc1, tabF Fh34, setD xh92⟩ := ⟨_, rfl⟩
        have q131 : PartAt w w118 y129 := by subst hy130; exact ⟨⟨Fh34, hFh341 ▸ h34e, hFh342, hFh343, fun _ _ => rfl⟩, F128, small_form (setD_small _)⟩
        obtain ⟨i132, i132a, i132b, i132c, i132d⟩ := info_of (show (Tryz.prog.info? 35).map (fun i => (i.zero, i.size, i.bytes)) = some (some (.agg #[.slice none 0 0, .slice none 0 0, .slice none 0 0]), 3, 72) by kernel_rfl)
        refine s_app (base := base) (n := K.length) (xs := (flatE encP K)) (m := 1) (news := encP y129) n116.ok (wn _ rfl) rfl Tryz.underlying22 i132a i132b i132c i132d rfl (by omega) (n116.ne rfl (n114.ne rfl n113.at_)) O126 n116.at_ rfl ((by subst hy130; exact fun j u hu => by rw [add_n]; exact bk_part W119.bk (k := 0) rfl j u hu)) (encP_ok.one y129) (by simp only [maxLen]; omega) (by omega) z125 (fun an133 w134 v135 O138 gg139 n133 => ?_)
        obtain ⟨a136, c137, rfl, c137l⟩ := ow_form O138
        have G140 := Gr.grown G123 gg139 (fun k e => Nat.le_trans l2 (ow_lt O126 k e))
        have B141 := B124.grown_ne gg139 l68
        have B142 := W119.bk.grown_ne gg139 l122
        have z143 := Nat.le_trans z125 gg139.size
        have F144 := F127.tk (tk_grown O126 gg139 (by decide))
        have F145 := q131.tk (tk_grown O126 gg139 (by decide))
        have O146 : w134.ownsRow base 35 3 (.slice a136 ((K.length + 1)) c137) ((K.length + 1)) ((flatE encP (K ++ [y129]))) := by have h := O138; rw [← flatE_one (enc := encP) y129, ← flatE_app] at h; exact h
        have hps147 := F144.snoc F145
        refine sv n133.ok rfl (wn _ rfl) rfl (o_as n133.at_) (fun an148 n148 => ?_)
        refine wpList_nil ?_
        refine ib_n ?_
        refine th_n (hK31 _ _ ?_)
        refine wp_region_lit ?_
        have e149 := n148.ne rfl (n133.ne rfl (n116.ne rfl (n114.ne rfl (n113.ne rfl (n104.ne rfl (n95.ne rfl (n94.ne rfl (n93.ne rfl (n91.ne rfl (n89.ne rfl (n86.ne rfl (n85.ne rfl (n84.ne rfl (n82.ne rfl (n63.ne rfl (n62.ne rfl (n61.ne rfl (n49.ne rfl (n42.ne rfl (n41.ne rfl (n38.ne rfl (n37.ne rfl (n36.ne rfl (n35.ne rfl (n33.ne rfl (n28.ne rfl s15I20))))))))))))))))))))))))))
        refine sv n148.ok rfl (wn _ rfl) rfl (o_add (r := ((i + 1 : Nat) : Int)) e149 ev_const (by omega) (by omega)) (fun an150 n150 => ?_)
        refine sv n150.ok rfl (wn _ rfl) rfl (o_mv n150.at_) (fun an151 n151 => ?_)
        refine wpList_nil ?_
        have e152 := n151.ne rfl (n150.ne rfl (n148.ne rfl (n133.ne rfl (n116.ne rfl (n114.ne rfl (n113.ne rfl (n104.ne rfl (n95.ne rfl (n94.ne rfl (n93.ne rfl (n91.ne rfl (n89.ne rfl e88))))))))))))
        have e153 := n151.ne rfl (n150.ne rfl (n148.ne rfl (n133.ne rfl (n116.ne rfl (n114.ne rfl (n113.ne rfl (n104.ne rfl (n95.ne rfl (n94.ne rfl (n93.ne rfl (n91.ne rfl (n89.ne rfl (n86.ne rfl (n85.ne rfl (n84.ne rfl (n82.ne rfl (n63.ne rfl (n62.ne rfl (n61.ne rfl (n49.ne rfl (n42.ne rfl (n41.ne rfl (n38.ne rfl (n37.ne rfl (n36.ne rfl (n35.ne rfl (n33.ne rfl (n28.ne rfl s4I20))))))))))))))))))))))))))))
        have e154 := n151.ne rfl (n150.ne rfl (n148.ne rfl (n133.ne rfl (n116.ne rfl (n114.ne rfl (n113.ne rfl (n104.ne rfl (n95.ne rfl (n94.ne rfl (n93.ne rfl (n91.ne rfl (n89.ne rfl (n86.ne rfl (n85.ne rfl (n84.ne rfl (n82.ne rfl (n63.ne rfl (n62.ne rfl (n61.ne rfl (n49.ne rfl (n42.ne rfl (n41.ne rfl (n38.ne rfl (n37.ne rfl (n36.ne rfl (n35.ne rfl (n33.ne rfl (n28.ne rfl s13I20))))))))))))))))))))))))))))
        have e155 := n151.ne rfl (n150.ne rfl (n148.ne rfl (n133.ne rfl (n116.ne rfl (n114.ne rfl (n113.ne rfl (n104.ne rfl (n95.ne rfl (n94.ne rfl (n93.ne rfl (n91.ne rfl (n89.ne rfl (n86.ne rfl (n85.ne rfl (n84.ne rfl (n82.ne rfl (n63.ne rfl (n62.ne rfl (n61.ne rfl (n49.ne rfl (n42.ne rfl (n41.ne rfl (n38.ne rfl (n37.ne rfl (n36.ne rfl (n35.ne rfl (n33.ne rfl (n28.ne rfl s14I20))))))))))))))))))))))))))))
        exact th_n (hKI20 _ _ _ (by omega) ⟨i + 1, K ++ [y129], a136, c137, rfl, n151.ok, G140, e152, e153, (by simpa using (n151.ne rfl (n150.ne rfl n148.at_))), e154, e155, n151.at_, hps147, (by simpa using O146), z143, by omega, by rw [List.length_append, List.length_singleton]; omega⟩)
      · refine wp_cond_false ((n86.at_).trans (congrArg Value.bool (decide_eq_false c87))) ?_
        refine wp_skip ?_
        refine th_n (hK79 _ _ ?_)
        refine wp_region_lit ?_
        have e156 := n86.ne rfl (n85.ne rfl (n84.ne rfl (n82.ne rfl (n63.ne rfl (n62.ne rfl (n61.ne rfl (n49.ne rfl (n42.ne rfl (n41.ne rfl (n38.ne rfl (n37.ne rfl (n36.ne rfl (n35.ne rfl (n33.ne rfl (n28.ne rfl s5I20)))))))))))))))
        refine sv n86.ok rfl (wn _ rfl) rfl (o_mv e156) (fun an157 n157 => ?_)
        have e158 := n157.ne rfl (n86.ne rfl (n85.ne rfl (n84.ne rfl (n82.ne rfl n63.at_))))
        refine sv n157.ok rfl (wn _ rfl) rfl (o_ldR e158 u74b Tryz.underlying35 rfl (by kernel_rfl)) (fun an159 n159 => ?_)
        obtain ⟨i160, i160a, i160b, i160c⟩ := info3_of (show (Tryz.prog.info? 35).map (fun i => (i.zero, i.size)) = some (some (.agg #[.slice none 0 0, .slice none 0 0, .slice none 0 0]), 3) by kernel_rfl)
        refine sals (cs := #[.slice fah34 (xh34.length) fch34, .slice none 0 0, .slice none 0 0]) n159.ok rfl (wn _ rfl) rfl (o_bs (vs := [(0, .agg #[.slice fah34 (xh34.length) fch34, .slice none 0 0, .slice none 0 0])]) (by simp [n159.at_, ev_const]) Tryz.underlying22 i160a i160b (by rw [i160c]; rfl) (by rw [i160c]; rfl) (by rw [i160c]; kernel_rfl)) (fun an161 w163 b162 W164 n161 => ?_)
        have l165 : b64 < b162 := by rw [W164.eq]; exact u74b.lt
        have l166 : w.heap.size ≤ b162 := by rw [W164.eq]; exact G75.size
        have l167 : ∀ k, Value.ownBlock (.slice ra K.length rc) = some k → k < b162 := fun k e => by rw [W164.eq]; exact ow_in O77 k e
        have G168 := G75.trans W164.gr
        have B169 := u74b.gr W164.gr
        have z170 := Nat.le_trans z76 W164.gr.size
        have O171 := ow_gr O77 W164.gr
        have F172 := F78.tk (tk_gr W164.gr)
        obtain ⟨y173, hy174⟩ : ∃ y : PtX, y = ⟨fah34, xh34.length, fch34, none, 0, 0, none, 0, 0, tabF Fh34, memB [] []⟩ := ⟨_, rfl⟩
        have q175 : PartAt w w163 y173 := by subst hy174; exact ⟨⟨Fh34, hFh341 ▸ h34e, hFh342, hFh343, fun _ _ => rfl⟩, knO_nil, few_nil⟩
        obtain ⟨i176, i176a, i176b, i176c, i176d⟩ := info_of (show (Tryz.prog.info? 35).map (fun i => (i.zero, i.size, i.bytes)) = some (some (.agg #[.slice none 0 0, .slice none 0 0, .slice none 0 0]), 3, 72) by kernel_rfl)
        refine s_app (base := base) (n := K.length) (xs := (flatE encP K)) (m := 1) (news := encP y173) n161.ok (wn _ rfl) rfl Tryz.underlying22 i176a i176b i176c i176d rfl (by omega) (n161.ne rfl (n159.ne rfl n157.at_)) O171 n161.at_ rfl ((by subst hy174; exact fun j u hu => by rw [add_n]; exact bk_part W164.bk (k := 0) rfl j u hu)) (encP_ok.one y173) (by simp only [maxLen]; omega) (by omega) z170 (fun an177 w178 v179 O182 gg183 n177 => ?_)
        obtain ⟨a180, c181, rfl, c181l⟩ := ow_form O182
        have G184 := Gr.grown G168 gg183 (fun k e => Nat.le_trans l2 (ow_lt O171 k e))
        have B185 := B169.grown_ne gg183 l68
        have B186 := W164.bk.grown_ne gg183 l167
        have z187 := Nat.le_trans z170 gg183.size
        have F188 := F172.tk (tk_grown O171 gg183 (by decide))
        have F189 := q175.tk (tk_grown O171 gg183 (by decide))
        have O190 : w178.ownsRow base 35 3 (.slice a180 ((K.length + 1)) c181) ((K.length + 1)) ((flatE encP (K ++ [y173]))) := by have h := O182; rw [← flatE_one (enc := encP) y173, ← flatE_app] at h; exact h
        have hps191 := F188.snoc F189
        refine sv n177.ok rfl (wn _ rfl) rfl (o_as n177.at_) (fun an192 n192 => ?_)
        refine wpList_nil ?_
        refine ib_n ?_
        refine th_n (hK31 _ _ ?_)
        refine wp_region_lit ?_
        have e193 := n192.ne rfl (n177.ne rfl (n161.ne rfl (n159.ne rfl (n157.ne rfl (n86.ne rfl (n85.ne rfl (n84.ne rfl (n82.ne rfl (n63.ne rfl (n62.ne rfl (n61.ne rfl (n49.ne rfl (n42.ne rfl (n41.ne rfl (n38.ne rfl (n37.ne rfl (n36.ne rfl (n35.ne rfl (n33.ne rfl (n28.ne rfl s15I20))))))))))))))))))))
        refine sv n192.ok rfl (wn _ rfl) rfl (o_add (r := ((i + 1 : Nat) : Int)) e193 ev_const (by omega) (by omega)) (fun an194 n194 => ?_)
        refine sv n194.ok rfl (wn _ rfl) rfl (o_mv n194.at_) (fun an195 n195 => ?_)
        refine wpList_nil ?_
        have e196 := n195.ne rfl (n194.ne rfl (n192.ne rfl (n177.ne rfl (n161.ne rfl (n159.ne rfl (n157.ne rfl (n86.ne rfl (n85.ne rfl (n84.ne rfl e83)))))))))
        have e197 := n195.ne rfl (n194.ne rfl (n192.ne rfl (n177.ne rfl (n161.ne rfl (n159.ne rfl (n157.ne rfl (n86.ne rfl (n85.ne rfl (n84.ne rfl (n82.ne rfl (n63.ne rfl (n62.ne rfl (n61.ne rfl (n49.ne rfl (n42.ne rfl (n41.ne rfl (n38.ne rfl (n37.ne rfl (n36.ne rfl (n35.ne rfl (n33.ne rfl (n28.ne rfl s4I20))))))))))))))))))))))
        have e198 := n195.ne rfl (n194.ne rfl (n192.ne rfl (n177.ne rfl (n161.ne rfl (n159.ne rfl (n157.ne rfl (n86.ne rfl (n85.ne rfl (n84.ne rfl (n82.ne rfl (n63.ne rfl (n62.ne rfl (n61.ne rfl (n49.ne rfl (n42.ne rfl (n41.ne rfl (n38.ne rfl (n37.ne rfl (n36.ne rfl (n35.ne rfl (n33.ne rfl (n28.ne rfl s13I20))))))))))))))))))))))
        have e199 := n195.ne rfl (n194.ne rfl (n192.ne rfl (n177.ne rfl (n161.ne rfl (n159.ne rfl (n157.ne rfl (n86.ne rfl (n85.ne rfl (n84.ne rfl (n82.ne rfl (n63.ne rfl (n62.ne rfl (n61.ne rfl (n49.ne rfl (n42.ne rfl (n41.ne rfl (n38.ne rfl (n37.ne rfl (n36.ne rfl (n35.ne rfl (n33.ne rfl (n28.ne rfl s14I20))))))))))))))))))))))
        exact th_n (hKI20 _ _ _ (by omega) ⟨i + 1, K ++ [y173], a180, c181, rfl, n195.ok, G184, e196, e197, (by simpa using (n195.ne rfl (n194.ne rfl n192.at_))), e198, e199, n195.at_, hps191, (by simpa using O190), z187, by omega, by rw [List.length_append, List.length_singleton]; omega⟩)
  · refine wp_cond_false ((n28.at_).trans (congrArg Value.bool (decide_eq_false c30))) ?_
    refine wp_exit ?_
    refine th_x ?_
    refine th_x ?_
    refine ib_x ?_
    refine th_n (hK9 _ _ ?_)
    refine wp_seq_k (fun K200 hK200 => ?_)
    refine wp_region_lit ?_
    refine sv n28.ok rfl (wn _ rfl) rfl (o_mv (n28.ne rfl s5I20)) (fun an201 n201 => ?_)
    refine sv n201.ok rfl (wn _ rfl) rfl (o_as n201.at_) (fun an202 n202 => ?_)
    refine wpList_nil ?_
    refine th_n (hK200 _ _ ?_)
    refine wp_ret ?_
    exact ret1 n202.ok rfl (n202.at_) ⟨K, _, rfl, by omega, z1 ▸ orI20, fpsI20.mean GI20, GI20⟩
set_option maxHeartbeats 8000000 in
set_option maxRecDepth 100000 in
theorem both_any (K L : List PtX) (va vb : Option Addr) (vc vd : Nat) (hl : K.length ≤ 30) (hl2 : L.length ≤ 30) (w : World) (hv : RdA encP 3 w va K) (hv2 : RdA encP 3 w vb L) (hm : MeansP w K) (hm2 : MeansP w L) :
    Calls Tryz.prog 22 #[.slice va K.length vc, .slice vb L.length vd] w fun e w' => ∃ r, e = .returned (.bool r) ∧ (r = true ↔ subP K L ∧ subP L K) ∧ Gr w w' := by
  refine enter (N := 33) Tryz.func22 rfl rfl rfl (fun a0 ok0 h0 => ?_)
  have e0_0 : a0.eval (.tmp 0) = .slice va K.length vc := h0 0 _ rfl
  have e0_1 : a0.eval (.tmp 1) = .slice vb L.length vd := h0 1 _ rfl
  clear h0
  have G0 := Gr.refl w
  refine wp_seq_k (fun K1 hK1 => ?_)
  refine wp_region_lit ?_
  refine sv ok0 rfl (wn _ rfl) rfl (o_as ev_const) (fun an2 n2 => ?_)
  refine wpList_nil ?_
  refine th_n (hK1 _ _ ?_)
  refine wp_seq_k (fun K3 hK3 => ?_)
  refine wp_region_lit ?_
  refine sv n2.ok rfl (wn _ rfl) rfl (o_mv (n2.ne rfl e0_0)) (fun an4 n4 => ?_)
  refine sv n4.ok rfl (wn _ rfl) rfl (o_mv (n4.ne rfl (n2.ne rfl e0_1))) (fun an5 n5 => ?_)
  refine sc n5.ok rfl (wn _ rfl) rfl (o_f2 Tryz.func24 rfl rfl rfl (n5.ne rfl n4.at_) n5.at_) (pwithin_ok K L va vb vc vd hl hl2 w (hv.gr G0) (hv2.gr G0) (hm.gr G0) (hm2.gr G0)) ?_
  rintro _ w7 ⟨b1, rfl, hb1, g8⟩
  refine ⟨_, rfl, fun an6 n6 => ?_⟩
  have G9 := G0.trans g8
  refine sv n6.ok rfl (wn _ rfl) rfl (o_mv n6.at_) (fun an10 n10 => ?_)
  refine sv n10.ok rfl (wn _ rfl) rfl (o_ex n10.at_ rfl) (fun an11 n11 => ?_)
  refine sv n11.ok rfl (wn _ rfl) rfl (o_ex (n11.ne rfl n10.at_) rfl) (fun an12 n12 => ?_)
  refine sv n12.ok rfl (wn _ rfl) rfl (o_as (n12.ne rfl n11.at_)) (fun an13 n13 => ?_)
  refine sv n13.ok rfl (wn _ rfl) rfl (o_as (n13.ne rfl n12.at_)) (fun an14 n14 => ?_)
  refine wpList_nil ?_
  refine th_n (hK3 _ _ ?_)
  refine wp_seq_k (fun K15 hK15 => ?_)
  refine wp_region_lit ?_
  have e16 := n14.ne rfl (n13.ne rfl (n12.ne rfl (n11.ne rfl (n10.ne rfl (n6.ne rfl (n5.ne rfl (n4.ne rfl (n2.ne rfl e0_1))))))))
  refine sv n14.ok rfl (wn _ rfl) rfl (o_mv e16) (fun an17 n17 => ?_)
  have e18 := n17.ne rfl (n14.ne rfl (n13.ne rfl (n12.ne rfl (n11.ne rfl (n10.ne rfl (n6.ne rfl (n5.ne rfl (n4.ne rfl (n2.ne rfl e0_0)))))))))
  refine sv n17.ok rfl (wn _ rfl) rfl (o_mv e18) (fun an19 n19 => ?_)
  refine sc n19.ok rfl (wn _ rfl) rfl (o_f2 Tryz.func24 rfl rfl rfl (n19.ne rfl n17.at_) n19.at_) (pwithin_ok L K vb va vd vc hl2 hl w7 (hv2.gr G9) (hv.gr G9) (hm2.gr G9) (hm.gr G9)) ?_
  rintro _ w21 ⟨b2, rfl, hb2, g22⟩
  refine ⟨_, rfl, fun an20 n20 => ?_⟩
  have G23 := G9.trans g22
  refine sv n20.ok rfl (wn _ rfl) rfl (o_mv n20.at_) (fun an24 n24 => ?_)
  refine sv n24.ok rfl (wn _ rfl) rfl (o_ex n24.at_ rfl) (fun an25 n25 => ?_)
  refine sv n25.ok rfl (wn _ rfl) rfl (o_ex (n25.ne rfl n24.at_) rfl) (fun an26 n26 => ?_)
  refine sv n26.ok rfl (wn _ rfl) rfl (o_as (n26.ne rfl n25.at_)) (fun an27 n27 => ?_)
  refine sv n27.ok rfl (wn _ rfl) rfl (o_as (n27.ne rfl n26.at_)) (fun an28 n28 => ?_)
  refine wpList_nil ?_
  refine th_n (hK15 _ _ ?_)
  refine wp_seq_k (fun K29 hK29 => ?_)
  refine wp_region_lit ?_
  have e30 := n28.ne rfl (n27.ne rfl (n26.ne rfl (n25.ne rfl (n24.ne rfl (n20.ne rfl (n19.ne rfl (n17.ne rfl n14.at_)))))))
  refine sv n28.ok rfl (wn _ rfl) rfl (o_mv e30) (fun an31 n31 => ?_)
  refine sv n31.ok rfl (wn _ rfl) rfl (o_eq (b := true) n31.at_ ev_const (by decide)) (fun an32 n32 => ?_)
  refine sv n32.ok rfl (wn _ rfl) rfl (o_mv n32.at_) (fun an33 n33 => ?_)
  have e34 := n33.ne rfl (n32.ne rfl (n31.ne rfl n28.at_))
  refine sv n33.ok rfl (wgT rfl (yl 2 true rfl n33.at_) rfl) rfl (o_mv e34) (fun an35 n35 => ?_)
  refine sv n35.ok rfl (wgT rfl (yl 2 true rfl (n35.ne rfl n33.at_)) rfl) rfl (o_eq (b := true) n35.at_ ev_const (by decide)) (fun an36 n36 => ?_)
  refine sv n36.ok rfl (wn _ rfl) rfl (o_pkT (n36.ne rfl (n35.ne rfl n33.at_)) n36.at_) (fun an37 n37 => ?_)
  refine sv n37.ok rfl (wn _ rfl) rfl (o_mv n37.at_) (fun an38 n38 => ?_)
  have e39 := n38.ne rfl (n37.ne rfl (n36.ne rfl (n35.ne rfl (n33.ne rfl (n32.ne rfl (n31.ne rfl (n28.ne rfl (n27.ne rfl (n26.ne rfl (n25.ne rfl (n24.ne rfl (n20.ne rfl (n19.ne rfl (n17.ne rfl (n14.ne rfl n13.at_)))))))))))))))
  refine sv n38.ok rfl (wgT rfl (yl 6 true rfl n38.at_) rfl) rfl (o_mv e39) (fun an40 n40 => ?_)
  refine sv n40.ok rfl (wn _ rfl) rfl (o_pkT (n40.ne rfl n38.at_) n40.at_) (fun an41 n41 => ?_)
  refine sv n41.ok rfl (wn _ rfl) rfl (o_mv n41.at_) (fun an42 n42 => ?_)
  cases c43 : b1
  · have e44 := (n42.at_).trans (congrArg Value.bool (c43))
    have e45 := n42.ne rfl (n41.ne rfl (n40.ne rfl (n38.ne rfl (n37.ne rfl (n36.ne rfl (n35.ne rfl (n33.ne rfl (n32.ne rfl (n31.ne rfl (n28.ne rfl (n27.ne rfl (n26.ne rfl (n25.ne rfl (n24.ne rfl (n20.ne rfl (n19.ne rfl (n17.ne rfl (n14.ne rfl (n13.ne rfl (n12.ne rfl n11.at_))))))))))))))))))))
    have e46 := (e45).trans (congrArg Value.bool (c43))
    have e47 := n42.ne rfl (n41.ne rfl (n40.ne rfl e39))
    have e48 := (e47).trans (congrArg Value.bool (c43))
    have e49 := ((n42.ne rfl (n41.ne rfl n40.at_))).trans (congrArg Value.bool (c43))
    have e50 := ((n42.ne rfl n41.at_)).trans (congrArg Value.bool (c43))
    refine sn n42.ok rfl (wgF rfl (yl 9 false rfl e44) rfl) rfl (fun an51 n51 => ?_)
    refine sv n51.ok rfl (wn _ rfl) rfl (o_pkF (n51.ne rfl e44) ev_const) (fun an52 n52 => ?_)
    refine sv n52.ok rfl (wn _ rfl) rfl (o_as n52.at_) (fun an53 n53 => ?_)
    refine wpList_nil ?_
    refine th_n (hK29 _ _ ?_)
    refine wp_ret ?_
    exact ret1 n53.ok rfl (n53.at_) ⟨_, rfl, by rw [← hb1, ← hb2]; simp [c43], G23⟩
  · have e54 := (n42.at_).trans (congrArg Value.bool (c43))
    have e55 := n42.ne rfl (n41.ne rfl (n40.ne rfl (n38.ne rfl (n37.ne rfl (n36.ne rfl (n35.ne rfl (n33.ne rfl (n32.ne rfl (n31.ne rfl (n28.ne rfl (n27.ne rfl (n26.ne rfl (n25.ne rfl (n24.ne rfl (n20.ne rfl (n19.ne rfl (n17.ne rfl (n14.ne rfl (n13.ne rfl (n12.ne rfl n11.at_))))))))))))))))))))
    have e56 := (e55).trans (congrArg Value.bool (c43))
    have e57 := n42.ne rfl (n41.ne rfl (n40.ne rfl e39))
    have e58 := (e57).trans (congrArg Value.bool (c43))
    have e59 := ((n42.ne rfl (n41.ne rfl n40.at_))).trans (congrArg Value.bool (c43))
    have e60 := ((n42.ne rfl n41.at_)).trans (congrArg Value.bool (c43))
    have e61 := n42.ne rfl (n41.ne rfl (n40.ne rfl (n38.ne rfl (n37.ne rfl (n36.ne rfl (n35.ne rfl (n33.ne rfl (n32.ne rfl (n31.ne rfl (n28.ne rfl n27.at_))))))))))
    refine sv n42.ok rfl (wgT rfl (yl 9 true rfl e54) rfl) rfl (o_mv e61) (fun an62 n62 => ?_)
    refine sv n62.ok rfl (wn _ rfl) rfl (o_pkT (n62.ne rfl e54) n62.at_) (fun an63 n63 => ?_)
    refine sv n63.ok rfl (wn _ rfl) rfl (o_as n63.at_) (fun an64 n64 => ?_)
    refine wpList_nil ?_
    refine th_n (hK29 _ _ ?_)
    refine wp_ret ?_
    exact ret1 n64.ok rfl (n64.at_) ⟨_, rfl, by rw [← hb1, ← hb2]; simp [c43], G23⟩
theorem both_eq (K L : List PtX) (va vb : Option Addr) (vc vd : Nat) (hl : K.length ≤ 30) (hl2 : L.length ≤ 30) (hE : EqP K L) (w : World) (hv : RdA encP 3 w va K) (hv2 : RdA encP 3 w vb L) (hm : MeansP w K) (hm2 : MeansP w L) :
    Calls Tryz.prog 22 #[.slice va K.length vc, .slice vb L.length vd] w fun e w' => e = .returned (.bool true) ∧ Gr w w' := by
  refine (both_any K L va vb vc vd hl hl2 w hv hv2 hm hm2).mono ?_
  rintro e w' ⟨r, rfl, h, g⟩
  rw [h.2 ⟨hE.sub, hE.symm.sub⟩]
  exact ⟨rfl, g⟩
/-- small lists joined -/
theorem pjoin_small (K L : List PtX) (va vb : Option Addr) (vc vd : Nat) (hl : K.length + L.length ≤ 30) (hc : K.length ≤ vc) (hc2 : L.length ≤ vd) (hn : va = none → vc = 0) (hn2 : vb = none → vd = 0) (w : World) (hv : RdA encP 3 w va K) (hv2 : RdA encP 3 w vb L) (hm : MeansP w K) (hm2 : MeansP w L) :
    Calls Tryz.prog 9 #[.slice va K.length vc, .slice vb L.length vd] w fun e w' => ∃ (F : List PtX) (a : Option Addr) (c : Nat), e = .returned (.tuple #[.slice a F.length c, .int .i64 0]) ∧ F.length ≤ c ∧ (a = none → c = 0) ∧ F.length ≤ K.length + L.length ∧ EqP F (K ++ L) ∧ FewP F ∧ RdA encP 3 w' a F ∧ MeansP w' F ∧ Gr w w' := by
  refine (pjoin_ok K L va vb vc vd (by omega) (by omega) hc hc2 hn hn2 w hv hv2 hm hm2).mono ?_
  rintro e w' ⟨R, hR, hres, g⟩
  have hRl : R.length = K.length + L.length := by have := congrArg List.length hR; simpa using this
  have hF := fewP_len R
  rcases hres with ⟨h1, v, rfl, h2, h3⟩ | ⟨h1, -⟩
  · have hOk : ∀ y ∈ R, OkT y.T := fun y hy => by
      have : y.m ∈ (K ++ L).map (nar fullT) := hR ▸ List.mem_map_of_mem hy
      obtain ⟨x, hx, e⟩ := List.mem_map.1 this
      have hT : OkT x.T := (List.mem_append.1 hx).elim (fun q => (hm x q).fs.okT) (fun q => (hm2 x q).fs.okT)
      have e1 : y.T = fun t => x.T t &&& fullT t := (congrArg Prod.fst e).symm
      rw [e1]
      exact okT_and hT
    obtain ⟨a, c, rfl, hac⟩ := ow_form h2
    refine ⟨fewP R, a, c, rfl, hac, fun q => ?_, by omega, (fewP_has hOk).trans (full_has hR), fewP_few R, RdA.own encP_ok h2 rfl, h3.mean, g⟩
    subst q
    obtain ⟨-, ⟨e1, -⟩ | ⟨g', cap, cur, e1, -⟩⟩ := h2
    · injection e1
    · injection e1 with e1; cases e1
  · omega
theorem FSn.form {n : Nat} {w : World} {v : Value} {T : Nat → Nat} (h : FSn n w v T) : ∃ a l c, v = .slice a l c := by
  obtain ⟨F, ⟨a, c, rfl, -⟩, -⟩ := h
  exact ⟨a, _, c, rfl⟩
theorem pbegun_join (b bi : Nat) (fa : Option Addr) (fn fc : Nat) (t t' : TypeId) (w : World) (hb : Bk w b #[.slice fa fn fc, .slice (some ⟨bi, 0, none⟩) 1 1, .slice none 0 0] t) (hbi : Bk w bi #[.int .i64 1] t') (hev : FS w (.slice fa fn fc) fullT) :
    Calls Tryz.prog 9 #[.slice none 0 0, .slice (some ⟨b, 0, none⟩) 1 1] w fun e w' => ∃ a c, e = .returned (.tuple #[.slice a 1 c, .int .i64 0]) ∧ Gr w w' := by
  have ok1 : OkV [1] [] := ⟨by simp, by simp, by simp, by simp, by simp⟩
  obtain ⟨q1, q2⟩ := form_self ok1
  have hm : MeanP w ⟨fa, fn, fc, some ⟨bi, 0, none⟩, 1, 1, none, 0, 0, fullT, memB [1] []⟩ := by
    refine ⟨hev, ?_, ?_⟩
    · show KnR w _ (ints (formV (memB [1] []))) (pairs (formM (memB [1] [])))
      rw [q1, q2]
      exact knR_vec1 hbi
    · show (formM (memB [1] [])).length ≤ 60
      rw [q2]; simp
  obtain ⟨x, hx⟩ : ∃ x : PtX, x = ⟨fa, fn, fc, some ⟨bi, 0, none⟩, 1, 1, none, 0, 0, fullT, memB [1] []⟩ := ⟨_, rfl⟩
  rw [← hx] at hm
  have hr : RdA encP 3 w (some ⟨b, 0, none⟩) [x] := fun _ => ⟨b, 0, rfl, hb.lt, fun i y hy j u hu => by
    match i, hy with
    | 0, hy =>
      simp at hy
      subst hy
      rw [hx] at hu
      have := bk_part hb (k := 0) (l := [.slice fa fn fc, .slice (some ⟨bi, 0, none⟩) 1 1, .slice none 0 0]) rfl j u hu
      simpa using this
    | i + 1, hy => simp at hy⟩
  have h := pjoin_ok [] [x] none (some ⟨b, 0, none⟩) 0 1 (by simp) (by simp) (by simp) (by simp) (fun _ => rfl) (fun q => by cases q) w (fun q => absurd rfl q) hr (fun y hy => by cases hy) (fun y hy => by rw [List.mem_singleton.1 hy]; exact hm)
  refine h.mono ?_
  rintro e w' ⟨R, hR, hres, g⟩
  obtain ⟨y, rfl, hy⟩ : ∃ y, R = [y] ∧ y.m = nar fullT x := by
    match R, hR with
    | [y], hR => exact ⟨y, rfl, by simpa using hR⟩
    | [], hR => simp at hR
    | a :: c :: r, hR => simp at hR
  have hyT : y.T = fun t => fullT t &&& fullT t := by have := congrArg Prod.fst hy; rw [hx] at this; exact this
  have hyD : y.D = memB [1] [] := by have := congrArg Prod.snd hy; rw [hx] at this; exact this
  have he : emptyP y = false := by
    unfold emptyP
    rw [hyT, hyD, q1, q2, ok1.count]
    have : (cntT fun t => fullT t &&& fullT t) = 512 := by decide +kernel
    rw [this]
    rfl
  have hf : fewP [y] = [y] := by
    unfold fewP
    simp only [List.foldl_cons, List.foldl_nil, stepP, he]
    rfl
  rw [hf] at hres
  rcases hres with ⟨-, v, rfl, h2, -⟩ | ⟨h1, -⟩
  · obtain ⟨a, c, rfl, -⟩ := ow_form h2
    exact ⟨a, c, rfl, g⟩
  · simp at h1
set_option maxHeartbeats 8000000 in
set_option maxRecDepth 100000 in
theorem partBegun_any  (w : World) :
    Calls Tryz.prog 20 #[] w fun e w' => e = .returned (.bool true) ∧ Gr w w' := by
  refine enter (N := 19) Tryz.func20 rfl rfl rfl (fun a0 ok0 h0 => ?_)
  clear h0
  have G0 := Gr.refl w
  refine wp_seq_k (fun K1 hK1 => ?_)
  refine wp_region_lit ?_
  refine sv ok0 rfl (wn _ rfl) rfl (o_as ev_const) (fun an2 n2 => ?_)
  refine wpList_nil ?_
  refine th_n (hK1 _ _ ?_)
  refine wp_seq_k (fun K3 hK3 => ?_)
  refine wp_region_lit ?_
  refine sc n2.ok rfl (wn _ rfl) rfl (o_f0 Tryz.func12 rfl rfl rfl ) (fevery w) ?_
  rintro _ w5 ⟨ev, rfl, hev, g6⟩
  obtain ⟨fa, fn, fc, rfl⟩ := hev.form
  refine ⟨_, rfl, fun an4 n4 => ?_⟩
  have G7 := G0.trans g6
  obtain ⟨i8, i8a, i8b, i8c⟩ := info3_of (show (Tryz.prog.info? 3).map (fun i => (i.zero, i.size)) = some (some (.int .i64 0), 1) by kernel_rfl)
  refine sals (cs := #[.int .i64 1]) n4.ok rfl (wn _ rfl) rfl (o_bs (vs := [(0, .int .i64 1)]) (by simp [ev_const]) Tryz.underlying30 i8a i8b (by rw [i8c]; rfl) (by rw [i8c]; rfl) (by rw [i8c]; kernel_rfl)) (fun an9 w11 b10 W12 n9 => ?_)
  have l13 : w.heap.size ≤ b10 := by rw [W12.eq]; exact G7.size
  have G14 := G7.trans W12.gr
  have F15 := hev.gr W12.gr
  refine sv n9.ok rfl (wn _ rfl) rfl (o_bd (cells := #[.slice (some ⟨b10, 0, none⟩) 1 1, .slice none 0 0]) (vs := [(0, .slice (some ⟨b10, 0, none⟩) 1 1)]) (by simp [n9.at_, ev_const]) (by kernel_rfl)) (fun an16 n16 => ?_)
  refine sv n16.ok rfl (wn _ rfl) rfl (o_bd (cells := #[.slice fa fn fc, .slice (some ⟨b10, 0, none⟩) 1 1, .slice none 0 0]) (vs := [(0, .slice fa fn fc), (1, .agg #[.slice (some ⟨b10, 0, none⟩) 1 1, .slice none 0 0])]) (by simp [(n16.ne rfl (n9.ne rfl n4.at_)), n16.at_, ev_const]) (by kernel_rfl)) (fun an17 n17 => ?_)
  obtain ⟨i18, i18a, i18b, i18c⟩ := info3_of (show (Tryz.prog.info? 35).map (fun i => (i.zero, i.size)) = some (some (.agg #[.slice none 0 0, .slice none 0 0, .slice none 0 0]), 3) by kernel_rfl)
  refine sals (cs := #[.slice fa fn fc, .slice (some ⟨b10, 0, none⟩) 1 1, .slice none 0 0]) n17.ok rfl (wn _ rfl) rfl (o_bs (vs := [(0, .agg #[.slice fa fn fc, .slice (some ⟨b10, 0, none⟩) 1 1, .slice none 0 0])]) (by simp [n17.at_, ev_const]) Tryz.underlying22 i18a i18b (by rw [i18c]; rfl) (by rw [i18c]; rfl) (by rw [i18c]; kernel_rfl)) (fun an19 w21 b20 W22 n19 => ?_)
  have l23 : b10 < b20 := by rw [W22.eq]; exact W12.bk.lt
  have l24 : w.heap.size ≤ b20 := by rw [W22.eq]; exact G14.size
  have G25 := G14.trans W22.gr
  have B26 := W12.bk.gr W22.gr
  have F27 := F15.gr W22.gr
  refine sc n19.ok rfl (wn _ rfl) rfl (o_f2 Tryz.func9 rfl rfl rfl ev_const n19.at_) (pbegun_join b20 b10 fa fn fc _ _ w21 W22.bk B26 (F27.le (by decide))) ?_
  rintro _ w29 ⟨ja, jc, rfl, g30⟩
  refine ⟨_, rfl, fun an28 n28 => ?_⟩
  have G31 := G25.trans g30
  have B32 := B26.gr g30
  have B33 := W22.bk.gr g30
  have F34 := F27.gr g30
  refine sv n28.ok rfl (wn _ rfl) rfl (o_mv n28.at_) (fun an35 n35 => ?_)
  refine sv n35.ok rfl (wn _ rfl) rfl (o_ex n35.at_ rfl) (fun an36 n36 => ?_)
  refine sv n36.ok rfl (wn _ rfl) rfl (o_ex (n36.ne rfl n35.at_) rfl) (fun an37 n37 => ?_)
  refine sv n37.ok rfl (wn _ rfl) rfl (o_as (n37.ne rfl n36.at_)) (fun an38 n38 => ?_)
  refine sv n38.ok rfl (wn _ rfl) rfl (o_as (n38.ne rfl n37.at_)) (fun an39 n39 => ?_)
  refine wpList_nil ?_
  refine th_n (hK3 _ _ ?_)
  refine wp_seq_k (fun K40 hK40 => ?_)
  refine wp_region_lit ?_
  refine sv n39.ok rfl (wn _ rfl) rfl (o_mv n39.at_) (fun an41 n41 => ?_)
  refine sv n41.ok rfl (wn _ rfl) rfl (o_eq (b := true) n41.at_ ev_const (by decide)) (fun an42 n42 => ?_)
  refine sv n42.ok rfl (wn _ rfl) rfl (o_mv n42.at_) (fun an43 n43 => ?_)
  have e44 := n43.ne rfl (n42.ne rfl (n41.ne rfl (n39.ne rfl n38.at_)))
  refine sv n43.ok rfl (wgT rfl (yl 2 true rfl n43.at_) rfl) rfl (o_mv e44) (fun an45 n45 => ?_)
  refine sv n45.ok rfl (wgT rfl (yl 2 true rfl (n45.ne rfl n43.at_)) rfl) rfl (o_len n45.at_ Tryz.underlying22) (fun an46 n46 => ?_)
  refine sv n46.ok rfl (wgT rfl (yl 2 true rfl (n46.ne rfl (n45.ne rfl n43.at_))) rfl) rfl (o_eq (b := true) n46.at_ ev_const (by decide)) (fun an47 n47 => ?_)
  have e48 := n47.ne rfl (n46.ne rfl (n45.ne rfl n43.at_))
  refine sv n47.ok rfl (wn _ rfl) rfl (o_pkT e48 n47.at_) (fun an49 n49 => ?_)
  refine sv n49.ok rfl (wn _ rfl) rfl (o_as n49.at_) (fun an50 n50 => ?_)
  refine wpList_nil ?_
  refine th_n (hK40 _ _ ?_)
  refine wp_ret ?_
  exact ret1 n50.ok rfl (n50.at_) ⟨rfl, G31⟩
end Go.Proofs.YtghjfakellaecaaGreat

/- What the laws on parts need. -/
set_option linter.unusedVariables false
set_option linter.unusedSimpArgs false
namespace Rm
open Go Go.RowKit Gx
def hasV (K : List PtX) (t n a c : Int) : Bool := pointB t n && dotB (a, c) && K.any fun x => bitT x.T t n && hasD x.D a c
theorem hasV_in {K : List PtX} {t n a c : Nat} (ht : t < 16) (hn : n < 32) (hi : inR a c) : hasV K (t : Int) (n : Int) (a : Int) (c : Int) = hasP K t n a c := by
  unfold hasV hasP
  have hd : dotB ((a : Int), (c : Int)) = true := (dotB_iff _).2 ⟨by simp, by have := hi.1; simp only; omega, by have := hi.2.1; simp only; omega, by have := hi.2.2; simp only; omega⟩
  rw [pointB_nat ht hn, hd, Bool.true_and, Bool.true_and]
  congr 1
  funext x
  have h1 : bitT x.T (t : Int) (n : Int) = (x.T t).testBit n := by unfold bitT; rw [pointB_nat ht hn]; simp
  have h2 : hasD x.D (a : Int) (c : Int) = x.D a c := by unfold hasD; rw [hd]; simp
  rw [h1, h2]
theorem hasV_out {K : List PtX} {t n a c : Int} (h : (pointB t n && dotB (a, c)) = false) : hasV K t n a c = false := by
  unfold hasV; rw [h, Bool.false_and]
theorem inR_of {a c : Int} (h : dotB (a, c) = true) : ∃ x y : Nat, a = x ∧ c = y ∧ inR x y := by
  obtain ⟨h1, h2, h3, h4⟩ := (dotB_iff _).1 h
  simp only at h1 h2 h3 h4
  exact ⟨a.toNat, c.toNat, by omega, by omega, by omega, by omega, by omega⟩
theorem hasV_app {F K L : List PtX} (h : EqP F (K ++ L)) (t n a c : Int) : hasV F t n a c = (hasV K t n a c || hasV L t n a c) := by
  cases hp : (pointB t n && dotB (a, c))
  · rw [hasV_out hp, hasV_out hp, hasV_out hp]; rfl
  · obtain ⟨h1, h2⟩ := Bool.and_eq_true_iff.1 hp
    obtain ⟨x, y, hx, hy, rfl, rfl⟩ := point_of h1
    obtain ⟨u, v, rfl, rfl, hi⟩ := inR_of h2
    rw [hasV_in hx hy hi, hasV_in hx hy hi, hasV_in hx hy hi, h x y u v hx hy hi, hasP_app]
theorem eqP_comm (K L : List PtX) : EqP (K ++ L) (L ++ K) := fun t n a c _ _ _ => by rw [hasP_app, hasP_app, Bool.or_comm]
theorem eqP_absorb {F K L : List PtX} (h : EqP F (K ++ L)) : EqP (F ++ K) F := fun t n a c h1 h2 h3 => by
  rw [hasP_app, h t n a c h1 h2 h3, hasP_app]
  cases hasP K t n a c <;> cases hasP L t n a c <;> rfl
theorem sub_app {F K L : List PtX} (h : EqP F (K ++ L)) : subP K F := fun t n a c h1 h2 h3 hk => by rw [h t n a c h1 h2 h3, hasP_app, hk]; rfl
theorem sub_both {F K L Z : List PtX} (h : EqP F (K ++ L)) : subP F Z ↔ subP K Z ∧ subP L Z := by
  constructor
  · intro q
    refine ⟨fun t n a c h1 h2 h3 hk => q t n a c h1 h2 h3 ?_, fun t n a c h1 h2 h3 hk => q t n a c h1 h2 h3 ?_⟩
    · rw [h t n a c h1 h2 h3, hasP_app, hk]; rfl
    · rw [h t n a c h1 h2 h3, hasP_app, hk]; simp
  · rintro ⟨q1, q2⟩ t n a c h1 h2 h3 hk
    rw [h t n a c h1 h2 h3, hasP_app, Bool.or_eq_true] at hk
    exact hk.elim (q1 t n a c h1 h2 h3) (q2 t n a c h1 h2 h3)
theorem subP_trans {K L M : List PtX} (h : subP K L) (k : subP L M) : subP K M := fun t n a c h1 h2 h3 q => k t n a c h1 h2 h3 (h t n a c h1 h2 h3 q)
theorem bool_of (p : Prop) : ∃ b : Bool, b = true ↔ p := by
  by_cases h : p
  · exact ⟨true, by simp [h]⟩
  · exact ⟨false, by simp [h]⟩
end Rm
namespace Go.Proofs.YtghjfakellaecaaGreat
open Go.RowKit Rm Gx
theorem ow_nil {w : World} {base s n c : Nat} {t : TypeId} {a : Option Addr} {xs : List Value} (h : w.ownsRow base t s (.slice a n c) n xs) : a = none → c = 0 := by
  rintro rfl
  obtain ⟨-, ⟨e1, -⟩ | ⟨g', cap, cur, e1, -⟩⟩ := h
  · injection e1
  · injection e1 with e1; cases e1
theorem rdf_gr (w w' : World) (u : Value) (x : List BoxI) (g : Gr w w') (h : RdF w u x) : RdF w' u x := h.gr g
theorem rdll_gr (w w' : World) (u : Value) (x : List (List Int)) (g : Gr w w') (h : RdLL w u x) : RdLL w' u x := h.gr g
theorem phas (K : List PtX) (va : Option Addr) (vc : Nat) (t n a c : Int) (w : World) (hl : K.length ≤ 30) (hv : RdA encP 3 w va K) (hm : MeansP w K) :
    Calls Tryz.prog 23 #[.slice va K.length vc, .agg #[.int .i64 t, .int .i64 n], .agg #[.int .i64 a, .int .i64 c]] w fun e w' => e = .returned (.tuple #[.bool (hasV K t n a c), .int .i64 (hasE t n a c)]) ∧ Gr w w' :=
  phas_ok K va vc t n a c w hl hv hm
theorem pwithin_b (K L : List PtX) (va vb : Option Addr) (vc vd : Nat) (b : Bool) (hb : b = true ↔ subP K L) (hl : K.length ≤ 30) (hl2 : L.length ≤ 30) (w : World) (hv : RdA encP 3 w va K) (hv2 : RdA encP 3 w vb L) (hm : MeansP w K) (hm2 : MeansP w L) :
    Calls Tryz.prog 24 #[.slice va K.length vc, .slice vb L.length vd] w fun e w' => e = .returned (.tuple #[.bool b, .int .i64 0]) ∧ Gr w w' := by
  refine (pwithin_ok K L va vb vc vd hl hl2 w hv hv2 hm hm2).mono ?_
  rintro e w' ⟨r, rfl, h, g⟩
  have : r = b := by rw [Bool.eq_iff_iff, h, hb]
  rw [this]
  exact ⟨rfl, g⟩
end Go.Proofs.YtghjfakellaecaaGreat

/- An argument that is a slice of boxes reads as a list. -/
namespace Go.Proofs.YtghjfakellaecaaGreat
open Go.ChangeShapes Go.WideShapes Go.ChangeAt Go.RowKit Go.Deep Rm
set_option linter.unusedVariables false

section
variable {H : Type} {enc : TypeId × Value → H} {W : World} {base : Nat} {spare : Nat → Bool} {held : Bool}
set_option maxRecDepth 100000 in
theorem spans_trod {fuel : Nat} {cs : List Value} {x : DataW H × List MemPlace} (h : DataW.trod enc Tryz.prog W base spare held fuel 92 cs = some x) : ∃ v l, cs = [v] ∧ Rd2 W v l := by
  rcases open_slice_pairs Tryz.underlying92 Tryz.underlying91 (by kernel_rfl) rfl rfl (by kernel_rfl) (by kernel_rfl) h with ⟨rfl, _⟩ | ⟨a, len, cap, m, n, V0, V1, D0, D1, P0, P1, rfl, hb, hl, hm, hmm, hx, hcell⟩
  · exact ⟨_, [], rfl, Rd2.nil W⟩
  · have hlm : len ≤ m := by rw [hmm]; split <;> omega
    obtain ⟨l, hl', _⟩ := rd2_of (W := W) (a := a) (V0 := V0) (V1 := V1) hl (fun i hi => ⟨(hcell i (by omega)).1, (hcell i (by omega)).2.1⟩) (fun i hi => by
      obtain ⟨_, _, t0, t1⟩ := hcell i (by omega)
      obtain ⟨x, ex, _, _⟩ := DataW.trod_int Tryz.underlying3 t0
      obtain ⟨y, ey, _, _⟩ := DataW.trod_int Tryz.underlying3 t1
      simp at ex ey
      exact ⟨x, y, ex, ey⟩)
    exact ⟨_, l, rfl, hl'⟩
theorem box_cells : Tryz.prog.cellsOf 96 = 3 := by kernel_rfl
theorem cube_cells : Tryz.prog.cellsOf 94 = 2 := by kernel_rfl
theorem int_cells : Tryz.prog.cellsOf 3 = 1 := by kernel_rfl
theorem spans_cells : Tryz.prog.cellsOf 92 = 1 := by kernel_rfl
set_option maxRecDepth 100000 in
theorem box_trod {fuel : Nat} {cs : List Value} {x : DataW H × List MemPlace} (h : DataW.trod enc Tryz.prog W base spare held fuel 96 cs = some x) : ∃ (p : BoxI) (sv : Value), cs = [.int .i64 p.1.1, .int .i64 p.1.2, sv] ∧ Rd2 W sv p.2 := by
  obtain ⟨xs, k, _, _, hlen, hxl, hf⟩ := DataW.trod_struct Tryz.underlying96 h
  rw [box_cells] at hlen
  have g0 : DataW.trod enc Tryz.prog W base spare held k 94 ((cs.drop 0).take (Tryz.prog.cellsOf 94)) = xs[0]? := hf 0 _ rfl
  have g1 : DataW.trod enc Tryz.prog W base spare held k 92 ((cs.drop 2).take (Tryz.prog.cellsOf 92)) = xs[1]? := hf 1 _ rfl
  rw [cube_cells] at g0
  rw [spans_cells] at g1
  match xs, hxl, cs, hlen with
  | [y0, y1], _, [v0, v1, v2], _ =>
    simp at g0 g1
    obtain ⟨ys, k', _, _, hlen', hyl, hf'⟩ := DataW.trod_struct Tryz.underlying94 g0
    have q0 : DataW.trod enc Tryz.prog W base spare held k' 3 (([v0, v1].drop 0).take (Tryz.prog.cellsOf 3)) = ys[0]? := hf' 0 _ rfl
    have q1 : DataW.trod enc Tryz.prog W base spare held k' 3 (([v0, v1].drop 1).take (Tryz.prog.cellsOf 3)) = ys[1]? := hf' 1 _ rfl
    rw [int_cells] at q0 q1
    match ys, hyl with
    | [z0, z1], _ =>
      simp at q0 q1
      obtain ⟨a, ea, _, _⟩ := DataW.trod_int Tryz.underlying3 q0
      obtain ⟨b, eb, _, _⟩ := DataW.trod_int Tryz.underlying3 q1
      simp at ea eb
      obtain ⟨sv, s, es, hs⟩ := spans_trod g1
      simp at es
      subst ea eb es
      exact ⟨((a, b), s), v2, rfl, hs⟩
set_option maxRecDepth 100000 in
theorem boxes_trod {fuel : Nat} {cs : List Value} {x : DataW H × List MemPlace} (h : DataW.trod enc Tryz.prog W base spare held fuel 23 cs = some x) : ∃ v l, cs = [v] ∧ RdF W v l := by
  rcases open_slice Tryz.underlying23 h with ⟨rfl, _⟩ | ⟨a, len, cap, m, n, D, Pl, rfl, hb, hl, hm, hmm, hx, hcell⟩
  · exact ⟨_, [], rfl, RdF.nil W⟩
  · have hlm : len ≤ m := by rw [hmm]; split <;> omega
    obtain ⟨q, hq⟩ := choose_lt (α := BoxI) (n := len) (p := fun i p => ∃ sv, W.cell? (a.add (i * 3)) = some (.int .i64 p.1.1) ∧ W.cell? (a.add (i * 3 + 1)) = some (.int .i64 p.1.2) ∧ W.cell? (a.add (i * 3 + 2)) = some sv ∧ Rd2 W sv p.2) (fun i hi => by
        obtain ⟨cs', h1, h2⟩ := hcell i (by omega)
        rw [box_cells] at h1
        obtain ⟨p, sv, rfl, hs⟩ := box_trod h2
        obtain ⟨_, _, hc⟩ := World.cells?_some h1
        have e0 := hc 0 (by omega)
        have e1 := hc 1 (by omega)
        have e2 := hc 2 (by omega)
        rw [add_add] at e0 e1 e2
        exact ⟨p, sv, by simpa using e0, by simpa using e1, by simpa using e2, hs⟩)
    refine ⟨_, (List.range len).map q, rfl, ⟨some a, cap, by simp, by simpa using hl, fun hne => ?_⟩⟩
    have h0 : 0 < len := by
      rcases Nat.eq_zero_or_pos len with h | h
      · subst h; simp at hne
      · exact h
    obtain ⟨b, off, spot⟩ := a
    obtain ⟨_, hc0, _⟩ := hq 0 h0
    have hspot : spot = none := by simpa [Addr.add] using World.cell?_spot hc0
    subst hspot
    have hlt : b < W.heap.size := by
      have := block_lt_of_cell hc0
      simpa [Addr.add] using this
    refine ⟨b, off, rfl, hlt, fun i p hp => ?_⟩
    have hil : i < len := by
      have := (List.getElem?_eq_some_iff.1 hp).1
      simpa using this
    have hp' : p = q i := by
      simp [List.getElem?_map, List.getElem?_range hil] at hp
      exact hp.symm
    subst hp'
    obtain ⟨sv, q1, q2, q3, q4⟩ := hq i hil
    rw [add_none] at q1 q2 q3
    exact ⟨sv, q1, by rw [Nat.add_assoc]; exact q2, by rw [Nat.add_assoc]; exact q3, q4⟩
set_option maxRecDepth 100000 in
theorem open_boxes {r : Reach} {b0 : Nat} {v : Value} {d : DataW H} {p : List MemPlace}
    (hv : Value.okWide Tryz.prog W r b0 23 v) (h : DataW.Trod enc Tryz.prog W base spare held 23 v d p) : ∃ l, RdF W v l := by
  obtain ⟨a0, len0, cap0, rfl⟩ := okWide_slice Tryz.underlying23 hv
  obtain ⟨fuel, hf⟩ := h
  obtain ⟨v, l, e, hl⟩ := boxes_trod hf
  simp [Value.cells] at e
  subst e
  exact ⟨l, hl⟩
end
end Go.Proofs.YtghjfakellaecaaGreat

/- Arguments: slices of slices of boxes, slices of slices of slices of integers. -/
set_option linter.unusedVariables false
namespace Go.Proofs.YtghjfakellaecaaGreat
open Go.ChangeShapes Go.WideShapes Go.ChangeAt Go.RowKit Go.Deep Rm Gx
section
variable {H : Type} {enc : TypeId × Value → H} {W : World} {base : Nat} {spare : Nat → Bool} {held : Bool}
set_option maxRecDepth 100000 in
theorem vals_trod {α : Type} [Inhabited α] {R : World → Value → α → Prop} {S E : TypeId} (hu : Tryz.prog.underlying S = some (.slice E)) (hc1 : Tryz.prog.cellsOf E = 1)
    (hE : ∀ (fuel : Nat) (cs : List Value) (x : DataW H × List MemPlace), DataW.trod enc Tryz.prog W base spare held fuel E cs = some x → ∃ u l, cs = [u] ∧ R W u l)
    {fuel : Nat} {cs : List Value} {x : DataW H × List MemPlace} (h : DataW.trod enc Tryz.prog W base spare held fuel S cs = some x) : ∃ (a : Option Addr) (L : List α) (c : Nat), cs = [.slice a L.length c] ∧ L.length ≤ c ∧ (a = none → c = 0) ∧ RdV R W a L := by
  rcases open_slice hu h with ⟨rfl, _⟩ | ⟨a, len, cap, m, n, D, Pl, rfl, hb, hl, hm, hmm, hx, hcell⟩
  · exact ⟨none, [], 0, rfl, Nat.le_refl _, fun _ => rfl, fun hn => absurd rfl hn⟩
  · have hlm : len ≤ m := by rw [hmm]; split <;> omega
    obtain ⟨q, hq⟩ := choose_lt (α := α) (n := len) (p := fun i p => ∃ u, W.cell? (a.add i) = some u ∧ R W u p) (fun i hi => by
        obtain ⟨cs', h1, h2⟩ := hcell i (by omega)
        rw [hc1] at h1
        obtain ⟨u, p, rfl, hs⟩ := hE _ _ _ h2
        obtain ⟨_, _, hc⟩ := World.cells?_some h1
        have e0 := hc 0 (by omega)
        rw [add_add] at e0
        exact ⟨p, u, by simpa using e0, hs⟩)
    refine ⟨some a, (List.range len).map q, cap, by simp, by simpa using hl, (fun e => by cases e), fun hne => ?_⟩
    have h0 : 0 < len := by
      rcases Nat.eq_zero_or_pos len with h | h
      · subst h; simp at hne
      · exact h
    obtain ⟨b, off, spot⟩ := a
    obtain ⟨_, hc0, _⟩ := hq 0 h0
    have hspot : spot = none := by simpa [Addr.add] using World.cell?_spot hc0
    subst hspot
    have hlt : b < W.heap.size := by
      have := block_lt_of_cell hc0
      simpa [Addr.add] using this
    refine ⟨b, off, rfl, hlt, fun i p hp => ?_⟩
    have hil : i < len := by
      have := (List.getElem?_eq_some_iff.1 hp).1
      simpa using this
    have hp' : p = q i := by
      simp [List.getElem?_map, List.getElem?_range hil] at hp
      exact hp.symm
    subst hp'
    obtain ⟨u, q1, q2⟩ := hq i hil
    rw [add_none] at q1
    exact ⟨u, by rw [Nat.mul_one]; exact q1, q2⟩
theorem boxrows_cells : Tryz.prog.cellsOf 23 = 1 := by kernel_rfl
theorem introws_cells : Tryz.prog.cellsOf 113 = 1 := by kernel_rfl
set_option maxRecDepth 100000 in
theorem open_boxrows {r : Reach} {b0 : Nat} {v : Value} {d : DataW H} {p : List MemPlace}
    (hv : Value.okWide Tryz.prog W r b0 53 v) (h : DataW.Trod enc Tryz.prog W base spare held 53 v d p) : ∃ (a : Option Addr) (L : List (List BoxI)) (c : Nat), v = .slice a L.length c ∧ L.length ≤ c ∧ RdV (fun w u x => RdF w u x) W a L := by
  obtain ⟨a0, len0, cap0, rfl⟩ := okWide_slice Tryz.underlying53 hv
  obtain ⟨fuel, hf⟩ := h
  obtain ⟨a, L, c, e, h1, -, h2⟩ := vals_trod (R := fun w u x => RdF w u x) Tryz.underlying53 boxrows_cells (fun _ _ _ q => boxes_trod q) hf
  simp [Value.cells] at e
  exact ⟨a, L, c, by simp [e], h1, h2⟩
set_option maxRecDepth 100000 in
theorem open_rows3 {r : Reach} {b0 : Nat} {v : Value} {d : DataW H} {p : List MemPlace}
    (hv : Value.okWide Tryz.prog W r b0 54 v) (h : DataW.Trod enc Tryz.prog W base spare held 54 v d p) : ∃ (a : Option Addr) (L : List (List (List Int))) (c : Nat), v = .slice a L.length c ∧ RdV (fun w u x => RdLL w u x) W a L := by
  obtain ⟨a0, len0, cap0, rfl⟩ := okWide_slice Tryz.underlying54 hv
  obtain ⟨fuel, hf⟩ := h
  obtain ⟨a, L, c, e, h1, -, h2⟩ := vals_trod (R := fun w u x => RdLL w u x) Tryz.underlying54 introws_cells (fun _ _ _ q => rows_trod q) hf
  simp [Value.cells] at e
  exact ⟨a, L, c, by simp [e], h2⟩
end
end Go.Proofs.YtghjfakellaecaaGreat

/- part.Narrow. -/
set_option linter.unusedVariables false
set_option linter.unusedSimpArgs false
namespace Go.Proofs.YtghjfakellaecaaGreat
open Go.RowKit Rm Gx
set_option maxHeartbeats 8000000 in
set_option maxRecDepth 100000 in
theorem pnarrow_ok (K : List PtX) (va : Option Addr) (vc : Nat) (fv : Value) (U : Nat → Nat) (hl : K.length ≤ 30) (w : World) (hv : RdA encP 3 w va K) (hm : MeansP w K) (hf : FS w fv U) :
    Calls Tryz.prog 10 #[.slice va K.length vc, fv] w fun e w' => ∃ R : List PtX, R.map PtX.m = K.map (nar U) ∧ ∃ v, e = .returned (.tuple #[v, .int .i64 0]) ∧ w'.ownsRow w.heap.size 35 3 v (fewP R).length (flatE encP (fewP R)) ∧ OwnsP w.heap.size w' (fewP R) ∧ Gr w w' := by
  refine enter (N := 22) Tryz.func10 rfl rfl rfl (fun a0 ok0 h0 => ?_)
  have e0_0 : a0.eval (.tmp 0) = .slice va K.length vc := h0 0 _ rfl
  have e0_1 : a0.eval (.tmp 1) = fv := h0 1 _ rfl
  clear h0
  have G0 := Gr.refl w
  refine wp_seq_k (fun K1 hK1 => ?_)
  refine wp_region_lit ?_
  refine sv ok0 rfl (wn _ rfl) rfl (o_as ev_const) (fun an2 n2 => ?_)
  refine sv n2.ok rfl (wn _ rfl) rfl (o_as ev_const) (fun an3 n3 => ?_)
  refine wpList_nil ?_
  refine th_n (hK1 _ _ ?_)
  refine wp_seq_k (fun K4 hK4 => ?_)
  refine wp_seq_k (fun K5 hK5 => ?_)
  refine wp_region_lit ?_
  refine sv n3.ok rfl (wn _ rfl) rfl (o_mv (n3.ne rfl (n2.ne rfl e0_0))) (fun an6 n6 => ?_)
  refine sc n6.ok rfl (wn _ rfl) rfl (o_f1 Tryz.func46 rfl rfl rfl n6.at_) (pcheck_ok K va vc w hl (hv.gr G0) (hm.gr G0)) ?_
  rintro _ w8 ⟨rfl, g9⟩
  refine ⟨_, rfl, fun an7 n7 => ?_⟩
  have G10 := G0.trans g9
  refine sv n7.ok rfl (wn _ rfl) rfl (o_as n7.at_) (fun an11 n11 => ?_)
  refine wpList_nil ?_
  refine th_n (hK5 _ _ ?_)
  refine wp_seq_k (fun K12 hK12 => ?_)
  refine wp_region_lit ?_
  refine sv n11.ok rfl (wn _ rfl) rfl (o_mv n11.at_) (fun an13 n13 => ?_)
  refine sv n13.ok rfl (wn _ rfl) rfl (o_neq (b := false) n13.at_ ev_const (by decide)) (fun an14 n14 => ?_)
  refine wpList_nil ?_
  refine th_n (hK12 _ _ ?_)
  refine wp_cond_false (n14.at_) ?_
  refine wp_skip ?_
  refine th_n (hK4 _ _ ?_)
  refine wp_seq_k (fun K15 hK15 => ?_)
  refine wp_seq_k (fun K16 hK16 => ?_)
  refine wp_region_lit ?_
  have e17 := n14.ne rfl (n13.ne rfl (n11.ne rfl (n7.ne rfl (n6.ne rfl (n3.ne rfl (n2.ne rfl e0_1))))))
  refine sv n14.ok rfl (wn _ rfl) rfl (o_mv e17) (fun an18 n18 => ?_)
  refine sc n18.ok rfl (wn _ rfl) rfl (o_f1 Tryz.func47 rfl rfl rfl n18.at_) (fcheck_ok (hf.gr G10)) ?_
  rintro _ w20 ⟨rfl, g21⟩
  refine ⟨_, rfl, fun an19 n19 => ?_⟩
  have G22 := G10.trans g21
  refine sv n19.ok rfl (wn _ rfl) rfl (o_as n19.at_) (fun an23 n23 => ?_)
  refine wpList_nil ?_
  refine th_n (hK16 _ _ ?_)
  refine wp_seq_k (fun K24 hK24 => ?_)
  refine wp_region_lit ?_
  refine sv n23.ok rfl (wn _ rfl) rfl (o_mv n23.at_) (fun an25 n25 => ?_)
  refine sv n25.ok rfl (wn _ rfl) rfl (o_neq (b := false) n25.at_ ev_const (by decide)) (fun an26 n26 => ?_)
  refine wpList_nil ?_
  refine th_n (hK24 _ _ ?_)
  refine wp_cond_false (n26.at_) ?_
  refine wp_skip ?_
  refine th_n (hK15 _ _ ?_)
  refine wp_seq_k (fun K27 hK27 => ?_)
  refine wp_region_lit ?_
  have e28 := n26.ne rfl (n25.ne rfl (n23.ne rfl (n19.ne rfl (n18.ne rfl (n14.ne rfl (n13.ne rfl (n11.ne rfl (n7.ne rfl (n6.ne rfl (n3.ne rfl (n2.ne rfl e0_0)))))))))))
  refine sv n26.ok rfl (wn _ rfl) rfl (o_mv e28) (fun an29 n29 => ?_)
  have e30 := n29.ne rfl (n26.ne rfl (n25.ne rfl (n23.ne rfl (n19.ne rfl (n18.ne rfl e17)))))
  refine sv n29.ok rfl (wn _ rfl) rfl (o_mv e30) (fun an31 n31 => ?_)
  have hGn := G22.size
  refine sc n31.ok rfl (wn _ rfl) rfl (o_f2 Tryz.func45 rfl rfl rfl (n31.ne rfl n29.at_) n31.at_) (narrow_any K va vc _ U (by omega) w20 (hv.gr G22) (hm.gr G22) (hf.gr G22)) ?_
  rintro _ w33 ⟨R, v1, rfl, hR, hO1, hP1, g34⟩
  obtain ⟨ra, rc, rfl, hrc⟩ := ow_form hO1
  have hRl : R.length = (K).length := by have := congrArg List.length hR; simpa using this
  refine ⟨_, rfl, fun an32 n32 => ?_⟩
  have G35 := G22.trans g34
  refine sc n32.ok rfl (wn _ rfl) rfl (o_f1 Tryz.func44 rfl rfl rfl n32.at_) (reduce_any R ra rc (by omega) w33 (RdA.own encP_ok hO1 rfl) (OwnsP.mean hP1)) ?_
  rintro _ w37 ⟨v2, rfl, hO2, g38⟩
  obtain ⟨qa, qc, rfl, hqc⟩ := ow_form hO2
  refine ⟨_, rfl, fun an36 n36 => ?_⟩
  have G39 := G35.trans g38
  have F40 := ow_gr hO1 g38
  have F41 := hP1.tk (tk_gr g38)
  refine sv n36.ok rfl (wn _ rfl) rfl (o_as n36.at_) (fun an42 n42 => ?_)
  refine sv n42.ok rfl (wn _ rfl) rfl (o_as ev_const) (fun an43 n43 => ?_)
  refine wpList_nil ?_
  refine th_n (hK27 _ _ ?_)
  refine wp_ret ?_
  exact ret2 n43.ok rfl ((n43.ne rfl n42.at_)) (n43.at_) ⟨R, hR, _, rfl, (ow_lessP hO2 G35.size), (fun x hx => (F41 x (fewP_mem hx)).base hGn), G39⟩
set_option maxHeartbeats 8000000 in
set_option maxRecDepth 100000 in
theorem pnarrow_badF (K : List PtX) (va : Option Addr) (vc : Nat) (fv : Value) (l : List BoxI) (hl : K.length ≤ 30) (hne : ¬ chkF l = 0) (w : World) (hv : RdA encP 3 w va K) (hm : MeansP w K) (hf : RdF w fv l) :
    Calls Tryz.prog 10 #[.slice va K.length vc, fv] w fun e w' => e = .returned (.tuple #[.slice none 0 0, .int .i64 (chkF l)]) ∧ Gr w w' := by
  refine enter (N := 22) Tryz.func10 rfl rfl rfl (fun a0 ok0 h0 => ?_)
  have e0_0 : a0.eval (.tmp 0) = .slice va K.length vc := h0 0 _ rfl
  have e0_1 : a0.eval (.tmp 1) = fv := h0 1 _ rfl
  clear h0
  have G0 := Gr.refl w
  refine wp_seq_k (fun K1 hK1 => ?_)
  refine wp_region_lit ?_
  refine sv ok0 rfl (wn _ rfl) rfl (o_as ev_const) (fun an2 n2 => ?_)
  refine sv n2.ok rfl (wn _ rfl) rfl (o_as ev_const) (fun an3 n3 => ?_)
  refine wpList_nil ?_
  refine th_n (hK1 _ _ ?_)
  refine wp_seq_k (fun K4 hK4 => ?_)
  refine wp_seq_k (fun K5 hK5 => ?_)
  refine wp_region_lit ?_
  refine sv n3.ok rfl (wn _ rfl) rfl (o_mv (n3.ne rfl (n2.ne rfl e0_0))) (fun an6 n6 => ?_)
  refine sc n6.ok rfl (wn _ rfl) rfl (o_f1 Tryz.func46 rfl rfl rfl n6.at_) (pcheck_ok K va vc w hl (hv.gr G0) (hm.gr G0)) ?_
  rintro _ w8 ⟨rfl, g9⟩
  refine ⟨_, rfl, fun an7 n7 => ?_⟩
  have G10 := G0.trans g9
  refine sv n7.ok rfl (wn _ rfl) rfl (o_as n7.at_) (fun an11 n11 => ?_)
  refine wpList_nil ?_
  refine th_n (hK5 _ _ ?_)
  refine wp_seq_k (fun K12 hK12 => ?_)
  refine wp_region_lit ?_
  refine sv n11.ok rfl (wn _ rfl) rfl (o_mv n11.at_) (fun an13 n13 => ?_)
  refine sv n13.ok rfl (wn _ rfl) rfl (o_neq (b := false) n13.at_ ev_const (by decide)) (fun an14 n14 => ?_)
  refine wpList_nil ?_
  refine th_n (hK12 _ _ ?_)
  refine wp_cond_false (n14.at_) ?_
  refine wp_skip ?_
  refine th_n (hK4 _ _ ?_)
  refine wp_seq_k (fun K15 hK15 => ?_)
  refine wp_seq_k (fun K16 hK16 => ?_)
  refine wp_region_lit ?_
  have e17 := n14.ne rfl (n13.ne rfl (n11.ne rfl (n7.ne rfl (n6.ne rfl (n3.ne rfl (n2.ne rfl e0_1))))))
  refine sv n14.ok rfl (wn _ rfl) rfl (o_mv e17) (fun an18 n18 => ?_)
  refine sc n18.ok rfl (wn _ rfl) rfl (o_f1 Tryz.func47 rfl rfl rfl n18.at_) (fcheck_any _ _ w8 (hf.gr G10)) ?_
  rintro _ w20 ⟨rfl, g21⟩
  refine ⟨_, rfl, fun an19 n19 => ?_⟩
  have G22 := G10.trans g21
  refine sv n19.ok rfl (wn _ rfl) rfl (o_as n19.at_) (fun an23 n23 => ?_)
  refine wpList_nil ?_
  refine th_n (hK16 _ _ ?_)
  refine wp_seq_k (fun K24 hK24 => ?_)
  refine wp_region_lit ?_
  refine sv n23.ok rfl (wn _ rfl) rfl (o_mv n23.at_) (fun an25 n25 => ?_)
  refine sv n25.ok rfl (wn _ rfl) rfl (o_neq (b := true) n25.at_ ev_const (by simp [show ¬ (chkF l) = 0 from hne])) (fun an26 n26 => ?_)
  refine wpList_nil ?_
  refine th_n (hK24 _ _ ?_)
  refine wp_cond_true (n26.at_) ?_
  refine wp_seq_k (fun K27 hK27 => ?_)
  refine wp_region_lit ?_
  refine sv n26.ok rfl (wn _ rfl) rfl (o_mv (n26.ne rfl (n25.ne rfl n23.at_))) (fun an28 n28 => ?_)
  refine sv n28.ok rfl (wn _ rfl) rfl (o_as ev_const) (fun an29 n29 => ?_)
  refine sv n29.ok rfl (wn _ rfl) rfl (o_as (n29.ne rfl n28.at_)) (fun an30 n30 => ?_)
  refine wpList_nil ?_
  refine th_n (hK27 _ _ ?_)
  refine wp_ret ?_
  refine th_r ?_
  exact ret2 n30.ok rfl ((n30.ne rfl n29.at_)) (n30.at_) ⟨rfl, G22⟩
end Go.Proofs.YtghjfakellaecaaGreat

/- Small lists of parts, narrowed. -/
set_option linter.unusedVariables false
set_option linter.unusedSimpArgs false
namespace Rm
open Go Go.RowKit Gx
/-- a list says what another one says within the numbers -/
def NarP (F : List PtX) (U : Nat → Nat) (K : List PtX) : Prop := ∀ t n a c, t < 16 → n < 32 → inR a c → hasP F t n a c = ((U t).testBit n && hasP K t n a c)
theorem hasV_nar {F K : List PtX} {U : Nat → Nat} (h : NarP F U K) (t n a c : Int) : hasV F t n a c = (hasV K t n a c && bitT U t n) := by
  cases hp : (pointB t n && dotB (a, c))
  · rw [hasV_out hp, hasV_out hp]; rfl
  · obtain ⟨h1, h2⟩ := Bool.and_eq_true_iff.1 hp
    obtain ⟨x, y, hx, hy, rfl, rfl⟩ := point_of h1
    obtain ⟨u, v, rfl, rfl, hi⟩ := inR_of h2
    have h3 : bitT U (x : Int) (y : Int) = (U x).testBit y := by unfold bitT; rw [h1]; simp
    rw [hasV_in hx hy hi, hasV_in hx hy hi, h x y u v hx hy hi, h3, Bool.and_comm]
theorem nar_nar {F Y Z K : List PtX} {U V : Nat → Nat} (h : NarP F U K) (h1 : NarP Y V F) (h2 : NarP Z (fun t => U t &&& V t) K) : EqP Y Z := fun t n a c p1 p2 p3 => by
  rw [h1 t n a c p1 p2 p3, h t n a c p1 p2 p3, h2 t n a c p1 p2 p3, Nat.testBit_and]
  cases (U t).testBit n <;> cases (V t).testBit n <;> simp
theorem nar_sub {Y Z K : List PtX} {U V : Nat → Nat} (h1 : NarP Y U K) (h2 : NarP Z (fun t => U t ||| V t) K) : subP Y Z := fun t n a c p1 p2 p3 h => by
  rw [h1 t n a c p1 p2 p3, Bool.and_eq_true] at h
  rw [h2 t n a c p1 p2 p3, Nat.testBit_or, h.1, h.2]
  rfl
theorem nar_within {Z K : List PtX} {U : Nat → Nat} (h : NarP Z U K) : subP Z K := fun t n a c p1 p2 p3 q => by
  rw [h t n a c p1 p2 p3, Bool.and_eq_true] at q
  exact q.2
end Rm
namespace Go.Proofs.YtghjfakellaecaaGreat
open Go.RowKit Rm Gx
theorem nar_full {F K : List PtX} (h : NarP F fullT K) : EqP K F := fun t n a c p1 p2 p3 => by
  rw [h t n a c p1 p2 p3]
  have : (fullT t).testBit n = true := by
    unfold fullT
    rw [show (4294967295 : Nat) = 2 ^ 32 - 1 from rfl, Nat.testBit_two_pow_sub_one]
    simpa using p2
  rw [this, Bool.true_and]
theorem pnarrow_small (K : List PtX) (va : Option Addr) (vc : Nat) (fv : Value) (U : Nat → Nat) (hl : K.length ≤ 30) (w : World) (hv : RdA encP 3 w va K) (hm : MeansP w K) (hf : FS w fv U) :
    Calls Tryz.prog 10 #[.slice va K.length vc, fv] w fun e w' => ∃ (F : List PtX) (a : Option Addr) (c : Nat), e = .returned (.tuple #[.slice a F.length c, .int .i64 0]) ∧ F.length ≤ c ∧ (a = none → c = 0) ∧ F.length ≤ K.length ∧ NarP F U K ∧ FewP F ∧ RdA encP 3 w' a F ∧ MeansP w' F ∧ Gr w w' := by
  refine (pnarrow_ok K va vc fv U hl w hv hm hf).mono ?_
  rintro e w' ⟨R, hR, v, rfl, h2, h3, g⟩
  have hRl : R.length = K.length := by have := congrArg List.length hR; simpa using this
  have hF := fewP_len R
  have hOk : ∀ y ∈ R, OkT y.T := fun y hy => by
    have : y.m ∈ K.map (nar U) := hR ▸ List.mem_map_of_mem hy
    obtain ⟨x, hx, e⟩ := List.mem_map.1 this
    have e1 : y.T = fun t => x.T t &&& U t := (congrArg Prod.fst e).symm
    rw [e1]
    exact okT_and (hm x hx).fs.okT
  obtain ⟨a, c, rfl, hac⟩ := ow_form h2
  refine ⟨fewP R, a, c, rfl, hac, ow_nil h2, by omega, fun t n a c p1 p2 p3 => ?_, fewP_few R, RdA.own encP_ok h2 rfl, h3.mean, g⟩
  rw [fewP_has hOk t n a c p1 p2 p3, nar_has hR]
theorem fs_nil (w : World) : FS w (.slice none 0 0) (fun _ => 0) := ⟨[], RdF.nil w, (fun b hb => by cases hb), by simp, fun t _ => rfl⟩
theorem pnarrow_none (K : List PtX) (va : Option Addr) (vc : Nat) (hl : K.length ≤ 30) (w : World) (hv : RdA encP 3 w va K) (hm : MeansP w K) :
    Calls Tryz.prog 10 #[.slice va K.length vc, .slice none 0 0] w fun e w' => ∃ (a : Option Addr) (c : Nat), e = .returned (.tuple #[.slice a 0 c, .int .i64 0]) ∧ Gr w w' := by
  refine (pnarrow_ok K va vc _ _ hl w hv hm (fs_nil w)).mono ?_
  rintro e w' ⟨R, hR, v, rfl, h2, h3, g⟩
  have hE : ∀ y ∈ R, emptyP y = true := fun y hy => by
    have : y.m ∈ K.map (nar fun _ => 0) := hR ▸ List.mem_map_of_mem hy
    obtain ⟨x, hx, e⟩ := List.mem_map.1 this
    have e1 : y.T = fun t => x.T t &&& 0 := (congrArg Prod.fst e).symm
    have h0 : cntT y.T = 0 := cntTo_zero 16 (fun t _ => by rw [e1]; simp)
    unfold emptyP
    rw [h0]; rfl
  have hF : fewP R = [] := by
    have key : ∀ L : List PtX, (∀ y ∈ L, emptyP y = true) → L.foldl stepP [] = [] := by
      intro L
      induction L with
      | nil => intro _; rfl
      | cons x L ih =>
        intro h
        have hx : stepP [] x = [] := by unfold stepP; rw [h x (List.mem_cons_self ..)]; rfl
        rw [List.foldl_cons, hx]
        exact ih fun y hy => h y (List.mem_cons_of_mem _ hy)
    exact key R hE
  rw [hF] at h2
  obtain ⟨a, c, rfl, -⟩ := ow_form h2
  exact ⟨a, c, rfl, g⟩
end Go.Proofs.YtghjfakellaecaaGreat

