/- Joined: ShR, ShS, ShT, ShV, ShX, ShY, OpenW, OpenY. -/
import Derived.Test.YtbpkfkljeibjoaaSy4
import Derived.Laws.AppendOwnNone
import Derived.Laws.IdiomStrings
/- shelf.addAll. -/
set_option linter.unusedVariables false
set_option linter.unusedSimpArgs false
namespace Go.Proofs.Ytbpkfkljeibjoaa
open Go.RowKit Rm Gx
set_option maxHeartbeats 8000000 in
set_option maxRecDepth 100000 in
theorem addAll_any (D : DS) (L : List (Nat × Nat)) (ka kc ra : Option Addr) (kb kd rc base : Nat) (hD : Pure D) (hR : ∀ d ∈ L, inR d.1 d.2) (hl : L.length ≤ 10000) (hN : NoM (.slice kc 0 kd)) (w0 w : World) (hG : Gr w0 w) (hB : w0.heap.size ≤ base) (hz : base ≤ w.heap.size) (ho : w.ownsRow base 24 2 (.slice ra L.length rc) L.length (flat (pairs L))) (hv : w.ownsRow base 3 1 (.slice ka (formV D).length kb) (formV D).length (flatI (formV D))) :
    Calls Try.prog 19 #[.agg #[.slice ka ((formV D).length) kb, .slice kc 0 kd], .slice ra L.length rc] w fun e w' => ∃ k, e = .returned (.tuple #[k, .int .i64 (frE (addS D L))]) ∧ KnW base w' k (frV (addS D L)) (frM (addS D L)) ∧ w.grownBy w' (Value.ownBlock (.slice ra L.length rc)) := by
  refine enter (N := 30) Try.func19 rfl rfl rfl (fun a0 ok0 h0 => ?_)
  have e0_0 : a0.eval (.tmp 0) = .agg #[.slice ka ((formV D).length) kb, .slice kc 0 kd] := h0 0 _ rfl
  have e0_1 : a0.eval (.tmp 1) = .slice ra L.length rc := h0 1 _ rfl
  clear h0
  refine wp_seq_k (fun K1 hK1 => ?_)
  refine wp_region_lit ?_
  refine sal (cs := #[.slice ka ((formV D).length) kb, .slice kc 0 kd]) ok0 rfl (wn _ rfl) rfl (o_box e0_0) (fun an2 w4 b3 W5 n2 => ?_)
  have l6 : w0.heap.size ≤ b3 := by rw [W5.eq]; exact hG.size
  have l7 : ∀ k, Value.ownBlock (.slice ra L.length rc) = some k → k < b3 := fun k e => by rw [W5.eq]; exact ow_in ho k e
  have l8 : ∀ k, Value.ownBlock (.slice ka ((formV D).length) kb) = some k → k < b3 := fun k e => by rw [W5.eq]; exact ow_in hv k e
  have l9 : w.heap.size ≤ b3 := by rw [W5.eq]; exact (gb_self : w.grownBy w (Value.ownBlock (.slice ra L.length rc))).size
  have G10 := hG.trans W5.gr
  have z11 := Nat.le_trans hz W5.gr.size
  have O12 := ow_gr ho W5.gr
  have O13 := ow_gr hv W5.gr
  have F14 := gb_gr (gb_self : w.grownBy w (Value.ownBlock (.slice ra L.length rc))) W5.gr
  refine sal (cs := #[.slice none 0 0, .slice none 0 0]) n2.ok rfl (wn _ rfl) rfl (o_al (z := .agg #[.slice none 0 0, .slice none 0 0]) (by kernel_rfl)) (fun an15 w17 b16 W18 n15 => ?_)
  have l19 : b3 < b16 := by rw [W18.eq]; exact W5.bk.lt
  have l20 : w0.heap.size ≤ b16 := by rw [W18.eq]; exact G10.size
  have l21 : ∀ k, Value.ownBlock (.slice ra L.length rc) = some k → k < b16 := fun k e => by rw [W18.eq]; exact ow_in O12 k e
  have l22 : ∀ k, Value.ownBlock (.slice ka ((formV D).length) kb) = some k → k < b16 := fun k e => by rw [W18.eq]; exact ow_in O13 k e
  have l23 : w.heap.size ≤ b16 := by rw [W18.eq]; exact F14.size
  have G24 := G10.trans W18.gr
  have B25 := W5.bk.gr W18.gr
  have z26 := Nat.le_trans z11 W18.gr.size
  have O27 := ow_gr O12 W18.gr
  have O28 := ow_gr O13 W18.gr
  have F29 := gb_gr F14 W18.gr
  refine sv n15.ok rfl (wn _ rfl) rfl (o_as ev_const) (fun an30 n30 => ?_)
  refine wpList_nil ?_
  refine th_n (hK1 _ _ ?_)
  refine wp_seq_k (fun K31 hK31 => ?_)
  refine wp_region_lit ?_
  have e32 := n30.ne rfl (n15.ne rfl (n2.ne rfl e0_1))
  refine sv n30.ok rfl (wn _ rfl) rfl (o_mv e32) (fun an33 n33 => ?_)
  refine sc n33.ok rfl (wn _ rfl) rfl (o_f2 Try.func49 rfl rfl rfl n33.at_ ev_func) (sort_ownS L _ w17 base hl O27) ?_
  rintro _ w35 ⟨rfl, L1, hp1, hs1, ho1, g36⟩
  refine ⟨_, rfl, fun an34 n34 => ?_⟩
  have G37 := Gr.grown G24 g36 (fun k e => Nat.le_trans hB (ow_lt O27 k e))
  have B38 := B25.grown_ne g36 l7
  have B39 := W18.bk.grown_ne g36 l21
  have z40 := Nat.le_trans z26 g36.size
  have O41 := ow_grown O28 O27 g36 rfl
  have F42 := gb_gb F29 g36
  refine wpList_nil ?_
  refine th_n (hK31 _ _ ?_)
  refine wp_seq_k (fun K43 hK43 => ?_)
  refine wp_seq_k (fun K44 hK44 => ?_)
  refine wp_region_lit ?_
  refine sv n34.ok rfl (wn _ rfl) rfl (o_mv (n34.ne rfl (n33.ne rfl e32))) (fun an45 n45 => ?_)
  refine sc n45.ok rfl (wn _ rfl) rfl (o_f1 Try.func51 rfl rfl rfl n45.at_) (compact_ownS L1 _ w35 base (by rw [hp1.length_eq]; exact hl) ho1) ?_
  rintro _ w47 ⟨u2, rfl, hob2, ho2, g48⟩
  obtain ⟨da, dc, rfl, -⟩ := ow_form ho2
  have hlD : (ddT L1 L1.length).length ≤ L.length := Nat.le_trans (ddT_len _ _) (Nat.le_of_eq hp1.length_eq)
  have hMs := ddT_sort hs1 (Nat.le_refl _)
  have hMR : ∀ d ∈ (ddT L1 L1.length), inR d.1 d.2 := fun d hd => hR d ((ddT_memL hp1 d).1 hd)
  have hF : addS D L = addS D (ddT L1 L1.length) := addS_congr D fun x => (ddT_memL hp1 x).symm
  refine ⟨_, rfl, fun an46 n46 => ?_⟩
  have G49 := Gr.grown G37 g48 (fun k e => Nat.le_trans hB (ow_lt ho1 k e))
  have B50 := bk_grownT B38 ho1 g48 (by decide)
  have B51 := bk_grownT B39 ho1 g48 (by decide)
  have z52 := Nat.le_trans z40 g48.size
  have O53 := ow_grown O41 ho1 g48 rfl
  have F54 := gb_gb F42 g48
  refine sv n46.ok rfl (wn _ rfl) rfl (o_len n46.at_ Try.underlying28) (fun an55 n55 => ?_)
  refine sv n55.ok rfl (wn _ rfl) rfl (o_mv ev_const) (fun an56 n56 => ?_)
  refine wpList_nil ?_
  refine th_n (hK44 _ _ ?_)
  refine wp_block ?_
  have hkn0 : KnW base w47 (.agg #[.slice ka (formV D).length kb, .slice kc 0 kd]) (formV (addS D ((ddT L1 L1.length).take 0))) (formM (addS D ((ddT L1 L1.length).take 0))) := by rw [List.take_zero, addS_nil, hD.formM]; exact KnW.vec O53 hN
  have e58 := n56.ne rfl (n55.ne rfl (n46.ne rfl (n45.ne rfl (n34.ne rfl (n33.ne rfl (n30.ne rfl (n15.ne rfl n2.at_)))))))
  have e59 := n56.ne rfl (n55.ne rfl (n46.ne rfl (n45.ne rfl (n34.ne rfl (n33.ne rfl (n30.ne rfl n15.at_))))))
  have e60 := n56.ne rfl (n55.ne rfl (n46.ne rfl (n45.ne rfl (n34.ne rfl (n33.ne rfl n30.at_)))))
  refine lp (fun (nL : Nat) (aL : Act) (wL : World) => ∃ i : Nat, ∃ ka : Option Addr, ∃ nV : Nat, ∃ kb : Nat, ∃ kc : Option Addr, ∃ nM : Nat, ∃ kd : Nat, nL = (ddT L1 L1.length).length - i ∧ Ok 30 aL ∧ Gr w0 wL ∧ (aL.eval (.tmp 2) = .pointer (some ⟨b3, 0, none⟩)) ∧ (aL.eval (.tmp 4) = .pointer (some ⟨b16, 0, none⟩)) ∧ (aL.eval (.tmp 5) = .int .i64 0) ∧ (aL.eval (.tmp 12) = .slice da ((ddT L1 L1.length).length) dc) ∧ (aL.eval (.tmp 13) = .int .i64 (((ddT L1 L1.length).length : Nat) : Int)) ∧ (aL.eval (.tmp 14) = .int .i64 (i : Int)) ∧ (Bk wL b3 #[.slice ka nV kb, .slice kc nM kd] 30) ∧ (Bk wL b16 #[.slice none 0 0, .slice none 0 0] 30) ∧ (w.grownBy wL (Value.ownBlock (.slice ra L.length rc))) ∧ (KnW base wL (.agg #[.slice ka nV kb, .slice kc nM kd]) (formV (addS D ((ddT L1 L1.length).take i))) (formM (addS D ((ddT L1 L1.length).take i)))) ∧ (World.ownsRow wL base 24 2 (.slice da ((ddT L1 L1.length).length) dc) ((ddT L1 L1.length).length) ((flat (pairs (ddT L1 L1.length))))) ∧ (base ≤ wL.heap.size) ∧ (i ≤ (ddT L1 L1.length).length) ∧ ((formM (addS D ((ddT L1 L1.length).take i))).length ≤ 60)) _ ⟨0, ka, (formV D).length, kb, kc, 0, kd, rfl, n56.ok, G49, e58, e59, e60, (n56.ne rfl (n55.ne rfl n46.at_)), (n56.ne rfl n55.at_), n56.at_, B50, B51, F54, hkn0, ho2, z52, by omega, by rw [List.take_zero, addS_nil, hD.formM]; exact Nat.zero_le _⟩ ?_
  rintro m61 aI57 w63 ⟨i, ka, nV, kb, kc, nM, kd, hmI57, okI57, GI57, s2I57, s4I57, s5I57, s12I57, s13I57, s14I57, kb3I57, kb16I57, fgbI57, fknI57, odrI57, zbaseI57, hiI57, hEI57⟩ KI57 hKI57
  refine wp_seq_k (fun K64 hK64 => ?_)
  refine wp_region_lit ?_
  refine sv okI57 rfl (wn _ rfl) rfl (o_ltI s14I57 s13I57) (fun an65 n65 => ?_)
  refine wpList_nil ?_
  refine th_n (hK64 _ _ ?_)
  refine wp_seq_k (fun K66 hK66 => ?_)
  by_cases c67 : (i : Int) < (((ddT L1 L1.length).length : Nat) : Int)
  · refine wp_cond_true ((n65.at_).trans (congrArg Value.bool (decide_eq_true c67))) ?_
    have A69 := Gr.refl w63
    refine wp_skip ?_
    refine th_n (hK66 _ _ ?_)
    refine wp_seq_k (fun K70 hK70 => ?_)
    refine wp_block ?_
    refine wp_seq_k (fun K71 hK71 => ?_)
    refine wp_region_lit ?_
    have h72l : i < (ddT L1 L1.length).length := by omega
    obtain ⟨bh72, fh72, h72a, h72b, h72c⟩ := RdA.own encD_ok (by have h := odrI57; rw [flat_encD] at h; exact h) rfl (ne_nil_of_lt h72l)
    obtain ⟨xh72, h72x⟩ : ∃ x, (ddT L1 L1.length)[i]? = some x := ⟨_, List.getElem?_eq_getElem h72l⟩
    refine sv n65.ok rfl (wn _ rfl) rfl (o_iaV (i := i) (s := 2) h72a (n65.ne rfl s12I57) (n65.ne rfl s14I57) Try.underlying28 (by kernel_rfl) h72l) (fun an73 n73 => ?_)
    refine sv n73.ok rfl (wn _ rfl) rfl (o_ldA (k := fh72 + i * 2) n73.at_ (cs := [.int .i64 ((xh72.1 : Nat) : Int), .int .i64 ((xh72.2 : Nat) : Int)]) (fun j v hv => h72c _ _ h72x j v hv) Try.underlying24 rfl (by kernel_rfl)) (fun an74 n74 => ?_)
    refine sal (cs := #[.int .i64 0, .int .i64 0]) n74.ok rfl (wn _ rfl) rfl (o_al (z := .agg #[.int .i64 0, .int .i64 0]) (by kernel_rfl)) (fun an75 w77 b76 W78 n75 => ?_)
    have l79 : b3 < b76 := by rw [W78.eq]; exact kb3I57.lt
    have l80 : b16 < b76 := by rw [W78.eq]; exact kb16I57.lt
    have l81 : w0.heap.size ≤ b76 := by rw [W78.eq]; exact GI57.size
    have l82 : w63.heap.size ≤ b76 := by rw [W78.eq]; exact A69.size
    have l83 : ∀ k, Value.ownBlock (.slice da ((ddT L1 L1.length).length) dc) = some k → k < b76 := fun k e => by rw [W78.eq]; exact ow_in odrI57 k e
    have l84 : w.heap.size ≤ b76 := by rw [W78.eq]; exact fgbI57.size
    have G85 := GI57.trans W78.gr
    have B86 := kb3I57.gr W78.gr
    have B87 := kb16I57.gr W78.gr
    have A88 := A69.trans W78.gr
    have z89 := Nat.le_trans zbaseI57 W78.gr.size
    have O90 := ow_gr odrI57 W78.gr
    have F91 := gb_gr fgbI57 W78.gr
    refine ssR rfl (wn _ rfl) (o_stR n75.at_ (n75.ne rfl n74.at_) W78.bk (by kernel_rfl) rfl (by simp [Value.oneCell'])) W78.bk (fun w92 u93 u93b => ?_)
    have G94 : Gr w0 w92 := Below.upd G85 l81 u93
    have B95 := B86.upd u93 (Nat.ne_of_lt l79)
    have B96 := B87.upd u93 (Nat.ne_of_lt l80)
    have A97 : Gr w63 w92 := Below.upd A88 l82 u93
    have z98 : base ≤ w92.heap.size := by rw [u93.size]; exact z89
    have O99 := ow_upd_ne O90 u93 l83
    have F100 := gb_upd F91 u93 l84
    refine wpList_nil ?_
    refine th_n (hK71 _ _ ?_)
    refine wp_seq_k (fun K101 hK101 => ?_)
    refine wp_region_lit ?_
    refine sv n75.ok rfl (wn _ rfl) rfl (o_as ev_const) (fun an102 n102 => ?_)
    refine wpList_nil ?_
    refine th_n (hK101 _ _ ?_)
    refine wp_seq_k (fun K103 hK103 => ?_)
    refine wp_region_lit ?_
    have e104 := n102.ne rfl (n75.ne rfl (n74.ne rfl (n73.ne rfl (n65.ne rfl s2I57))))
    refine sv n102.ok rfl (wn _ rfl) rfl (o_ldR e104 B95 Try.underlying30 rfl (by kernel_rfl)) (fun an105 n105 => ?_)
    refine sv n105.ok rfl (wn _ rfl) rfl (o_ldR (n105.ne rfl (n102.ne rfl n75.at_)) u93b Try.underlying24 rfl (by kernel_rfl)) (fun an106 n106 => ?_)
    refine sc n106.ok rfl (wn _ rfl) rfl (o_f2 Try.func52 rfl rfl rfl (n106.ne rfl n105.at_) n106.at_) ((by have h := add_c (.agg #[.slice ka nV kb, .slice kc nM kd]) (addS D ((ddT L1 L1.length).take i)) xh72 base w92 z98 ((fknI57).rd.gr A97) hEI57 (hMR _ (List.mem_of_getElem? h72x)); rw [addS_step h72x] at h; exact h)) ?_
    rintro _ w108 ⟨ka2, nV2, kb2, kc2, nM2, kd2, rfl, hkn2, g109⟩
    refine ⟨_, rfl, fun an107 n107 => ?_⟩
    have G110 := G94.trans g109
    have B111 := B95.gr g109
    have B112 := B96.gr g109
    have B113 := u93b.gr g109
    have A114 := A97.trans g109
    have z115 := Nat.le_trans z98 g109.size
    have O116 := ow_gr O99 g109
    have F117 := gb_gr F100 g109
    refine sv n107.ok rfl (wn _ rfl) rfl (o_mv n107.at_) (fun an118 n118 => ?_)
    refine sv n118.ok rfl (wn _ rfl) rfl (o_ex n118.at_ rfl) (fun an119 n119 => ?_)
    refine sv n119.ok rfl (wn _ rfl) rfl (o_ex (n119.ne rfl n118.at_) rfl) (fun an120 n120 => ?_)
    have e121 := n120.ne rfl (n119.ne rfl (n118.ne rfl (n107.ne rfl (n106.ne rfl (n105.ne rfl e104)))))
    refine ssR rfl (wn _ rfl) (o_stR e121 (n120.ne rfl n119.at_) B111 (by kernel_rfl) rfl (by simp [Value.oneCell'])) B111 (fun w122 u123 u123b => ?_)
    have G124 : Gr w0 w122 := Below.upd G110 l6 u123
    have B125 := B112.upd u123 (Nat.ne_of_gt l19)
    have B126 := B113.upd u123 (Nat.ne_of_gt l79)
    have z128 : base ≤ w122.heap.size := by rw [u123.size]; exact z115
    have O129 := ow_updT O116 u123 B111 (by decide)
    have F130 := gb_upd F117 u123 l9
    have F131 := KnW.tks hkn2 (tks_upd u123 B111 (by decide))
    refine sv n120.ok rfl (wn _ rfl) rfl (o_as n120.at_) (fun an132 n132 => ?_)
    refine wpList_nil ?_
    refine th_n (hK103 _ _ ?_)
    refine wp_seq_k (fun K133 hK133 => ?_)
    refine wp_region_lit ?_
    refine sv n132.ok rfl (wn _ rfl) rfl (o_mv n132.at_) (fun an134 n134 => ?_)
    refine sv n134.ok rfl (wn _ rfl) rfl (o_neI n134.at_ ev_const) (fun an135 n135 => ?_)
    refine wpList_nil ?_
    refine th_n (hK133 _ _ ?_)
    by_cases c136 : ¬ (frE (addS D ((ddT L1 L1.length).take (i + 1)))) = 0
    · refine wp_cond_true ((n135.at_).trans (congrArg Value.bool (decide_eq_true c136))) ?_
      refine wp_seq_k (fun K137 hK137 => ?_)
      refine wp_region_lit ?_
      refine sv n135.ok rfl (wn _ rfl) rfl (o_b0 (cs := #[.slice none 0 0, .slice none 0 0]) Try.underlying30 (by kernel_rfl) (by kernel_rfl)) (fun an138 n138 => ?_)
      have e139 := n138.ne rfl (n135.ne rfl (n134.ne rfl n132.at_))
      refine sv n138.ok rfl (wn _ rfl) rfl (o_mv e139) (fun an140 n140 => ?_)
      have e141 := n140.ne rfl (n138.ne rfl (n135.ne rfl (n134.ne rfl (n132.ne rfl (n120.ne rfl (n119.ne rfl (n118.ne rfl (n107.ne rfl (n106.ne rfl (n105.ne rfl (n102.ne rfl (n75.ne rfl (n74.ne rfl (n73.ne rfl (n65.ne rfl s4I57)))))))))))))))
      refine ssR rfl (wn _ rfl) (o_stR e141 (n140.ne rfl n138.at_) B125 (by kernel_rfl) rfl (by simp [Value.oneCell'])) B125 (fun w142 u143 u143b => ?_)
      have G144 : Gr w0 w142 := Below.upd G124 l20 u143
      have B145 := u123b.upd u143 (Nat.ne_of_lt l19)
      have B146 := B126.upd u143 (Nat.ne_of_gt l80)
      have z147 : base ≤ w142.heap.size := by rw [u143.size]; exact z128
      have O148 := ow_updT O129 u143 B125 (by decide)
      have F149 := gb_upd F130 u143 l23
      have F150 := KnW.tks F131 (tks_upd u143 B125 (by decide))
      refine sv n140.ok rfl (wn _ rfl) rfl (o_as n140.at_) (fun an151 n151 => ?_)
      refine wpList_nil ?_
      refine th_n (hK137 _ _ ?_)
      refine wp_ret ?_
      refine ib_r ?_
      refine th_r ?_
      refine th_r ?_
      refine ib_r ?_
      refine th_r ?_
      exact ret2 n151.ok rfl (⟨_, _, (n151.ne rfl e141), ld_row u143b Try.underlying30 rfl (by kernel_rfl)⟩) (n151.at_) ⟨.agg #[.slice none 0 0, .slice none 0 0], by rw [hF, (fr_over c136 (addS_le hD hMs hMR ((ddT L1 L1.length).length - (i + 1)) (i + 1) (by omega))).1, (fr_over c136 (addS_le hD hMs hMR ((ddT L1 L1.length).length - (i + 1)) (i + 1) (by omega))).2.1] <;> rfl, by rw [hF, (fr_over c136 (addS_le hD hMs hMR ((ddT L1 L1.length).length - (i + 1)) (i + 1) (by omega))).2.2.1, (fr_over c136 (addS_le hD hMs hMR ((ddT L1 L1.length).length - (i + 1)) (i + 1) (by omega))).2.2.2]; exact KnW.vec (World.ownsRow_nil _ _ _ _) noM_nil, F149⟩
    · refine wp_cond_false ((n135.at_).trans (congrArg Value.bool (decide_eq_false c136))) ?_
      refine wp_skip ?_
      refine ib_n ?_
      refine th_n (hK70 _ _ ?_)
      refine wp_region_lit ?_
      have e152 := n135.ne rfl (n134.ne rfl (n132.ne rfl (n120.ne rfl (n119.ne rfl (n118.ne rfl (n107.ne rfl (n106.ne rfl (n105.ne rfl (n102.ne rfl (n75.ne rfl (n74.ne rfl (n73.ne rfl (n65.ne rfl s14I57)))))))))))))
      refine sv n135.ok rfl (wn _ rfl) rfl (o_add (r := ((i + 1 : Nat) : Int)) e152 ev_const (by omega) (by omega)) (fun an153 n153 => ?_)
      refine sv n153.ok rfl (wn _ rfl) rfl (o_mv n153.at_) (fun an154 n154 => ?_)
      refine wpList_nil ?_
      have e155 := n154.ne rfl (n153.ne rfl (n135.ne rfl (n134.ne rfl (n132.ne rfl e121))))
      have e156 := n154.ne rfl (n153.ne rfl (n135.ne rfl (n134.ne rfl (n132.ne rfl (n120.ne rfl (n119.ne rfl (n118.ne rfl (n107.ne rfl (n106.ne rfl (n105.ne rfl (n102.ne rfl (n75.ne rfl (n74.ne rfl (n73.ne rfl (n65.ne rfl s4I57)))))))))))))))
      have e157 := n154.ne rfl (n153.ne rfl (n135.ne rfl (n134.ne rfl (n132.ne rfl (n120.ne rfl (n119.ne rfl (n118.ne rfl (n107.ne rfl (n106.ne rfl (n105.ne rfl (n102.ne rfl (n75.ne rfl (n74.ne rfl (n73.ne rfl (n65.ne rfl s5I57)))))))))))))))
      have e158 := n154.ne rfl (n153.ne rfl (n135.ne rfl (n134.ne rfl (n132.ne rfl (n120.ne rfl (n119.ne rfl (n118.ne rfl (n107.ne rfl (n106.ne rfl (n105.ne rfl (n102.ne rfl (n75.ne rfl (n74.ne rfl (n73.ne rfl (n65.ne rfl s12I57)))))))))))))))
      have e159 := n154.ne rfl (n153.ne rfl (n135.ne rfl (n134.ne rfl (n132.ne rfl (n120.ne rfl (n119.ne rfl (n118.ne rfl (n107.ne rfl (n106.ne rfl (n105.ne rfl (n102.ne rfl (n75.ne rfl (n74.ne rfl (n73.ne rfl (n65.ne rfl s13I57)))))))))))))))
      exact th_n (hKI57 _ _ _ (by omega) ⟨i + 1, ka2, nV2, kb2, kc2, nM2, kd2, rfl, n154.ok, G124, e155, e156, e157, e158, e159, n154.at_, u123b, B125, F130, (by have h := F131; rw [(fr_small (Decidable.of_not_not c136)).1, (fr_small (Decidable.of_not_not c136)).2] at h; exact h), O129, z128, by omega, frE_zero (Decidable.of_not_not c136)⟩)
  · refine wp_cond_false ((n65.at_).trans (congrArg Value.bool (decide_eq_false c67))) ?_
    refine wp_exit ?_
    refine th_x ?_
    refine th_x ?_
    refine ib_x ?_
    refine th_n (hK43 _ _ ?_)
    refine wp_seq_k (fun K160 hK160 => ?_)
    refine wp_region_lit ?_
    refine sv n65.ok rfl (wn _ rfl) rfl (o_ldR (n65.ne rfl s2I57) kb3I57 Try.underlying30 rfl (by kernel_rfl)) (fun an161 n161 => ?_)
    refine ssR rfl (wn _ rfl) (o_stR (n161.ne rfl (n65.ne rfl s4I57)) n161.at_ kb16I57 (by kernel_rfl) rfl (by simp [Value.oneCell'])) kb16I57 (fun w162 u163 u163b => ?_)
    have G164 : Gr w0 w162 := Below.upd GI57 l20 u163
    have B165 := kb3I57.upd u163 (Nat.ne_of_lt l19)
    have z166 : base ≤ w162.heap.size := by rw [u163.size]; exact zbaseI57
    have O167 := ow_updT odrI57 u163 kb16I57 (by decide)
    have F168 := gb_upd fgbI57 u163 l23
    have F169 := KnW.tks fknI57 (tks_upd u163 kb16I57 (by decide))
    refine sv n161.ok rfl (wn _ rfl) rfl (o_as ev_const) (fun an170 n170 => ?_)
    refine wpList_nil ?_
    refine th_n (hK160 _ _ ?_)
    refine wp_ret ?_
    have e171 := n170.ne rfl (n161.ne rfl (n65.ne rfl s4I57))
    exact ret2 n170.ok rfl (⟨_, _, e171, ld_row u163b Try.underlying30 rfl (by kernel_rfl)⟩) (n170.at_) ⟨_, by rw [hF, (fr_of (by have h := hEI57; rw [List.take_of_length_le (by omega)] at h; exact h)).1], by have h := F169; have q := hEI57; rw [List.take_of_length_le (by omega)] at h q; rw [hF, (fr_of q).2.1, (fr_of q).2.2]; exact h, F168⟩
end Go.Proofs.Ytbpkfkljeibjoaa

/- What is past of a thing, version by version; an operation of a row in a region that draws its order. -/
set_option linter.unusedVariables false
set_option linter.unusedSimpArgs false
namespace Gx
open Go Go.RowKit Rm
section
variable {P : Program} {ops : Array Oper} {Q : Exit → Act → World → Prop} {N : Nat} {S : World → Prop}
/-- this block stands -/
def SxB (b : Nat) (cs : Array Value) (t : TypeId) (x : World) : Prop := Bk x b cs t
theorem h_startB {id : Nat} {a : Act} {w : World} (b : Nat) (cs : Array Value) (t : TypeId) (n : Nat) (L : Array Bool) (hf : P.follows .mixedOrders = true) (hn : ops.size = n) (hL : Array.replicate ops.size false = L)
    (h : wpAnyH P .any ops Q (SxB b cs t) n L a w.drew) : (Code.region id ops true).wp P Q a w := by
  subst hn hL
  exact wp_region_held hf h
theorem h_one {i : Nat} {o : Oper} {fuel : Nat} {L : Array Bool} {a : Act} {w : World} (hr : Region.ready .any ops L = [i]) (ho : ops[i]? = some o) (hw : Region.wanted o (yielded ops a.tmps) = true)
    (h : o.wp P a w (fun a' w' => S w' ∧ wpAnyH P .any ops Q S fuel (L.setIfInBounds i true) a' w') Q) : wpAnyH P .any ops Q S (fuel + 1) L a w := by
  refine wpAnyH_all hr (by simp) fun j hj => ?_
  obtain rfl : j = i := by simpa using hj
  unfold wpOp
  rw [ho]
  simp only [hw, if_true]
  exact .inl h
theorem h_val {i : Nat} {o : Oper} {fuel : Nat} {L : Array Bool} {a : Act} {w w' : World} {d : Nat} {v : Value} (hr : Region.ready .any ops L = [i]) (ho : ops[i]? = some o) (ok : Ok N a) (hd : o.dst = some d) (hw : Region.wanted o (yielded ops a.tmps) = true) (hN : Nat.blt d N = true)
    (hrun : (execOp a.eval o).run P w = .ok (.value v) w') (hS : S w') (h : ∀ a', Nx N a a' d v → wpAnyH P .any ops Q S fuel (L.setIfInBounds i true) a' w') : wpAnyH P .any ops Q S (fuel + 1) L a w := by
  refine h_one hr ho hw ?_
  unfold Oper.wp
  rw [hrun]
  show S w' ∧ wpAnyH P .any ops Q S fuel (L.setIfInBounds i true) (a.put o.dst v) w'
  rw [hd]
  exact ⟨hS, h _ (Nx.put ok hN v)⟩
theorem h_sals {i : Nat} {o : Oper} {fuel : Nat} {L : Array Bool} {a : Act} {w : World} {d n c : Nat} {cs : Array Value} {t : TypeId} (hr : Region.ready .any ops L = [i]) (ho : ops[i]? = some o) (ok : Ok N a) (hd : o.dst = some d) (hw : Region.wanted o (yielded ops a.tmps) = true) (hN : Nat.blt d N = true)
    (hrun : (execOp a.eval o).run P w = .ok (.value (.slice (some ⟨w.heap.size, 0, none⟩) n c)) (w.alloc (.cells cs t))) (hS : ∀ w', Gr w w' → S w')
    (h : ∀ a' w' b, New w w' b cs t → Nx N a a' d (.slice (some ⟨b, 0, none⟩) n c) → wpAnyH P .any ops Q S fuel (L.setIfInBounds i true) a' w') : wpAnyH P .any ops Q S (fuel + 1) L a w :=
  h_val hr ho ok hd hw hN hrun (hS _ (New.mk' w cs t).gr) fun a' n => h a' _ _ (New.mk' w cs t) n
theorem h_app {i fuel : Nat} {L : Array Bool} {a : Act} {w : World} {dd : Nat} {s x : Operand} {t ty : TypeId} {p : String} {af : Array Edge} {g : Option (Nat × Bool)} {base : Nat} {e : TypeId} {ti : TypeInfo} {z : Value} {size bytes : Nat}
    (hr : Region.ready .any ops L = [i]) (ho : ops[i]? = some (Oper.mk (some dd) (.call { callee := .builtin .append, args := #[s, x], argTypes := #[t, t] }) ty p af g)) (ok : Ok N a)
    (hw : Region.wanted (Oper.mk (some dd) (.call { callee := .builtin .append, args := #[s, x], argTypes := #[t, t] }) ty p af g) (yielded ops a.tmps) = true) (hN : Nat.blt dd N = true)
    (ht : P.underlying t = some (.slice e)) (hi : P.info? e = some ti) (hz : ti.zero = some z) (hsize : ti.size = size) (hby : ti.bytes = bytes) (hzs : z.cells.size = size) (hsz : 0 < size)
    {v : Value} {n : Nat} {xs : List Value} (hs : a.eval s = v) (hown : w.ownsRow base e size v n xs)
    {ad : Addr} {m c : Nat} {news : List Value} (hx : a.eval x = .slice (some ad) m c) (hl : news.length = m * size) (hnews : ∀ j u, news[j]? = some u → w.cell? (ad.add j) = some u) (h1 : ∀ u ∈ news, u.oneCell' = true)
    (h63 : n + m ≤ maxLen) (hbytes : (n + m) * bytes ≤ 140737488355328) (hbase : base ≤ w.heap.size) (hS : ∀ w', w.grownBy w' v.ownBlock → S w')
    (h : ∀ a' w' v', w'.ownsRow base e size v' (n + m) (xs ++ news) → w.grownBy w' v.ownBlock → Nx N a a' dd v' → wpAnyH P .any ops Q S fuel (L.setIfInBounds i true) a' w') : wpAnyH P .any ops Q S (fuel + 1) L a w := by
  refine h_one hr ho hw ?_
  exact wp_append_own w s x t rfl base e ti z size bytes ht hi hz hsize hby hzs hsz v n xs hs hown ad m c news hx hl hnews h1 h63 hbytes hbase fun v' w' h2 h3 _ => ⟨hS _ h3, h _ w' v' h2 h3 (Nx.put ok hN v')⟩
/-- a slice that may be nil is appended -/
theorem h_appR {i fuel : Nat} {L : Array Bool} {a : Act} {w : World} {dd : Nat} {s x : Operand} {t ty : TypeId} {p : String} {af : Array Edge} {g : Option (Nat × Bool)} {base : Nat} {e : TypeId} {ti : TypeInfo} {z : Value} {size bytes : Nat}
    (hr : Region.ready .any ops L = [i]) (ho : ops[i]? = some (Oper.mk (some dd) (.call { callee := .builtin .append, args := #[s, x], argTypes := #[t, t] }) ty p af g)) (ok : Ok N a)
    (hw : Region.wanted (Oper.mk (some dd) (.call { callee := .builtin .append, args := #[s, x], argTypes := #[t, t] }) ty p af g) (yielded ops a.tmps) = true) (hg : g = none) (hN : Nat.blt dd N = true)
    (ht : P.underlying t = some (.slice e)) (hi : P.info? e = some ti) (hz : ti.zero = some z) (hsize : ti.size = size) (hby : ti.bytes = bytes) (hzs : z.cells.size = size) (hsz : 0 < size)
    {v : Value} {n : Nat} {xs : List Value} (hs : a.eval s = v) (hown : w.ownsRow base e size v n xs)
    {u : Value} {m : Nat} {news : List Value} (hx : a.eval x = u) (hn : RdC size w u m news)
    (h63 : n + m ≤ maxLen) (hbytes : (n + m) * bytes ≤ 140737488355328) (hbase : base ≤ w.heap.size) (hS0 : S w) (hS : ∀ w', w.grownBy w' v.ownBlock → S w')
    (h : ∀ a' w' v', w'.ownsRow base e size v' (n + m) (xs ++ news) → w.grownBy w' v.ownBlock → Nx N a a' dd v' → wpAnyH P .any ops Q S fuel (L.setIfInBounds i true) a' w') : wpAnyH P .any ops Q S (fuel + 1) L a w := by
  obtain ⟨hl, h1, ⟨rfl, rfl⟩ | ⟨ad, c, rfl, hc, hb, hnews⟩⟩ := hn
  · obtain rfl : news = [] := List.eq_nil_of_length_eq_zero (by simpa using hl)
    refine wpAnyH_all hr (by simp) fun j hj => ?_
    obtain rfl : j = i := by simpa using hj
    unfold wpOp
    rw [ho]
    simp only [hw, if_true]
    refine .inl ?_
    have hrun := run_append_owned_none (P := P) (w := w) base t ty e ti size ht hi v n xs hown
    unfold Oper.wp
    simp [execOp, resolve, invoke, builtin, hs, hx, hrun, Result.andThen]
    refine ⟨hS0, ?_⟩
    exact h _ w v (by simpa using hown) (gb_self) (Nx.put ok hN v)
  · exact h_app hr ho ok hw hN ht hi hz hsize hby hzs hsz hs hown hx hl hnews h1 h63 hbytes hbase hS h
end
end Gx
namespace Rm
open Go Go.RowKit Gx
def vD (x : VerD) : DS := memB (x.V.map Int.toNat) []
def ndI (x : VerD) : List (Int × Int) := (x.s, x.c) :: x.M
def pF (L : List VerD) (id : List UInt8) : List VerD := L.filter fun x => decide (x.id = id)
def pV (L : List VerD) (id : List UInt8) : DS := fun s c => (pF L id).any fun x => vD x s c
def pI (L : List VerD) (id : List UInt8) : List (Int × Int) := (pF L id).flatMap ndI
def toN (l : List (Int × Int)) : List (Nat × Nat) := l.map fun d => (d.1.toNat, d.2.toNat)
/-- all that is past of a thing -/
def pD (L : List VerD) (id : List UInt8) : DS := addS (pV L id) (toN (pI L id))
theorem pF_step {L : List VerD} {i : Nat} {x : VerD} {id : List UInt8} (h : L[i]? = some x) (hid : x.id = id) : pF (L.take (i + 1)) id = pF (L.take i) id ++ [x] := by
  unfold pF
  rw [List.take_add_one, h, List.filter_append]
  simp [hid]
theorem pF_skip {L : List VerD} {i : Nat} {x : VerD} {id : List UInt8} (h : L[i]? = some x) (hid : ¬ x.id = id) : pF (L.take (i + 1)) id = pF (L.take i) id := by
  unfold pF
  rw [List.take_add_one, h, List.filter_append]
  simp [hid]
theorem pV_step {L : List VerD} {i : Nat} {x : VerD} {id : List UInt8} (h : L[i]? = some x) (hid : x.id = id) : pV (L.take (i + 1)) id = orD (pV (L.take i) id) (vD x) := by
  funext s c
  unfold pV orD
  rw [pF_step h hid, List.any_append]
  simp
theorem pV_skip {L : List VerD} {i : Nat} {x : VerD} {id : List UInt8} (h : L[i]? = some x) (hid : ¬ x.id = id) : pV (L.take (i + 1)) id = pV (L.take i) id := by
  unfold pV
  rw [pF_skip h hid]
theorem pI_step {L : List VerD} {i : Nat} {x : VerD} {id : List UInt8} (h : L[i]? = some x) (hid : x.id = id) : pI (L.take (i + 1)) id = pI (L.take i) id ++ ndI x := by
  unfold pI
  rw [pF_step h hid, List.flatMap_append]
  simp
theorem pI_skip {L : List VerD} {i : Nat} {x : VerD} {id : List UInt8} (h : L[i]? = some x) (hid : ¬ x.id = id) : pI (L.take (i + 1)) id = pI (L.take i) id := by
  unfold pI
  rw [pF_skip h hid]
theorem pV_pure (L : List VerD) (id : List UInt8) : Pure (pV L id) := pure_of fun s c hi hc hd => by
  unfold pV at hd ⊢
  rw [List.any_eq_true] at hd ⊢
  obtain ⟨x, hx, h⟩ := hd
  exact ⟨x, hx, (pure_vec _).down hi hc h⟩
theorem pV_nil (L : List VerD) (id : List UInt8) : formV (pV (L.take 0) id) = [] := by
  have ok0 : OkV [] [] := ⟨by simp, by simp, by simp, by simp, by simp⟩
  refine (ok0.form (D := pV (L.take 0) id) fun s c i => ?_).1
  rw [List.take_zero]
  have : ¬ ((1 ≤ c ∧ c ≤ cv [] s) ∨ (s, c) ∈ ([] : List (Nat × Nat))) := by
    rintro (h | h)
    · simp [cv] at h; omega
    · cases h
  rw [← memB_iff, Bool.not_eq_true] at this
  rw [this]
  rfl
theorem pairs_toN {l : List (Int × Int)} (h : ∀ d ∈ l, dotB d = true) : pairs (toN l) = l := by
  unfold pairs toN
  rw [List.map_map]
  conv => rhs; rw [← List.map_id l]
  refine List.map_congr_left fun d hd => ?_
  obtain ⟨h1, h2, h3, h4⟩ := (dotB_iff _).1 (h d hd)
  simp only [Function.comp, id]
  rw [Int.toNat_of_nonneg h1, Int.toNat_of_nonneg (by omega)]
theorem toN_in {l : List (Int × Int)} (h : ∀ d ∈ l, dotB d = true) : ∀ d ∈ toN l, inR d.1 d.2 := fun d hd => by
  unfold toN at hd
  obtain ⟨e, he, rfl⟩ := List.mem_map.1 hd
  obtain ⟨h1, h2, h3, h4⟩ := (dotB_iff _).1 (h e he)
  exact ⟨by simp only; omega, by simp only; omega, by simp only; omega⟩
theorem chk_dots {V : List Int} {M : List (Int × Int)} (h : chkK V M = 0) : M.length ≤ 60 ∧ ∀ d ∈ M, dotB d = true := by
  obtain ⟨v, m, rfl, rfl, ok, hl⟩ := chkK_zero h
  refine ⟨by rw [pairs_len]; exact hl, fun d hd => ?_⟩
  unfold pairs at hd
  obtain ⟨e, he, rfl⟩ := List.mem_map.1 hd
  obtain ⟨h1, h2, h3⟩ := ok.dots e he
  rw [dotB_iff]
  refine ⟨by simp only; omega, by simp only; omega, by simp only; omega, by simp only; omega⟩
theorem nd_in {x : VerD} (h : chkOne x = 0) : (ndI x).length ≤ 61 ∧ ∀ d ∈ ndI x, dotB d = true := by
  obtain ⟨-, h2, h3, -⟩ := chkOne_zero h
  obtain ⟨h4, h5⟩ := chk_dots h3
  refine ⟨by unfold ndI; rw [List.length_cons]; omega, fun d hd => ?_⟩
  rcases List.mem_cons.1 hd with rfl | hd
  · exact argB_dot h2
  · exact h5 d hd
theorem pI_in {L : List VerD} (id : List UInt8) (h : ∀ x ∈ L, chkOne x = 0) : ∀ d ∈ pI L id, dotB d = true := fun d hd => by
  unfold pI at hd
  obtain ⟨x, hx, h1⟩ := List.mem_flatMap.1 hd
  exact (nd_in (h x (List.mem_filter.1 hx).1)).2 d h1
theorem flatMap_len {α β : Type} {f : α → List β} {n : Nat} : ∀ l : List α, (∀ x ∈ l, (f x).length ≤ n) → (l.flatMap f).length ≤ n * l.length
  | [], _ => by simp
  | a :: l, h => by
    have ih := flatMap_len l fun x hx => h x (List.mem_cons_of_mem _ hx)
    have h1 := h a (List.mem_cons_self ..)
    rw [List.flatMap_cons, List.length_append, List.length_cons, Nat.mul_add]
    omega
theorem pI_len {L : List VerD} (id : List UInt8) (h : ∀ x ∈ L, chkOne x = 0) : (pI L id).length ≤ 61 * L.length := by
  unfold pI
  refine Nat.le_trans (flatMap_len _ fun x hx => (nd_in (h x (List.mem_filter.1 hx).1)).1) (Nat.mul_le_mul_left _ ?_)
  exact List.length_filter_le _ _
end Rm
namespace Go.Proofs.Ytbpkfkljeibjoaa
open Go.RowKit Rm Gx
theorem knR_vecN {w : World} {base n c : Nat} {a : Option Addr} {mv : Value} {v : List Nat} (h : w.ownsRow base 3 1 (.slice a n c) n (flatI v)) (hm : NoM mv) : KnR w (.agg #[.slice a n c, mv]) (ints v) [] := by
  have hn : n = v.length := by
    have := h.1
    unfold flatI at this
    rw [List.length_map] at this
    omega
  subst hn
  exact knR_vecM h hm
theorem noM_rd {w : World} {vv : Value} {V : List Int} {M : List (Int × Int)} {mv : Value} (h : KnR w (.agg #[vv, mv]) V M) : KnR w (.agg #[vv, .slice none 0 0]) V [] := by
  obtain ⟨a, b, e, h1, -, -⟩ := h
  have e1 : vv = a := by
    injection e with e
    have e := congrArg Array.toList e
    exact (List.cons.inj e).1
  subst e1
  exact ⟨_, _, rfl, h1, (noM_nil w).1, (noM_nil w).2⟩
/-- two sets that their vectors hold alone are joined -/
theorem join_v (k k' : Value) (D E : DS) (V' : List Int) (M' : List (Int × Int)) (base : Nat) (w : World) (hb : base ≤ w.heap.size) (hD : Pure D) (hE : chkK V' M' = 0) (hEE : E = memB (V'.map Int.toNat) []) (hk : KnR w k (ints (formV D)) []) (hk' : KnR w k' V' []) :
    Calls Try.prog 18 #[k, k'] w fun e w' => ∃ va n vc ma mc, e = .returned (.tuple #[.agg #[.slice va n vc, .slice ma 0 mc], .int .i64 0]) ∧ w'.ownsRow base 3 1 (.slice va n vc) n (flatI (formV (orD D E))) ∧ NoM (.slice ma 0 mc) ∧ Gr w w' := by
  obtain ⟨v, m, rfl, rfl, ok, hl⟩ := chkK_zero hE
  have ev : (ints v).map Int.toNat = v := by
    unfold ints
    rw [List.map_map]
    conv => rhs; rw [← List.map_id v]
    exact List.map_congr_left fun x _ => by simp
  rw [ev] at hEE
  subst hEE
  have okD : OkV (formV D) [] := by have h := form_ok D; rw [hD.formM] at h; exact h
  have okE : OkV v [] := ⟨ok.len, ok.le, ok.last, (fun d hd => by cases hd), List.Pairwise.nil⟩
  refine (join_ok k k' (formV D) v [] [] w hk hk' okD okE (by simp) (by simp)).mono ?_
  rintro e w' ⟨h, g⟩
  have hp : Pure (orD D (memB v [])) := hD.or (pure_vec v)
  have he : EqD (orD (memB (formV D) []) (memB v [])) (orD D (memB v [])) := fun s c i => by
    have := form_mem D s c i
    rw [hD.formM] at this
    unfold orD
    rw [this]
  obtain ⟨k2, h1, h2⟩ := (h.congr he).one
  obtain ⟨f1, f2, f3⟩ := fr_of (D := orD D (memB v [])) (by rw [hp.formM]; exact Nat.zero_le _)
  rw [f1] at h1
  rw [f2, f3, hp.formM] at h2
  have h5 := h2.rd
  obtain ⟨vv, mv, rfl, h3, h4⟩ := h2.less hb
  obtain ⟨a, c, rfl, -⟩ := ow_form h3
  obtain ⟨a', c', rfl, -⟩ := ow_form h4
  exact ⟨a, _, c, a', c', h1, h3, noM_of h5, g⟩
theorem addAll_n (D : DS) (I : List (Int × Int)) (nV nD : Nat) (ka kc ra : Option Addr) (kb kd rc base : Nat) (hD : Pure D) (hI : ∀ d ∈ I, dotB d = true) (hl : I.length ≤ 10000) (hN : NoM (.slice kc 0 kd)) (w0 w : World) (hG : Gr w0 w) (hB : w0.heap.size ≤ base) (hz : base ≤ w.heap.size) (ho : w.ownsRow base 24 2 (.slice ra nD rc) nD (flat I)) (hv : w.ownsRow base 3 1 (.slice ka nV kb) nV (flatI (formV D))) :
    Calls Try.prog 19 #[.agg #[.slice ka nV kb, .slice kc 0 kd], .slice ra nD rc] w fun e w' => ∃ k, e = .returned (.tuple #[k, .int .i64 (frE (addS D (toN I)))]) ∧ KnW base w' k (frV (addS D (toN I))) (frM (addS D (toN I))) ∧ w.grownBy w' (Value.ownBlock (.slice ra nD rc)) := by
  have hn : nV = (formV D).length := by
    have := hv.1
    unfold flatI at this
    rw [List.length_map] at this
    omega
  have hd : nD = (toN I).length := by
    have h1 := ho.1
    have h2 : (flat I).length = I.length * 2 := by rw [flat_len]
    unfold toN
    rw [List.length_map]
    omega
  rw [hn, hd]
  rw [hn] at hv
  rw [hd] at ho
  have ho2 : w.ownsRow base 24 2 (.slice ra (toN I).length rc) (toN I).length (flat (pairs (toN I))) := by rw [pairs_toN hI]; exact ho
  exact addAll_any D (toN I) ka kc ra kb kd rc base hD (toN_in hI) (by unfold toN; rw [List.length_map]; exact hl) hN w0 w hG hB hz ho2 hv
end Go.Proofs.Ytbpkfkljeibjoaa

/- shelf.Past. -/
set_option linter.unusedVariables false
set_option linter.unusedSimpArgs false
namespace Go.Proofs.Ytbpkfkljeibjoaa
open Go.RowKit Rm Gx
theorem rdc_M {w : World} {x : VerI} (h : MeanV w x) : RdC 2 w (.slice x.ma x.d.M.length x.mc) x.d.M.length (flat x.d.M) := by
  obtain ⟨a, b, e, -, -, h3⟩ := h
  have e1 : (Value.slice x.ma x.d.M.length x.mc) = b := by
    unfold VerI.k at e
    injection e with e
    have e := congrArg Array.toList e
    exact (List.cons.inj (List.cons.inj e).2).1
  rw [e1]
  exact h3
theorem knR_form {w : World} {k : Value} {V : List Int} {M : List (Int × Int)} (h : KnR w k V M) : ∃ a n c a' m c', k = .agg #[.slice a n c, .slice a' m c'] := by
  obtain ⟨vv, mv, rfl, ⟨a, c, rfl, -⟩, ⟨a', c', rfl, -⟩, -⟩ := h
  exact ⟨_, _, _, _, _, _, rfl⟩
set_option maxHeartbeats 8000000 in
set_option maxRecDepth 100000 in
theorem past_ok (K : List VerI) (va : Option Addr) (vc : Nat) (l : List UInt8) (hE : chkShf (K.map VerI.d) = 0) (w : World) (hv : RdA encVr 8 w va K) (hm : MeansV w K) :
    Calls Try.prog 5 #[.slice va K.length vc, .string (bs l)] w fun e w' => ∃ k, e = .returned (.tuple #[k, .int .i64 (frE (pD (K.map VerI.d) l))]) ∧ KnR w' k (ints (frV (pD (K.map VerI.d) l))) (pairs (frM (pD (K.map VerI.d) l))) ∧ Gr w w' := by
  have hO := (okS_iff _).1 hE
  have hok := hO.one
  have hl60 : K.length ≤ 60 := by have := hO.len; simpa using this
  refine enter (N := 51) Try.func5 rfl rfl rfl (fun a0 ok0 h0 => ?_)
  have e0_0 : a0.eval (.tmp 0) = .slice va K.length vc := h0 0 _ rfl
  have e0_1 : a0.eval (.tmp 1) = .string (bs l) := h0 1 _ rfl
  clear h0
  have G0 := Gr.refl w
  refine wp_seq_k (fun K1 hK1 => ?_)
  refine wp_region_lit ?_
  refine sal (cs := #[.slice none 0 0, .slice none 0 0]) ok0 rfl (wn _ rfl) rfl (o_al (z := .agg #[.slice none 0 0, .slice none 0 0]) (by kernel_rfl)) (fun an2 w4 b3 W5 n2 => ?_)
  have l6 : w.heap.size ≤ b3 := by rw [W5.eq]; exact G0.size
  have G7 := G0.trans W5.gr
  refine sv n2.ok rfl (wn _ rfl) rfl (o_as ev_const) (fun an8 n8 => ?_)
  refine wpList_nil ?_
  refine th_n (hK1 _ _ ?_)
  refine wp_seq_k (fun K9 hK9 => ?_)
  refine wp_seq_k (fun K10 hK10 => ?_)
  refine wp_region_lit ?_
  refine sv n8.ok rfl (wn _ rfl) rfl (o_mv (n8.ne rfl (n2.ne rfl e0_0))) (fun an11 n11 => ?_)
  refine sc n11.ok rfl (wn _ rfl) rfl (o_f1 Try.func11 rfl rfl rfl n11.at_) ((vchk_any K va vc w4 (hv.gr G7) (hm.gr G7)).mono fun e w' h => (by rw [hE] at h; exact h)) ?_
  rintro _ w13 ⟨rfl, g14⟩
  refine ⟨_, rfl, fun an12 n12 => ?_⟩
  have G15 := G7.trans g14
  have B16 := W5.bk.gr g14
  refine sv n12.ok rfl (wn _ rfl) rfl (o_as n12.at_) (fun an17 n17 => ?_)
  refine wpList_nil ?_
  refine th_n (hK10 _ _ ?_)
  refine wp_seq_k (fun K18 hK18 => ?_)
  refine wp_region_lit ?_
  refine sv n17.ok rfl (wn _ rfl) rfl (o_mv n17.at_) (fun an19 n19 => ?_)
  refine sv n19.ok rfl (wn _ rfl) rfl (o_neq (b := false) n19.at_ ev_const (by decide)) (fun an20 n20 => ?_)
  refine wpList_nil ?_
  refine th_n (hK18 _ _ ?_)
  refine wp_cond_false (n20.at_) ?_
  refine wp_skip ?_
  refine th_n (hK9 _ _ ?_)
  refine wp_seq_k (fun K21 hK21 => ?_)
  refine wp_region_lit ?_
  refine sal (cs := #[.slice none 0 0, .slice none 0 0]) n20.ok rfl (wn _ rfl) rfl (o_al (z := .agg #[.slice none 0 0, .slice none 0 0]) (by kernel_rfl)) (fun an22 w24 b23 W25 n22 => ?_)
  have l26 : b3 < b23 := by rw [W25.eq]; exact B16.lt
  have l27 : w.heap.size ≤ b23 := by rw [W25.eq]; exact G15.size
  have G28 := G15.trans W25.gr
  have B29 := B16.gr W25.gr
  refine wpList_nil ?_
  refine th_n (hK21 _ _ ?_)
  refine wp_seq_k (fun K30 hK30 => ?_)
  refine wp_region_lit ?_
  refine sv n22.ok rfl (wn _ rfl) rfl (o_as ev_const) (fun an31 n31 => ?_)
  refine wpList_nil ?_
  refine th_n (hK30 _ _ ?_)
  refine wp_seq_k (fun K32 hK32 => ?_)
  refine wp_seq_k (fun K33 hK33 => ?_)
  refine wp_region_lit ?_
  have e34 := n31.ne rfl (n22.ne rfl (n20.ne rfl (n19.ne rfl (n17.ne rfl (n12.ne rfl (n11.ne rfl (n8.ne rfl (n2.ne rfl e0_0))))))))
  refine sv n31.ok rfl (wn _ rfl) rfl (o_mv e34) (fun an35 n35 => ?_)
  refine sv n35.ok rfl (wn _ rfl) rfl (o_len n35.at_ Try.underlying22) (fun an36 n36 => ?_)
  refine sv n36.ok rfl (wn _ rfl) rfl (o_mv ev_const) (fun an37 n37 => ?_)
  refine wpList_nil ?_
  refine th_n (hK33 _ _ ?_)
  refine wp_block ?_
  obtain ⟨base, z38⟩ : ∃ n, n = w24.heap.size := ⟨_, rfl⟩
  have l39 : b3 < base := by rw [z38]; exact B29.lt
  have l40 : b23 < base := by rw [z38]; exact W25.bk.lt
  have l41 : w.heap.size ≤ base := by rw [z38]; exact G28.size
  have z42 : base ≤ w24.heap.size := Nat.le_of_eq z38
  have O43 := World.ownsRow_nil w24 base 24 2
  have O44 := World.ownsRow_nil w24 base 3 1
  have e46 := n37.ne rfl (n36.ne rfl (n35.ne rfl (n31.ne rfl (n22.ne rfl (n20.ne rfl (n19.ne rfl (n17.ne rfl (n12.ne rfl (n11.ne rfl (n8.ne rfl (n2.ne rfl e0_1)))))))))))
  have e47 := n37.ne rfl (n36.ne rfl (n35.ne rfl (n31.ne rfl (n22.ne rfl (n20.ne rfl (n19.ne rfl (n17.ne rfl (n12.ne rfl (n11.ne rfl (n8.ne rfl n2.at_))))))))))
  have e48 := n37.ne rfl (n36.ne rfl (n35.ne rfl (n31.ne rfl (n22.ne rfl (n20.ne rfl (n19.ne rfl (n17.ne rfl (n12.ne rfl (n11.ne rfl n8.at_)))))))))
  have e49 := n37.ne rfl (n36.ne rfl (n35.ne rfl (n31.ne rfl n22.at_)))
  have e50 := n37.ne rfl (n36.ne rfl (n35.ne rfl n31.at_))
  refine lp (fun (nL : Nat) (aL : Act) (wL : World) => ∃ i : Nat, ∃ ka : Option Addr, ∃ nV : Nat, ∃ kb : Nat, ∃ kc : Option Addr, ∃ kd : Nat, ∃ ra : Option Addr, ∃ nD : Nat, ∃ rc : Nat, nL = K.length - i ∧ Ok 51 aL ∧ Gr w wL ∧ (aL.eval (.tmp 1) = .string (bs l)) ∧ (aL.eval (.tmp 4) = .pointer (some ⟨b3, 0, none⟩)) ∧ (aL.eval (.tmp 5) = .int .i64 0) ∧ (aL.eval (.tmp 7) = .pointer (some ⟨b23, 0, none⟩)) ∧ (aL.eval (.tmp 8) = .slice ra nD rc) ∧ (aL.eval (.tmp 17) = .slice va K.length vc) ∧ (aL.eval (.tmp 18) = .int .i64 ((K.length : Nat) : Int)) ∧ (aL.eval (.tmp 19) = .int .i64 (i : Int)) ∧ (Bk wL b3 #[.slice none 0 0, .slice none 0 0] 30) ∧ (Bk wL b23 #[.slice ka nV kb, .slice kc 0 kd] 30) ∧ (World.ownsRow wL base 24 2 (.slice ra nD rc) (nD) ((flat (pI (List.take i (K.map VerI.d)) l)))) ∧ (World.ownsRow wL base 3 1 (.slice ka nV kb) (nV) ((flatI (formV (pV (List.take i (K.map VerI.d)) l))))) ∧ (base ≤ wL.heap.size) ∧ (i ≤ K.length) ∧ (NoM (.slice kc 0 kd))) _ ⟨0, none, 0, 0, none, 0, none, 0, 0, rfl, n37.ok, G28, e46, e47, e48, e49, e50, (n37.ne rfl (n36.ne rfl n35.at_)), (n37.ne rfl n36.at_), n37.at_, B29, W25.bk, O43, (by rw [pV_nil]; exact O44), z42, by omega, noM_nil⟩ ?_
  rintro m51 aI45 w53 ⟨i, ka, nV, kb, kc, kd, ra, nD, rc, hmI45, okI45, GI45, s1I45, s4I45, s5I45, s7I45, s8I45, s17I45, s18I45, s19I45, kb3I45, kb23I45, odrI45, okvI45, zbaseI45, hiI45, hNI45⟩ KI45 hKI45
  have hlnI45 : nD ≤ 61 * i := by
    have h1 := (odrI45).1
    have h2 := pI_len l (L := (List.take i (K.map VerI.d))) (fun x hx => hok x (List.mem_of_mem_take hx))
    rw [flat_len] at h1
    rw [List.length_take] at h2
    have h3 : 61 * min i (K.map VerI.d).length ≤ 61 * i := Nat.mul_le_mul_left _ (Nat.min_le_left _ _)
    omega
  refine wp_seq_k (fun K54 hK54 => ?_)
  refine wp_region_lit ?_
  refine sv okI45 rfl (wn _ rfl) rfl (o_ltI s19I45 s18I45) (fun an55 n55 => ?_)
  refine wpList_nil ?_
  refine th_n (hK54 _ _ ?_)
  refine wp_seq_k (fun K56 hK56 => ?_)
  by_cases c57 : (i : Int) < ((K.length : Nat) : Int)
  · refine wp_cond_true ((n55.at_).trans (congrArg Value.bool (decide_eq_true c57))) ?_
    refine wp_skip ?_
    refine th_n (hK56 _ _ ?_)
    refine wp_seq_k (fun K58 hK58 => ?_)
    refine wp_block ?_
    refine wp_seq_k (fun K59 hK59 => ?_)
    refine wp_region_lit ?_
    have h60l : i < List.length K := by omega
    obtain ⟨bh60, fh60, h60a, h60b, h60c⟩ := hv (ne_nil_of_lt h60l)
    obtain ⟨xh60, h60x⟩ : ∃ x, (K)[i]? = some x := ⟨_, List.getElem?_eq_getElem h60l⟩
    refine sv n55.ok rfl (wn _ rfl) rfl (o_iaV (i := i) (s := 8) h60a (n55.ne rfl s17I45) (n55.ne rfl s19I45) Try.underlying22 (by kernel_rfl) h60l) (fun an61 n61 => ?_)
    refine sv n61.ok rfl (wn _ rfl) rfl (o_ldA (k := fh60 + i * 8) n61.at_ (cs := [.string (bs xh60.d.id), .int .i64 (xh60.d.s), .int .i64 (xh60.d.c), .int .i64 (xh60.d.t), .int .i64 (xh60.d.n), .int .i64 (xh60.d.b), .slice xh60.va xh60.d.V.length xh60.vc, .slice xh60.ma xh60.d.M.length xh60.mc]) (fun j v hv => (Below.cell GI45 h60b).trans (h60c _ _ h60x j v hv)) Try.underlying32 rfl (by kernel_rfl)) (fun an62 n62 => ?_)
    refine sal (cs := #[.string (bs []), .int .i64 0, .int .i64 0, .int .i64 0, .int .i64 0, .int .i64 0, .slice none 0 0, .slice none 0 0]) n62.ok rfl (wn _ rfl) rfl (o_al (z := .agg #[.string (bs []), .int .i64 0, .int .i64 0, .int .i64 0, .int .i64 0, .int .i64 0, .slice none 0 0, .slice none 0 0]) (by kernel_rfl)) (fun an63 w65 b64 W66 n63 => ?_)
    have l67 : b3 < b64 := by rw [W66.eq]; exact kb3I45.lt
    have l68 : b23 < b64 := by rw [W66.eq]; exact kb23I45.lt
    have l69 : w.heap.size ≤ b64 := by rw [W66.eq]; exact GI45.size
    have l70 : ∀ k, Value.ownBlock (.slice ra nD rc) = some k → k < b64 := fun k e => by rw [W66.eq]; exact ow_in odrI45 k e
    have l71 : ∀ k, Value.ownBlock (.slice ka nV kb) = some k → k < b64 := fun k e => by rw [W66.eq]; exact ow_in okvI45 k e
    have G72 := GI45.trans W66.gr
    have B73 := kb3I45.gr W66.gr
    have B74 := kb23I45.gr W66.gr
    have z75 := Nat.le_trans zbaseI45 W66.gr.size
    have O76 := ow_gr odrI45 W66.gr
    have O77 := ow_gr okvI45 W66.gr
    refine ssR rfl (wn _ rfl) (o_stR n63.at_ (n63.ne rfl n62.at_) W66.bk (by kernel_rfl) rfl (by simp [Value.oneCell'])) W66.bk (fun w78 u79 u79b => ?_)
    have G80 : Gr w w78 := Below.upd G72 l69 u79
    have B81 := B73.upd u79 (Nat.ne_of_lt l67)
    have B82 := B74.upd u79 (Nat.ne_of_lt l68)
    have z83 : base ≤ w78.heap.size := by rw [u79.size]; exact z75
    have O84 := ow_upd_ne O76 u79 l70
    have O85 := ow_upd_ne O77 u79 l71
    refine wpList_nil ?_
    refine th_n (hK59 _ _ ?_)
    refine wp_seq_k (fun K86 hK86 => ?_)
    refine wp_region_lit ?_
    refine sv n63.ok rfl (wn _ rfl) rfl (o_fa (z := 1) n63.at_ Try.underlying32 rfl (by kernel_rfl) rfl rfl) (fun an87 n87 => ?_)
    refine sv n87.ok rfl (wn _ rfl) rfl (o_ld n87.at_ (Try.isAgg9 _) (u79b.cell _ rfl)) (fun an88 n88 => ?_)
    have e89 := n88.ne rfl (n87.ne rfl (n63.ne rfl (n62.ne rfl (n61.ne rfl (n55.ne rfl s1I45)))))
    refine sv n88.ok rfl (wn _ rfl) rfl (o_mv e89) (fun an90 n90 => ?_)
    refine sv n90.ok rfl (wn _ rfl) rfl (o_eqS (n90.ne rfl n88.at_) n90.at_) (fun an91 n91 => ?_)
    refine wpList_nil ?_
    refine th_n (hK86 _ _ ?_)
    by_cases c92 : xh60.d.id = l
    · refine wp_cond_true ((n91.at_).trans (congrArg Value.bool (decide_eq_true c92))) ?_
      refine wp_seq_k (fun K93 hK93 => ?_)
      refine wp_region_lit ?_
      have e94 := n91.ne rfl (n90.ne rfl (n88.ne rfl (n87.ne rfl (n63.ne rfl (n62.ne rfl (n61.ne rfl (n55.ne rfl s7I45)))))))
      refine sv n91.ok rfl (wn _ rfl) rfl (o_ldR e94 B82 Try.underlying30 rfl (by kernel_rfl)) (fun an95 n95 => ?_)
      have e96 := n95.ne rfl (n91.ne rfl (n90.ne rfl (n88.ne rfl (n87.ne rfl n63.at_))))
      refine sv n95.ok rfl (wn _ rfl) rfl (o_fa (z := 2) e96 Try.underlying32 rfl (by kernel_rfl) rfl rfl) (fun an97 n97 => ?_)
      refine sv n97.ok rfl (wn _ rfl) rfl (o_fa (z := 1) n97.at_ Try.underlying30 rfl (by kernel_rfl) rfl rfl) (fun an98 n98 => ?_)
      refine sv n98.ok rfl (wn _ rfl) rfl (o_ld n98.at_ (Try.isAgg27 _) (u79b.cell _ rfl)) (fun an99 n99 => ?_)
      refine sv n99.ok rfl (wn _ rfl) rfl (o_bd (cells := #[.slice xh60.va xh60.d.V.length xh60.vc, .slice none 0 0]) (vs := [(0, .slice xh60.va xh60.d.V.length xh60.vc)]) (by simp [n99.at_, ev_const]) (by kernel_rfl)) (fun an100 n100 => ?_)
      have hMh60 : xh60.d.M.length ≤ 60 := (chk_dots (chkOne_zero (hok _ (List.mem_map_of_mem (List.mem_of_getElem? h60x)))).2.2.1).1
      have e101 := n100.ne rfl (n99.ne rfl (n98.ne rfl (n97.ne rfl n95.at_)))
      refine sc n100.ok rfl (wn _ rfl) rfl (o_f2 Try.func18 rfl rfl rfl e101 n100.at_) ((by have h := join_v (.agg #[.slice ka nV kb, .slice kc 0 kd]) (.agg #[.slice xh60.va xh60.d.V.length xh60.vc, .slice none 0 0]) (pV (List.take i (K.map VerI.d)) l) (vD xh60.d) xh60.d.V xh60.d.M base w78 z83 (pV_pure _ _) (chkOne_zero (hok _ (List.mem_map_of_mem (List.mem_of_getElem? h60x)))).2.2.1 rfl (knR_vecN O85 hNI45) (noM_rd ((hm _ (List.mem_of_getElem? h60x)).gr G80)); rw [← pV_step (map_at h60x) c92] at h; exact h)) ?_
      rintro _ w103 ⟨ka2, nV2, kb2, kc2, kd2, rfl, hkv2, hN2, g104⟩
      refine ⟨_, rfl, fun an102 n102 => ?_⟩
      have G105 := G80.trans g104
      have B106 := B81.gr g104
      have B107 := B82.gr g104
      have B108 := u79b.gr g104
      have z109 := Nat.le_trans z83 g104.size
      have O110 := ow_gr O84 g104
      refine sv n102.ok rfl (wn _ rfl) rfl (o_mv n102.at_) (fun an111 n111 => ?_)
      refine sv n111.ok rfl (wn _ rfl) rfl (o_ex n111.at_ rfl) (fun an112 n112 => ?_)
      refine sv n112.ok rfl (wn _ rfl) rfl (o_ex (n112.ne rfl n111.at_) rfl) (fun an113 n113 => ?_)
      have e114 := n113.ne rfl (n112.ne rfl (n111.ne rfl (n102.ne rfl (n100.ne rfl (n99.ne rfl (n98.ne rfl (n97.ne rfl (n95.ne rfl e94))))))))
      refine ssR rfl (wn _ rfl) (o_stR e114 (n113.ne rfl n112.at_) B107 (by kernel_rfl) rfl (by simp [Value.oneCell'])) B107 (fun w115 u116 u116b => ?_)
      have G117 : Gr w w115 := Below.upd G105 l27 u116
      have B118 := B106.upd u116 (Nat.ne_of_lt l26)
      have B119 := B108.upd u116 (Nat.ne_of_gt l68)
      have z120 : base ≤ w115.heap.size := by rw [u116.size]; exact z109
      have O121 := ow_upd O110 u116 l40
      have O122 := ow_upd hkv2 u116 l40
      refine wpList_nil ?_
      refine th_n (hK93 _ _ ?_)
      refine h_startB b64 #[.string (bs xh60.d.id), .int .i64 (xh60.d.s), .int .i64 (xh60.d.c), .int .i64 (xh60.d.t), .int .i64 (xh60.d.n), .int .i64 (xh60.d.b), .slice xh60.va xh60.d.V.length xh60.vc, .slice xh60.ma xh60.d.M.length xh60.mc] 32 10 #[false, false, false, false, false, false, false, false, false, false] (by kernel_rfl) rfl rfl ?_
      have g123 := (Gr.refl w115).drew
      generalize w115.drew = w124 at *
      have G125 := G117.trans g123
      have B126 := B118.gr g123
      have B127 := u116b.gr g123
      have B128 := B119.gr g123
      have z129 := Nat.le_trans z120 g123.size
      have O130 := ow_gr O121 g123
      have O131 := ow_gr O122 g123
      have e132 := n113.ne rfl (n112.ne rfl (n111.ne rfl (n102.ne rfl (n100.ne rfl (n99.ne rfl (n98.ne rfl (n97.ne rfl (n95.ne rfl (n91.ne rfl (n90.ne rfl (n88.ne rfl (n87.ne rfl (n63.ne rfl (n62.ne rfl (n61.ne rfl (n55.ne rfl s8I45))))))))))))))))
      refine h_take (S := (SxB b64 #[.string (bs xh60.d.id), .int .i64 (xh60.d.s), .int .i64 (xh60.d.c), .int .i64 (xh60.d.t), .int .i64 (xh60.d.n), .int .i64 (xh60.d.b), .slice xh60.va xh60.d.V.length xh60.vc, .slice xh60.ma xh60.d.M.length xh60.mc] 32)) (i := 0) (fuel := 9) n113.ok rfl rfl rfl (by kernel_rfl) (by kernel_rfl) (by kernel_rfl) (fun _ _ _ _ _ h => h) (wn _ rfl) (fun x hx => o_mv e132) B128 (fun an133 n133 => ?_)
      have e134 := n133.ne rfl (n113.ne rfl (n112.ne rfl (n111.ne rfl (n102.ne rfl (n100.ne rfl (n99.ne rfl (n98.ne rfl (n97.ne rfl e96))))))))
      refine h_take (S := (SxB b64 #[.string (bs xh60.d.id), .int .i64 (xh60.d.s), .int .i64 (xh60.d.c), .int .i64 (xh60.d.t), .int .i64 (xh60.d.n), .int .i64 (xh60.d.b), .slice xh60.va xh60.d.V.length xh60.vc, .slice xh60.ma xh60.d.M.length xh60.mc] 32)) (i := 1) (fuel := 8) n133.ok rfl rfl rfl (by kernel_rfl) (by kernel_rfl) (by kernel_rfl) (fun _ _ _ _ _ h => h) (wn _ rfl) (fun x hx => o_fa (z := 2) e134 Try.underlying32 rfl (by kernel_rfl) rfl rfl) B128 (fun an135 n135 => ?_)
      refine h_take (S := (SxB b64 #[.string (bs xh60.d.id), .int .i64 (xh60.d.s), .int .i64 (xh60.d.c), .int .i64 (xh60.d.t), .int .i64 (xh60.d.n), .int .i64 (xh60.d.b), .slice xh60.va xh60.d.V.length xh60.vc, .slice xh60.ma xh60.d.M.length xh60.mc] 32)) (i := 2) (fuel := 7) n135.ok rfl rfl rfl (by kernel_rfl) (by kernel_rfl) (by kernel_rfl) (fun _ _ _ _ _ h => h) (wn _ rfl) (fun x hx => o_ldA (k := 1) (cs := [.int .i64 (xh60.d.s), .int .i64 (xh60.d.c)]) n135.at_ (bk_part (show Bk x b64 #[.string (bs xh60.d.id), .int .i64 (xh60.d.s), .int .i64 (xh60.d.c), .int .i64 (xh60.d.t), .int .i64 (xh60.d.n), .int .i64 (xh60.d.b), .slice xh60.va xh60.d.V.length xh60.vc, .slice xh60.ma xh60.d.M.length xh60.mc] 32 from hx) rfl) Try.underlying24 rfl (by kernel_rfl)) B128 (fun an136 n136 => ?_)
      have e137 := n136.ne rfl (n135.ne rfl (n133.ne rfl (n113.ne rfl (n112.ne rfl (n111.ne rfl (n102.ne rfl (n100.ne rfl (n99.ne rfl (n98.ne rfl (n97.ne rfl e96))))))))))
      refine h_take (S := (SxB b64 #[.string (bs xh60.d.id), .int .i64 (xh60.d.s), .int .i64 (xh60.d.c), .int .i64 (xh60.d.t), .int .i64 (xh60.d.n), .int .i64 (xh60.d.b), .slice xh60.va xh60.d.V.length xh60.vc, .slice xh60.ma xh60.d.M.length xh60.mc] 32)) (i := 5) (fuel := 6) n136.ok rfl rfl rfl (by kernel_rfl) (by kernel_rfl) (by kernel_rfl) (fun _ _ _ _ _ h => h) (wn _ rfl) (fun x hx => o_fa (z := 2) e137 Try.underlying32 rfl (by kernel_rfl) rfl rfl) B128 (fun an138 n138 => ?_)
      refine h_take (S := (SxB b64 #[.string (bs xh60.d.id), .int .i64 (xh60.d.s), .int .i64 (xh60.d.c), .int .i64 (xh60.d.t), .int .i64 (xh60.d.n), .int .i64 (xh60.d.b), .slice xh60.va xh60.d.V.length xh60.vc, .slice xh60.ma xh60.d.M.length xh60.mc] 32)) (i := 6) (fuel := 5) n138.ok rfl rfl rfl (by kernel_rfl) (by kernel_rfl) (by kernel_rfl) (fun _ _ _ _ _ h => h) (wn _ rfl) (fun x hx => o_fa (z := 1) n138.at_ Try.underlying30 rfl (by kernel_rfl) rfl rfl) B128 (fun an139 n139 => ?_)
      refine h_take (S := (SxB b64 #[.string (bs xh60.d.id), .int .i64 (xh60.d.s), .int .i64 (xh60.d.c), .int .i64 (xh60.d.t), .int .i64 (xh60.d.n), .int .i64 (xh60.d.b), .slice xh60.va xh60.d.V.length xh60.vc, .slice xh60.ma xh60.d.M.length xh60.mc] 32)) (i := 7) (fuel := 4) n139.ok rfl rfl rfl (by kernel_rfl) (by kernel_rfl) (by kernel_rfl) (fun _ _ _ _ _ h => h) (wn _ rfl) (fun x hx => o_ld n139.at_ (Try.isAgg28 _) ((show Bk x b64 #[.string (bs xh60.d.id), .int .i64 (xh60.d.s), .int .i64 (xh60.d.c), .int .i64 (xh60.d.t), .int .i64 (xh60.d.n), .int .i64 (xh60.d.b), .slice xh60.va xh60.d.V.length xh60.vc, .slice xh60.ma xh60.d.M.length xh60.mc] 32 from hx).cell _ rfl)) B128 (fun an140 n140 => ?_)
      have e142 := n140.ne rfl (n139.ne rfl (n138.ne rfl n136.at_))
      obtain ⟨i141, i141a, i141b, i141c⟩ := info3_of (show (Try.prog.info? 24).map (fun i => (i.zero, i.size)) = some (some (.agg #[.int .i64 0, .int .i64 0]), 2) by kernel_rfl)
      refine h_sals (S := (SxB b64 #[.string (bs xh60.d.id), .int .i64 (xh60.d.s), .int .i64 (xh60.d.c), .int .i64 (xh60.d.t), .int .i64 (xh60.d.n), .int .i64 (xh60.d.b), .slice xh60.va xh60.d.V.length xh60.vc, .slice xh60.ma xh60.d.M.length xh60.mc] 32)) (i := 3) (fuel := 3) (cs := #[.int .i64 (xh60.d.s), .int .i64 (xh60.d.c)]) (by kernel_rfl) rfl n140.ok rfl (wn _ rfl) rfl (o_bs (vs := [(0, .agg #[.int .i64 (xh60.d.s), .int .i64 (xh60.d.c)])]) (by simp [e142, ev_const]) Try.underlying28 i141a i141b (by rw [i141c]; rfl) (by rw [i141c]; rfl) (by rw [i141c]; kernel_rfl)) (fun w_ g_ => Bk.gr B128 g_) (fun an143 w145 b144 W146 n143 => ?_)
      have l147 : b3 < b144 := by rw [W146.eq]; exact B126.lt
      have l148 : b23 < b144 := by rw [W146.eq]; exact B127.lt
      have l149 : b64 < b144 := by rw [W146.eq]; exact B128.lt
      have l150 : w.heap.size ≤ b144 := by rw [W146.eq]; exact G125.size
      have l151 : ∀ k, Value.ownBlock (.slice ra nD rc) = some k → k < b144 := fun k e => by rw [W146.eq]; exact ow_in O130 k e
      have l152 : ∀ k, Value.ownBlock (.slice ka2 nV2 kb2) = some k → k < b144 := fun k e => by rw [W146.eq]; exact ow_in O131 k e
      have G153 := G125.trans W146.gr
      have B154 := B126.gr W146.gr
      have B155 := B127.gr W146.gr
      have B156 := B128.gr W146.gr
      have z157 := Nat.le_trans z129 W146.gr.size
      have O158 := ow_gr O130 W146.gr
      have O159 := ow_gr O131 W146.gr
      have e160 := n143.ne rfl (n140.ne rfl (n139.ne rfl (n138.ne rfl (n136.ne rfl (n135.ne rfl n133.at_)))))
      obtain ⟨i161, i161a, i161b, i161c, i161d⟩ := info_of (show (Try.prog.info? 24).map (fun i => (i.zero, i.size, i.bytes)) = some (some (.agg #[.int .i64 0, .int .i64 0]), 2, 16) by kernel_rfl)
      refine h_app (S := SxB b64 #[.string (bs xh60.d.id), .int .i64 (xh60.d.s), .int .i64 (xh60.d.c), .int .i64 (xh60.d.t), .int .i64 (xh60.d.n), .int .i64 (xh60.d.b), .slice xh60.va xh60.d.V.length xh60.vc, .slice xh60.ma xh60.d.M.length xh60.mc] 32) (i := 4) (fuel := 2) (base := base) (n := nD) (xs := (flat (pI (List.take i (K.map VerI.d)) l))) (m := 1) (news := [.int .i64 xh60.d.s, .int .i64 xh60.d.c]) (by kernel_rfl) rfl n143.ok (wn _ rfl) rfl Try.underlying28 i161a i161b i161c i161d rfl (by omega) e160 O158 n143.at_ rfl (fun j u hu => by rw [add_n]; exact bk_part W146.bk (k := 0) rfl j u hu) (fun u hu => by simp at hu; rcases hu with rfl | rfl <;> rfl) (by simp only [maxLen]; omega) (by omega) z157 (fun w_ g_ => bk_grownT B156 O158 g_ (by decide)) (fun an162 w163 v164 O167 gg168 n162 => ?_)
      obtain ⟨a165, c166, rfl, c166l⟩ := ow_form O167
      have G169 := Gr.grown G153 gg168 (fun k e => Nat.le_trans l41 (ow_lt O158 k e))
      have B170 := B154.grown gg168 (ow_lt O158) l39
      have B171 := B155.grown gg168 (ow_lt O158) l40
      have B172 := B156.grown_ne gg168 l70
      have B173 := W146.bk.grown_ne gg168 l151
      have z174 := Nat.le_trans z157 gg168.size
      have O175 := ow_grown O159 O158 gg168 rfl
      obtain ⟨i176, i176a, i176b, i176c, i176d⟩ := info_of (show (Try.prog.info? 24).map (fun i => (i.zero, i.size, i.bytes)) = some (some (.agg #[.int .i64 0, .int .i64 0]), 2, 16) by kernel_rfl)
      refine h_appR (S := SxB b64 #[.string (bs xh60.d.id), .int .i64 (xh60.d.s), .int .i64 (xh60.d.c), .int .i64 (xh60.d.t), .int .i64 (xh60.d.n), .int .i64 (xh60.d.b), .slice xh60.va xh60.d.V.length xh60.vc, .slice xh60.ma xh60.d.M.length xh60.mc] 32) (i := 8) (fuel := 1) (base := base) (n := (nD + 1)) (xs := ((flat (pI (List.take i (K.map VerI.d)) l)) ++ [.int .i64 xh60.d.s, .int .i64 xh60.d.c])) (m := xh60.d.M.length) (news := flat xh60.d.M) (by kernel_rfl) rfl n162.ok (wn _ rfl) rfl rfl Try.underlying28 i176a i176b i176c i176d rfl (by omega) n162.at_ O167 (n162.ne rfl (n143.ne rfl n140.at_)) (rdc_M ((hm _ (List.mem_of_getElem? h60x)).gr G169)) (by simp only [maxLen]; omega) (by omega) z174 B172 (fun w_ g_ => bk_grownT B172 O167 g_ (by decide)) (fun an177 w178 v179 O182 gg183 n177 => ?_)
      obtain ⟨a180, c181, rfl, c181l⟩ := ow_form O182
      have G184 := Gr.grown G169 gg183 (fun k e => Nat.le_trans l41 (ow_lt O167 k e))
      have B185 := B170.grown gg183 (ow_lt O167) l39
      have B186 := B171.grown gg183 (ow_lt O167) l40
      have B187 := bk_grownT B172 O167 gg183 (by decide)
      have z188 := Nat.le_trans z174 gg183.size
      have O189 := ow_grown O175 O167 gg183 rfl
      refine h_take (S := (SxB b64 #[.string (bs xh60.d.id), .int .i64 (xh60.d.s), .int .i64 (xh60.d.c), .int .i64 (xh60.d.t), .int .i64 (xh60.d.n), .int .i64 (xh60.d.b), .slice xh60.va xh60.d.V.length xh60.vc, .slice xh60.ma xh60.d.M.length xh60.mc] 32)) (i := 9) (fuel := 0) n177.ok rfl rfl rfl (by kernel_rfl) (by kernel_rfl) (by kernel_rfl) (fun _ _ _ _ _ h => h) (wn _ rfl) (fun x hx => o_as n177.at_) B187 (fun an190 n190 => ?_)
      refine wpAnyH_done (by kernel_rfl) ?_ _
      refine ib_n ?_
      refine th_n (hK58 _ _ ?_)
      refine wp_region_lit ?_
      have e191 := n190.ne rfl (n177.ne rfl (n162.ne rfl (n143.ne rfl (n140.ne rfl (n139.ne rfl (n138.ne rfl (n136.ne rfl (n135.ne rfl (n133.ne rfl (n113.ne rfl (n112.ne rfl (n111.ne rfl (n102.ne rfl (n100.ne rfl (n99.ne rfl (n98.ne rfl (n97.ne rfl (n95.ne rfl (n91.ne rfl (n90.ne rfl (n88.ne rfl (n87.ne rfl (n63.ne rfl (n62.ne rfl (n61.ne rfl (n55.ne rfl s19I45))))))))))))))))))))))))))
      refine sv n190.ok rfl (wn _ rfl) rfl (o_add (r := ((i + 1 : Nat) : Int)) e191 ev_const (by omega) (by omega)) (fun an192 n192 => ?_)
      refine sv n192.ok rfl (wn _ rfl) rfl (o_mv n192.at_) (fun an193 n193 => ?_)
      refine wpList_nil ?_
      have e194 := n193.ne rfl (n192.ne rfl (n190.ne rfl (n177.ne rfl (n162.ne rfl (n143.ne rfl (n140.ne rfl (n139.ne rfl (n138.ne rfl (n136.ne rfl (n135.ne rfl (n133.ne rfl (n113.ne rfl (n112.ne rfl (n111.ne rfl (n102.ne rfl (n100.ne rfl (n99.ne rfl (n98.ne rfl (n97.ne rfl (n95.ne rfl (n91.ne rfl (n90.ne rfl e89))))))))))))))))))))))
      have e195 := n193.ne rfl (n192.ne rfl (n190.ne rfl (n177.ne rfl (n162.ne rfl (n143.ne rfl (n140.ne rfl (n139.ne rfl (n138.ne rfl (n136.ne rfl (n135.ne rfl (n133.ne rfl (n113.ne rfl (n112.ne rfl (n111.ne rfl (n102.ne rfl (n100.ne rfl (n99.ne rfl (n98.ne rfl (n97.ne rfl (n95.ne rfl (n91.ne rfl (n90.ne rfl (n88.ne rfl (n87.ne rfl (n63.ne rfl (n62.ne rfl (n61.ne rfl (n55.ne rfl s4I45))))))))))))))))))))))))))))
      have e196 := n193.ne rfl (n192.ne rfl (n190.ne rfl (n177.ne rfl (n162.ne rfl (n143.ne rfl (n140.ne rfl (n139.ne rfl (n138.ne rfl (n136.ne rfl (n135.ne rfl (n133.ne rfl (n113.ne rfl (n112.ne rfl (n111.ne rfl (n102.ne rfl (n100.ne rfl (n99.ne rfl (n98.ne rfl (n97.ne rfl (n95.ne rfl (n91.ne rfl (n90.ne rfl (n88.ne rfl (n87.ne rfl (n63.ne rfl (n62.ne rfl (n61.ne rfl (n55.ne rfl s5I45))))))))))))))))))))))))))))
      have e197 := n193.ne rfl (n192.ne rfl (n190.ne rfl (n177.ne rfl (n162.ne rfl (n143.ne rfl (n140.ne rfl (n139.ne rfl (n138.ne rfl (n136.ne rfl (n135.ne rfl (n133.ne rfl e114)))))))))))
      have e198 := n193.ne rfl (n192.ne rfl (n190.ne rfl (n177.ne rfl (n162.ne rfl (n143.ne rfl (n140.ne rfl (n139.ne rfl (n138.ne rfl (n136.ne rfl (n135.ne rfl (n133.ne rfl (n113.ne rfl (n112.ne rfl (n111.ne rfl (n102.ne rfl (n100.ne rfl (n99.ne rfl (n98.ne rfl (n97.ne rfl (n95.ne rfl (n91.ne rfl (n90.ne rfl (n88.ne rfl (n87.ne rfl (n63.ne rfl (n62.ne rfl (n61.ne rfl (n55.ne rfl s17I45))))))))))))))))))))))))))))
      have e199 := n193.ne rfl (n192.ne rfl (n190.ne rfl (n177.ne rfl (n162.ne rfl (n143.ne rfl (n140.ne rfl (n139.ne rfl (n138.ne rfl (n136.ne rfl (n135.ne rfl (n133.ne rfl (n113.ne rfl (n112.ne rfl (n111.ne rfl (n102.ne rfl (n100.ne rfl (n99.ne rfl (n98.ne rfl (n97.ne rfl (n95.ne rfl (n91.ne rfl (n90.ne rfl (n88.ne rfl (n87.ne rfl (n63.ne rfl (n62.ne rfl (n61.ne rfl (n55.ne rfl s18I45))))))))))))))))))))))))))))
      exact th_n (hKI45 _ _ _ (by omega) ⟨i + 1, ka2, nV2, kb2, kc2, kd2, a180, ((nD + 1) + xh60.d.M.length), c181, rfl, n193.ok, G184, e194, e195, e196, e197, (n193.ne rfl (n192.ne rfl n190.at_)), e198, e199, n193.at_, B185, B186, (by have h := O182; rw [pI_step (map_at h60x) c92, flat_app]; simpa [ndI, flat, List.append_assoc] using h), O189, z188, by omega, hN2⟩)
    · refine wp_cond_false ((n91.at_).trans (congrArg Value.bool (decide_eq_false c92))) ?_
      refine wp_skip ?_
      refine ib_n ?_
      refine th_n (hK58 _ _ ?_)
      refine wp_region_lit ?_
      have e200 := n91.ne rfl (n90.ne rfl (n88.ne rfl (n87.ne rfl (n63.ne rfl (n62.ne rfl (n61.ne rfl (n55.ne rfl s19I45)))))))
      refine sv n91.ok rfl (wn _ rfl) rfl (o_add (r := ((i + 1 : Nat) : Int)) e200 ev_const (by omega) (by omega)) (fun an201 n201 => ?_)
      refine sv n201.ok rfl (wn _ rfl) rfl (o_mv n201.at_) (fun an202 n202 => ?_)
      refine wpList_nil ?_
      have e203 := n202.ne rfl (n201.ne rfl (n91.ne rfl (n90.ne rfl e89)))
      have e204 := n202.ne rfl (n201.ne rfl (n91.ne rfl (n90.ne rfl (n88.ne rfl (n87.ne rfl (n63.ne rfl (n62.ne rfl (n61.ne rfl (n55.ne rfl s4I45)))))))))
      have e205 := n202.ne rfl (n201.ne rfl (n91.ne rfl (n90.ne rfl (n88.ne rfl (n87.ne rfl (n63.ne rfl (n62.ne rfl (n61.ne rfl (n55.ne rfl s5I45)))))))))
      have e206 := n202.ne rfl (n201.ne rfl (n91.ne rfl (n90.ne rfl (n88.ne rfl (n87.ne rfl (n63.ne rfl (n62.ne rfl (n61.ne rfl (n55.ne rfl s7I45)))))))))
      have e207 := n202.ne rfl (n201.ne rfl (n91.ne rfl (n90.ne rfl (n88.ne rfl (n87.ne rfl (n63.ne rfl (n62.ne rfl (n61.ne rfl (n55.ne rfl s8I45)))))))))
      have e208 := n202.ne rfl (n201.ne rfl (n91.ne rfl (n90.ne rfl (n88.ne rfl (n87.ne rfl (n63.ne rfl (n62.ne rfl (n61.ne rfl (n55.ne rfl s17I45)))))))))
      have e209 := n202.ne rfl (n201.ne rfl (n91.ne rfl (n90.ne rfl (n88.ne rfl (n87.ne rfl (n63.ne rfl (n62.ne rfl (n61.ne rfl (n55.ne rfl s18I45)))))))))
      exact th_n (hKI45 _ _ _ (by omega) ⟨i + 1, ka, nV, kb, kc, kd, ra, nD, rc, rfl, n202.ok, G80, e203, e204, e205, e206, e207, e208, e209, n202.at_, B81, B82, (by rw [pI_skip (map_at h60x) c92]; exact O84), (by rw [pV_skip (map_at h60x) c92]; exact O85), z83, by omega, by omega⟩)
  · refine wp_cond_false ((n55.at_).trans (congrArg Value.bool (decide_eq_false c57))) ?_
    refine wp_exit ?_
    refine th_x ?_
    refine th_x ?_
    refine ib_x ?_
    refine th_n (hK32 _ _ ?_)
    refine wp_seq_k (fun K210 hK210 => ?_)
    refine wp_region_lit ?_
    refine sv n55.ok rfl (wn _ rfl) rfl (o_ldR (n55.ne rfl s7I45) kb23I45 Try.underlying30 rfl (by kernel_rfl)) (fun an211 n211 => ?_)
    refine sv n211.ok rfl (wn _ rfl) rfl (o_mv (n211.ne rfl (n55.ne rfl s8I45))) (fun an212 n212 => ?_)
    refine sc n212.ok rfl (wn _ rfl) rfl (o_f2 Try.func19 rfl rfl rfl (n212.ne rfl n211.at_) n212.at_) ((by have h := addAll_n (pV (List.take i (K.map VerI.d)) l) (pI (List.take i (K.map VerI.d)) l) nV nD ka kc ra kb kd rc base (pV_pure _ _) (pI_in l (fun x hx => hok x (List.mem_of_mem_take hx))) (by have h2 := pI_len l (L := (List.take i (K.map VerI.d))) (fun x hx => hok x (List.mem_of_mem_take hx)); rw [List.length_take, List.length_map] at h2; have h3 : 61 * min i K.length ≤ 61 * 60 := Nat.mul_le_mul_left _ (by omega); omega) hNI45 w w53 GI45 l41 zbaseI45 odrI45 okvI45; rw [List.take_of_length_le (by rw [List.length_map]; omega)] at h; exact h)) ?_
    rintro _ w214 ⟨kk, rfl, hkk, g215⟩
    obtain ⟨pa, pn, pc, qa, qn, qc, rfl⟩ := knR_form hkk.rd
    refine ⟨_, rfl, fun an213 n213 => ?_⟩
    have G216 := Gr.grown GI45 g215 (fun k e => Nat.le_trans l41 (ow_lt odrI45 k e))
    have B217 := kb3I45.grown g215 (ow_lt odrI45) l39
    have B218 := kb23I45.grown g215 (ow_lt odrI45) l40
    have z219 := Nat.le_trans zbaseI45 g215.size
    have O220 := ow_grown okvI45 odrI45 g215 rfl
    refine sv n213.ok rfl (wn _ rfl) rfl (o_ex n213.at_ rfl) (fun an221 n221 => ?_)
    refine sv n221.ok rfl (wn _ rfl) rfl (o_ex (n221.ne rfl n213.at_) rfl) (fun an222 n222 => ?_)
    have e223 := n222.ne rfl (n221.ne rfl (n213.ne rfl (n212.ne rfl (n211.ne rfl (n55.ne rfl s4I45)))))
    refine ssR rfl (wn _ rfl) (o_stR e223 (n222.ne rfl n221.at_) B217 (by kernel_rfl) rfl (by simp [Value.oneCell'])) B217 (fun w224 u225 u225b => ?_)
    have G226 : Gr w w224 := Below.upd G216 l6 u225
    have B227 := B218.upd u225 (Nat.ne_of_gt l26)
    have z228 : base ≤ w224.heap.size := by rw [u225.size]; exact z219
    have O229 := ow_upd (World.ownsRow_nil w214 base 24 2) u225 l39
    have O230 := ow_upd O220 u225 l39
    have F231 := KnW.tks hkk (tks_upd u225 B217 (by decide))
    refine sv n222.ok rfl (wn _ rfl) rfl (o_as n222.at_) (fun an232 n232 => ?_)
    refine wpList_nil ?_
    refine th_n (hK210 _ _ ?_)
    refine wp_ret ?_
    exact ret2 n232.ok rfl (⟨_, _, (n232.ne rfl e223), ld_row u225b Try.underlying30 rfl (by kernel_rfl)⟩) (n232.at_) ⟨_, rfl, (F231).rd, G226⟩
end Go.Proofs.Ytbpkfkljeibjoaa

/- reedref.ahead, Get. -/
set_option linter.unusedVariables false
set_option linter.unusedSimpArgs false
namespace Go.Proofs.Ytbpkfkljeibjoaa
open Go.RowKit Rm Gx
def aheadB (a b : VerD) : Bool := if ¬ a.id = b.id then Op.bytesLess a.id b.id else if ¬ a.s = b.s then decide (a.s < b.s) else decide (a.c < b.c)
theorem get_take {K : List VerI} {l : List UInt8} {i : Nat} {x : VerI} (hx : K[i]? = some x) : (K.take (i + 1)).filter (fun x => decide (x.d.id = l)) = (K.take i).filter (fun x => decide (x.d.id = l)) ++ (if x.d.id = l then [x] else []) := by
  rw [List.take_add_one, hx, List.filter_append]
  by_cases h : x.d.id = l <;> simp [h]
set_option maxHeartbeats 8000000 in
set_option maxRecDepth 100000 in
theorem ahead_any (x y : VerI) (w : World) :
    Calls Try.prog 20 #[.agg #[.string (bs x.d.id), .int .i64 (x.d.s), .int .i64 (x.d.c), .int .i64 (x.d.t), .int .i64 (x.d.n), .int .i64 (x.d.b), .slice x.va x.d.V.length x.vc, .slice x.ma x.d.M.length x.mc], .agg #[.string (bs y.d.id), .int .i64 (y.d.s), .int .i64 (y.d.c), .int .i64 (y.d.t), .int .i64 (y.d.n), .int .i64 (y.d.b), .slice y.va y.d.V.length y.vc, .slice y.ma y.d.M.length y.mc]] w fun e w' => e = .returned (.bool (aheadB x.d y.d)) ∧ Gr w w' := by
  refine enter (N := 36) Try.func20 rfl rfl rfl (fun a0 ok0 h0 => ?_)
  have e0_0 : a0.eval (.tmp 0) = .agg #[.string (bs x.d.id), .int .i64 (x.d.s), .int .i64 (x.d.c), .int .i64 (x.d.t), .int .i64 (x.d.n), .int .i64 (x.d.b), .slice x.va x.d.V.length x.vc, .slice x.ma x.d.M.length x.mc] := h0 0 _ rfl
  have e0_1 : a0.eval (.tmp 1) = .agg #[.string (bs y.d.id), .int .i64 (y.d.s), .int .i64 (y.d.c), .int .i64 (y.d.t), .int .i64 (y.d.n), .int .i64 (y.d.b), .slice y.va y.d.V.length y.vc, .slice y.ma y.d.M.length y.mc] := h0 1 _ rfl
  clear h0
  have G0 := Gr.refl w
  refine wp_seq_k (fun K1 hK1 => ?_)
  refine wp_region_lit ?_
  refine sal (cs := #[.string (bs x.d.id), .int .i64 (x.d.s), .int .i64 (x.d.c), .int .i64 (x.d.t), .int .i64 (x.d.n), .int .i64 (x.d.b), .slice x.va x.d.V.length x.vc, .slice x.ma x.d.M.length x.mc]) ok0 rfl (wn _ rfl) rfl (o_box e0_0) (fun an2 w4 b3 W5 n2 => ?_)
  have l6 : w.heap.size ≤ b3 := by rw [W5.eq]; exact G0.size
  have G7 := G0.trans W5.gr
  refine sal (cs := #[.string (bs y.d.id), .int .i64 (y.d.s), .int .i64 (y.d.c), .int .i64 (y.d.t), .int .i64 (y.d.n), .int .i64 (y.d.b), .slice y.va y.d.V.length y.vc, .slice y.ma y.d.M.length y.mc]) n2.ok rfl (wn _ rfl) rfl (o_box (n2.ne rfl e0_1)) (fun an8 w10 b9 W11 n8 => ?_)
  have l12 : b3 < b9 := by rw [W11.eq]; exact W5.bk.lt
  have l13 : w.heap.size ≤ b9 := by rw [W11.eq]; exact G7.size
  have G14 := G7.trans W11.gr
  have B15 := W5.bk.gr W11.gr
  refine sv n8.ok rfl (wn _ rfl) rfl (o_as ev_const) (fun an16 n16 => ?_)
  refine wpList_nil ?_
  refine th_n (hK1 _ _ ?_)
  refine wp_seq_k (fun K17 hK17 => ?_)
  refine wp_seq_k (fun K18 hK18 => ?_)
  refine wp_region_lit ?_
  refine sv n16.ok rfl (wn _ rfl) rfl (o_fa (z := 1) (n16.ne rfl (n8.ne rfl n2.at_)) Try.underlying32 rfl (by kernel_rfl) rfl rfl) (fun an19 n19 => ?_)
  refine sv n19.ok rfl (wn _ rfl) rfl (o_ld n19.at_ (Try.isAgg9 _) (B15.cell _ rfl)) (fun an20 n20 => ?_)
  have e21 := n20.ne rfl (n19.ne rfl (n16.ne rfl n8.at_))
  refine sv n20.ok rfl (wn _ rfl) rfl (o_fa (z := 1) e21 Try.underlying32 rfl (by kernel_rfl) rfl rfl) (fun an22 n22 => ?_)
  refine sv n22.ok rfl (wn _ rfl) rfl (o_ld n22.at_ (Try.isAgg9 _) (W11.bk.cell _ rfl)) (fun an23 n23 => ?_)
  refine sv n23.ok rfl (wn _ rfl) rfl (o_neS (n23.ne rfl (n22.ne rfl n20.at_)) n23.at_) (fun an24 n24 => ?_)
  refine wpList_nil ?_
  refine th_n (hK18 _ _ ?_)
  by_cases c25 : ¬ x.d.id = y.d.id
  · refine wp_cond_true ((n24.at_).trans (congrArg Value.bool (decide_eq_true c25))) ?_
    refine wp_seq_k (fun K26 hK26 => ?_)
    refine wp_region_lit ?_
    have e27 := n24.ne rfl (n23.ne rfl (n22.ne rfl (n20.ne rfl (n19.ne rfl (n16.ne rfl (n8.ne rfl n2.at_))))))
    refine sv n24.ok rfl (wn _ rfl) rfl (o_fa (z := 1) e27 Try.underlying32 rfl (by kernel_rfl) rfl rfl) (fun an28 n28 => ?_)
    refine sv n28.ok rfl (wn _ rfl) rfl (o_ld n28.at_ (Try.isAgg9 _) (B15.cell _ rfl)) (fun an29 n29 => ?_)
    have e30 := n29.ne rfl (n28.ne rfl (n24.ne rfl (n23.ne rfl (n22.ne rfl e21))))
    refine sv n29.ok rfl (wn _ rfl) rfl (o_fa (z := 1) e30 Try.underlying32 rfl (by kernel_rfl) rfl rfl) (fun an31 n31 => ?_)
    refine sv n31.ok rfl (wn _ rfl) rfl (o_ld n31.at_ (Try.isAgg9 _) (W11.bk.cell _ rfl)) (fun an32 n32 => ?_)
    refine sv n32.ok rfl (wn _ rfl) rfl (o_ltS (n32.ne rfl (n31.ne rfl n29.at_)) n32.at_) (fun an33 n33 => ?_)
    refine sv n33.ok rfl (wn _ rfl) rfl (o_as n33.at_) (fun an34 n34 => ?_)
    refine wpList_nil ?_
    refine th_n (hK26 _ _ ?_)
    refine wp_ret ?_
    refine th_r ?_
    exact ret1 n34.ok rfl (n34.at_) ⟨by unfold aheadB; simp [c25], G14⟩
  · refine wp_cond_false ((n24.at_).trans (congrArg Value.bool (decide_eq_false c25))) ?_
    refine wp_skip ?_
    refine th_n (hK17 _ _ ?_)
    refine wp_seq_k (fun K35 hK35 => ?_)
    refine wp_seq_k (fun K36 hK36 => ?_)
    refine wp_region_lit ?_
    have e37 := n24.ne rfl (n23.ne rfl (n22.ne rfl (n20.ne rfl (n19.ne rfl (n16.ne rfl (n8.ne rfl n2.at_))))))
    refine sv n24.ok rfl (wn _ rfl) rfl (o_fa (z := 2) e37 Try.underlying32 rfl (by kernel_rfl) rfl rfl) (fun an38 n38 => ?_)
    refine sv n38.ok rfl (wn _ rfl) rfl (o_fa (z := 1) n38.at_ Try.underlying24 rfl (by kernel_rfl) rfl rfl) (fun an39 n39 => ?_)
    refine sv n39.ok rfl (wn _ rfl) rfl (o_ld n39.at_ (Try.isAgg3 _) (B15.cell _ rfl)) (fun an40 n40 => ?_)
    have e41 := n40.ne rfl (n39.ne rfl (n38.ne rfl (n24.ne rfl (n23.ne rfl (n22.ne rfl e21)))))
    refine sv n40.ok rfl (wn _ rfl) rfl (o_fa (z := 2) e41 Try.underlying32 rfl (by kernel_rfl) rfl rfl) (fun an42 n42 => ?_)
    refine sv n42.ok rfl (wn _ rfl) rfl (o_fa (z := 1) n42.at_ Try.underlying24 rfl (by kernel_rfl) rfl rfl) (fun an43 n43 => ?_)
    refine sv n43.ok rfl (wn _ rfl) rfl (o_ld n43.at_ (Try.isAgg3 _) (W11.bk.cell _ rfl)) (fun an44 n44 => ?_)
    have e45 := n44.ne rfl (n43.ne rfl (n42.ne rfl n40.at_))
    refine sv n44.ok rfl (wn _ rfl) rfl (o_neI e45 n44.at_) (fun an46 n46 => ?_)
    refine wpList_nil ?_
    refine th_n (hK36 _ _ ?_)
    by_cases c47 : ¬ x.d.s = y.d.s
    · refine wp_cond_true ((n46.at_).trans (congrArg Value.bool (decide_eq_true c47))) ?_
      refine wp_seq_k (fun K48 hK48 => ?_)
      refine wp_region_lit ?_
      have e49 := n46.ne rfl (n44.ne rfl (n43.ne rfl (n42.ne rfl (n40.ne rfl (n39.ne rfl (n38.ne rfl e37))))))
      refine sv n46.ok rfl (wn _ rfl) rfl (o_fa (z := 2) e49 Try.underlying32 rfl (by kernel_rfl) rfl rfl) (fun an50 n50 => ?_)
      refine sv n50.ok rfl (wn _ rfl) rfl (o_fa (z := 1) n50.at_ Try.underlying24 rfl (by kernel_rfl) rfl rfl) (fun an51 n51 => ?_)
      refine sv n51.ok rfl (wn _ rfl) rfl (o_ld n51.at_ (Try.isAgg3 _) (B15.cell _ rfl)) (fun an52 n52 => ?_)
      have e53 := n52.ne rfl (n51.ne rfl (n50.ne rfl (n46.ne rfl (n44.ne rfl (n43.ne rfl (n42.ne rfl e41))))))
      refine sv n52.ok rfl (wn _ rfl) rfl (o_fa (z := 2) e53 Try.underlying32 rfl (by kernel_rfl) rfl rfl) (fun an54 n54 => ?_)
      refine sv n54.ok rfl (wn _ rfl) rfl (o_fa (z := 1) n54.at_ Try.underlying24 rfl (by kernel_rfl) rfl rfl) (fun an55 n55 => ?_)
      refine sv n55.ok rfl (wn _ rfl) rfl (o_ld n55.at_ (Try.isAgg3 _) (W11.bk.cell _ rfl)) (fun an56 n56 => ?_)
      have e57 := n56.ne rfl (n55.ne rfl (n54.ne rfl n52.at_))
      refine sv n56.ok rfl (wn _ rfl) rfl (o_ltI e57 n56.at_) (fun an58 n58 => ?_)
      refine sv n58.ok rfl (wn _ rfl) rfl (o_as n58.at_) (fun an59 n59 => ?_)
      refine wpList_nil ?_
      refine th_n (hK48 _ _ ?_)
      refine wp_ret ?_
      refine th_r ?_
      exact ret1 n59.ok rfl (n59.at_) ⟨by unfold aheadB; simp [c25, c47], G14⟩
    · refine wp_cond_false ((n46.at_).trans (congrArg Value.bool (decide_eq_false c47))) ?_
      refine wp_skip ?_
      refine th_n (hK35 _ _ ?_)
      refine wp_seq_k (fun K60 hK60 => ?_)
      refine wp_region_lit ?_
      have e61 := n46.ne rfl (n44.ne rfl (n43.ne rfl (n42.ne rfl (n40.ne rfl (n39.ne rfl (n38.ne rfl e37))))))
      refine sv n46.ok rfl (wn _ rfl) rfl (o_fa (z := 2) e61 Try.underlying32 rfl (by kernel_rfl) rfl rfl) (fun an62 n62 => ?_)
      refine sv n62.ok rfl (wn _ rfl) rfl (o_fa (z := 1) n62.at_ Try.underlying24 rfl (by kernel_rfl) rfl rfl) (fun an63 n63 => ?_)
      refine sv n63.ok rfl (wn _ rfl) rfl (o_ld n63.at_ (Try.isAgg3 _) (B15.cell _ rfl)) (fun an64 n64 => ?_)
      have e65 := n64.ne rfl (n63.ne rfl (n62.ne rfl (n46.ne rfl (n44.ne rfl (n43.ne rfl (n42.ne rfl e41))))))
      refine sv n64.ok rfl (wn _ rfl) rfl (o_fa (z := 2) e65 Try.underlying32 rfl (by kernel_rfl) rfl rfl) (fun an66 n66 => ?_)
      refine sv n66.ok rfl (wn _ rfl) rfl (o_fa (z := 1) n66.at_ Try.underlying24 rfl (by kernel_rfl) rfl rfl) (fun an67 n67 => ?_)
      refine sv n67.ok rfl (wn _ rfl) rfl (o_ld n67.at_ (Try.isAgg3 _) (W11.bk.cell _ rfl)) (fun an68 n68 => ?_)
      have e69 := n68.ne rfl (n67.ne rfl (n66.ne rfl n64.at_))
      refine sv n68.ok rfl (wn _ rfl) rfl (o_ltI e69 n68.at_) (fun an70 n70 => ?_)
      refine sv n70.ok rfl (wn _ rfl) rfl (o_as n70.at_) (fun an71 n71 => ?_)
      refine wpList_nil ?_
      refine th_n (hK60 _ _ ?_)
      refine wp_ret ?_
      exact ret1 n71.ok rfl (n71.at_) ⟨by unfold aheadB; simp [c25, c47], G14⟩
set_option maxHeartbeats 8000000 in
set_option maxRecDepth 100000 in
theorem rget_k (K : List VerI) (va : Option Addr) (vc : Nat) (l : List UInt8) (hl : K.length ≤ 1000) (w : World) (hv : RdA encVr 8 w va K) :
    Calls Try.prog 14 #[.slice va K.length vc, .string (bs l)] w fun e w' => ∃ (a : Option Addr) (n c : Nat), e = .returned (.slice a n c) ∧ w'.ownsRow w.heap.size 32 8 (.slice a n c) n (flatE encVr (K.filter fun x => decide (x.d.id = l))) ∧ Gr w w' := by
  refine enter (N := 24) Try.func14 rfl rfl rfl (fun a0 ok0 h0 => ?_)
  have e0_0 : a0.eval (.tmp 0) = .slice va K.length vc := h0 0 _ rfl
  have e0_1 : a0.eval (.tmp 1) = .string (bs l) := h0 1 _ rfl
  clear h0
  have G0 := Gr.refl w
  obtain ⟨base, z1⟩ : ∃ n, n = w.heap.size := ⟨_, rfl⟩
  have l2 : w.heap.size ≤ base := by rw [z1]; exact G0.size
  have z3 : base ≤ w.heap.size := Nat.le_of_eq z1
  have O4 := World.ownsRow_nil w base 32 8
  refine wp_seq_k (fun K5 hK5 => ?_)
  refine wp_region_lit ?_
  refine sv ok0 rfl (wn _ rfl) rfl (o_as ev_const) (fun an6 n6 => ?_)
  refine wpList_nil ?_
  refine th_n (hK5 _ _ ?_)
  refine wp_seq_k (fun K7 hK7 => ?_)
  refine wp_region_lit ?_
  refine sv n6.ok rfl (wn _ rfl) rfl (o_as ev_const) (fun an8 n8 => ?_)
  refine wpList_nil ?_
  refine th_n (hK7 _ _ ?_)
  refine wp_seq_k (fun K9 hK9 => ?_)
  refine wp_seq_k (fun K10 hK10 => ?_)
  refine wp_region_lit ?_
  refine sv n8.ok rfl (wn _ rfl) rfl (o_mv (n8.ne rfl (n6.ne rfl e0_0))) (fun an11 n11 => ?_)
  refine sv n11.ok rfl (wn _ rfl) rfl (o_len n11.at_ Try.underlying22) (fun an12 n12 => ?_)
  refine sv n12.ok rfl (wn _ rfl) rfl (o_mv ev_const) (fun an13 n13 => ?_)
  refine wpList_nil ?_
  refine th_n (hK10 _ _ ?_)
  refine wp_block ?_
  have e15 := n13.ne rfl (n12.ne rfl (n11.ne rfl (n8.ne rfl (n6.ne rfl e0_1))))
  have e16 := n13.ne rfl (n12.ne rfl (n11.ne rfl (n8.ne rfl n6.at_)))
  have e17 := n13.ne rfl (n12.ne rfl (n11.ne rfl n8.at_))
  refine lp (fun (nL : Nat) (aL : Act) (wL : World) => ∃ i : Nat, ∃ ra : Option Addr, ∃ n : Nat, ∃ rc : Nat, nL = K.length - i ∧ Ok 24 aL ∧ Gr w wL ∧ (aL.eval (.tmp 1) = .string (bs l)) ∧ (aL.eval (.tmp 4) = .slice none 0 0) ∧ (aL.eval (.tmp 5) = .slice ra n rc) ∧ (aL.eval (.tmp 8) = .slice va K.length vc) ∧ (aL.eval (.tmp 9) = .int .i64 ((K.length : Nat) : Int)) ∧ (aL.eval (.tmp 10) = .int .i64 (i : Int)) ∧ (World.ownsRow wL base 32 8 (.slice ra n rc) (n) ((flatE encVr ((K.take i).filter (fun x => decide (x.d.id = l)))))) ∧ (base ≤ wL.heap.size) ∧ (i ≤ K.length)) _ ⟨0, none, 0, 0, rfl, n13.ok, G0, e15, e16, e17, (n13.ne rfl (n12.ne rfl n11.at_)), (n13.ne rfl n12.at_), n13.at_, O4, z3, by omega⟩ ?_
  rintro m18 aI14 w20 ⟨i, ra, n, rc, hmI14, okI14, GI14, s1I14, s4I14, s5I14, s8I14, s9I14, s10I14, orI14, zbaseI14, hiI14⟩ KI14 hKI14
  have hnlI14 : n ≤ i := by
    have h1 := (orI14).1
    rw [flatE_len encVr_ok] at h1
    have h2 := List.length_filter_le (fun x : VerI => decide (x.d.id = l)) (K.take i)
    rw [List.length_take] at h2
    omega
  refine wp_seq_k (fun K21 hK21 => ?_)
  refine wp_region_lit ?_
  refine sv okI14 rfl (wn _ rfl) rfl (o_ltI s10I14 s9I14) (fun an22 n22 => ?_)
  refine wpList_nil ?_
  refine th_n (hK21 _ _ ?_)
  refine wp_seq_k (fun K23 hK23 => ?_)
  by_cases c24 : (i : Int) < ((K.length : Nat) : Int)
  · refine wp_cond_true ((n22.at_).trans (congrArg Value.bool (decide_eq_true c24))) ?_
    refine wp_skip ?_
    refine th_n (hK23 _ _ ?_)
    refine wp_seq_k (fun K25 hK25 => ?_)
    refine wp_block ?_
    refine wp_seq_k (fun K26 hK26 => ?_)
    refine wp_region_lit ?_
    have h27l : i < List.length K := by omega
    obtain ⟨bh27, fh27, h27a, h27b, h27c⟩ := hv (ne_nil_of_lt h27l)
    obtain ⟨xh27, h27x⟩ : ∃ x, (K)[i]? = some x := ⟨_, List.getElem?_eq_getElem h27l⟩
    refine sv n22.ok rfl (wn _ rfl) rfl (o_iaV (i := i) (s := 8) h27a (n22.ne rfl s8I14) (n22.ne rfl s10I14) Try.underlying22 (by kernel_rfl) h27l) (fun an28 n28 => ?_)
    refine sv n28.ok rfl (wn _ rfl) rfl (o_ldA (k := fh27 + i * 8) n28.at_ (cs := [.string (bs xh27.d.id), .int .i64 (xh27.d.s), .int .i64 (xh27.d.c), .int .i64 (xh27.d.t), .int .i64 (xh27.d.n), .int .i64 (xh27.d.b), .slice xh27.va xh27.d.V.length xh27.vc, .slice xh27.ma xh27.d.M.length xh27.mc]) (fun j v hv => (Below.cell GI14 h27b).trans (h27c _ _ h27x j v hv)) Try.underlying32 rfl (by kernel_rfl)) (fun an29 n29 => ?_)
    refine sal (cs := #[.string (bs []), .int .i64 0, .int .i64 0, .int .i64 0, .int .i64 0, .int .i64 0, .slice none 0 0, .slice none 0 0]) n29.ok rfl (wn _ rfl) rfl (o_al (z := .agg #[.string (bs []), .int .i64 0, .int .i64 0, .int .i64 0, .int .i64 0, .int .i64 0, .slice none 0 0, .slice none 0 0]) (by kernel_rfl)) (fun an30 w32 b31 W33 n30 => ?_)
    have l34 : w.heap.size ≤ b31 := by rw [W33.eq]; exact GI14.size
    have l35 : ∀ k, Value.ownBlock (.slice ra n rc) = some k → k < b31 := fun k e => by rw [W33.eq]; exact ow_in orI14 k e
    have G36 := GI14.trans W33.gr
    have z37 := Nat.le_trans zbaseI14 W33.gr.size
    have O38 := ow_gr orI14 W33.gr
    refine ssR rfl (wn _ rfl) (o_stR n30.at_ (n30.ne rfl n29.at_) W33.bk (by kernel_rfl) rfl (by simp [Value.oneCell'])) W33.bk (fun w39 u40 u40b => ?_)
    have G41 : Gr w w39 := Below.upd G36 l34 u40
    have z42 : base ≤ w39.heap.size := by rw [u40.size]; exact z37
    have O43 := ow_upd_ne O38 u40 l35
    refine wpList_nil ?_
    refine th_n (hK26 _ _ ?_)
    refine wp_seq_k (fun K44 hK44 => ?_)
    refine wp_region_lit ?_
    refine sv n30.ok rfl (wn _ rfl) rfl (o_fa (z := 1) n30.at_ Try.underlying32 rfl (by kernel_rfl) rfl rfl) (fun an45 n45 => ?_)
    refine sv n45.ok rfl (wn _ rfl) rfl (o_ld n45.at_ (Try.isAgg9 _) (u40b.cell _ rfl)) (fun an46 n46 => ?_)
    have e47 := n46.ne rfl (n45.ne rfl (n30.ne rfl (n29.ne rfl (n28.ne rfl (n22.ne rfl s1I14)))))
    refine sv n46.ok rfl (wn _ rfl) rfl (o_mv e47) (fun an48 n48 => ?_)
    refine sv n48.ok rfl (wn _ rfl) rfl (o_eqS (n48.ne rfl n46.at_) n48.at_) (fun an49 n49 => ?_)
    refine wpList_nil ?_
    refine th_n (hK44 _ _ ?_)
    by_cases c50 : xh27.d.id = l
    · refine wp_cond_true ((n49.at_).trans (congrArg Value.bool (decide_eq_true c50))) ?_
      refine wp_region_lit ?_
      have e51 := n49.ne rfl (n48.ne rfl (n46.ne rfl (n45.ne rfl (n30.ne rfl (n29.ne rfl (n28.ne rfl (n22.ne rfl s5I14)))))))
      refine sv n49.ok rfl (wn _ rfl) rfl (o_mv e51) (fun an52 n52 => ?_)
      have e53 := n52.ne rfl (n49.ne rfl (n48.ne rfl (n46.ne rfl (n45.ne rfl n30.at_))))
      refine sv n52.ok rfl (wn _ rfl) rfl (o_ldR e53 u40b Try.underlying32 rfl (by kernel_rfl)) (fun an54 n54 => ?_)
      obtain ⟨i55, i55a, i55b, i55c⟩ := info3_of (show (Try.prog.info? 32).map (fun i => (i.zero, i.size)) = some (some (.agg #[.string (bs []), .int .i64 0, .int .i64 0, .int .i64 0, .int .i64 0, .int .i64 0, .slice none 0 0, .slice none 0 0]), 8) by kernel_rfl)
      refine sals (cs := #[.string (bs xh27.d.id), .int .i64 (xh27.d.s), .int .i64 (xh27.d.c), .int .i64 (xh27.d.t), .int .i64 (xh27.d.n), .int .i64 (xh27.d.b), .slice xh27.va xh27.d.V.length xh27.vc, .slice xh27.ma xh27.d.M.length xh27.mc]) n54.ok rfl (wn _ rfl) rfl (o_bs (vs := [(0, .agg #[.string (bs xh27.d.id), .int .i64 (xh27.d.s), .int .i64 (xh27.d.c), .int .i64 (xh27.d.t), .int .i64 (xh27.d.n), .int .i64 (xh27.d.b), .slice xh27.va xh27.d.V.length xh27.vc, .slice xh27.ma xh27.d.M.length xh27.mc])]) (by simp [n54.at_, ev_const]) Try.underlying22 i55a i55b (by rw [i55c]; rfl) (by rw [i55c]; rfl) (by rw [i55c]; kernel_rfl)) (fun an56 w58 b57 W59 n56 => ?_)
      have l60 : b31 < b57 := by rw [W59.eq]; exact u40b.lt
      have l61 : w.heap.size ≤ b57 := by rw [W59.eq]; exact G41.size
      have l62 : ∀ k, Value.ownBlock (.slice ra n rc) = some k → k < b57 := fun k e => by rw [W59.eq]; exact ow_in O43 k e
      have G63 := G41.trans W59.gr
      have B64 := u40b.gr W59.gr
      have z65 := Nat.le_trans z42 W59.gr.size
      have O66 := ow_gr O43 W59.gr
      obtain ⟨i67, i67a, i67b, i67c, i67d⟩ := info_of (show (Try.prog.info? 32).map (fun i => (i.zero, i.size, i.bytes)) = some (some (.agg #[.string (bs []), .int .i64 0, .int .i64 0, .int .i64 0, .int .i64 0, .int .i64 0, .slice none 0 0, .slice none 0 0]), 8, 104) by kernel_rfl)
      refine s_app (base := base) (n := n) (xs := (flatE encVr ((K.take i).filter (fun x => decide (x.d.id = l))))) (m := 1) (news := encVr xh27) n56.ok (wn _ rfl) rfl Try.underlying22 i67a i67b i67c i67d rfl (by omega) (n56.ne rfl (n54.ne rfl n52.at_)) O66 n56.at_ rfl ((fun j u hu => by rw [add_n]; exact bk_part W59.bk (k := 0) rfl j u hu)) (encVr_ok.one xh27) (by simp only [maxLen]; omega) (by omega) z65 (fun an68 w69 v70 O73 gg74 n68 => ?_)
      obtain ⟨a71, c72, rfl, c72l⟩ := ow_form O73
      have G75 := Gr.grown G63 gg74 (fun k e => Nat.le_trans l2 (ow_lt O66 k e))
      have B76 := B64.grown_ne gg74 l35
      have B77 := W59.bk.grown_ne gg74 l62
      have z78 := Nat.le_trans z65 gg74.size
      have O79 : w69.ownsRow base 32 8 (.slice a71 ((n + 1)) c72) ((n + 1)) ((flatE encVr (((K.take i).filter (fun x => decide (x.d.id = l))) ++ [xh27]))) := by have h := O73; rw [← flatE_one (enc := encVr) xh27, ← flatE_app] at h; exact h
      refine sv n68.ok rfl (wn _ rfl) rfl (o_as n68.at_) (fun an80 n80 => ?_)
      refine wpList_nil ?_
      refine ib_n ?_
      refine th_n (hK25 _ _ ?_)
      refine wp_region_lit ?_
      have e81 := n80.ne rfl (n68.ne rfl (n56.ne rfl (n54.ne rfl (n52.ne rfl (n49.ne rfl (n48.ne rfl (n46.ne rfl (n45.ne rfl (n30.ne rfl (n29.ne rfl (n28.ne rfl (n22.ne rfl s10I14))))))))))))
      refine sv n80.ok rfl (wn _ rfl) rfl (o_add (r := ((i + 1 : Nat) : Int)) e81 ev_const (by omega) (by omega)) (fun an82 n82 => ?_)
      refine sv n82.ok rfl (wn _ rfl) rfl (o_mv n82.at_) (fun an83 n83 => ?_)
      refine wpList_nil ?_
      have e84 := n83.ne rfl (n82.ne rfl (n80.ne rfl (n68.ne rfl (n56.ne rfl (n54.ne rfl (n52.ne rfl (n49.ne rfl (n48.ne rfl e47))))))))
      have e85 := n83.ne rfl (n82.ne rfl (n80.ne rfl (n68.ne rfl (n56.ne rfl (n54.ne rfl (n52.ne rfl (n49.ne rfl (n48.ne rfl (n46.ne rfl (n45.ne rfl (n30.ne rfl (n29.ne rfl (n28.ne rfl (n22.ne rfl s4I14))))))))))))))
      have e86 := n83.ne rfl (n82.ne rfl (n80.ne rfl (n68.ne rfl (n56.ne rfl (n54.ne rfl (n52.ne rfl (n49.ne rfl (n48.ne rfl (n46.ne rfl (n45.ne rfl (n30.ne rfl (n29.ne rfl (n28.ne rfl (n22.ne rfl s8I14))))))))))))))
      have e87 := n83.ne rfl (n82.ne rfl (n80.ne rfl (n68.ne rfl (n56.ne rfl (n54.ne rfl (n52.ne rfl (n49.ne rfl (n48.ne rfl (n46.ne rfl (n45.ne rfl (n30.ne rfl (n29.ne rfl (n28.ne rfl (n22.ne rfl s9I14))))))))))))))
      exact th_n (hKI14 _ _ _ (by omega) ⟨i + 1, a71, n + 1, c72, rfl, n83.ok, G75, e84, e85, (n83.ne rfl (n82.ne rfl n80.at_)), e86, e87, n83.at_, (by rw [get_take h27x, if_pos c50]; exact O79), z78, by omega⟩)
    · refine wp_cond_false ((n49.at_).trans (congrArg Value.bool (decide_eq_false c50))) ?_
      refine wp_skip ?_
      refine ib_n ?_
      refine th_n (hK25 _ _ ?_)
      refine wp_region_lit ?_
      have e88 := n49.ne rfl (n48.ne rfl (n46.ne rfl (n45.ne rfl (n30.ne rfl (n29.ne rfl (n28.ne rfl (n22.ne rfl s10I14)))))))
      refine sv n49.ok rfl (wn _ rfl) rfl (o_add (r := ((i + 1 : Nat) : Int)) e88 ev_const (by omega) (by omega)) (fun an89 n89 => ?_)
      refine sv n89.ok rfl (wn _ rfl) rfl (o_mv n89.at_) (fun an90 n90 => ?_)
      refine wpList_nil ?_
      have e91 := n90.ne rfl (n89.ne rfl (n49.ne rfl (n48.ne rfl e47)))
      have e92 := n90.ne rfl (n89.ne rfl (n49.ne rfl (n48.ne rfl (n46.ne rfl (n45.ne rfl (n30.ne rfl (n29.ne rfl (n28.ne rfl (n22.ne rfl s4I14)))))))))
      have e93 := n90.ne rfl (n89.ne rfl (n49.ne rfl (n48.ne rfl (n46.ne rfl (n45.ne rfl (n30.ne rfl (n29.ne rfl (n28.ne rfl (n22.ne rfl s5I14)))))))))
      have e94 := n90.ne rfl (n89.ne rfl (n49.ne rfl (n48.ne rfl (n46.ne rfl (n45.ne rfl (n30.ne rfl (n29.ne rfl (n28.ne rfl (n22.ne rfl s8I14)))))))))
      have e95 := n90.ne rfl (n89.ne rfl (n49.ne rfl (n48.ne rfl (n46.ne rfl (n45.ne rfl (n30.ne rfl (n29.ne rfl (n28.ne rfl (n22.ne rfl s9I14)))))))))
      exact th_n (hKI14 _ _ _ (by omega) ⟨i + 1, ra, n, rc, rfl, n90.ok, G41, e91, e92, e93, e94, e95, n90.at_, (by rw [get_take h27x, if_neg c50, List.append_nil]; exact O43), z42, by omega⟩)
  · refine wp_cond_false ((n22.at_).trans (congrArg Value.bool (decide_eq_false c24))) ?_
    refine wp_exit ?_
    refine th_x ?_
    refine th_x ?_
    refine ib_x ?_
    refine th_n (hK9 _ _ ?_)
    refine wp_seq_k (fun K96 hK96 => ?_)
    refine wp_region_lit ?_
    refine sv n22.ok rfl (wn _ rfl) rfl (o_mv (n22.ne rfl s5I14)) (fun an97 n97 => ?_)
    refine sv n97.ok rfl (wn _ rfl) rfl (o_as n97.at_) (fun an98 n98 => ?_)
    refine wpList_nil ?_
    refine th_n (hK96 _ _ ?_)
    refine wp_ret ?_
    exact ret1 n98.ok rfl (n98.at_) ⟨ra, n, rc, rfl, by have h := orI14; rw [List.take_of_length_le (by omega), z1] at h; exact h, GI14⟩
theorem rget_any (K : List VerI) (va : Option Addr) (vc : Nat) (l : List UInt8) (w : World) (hl : K.length ≤ 1000) (hv : RdA encVr 8 w va K) (hm : MeansV w K) :
    Calls Try.prog 14 #[.slice va K.length vc, .string (bs l)] w fun e w' => ∃ (R : List VerI) (a : Option Addr) (c : Nat), e = .returned (.slice a R.length c) ∧ R.map VerI.d = svGet (K.map VerI.d) l ∧ w'.ownsRow w.heap.size 32 8 (.slice a R.length c) R.length (flatE encVr R) ∧ (∀ x ∈ R, x ∈ K) ∧ R.length ≤ 1000 ∧ Gr w w' := by
  refine (rget_k K va vc l hl w hv).mono ?_
  rintro e w' ⟨a, n, c, rfl, h, g⟩
  have hn : n = (K.filter fun x => decide (x.d.id = l)).length := by
    have h1 := h.1
    rw [flatE_len encVr_ok] at h1
    omega
  rw [hn] at h ⊢
  refine ⟨_, a, c, rfl, ?_, h, fun x hx => (List.mem_filter.1 hx).1, Nat.le_trans (List.length_filter_le _ _) hl, g⟩
  unfold svGet
  rw [List.filter_map]
  rfl
theorem pD_step {L : List VerD} {i : Nat} {x : VerD} {id : List UInt8} (h : L[i]? = some x) (hid : x.id = id) (s c : Nat) : pD (L.take (i + 1)) id s c = (pD (L.take i) id s c || dsV x s c || decide (s = x.s.toNat ∧ c = x.c.toNat)) := by
  rw [Bool.eq_iff_iff, Bool.or_eq_true, Bool.or_eq_true, decide_eq_true_eq]
  unfold pD addS
  rw [pV_step h hid, pI_step h hid]
  unfold toN orD ndI vD dsV
  simp only [List.map_append, List.map_cons, List.mem_append, List.mem_cons, Bool.or_eq_true, decide_eq_true_eq, memB_iff, Prod.mk.injEq, List.not_mem_nil, or_false]
  constructor
  · rintro ((h | h) | (h | h | h))
    · exact .inl (.inl (.inl h))
    · exact .inl (.inr (.inl h))
    · exact .inl (.inl (.inr h))
    · exact .inr h
    · exact .inl (.inr (.inr h))
  · rintro (((h | h) | (h | h)) | h)
    · exact .inl (.inl h)
    · exact .inr (.inl h)
    · exact .inl (.inr h)
    · exact .inr (.inr (.inr h))
    · exact .inr (.inr (.inl h))
theorem pD_get (L : List VerD) (id : List UInt8) : pD (svGet L id) id = pD L id := by
  have h : pF (svGet L id) id = pF L id := by
    unfold pF svGet
    rw [List.filter_filter]
    exact List.filter_congr fun x _ => by simp
  unfold pD pV pI
  rw [h]
theorem dot_lt {x : VerD} (h : argB x = true) : x.s.toNat < 5 ∧ x.c.toNat < 1024 := by
  have d0 := (dotB_iff _).1 (argB_dot h)
  simp only at d0
  omega
theorem past_okX {X : Nat → Nat} {x : VerD} (h : OkX X) (hx : argB x = true) : OkX (withX (fun q => X q ||| xOf (dsV x) q) x.s.toNat x.c.toNat) := OkX.with (fun q => Nat.or_lt_two_pow (h q) (xOf_ok _ q)) _ _
theorem past_stepX {X : Nat → Nat} {L : List VerD} {i : Nat} {x : VerD} {l : List UInt8} (h : ∀ s c, s < 5 → c < 1024 → dsX X s c = pD (L.take i) l s c) (hx : L[i]? = some x) (hid : x.id = l) (ha : argB x = true) : ∀ s c, s < 5 → c < 1024 → dsX (withX (fun q => X q ||| xOf (dsV x) q) x.s.toNat x.c.toNat) s c = pD (L.take (i + 1)) l s c := fun s c hs hc => by
  rw [dsX_with _ _ _ s c (dot_lt ha).2 hc, dsX_orV, xOf_ds _ _ _ hc, h s c hs hc, pD_step hx hid]
theorem past_formed (D : DS) (X : Nat → Nat) (hX : OkX X) (w : World) (h : EqD (dsX X) D) :
    Calls Try.prog 41 #[.agg (wArr X)] w fun e w' => ∃ pa nV pc qa nM qc, e = .returned (.tuple #[.agg #[.slice pa nV pc, .slice qa nM qc], .int .i64 (frE D)]) ∧ KnW w.heap.size w' (.agg #[.slice pa nV pc, .slice qa nM qc]) (frV D) (frM D) ∧ Gr w w' := by
  refine (rformed_any X hX w).mono ?_
  rintro e w' ⟨h1, g⟩
  obtain ⟨k, rfl, h2⟩ := (h1.congr h).one
  obtain ⟨va, vc, ma, mc, rfl⟩ := h2.form
  exact ⟨_, _, _, _, _, _, rfl, KnW.of h2, g⟩
set_option maxHeartbeats 8000000 in
set_option maxRecDepth 100000 in
theorem rpast_any (K : List VerI) (va : Option Addr) (vc : Nat) (l : List UInt8) (hl : K.length ≤ 60) (hok : ∀ x ∈ K.map VerI.d, chkOne x = 0) (w : World) (hv : RdA encVr 8 w va K) (hm : MeansV w K) :
    Calls Try.prog 13 #[.slice va K.length vc, .string (bs l)] w fun e w' => ∃ k, e = .returned (.tuple #[k, .int .i64 (frE (pD (K.map VerI.d) l))]) ∧ KnR w' k (ints (frV (pD (K.map VerI.d) l))) (pairs (frM (pD (K.map VerI.d) l))) ∧ Gr w w' := by
  refine enter (N := 30) Try.func13 rfl rfl rfl (fun a0 ok0 h0 => ?_)
  have e0_0 : a0.eval (.tmp 0) = .slice va K.length vc := h0 0 _ rfl
  have e0_1 : a0.eval (.tmp 1) = .string (bs l) := h0 1 _ rfl
  clear h0
  have G0 := Gr.refl w
  refine wp_seq_k (fun K1 hK1 => ?_)
  refine wp_region_lit ?_
  refine sal (cs := #[.slice none 0 0, .slice none 0 0]) ok0 rfl (wn _ rfl) rfl (o_al (z := .agg #[.slice none 0 0, .slice none 0 0]) (by kernel_rfl)) (fun an2 w4 b3 W5 n2 => ?_)
  have l6 : w.heap.size ≤ b3 := by rw [W5.eq]; exact G0.size
  have G7 := G0.trans W5.gr
  refine sv n2.ok rfl (wn _ rfl) rfl (o_as ev_const) (fun an8 n8 => ?_)
  refine wpList_nil ?_
  refine th_n (hK1 _ _ ?_)
  refine wp_seq_k (fun K9 hK9 => ?_)
  refine wp_region_lit ?_
  refine sal (cs := wArr (fun _ => 0)) n8.ok rfl (wn _ rfl) rfl (o_al (z := .agg (wArr (fun _ => 0))) dots_zero) (fun an10 w12 b11 W13 n10 => ?_)
  have l14 : b3 < b11 := by rw [W13.eq]; exact W5.bk.lt
  have l15 : w.heap.size ≤ b11 := by rw [W13.eq]; exact G7.size
  have G16 := G7.trans W13.gr
  have B17 := W5.bk.gr W13.gr
  refine wpList_nil ?_
  refine th_n (hK9 _ _ ?_)
  refine wp_seq_k (fun K18 hK18 => ?_)
  refine wp_seq_k (fun K19 hK19 => ?_)
  refine wp_region_lit ?_
  have e20 := n10.ne rfl (n8.ne rfl (n2.ne rfl e0_0))
  refine sv n10.ok rfl (wn _ rfl) rfl (o_mv e20) (fun an21 n21 => ?_)
  have e22 := n21.ne rfl (n10.ne rfl (n8.ne rfl (n2.ne rfl e0_1)))
  refine sv n21.ok rfl (wn _ rfl) rfl (o_mv e22) (fun an23 n23 => ?_)
  obtain ⟨base, z24⟩ : ∃ n, n = w12.heap.size := ⟨_, rfl⟩
  have l25 : b3 < base := by rw [z24]; exact B17.lt
  have l26 : b11 < base := by rw [z24]; exact W13.bk.lt
  have l27 : w.heap.size ≤ base := by rw [z24]; exact G16.size
  have z28 : base ≤ w12.heap.size := Nat.le_of_eq z24
  refine sc n23.ok rfl (wn _ rfl) rfl (o_f2 Try.func14 rfl rfl rfl (n23.ne rfl n21.at_) n23.at_) (rget_any K va vc l w12 (by omega) (hv.gr G16) (hm.gr G16)) ?_
  rintro _ w30 ⟨R, ra, rc, rfl, hR, hO, hRK, hRl, g31⟩
  have hO1 := hO
  rw [← z24] at hO1
  have hin : ∀ x ∈ R, chkOne x.d = 0 ∧ x.d.id = l := fun x hx => by
    have h1 : x.d ∈ svGet (K.map VerI.d) l := (by rw [← hR]; exact List.mem_map_of_mem hx)
    unfold svGet at h1
    rw [List.mem_filter, decide_eq_true_eq] at h1
    exact ⟨hok _ h1.1, h1.2⟩
  refine ⟨_, rfl, fun an29 n29 => ?_⟩
  have G32 := G16.trans g31
  have B33 := B17.gr g31
  have B34 := W13.bk.gr g31
  have z35 := Nat.le_trans z28 g31.size
  refine sv n29.ok rfl (wn _ rfl) rfl (o_len n29.at_ Try.underlying22) (fun an36 n36 => ?_)
  refine sv n36.ok rfl (wn _ rfl) rfl (o_mv ev_const) (fun an37 n37 => ?_)
  refine wpList_nil ?_
  refine th_n (hK19 _ _ ?_)
  refine wp_block ?_
  have e39 := n37.ne rfl (n36.ne rfl (n29.ne rfl (n23.ne rfl (n21.ne rfl (n10.ne rfl (n8.ne rfl n2.at_))))))
  have e40 := n37.ne rfl (n36.ne rfl (n29.ne rfl (n23.ne rfl (n21.ne rfl (n10.ne rfl n8.at_)))))
  have e41 := n37.ne rfl (n36.ne rfl (n29.ne rfl (n23.ne rfl (n21.ne rfl n10.at_))))
  refine lp (fun (nL : Nat) (aL : Act) (wL : World) => ∃ i : Nat, ∃ X : Nat → Nat, nL = R.length - i ∧ Ok 30 aL ∧ Gr w wL ∧ (aL.eval (.tmp 4) = .pointer (some ⟨b3, 0, none⟩)) ∧ (aL.eval (.tmp 5) = .int .i64 0) ∧ (aL.eval (.tmp 6) = .pointer (some ⟨b11, 0, none⟩)) ∧ (aL.eval (.tmp 11) = .slice ra R.length rc) ∧ (aL.eval (.tmp 12) = .int .i64 ((R.length : Nat) : Int)) ∧ (aL.eval (.tmp 13) = .int .i64 (i : Int)) ∧ (Bk wL b3 #[.slice none 0 0, .slice none 0 0] 30) ∧ (Bk wL b11 (wArr X) 61) ∧ (World.ownsRow wL base 32 8 (.slice ra R.length rc) (R.length) ((flatE encVr R))) ∧ (base ≤ wL.heap.size) ∧ (i ≤ R.length) ∧ (OkX X) ∧ (∀ s c, s < 5 → c < 1024 → dsX X s c = pD ((R.map VerI.d).take i) l s c)) _ ⟨0, (fun _ => 0), rfl, n37.ok, G32, e39, e40, e41, (n37.ne rfl (n36.ne rfl n29.at_)), (n37.ne rfl n36.at_), n37.at_, B33, B34, hO1, z35, by omega, OkX.zero, fun s c _ _ => by rw [dsX_zero]; rfl⟩ ?_
  rintro m42 aI38 w44 ⟨i, X, hmI38, okI38, GI38, s4I38, s5I38, s6I38, s11I38, s12I38, s13I38, kb3I38, kb11I38, orI38, zbaseI38, hiI38, hPI38, hEI38⟩ KI38 hKI38
  refine wp_seq_k (fun K45 hK45 => ?_)
  refine wp_region_lit ?_
  refine sv okI38 rfl (wn _ rfl) rfl (o_ltI s13I38 s12I38) (fun an46 n46 => ?_)
  refine wpList_nil ?_
  refine th_n (hK45 _ _ ?_)
  refine wp_seq_k (fun K47 hK47 => ?_)
  by_cases c48 : (i : Int) < ((R.length : Nat) : Int)
  · refine wp_cond_true ((n46.at_).trans (congrArg Value.bool (decide_eq_true c48))) ?_
    refine wp_skip ?_
    refine th_n (hK47 _ _ ?_)
    refine wp_seq_k (fun K49 hK49 => ?_)
    refine wp_block ?_
    refine wp_seq_k (fun K50 hK50 => ?_)
    refine wp_region_lit ?_
    have h51l : i < List.length R := by omega
    obtain ⟨bh51, fh51, h51a, h51b, h51c⟩ := (RdA.own encVr_ok orI38 rfl) (ne_nil_of_lt h51l)
    obtain ⟨xh51, h51x⟩ : ∃ x, (R)[i]? = some x := ⟨_, List.getElem?_eq_getElem h51l⟩
    refine sv n46.ok rfl (wn _ rfl) rfl (o_iaV (i := i) (s := 8) h51a (n46.ne rfl s11I38) (n46.ne rfl s13I38) Try.underlying22 (by kernel_rfl) h51l) (fun an52 n52 => ?_)
    refine sv n52.ok rfl (wn _ rfl) rfl (o_ldA (k := fh51 + i * 8) n52.at_ (cs := [.string (bs xh51.d.id), .int .i64 (xh51.d.s), .int .i64 (xh51.d.c), .int .i64 (xh51.d.t), .int .i64 (xh51.d.n), .int .i64 (xh51.d.b), .slice xh51.va xh51.d.V.length xh51.vc, .slice xh51.ma xh51.d.M.length xh51.mc]) (fun j v hv => (Below.cell (Gr.refl w44) h51b).trans (h51c _ _ h51x j v hv)) Try.underlying32 rfl (by kernel_rfl)) (fun an53 n53 => ?_)
    refine sal (cs := #[.string (bs []), .int .i64 0, .int .i64 0, .int .i64 0, .int .i64 0, .int .i64 0, .slice none 0 0, .slice none 0 0]) n53.ok rfl (wn _ rfl) rfl (o_al (z := .agg #[.string (bs []), .int .i64 0, .int .i64 0, .int .i64 0, .int .i64 0, .int .i64 0, .slice none 0 0, .slice none 0 0]) (by kernel_rfl)) (fun an54 w56 b55 W57 n54 => ?_)
    have l58 : b3 < b55 := by rw [W57.eq]; exact kb3I38.lt
    have l59 : b11 < b55 := by rw [W57.eq]; exact kb11I38.lt
    have l60 : w.heap.size ≤ b55 := by rw [W57.eq]; exact GI38.size
    have l61 : ∀ k, Value.ownBlock (.slice ra R.length rc) = some k → k < b55 := fun k e => by rw [W57.eq]; exact ow_in orI38 k e
    have G62 := GI38.trans W57.gr
    have B63 := kb3I38.gr W57.gr
    have B64 := kb11I38.gr W57.gr
    have z65 := Nat.le_trans zbaseI38 W57.gr.size
    have O66 := ow_gr orI38 W57.gr
    refine ssR rfl (wn _ rfl) (o_stR n54.at_ (n54.ne rfl n53.at_) W57.bk (by kernel_rfl) rfl (by simp [Value.oneCell'])) W57.bk (fun w67 u68 u68b => ?_)
    have G69 : Gr w w67 := Below.upd G62 l60 u68
    have B70 := B63.upd u68 (Nat.ne_of_lt l58)
    have B71 := B64.upd u68 (Nat.ne_of_lt l59)
    have z72 : base ≤ w67.heap.size := by rw [u68.size]; exact z65
    have O73 := ow_upd_ne O66 u68 l61
    refine wpList_nil ?_
    refine th_n (hK50 _ _ ?_)
    refine reg_start (N := 30) (m := 8) (by kernel_rfl) (fun R740 => ?_)
    have e75 := n54.ne rfl (n53.ne rfl (n52.ne rfl (n46.ne rfl s6I38)))
    have R741 := R740.snoc (n' := 1) rfl (fun vJ _ => vJ = .agg (wArr X)) rfl (fun _ _ _ _ h => h) (fun aS wS pS => by
        exact Does.val (wn _ rfl) (o_ldR ((pS.old 6 rfl).trans e75) (Bk.gr B71 (gr_drew pS.gr)) Try.underlying61 rfl (dots_sz X)) (Gr.refl _) rfl rfl)
    have R742 := R741.snoc (n' := 2) rfl (fun vJ _ => vJ = .pointer (some ⟨b55, 6, none⟩)) rfl (fun _ _ _ _ h => h) (fun aS wS pS => by
        exact Does.val (wn _ rfl) (o_fa (z := 2) ((pS.old 8 rfl).trans n54.at_) Try.underlying32 rfl (by kernel_rfl) rfl rfl) (Gr.refl _) rfl rfl)
    have R743 := R742.snoc (n' := 3) rfl (fun vJ _ => vJ = .agg #[.slice xh51.va xh51.d.V.length xh51.vc, .slice xh51.ma xh51.d.M.length xh51.mc]) rfl (fun _ _ _ _ h => h) (fun aS wS pS => by
        have eR74_1 : aS.eval (.tmp 18) = .pointer (some ⟨b55, 6, none⟩) := pS.pre 1 rfl
        exact Does.val (wn _ rfl) (o_ldA (k := 6) (cs := [.slice xh51.va xh51.d.V.length xh51.vc, .slice xh51.ma xh51.d.M.length xh51.mc]) (eR74_1) (bk_part (Bk.gr u68b (gr_drew pS.gr)) rfl) Try.underlying30 rfl (by kernel_rfl)) (Gr.refl _) rfl rfl)
    have R744 := R743.snoc (n' := 4) rfl (fun vJ _ => vJ = .agg (wArr (xOf (dsV xh51.d)))) rfl (fun _ _ _ _ h => h) (fun aS wS pS => by
        have eR74_2 : aS.eval (.tmp 19) = .agg #[.slice xh51.va xh51.d.V.length xh51.vc, .slice xh51.ma xh51.d.M.length xh51.mc] := pS.pre 2 rfl
        exact Does.call (wn _ rfl) (o_f1 Try.func32 rfl rfl rfl (eR74_2)) (rallC _ xh51.d.V xh51.d.M wS ((hm _ (hRK _ (List.mem_of_getElem? h51x))).gr (G69.trans (gr_drew pS.gr))) (chkOne_zero (hin _ (List.mem_of_getElem? h51x)).1).2.2.1) (by rintro _ w2 ⟨rfl, g⟩; exact ⟨_, rfl, g, rfl⟩) rfl)
    have R745 := R744.snoc (n' := 5) rfl (fun vJ _ => vJ = .agg (wArr (fun q => X q ||| xOf (dsV xh51.d) q))) rfl (fun _ _ _ _ h => h) (fun aS wS pS => by
        have eR74_0 : aS.eval (.tmp 17) = .agg (wArr X) := pS.pre 0 rfl
        have eR74_3 : aS.eval (.tmp 20) = .agg (wArr (xOf (dsV xh51.d))) := pS.pre 3 rfl
        exact Does.call (wn _ rfl) (o_f2 Try.func39 rfl rfl rfl (eR74_0) (eR74_3)) (djoin_any X (xOf (dsV xh51.d)) hPI38 (xOf_ok _) wS) (by rintro _ w2 ⟨rfl, g⟩; exact ⟨_, rfl, g, rfl⟩) rfl)
    have R746 := R745.snoc (n' := 6) rfl (fun vJ _ => vJ = .pointer (some ⟨b55, 1, none⟩)) rfl (fun _ _ _ _ h => h) (fun aS wS pS => by
        exact Does.val (wn _ rfl) (o_fa (z := 2) ((pS.old 8 rfl).trans n54.at_) Try.underlying32 rfl (by kernel_rfl) rfl rfl) (Gr.refl _) rfl rfl)
    have R747 := R746.snoc (n' := 7) rfl (fun vJ _ => vJ = .agg #[.int .i64 (xh51.d.s), .int .i64 (xh51.d.c)]) rfl (fun _ _ _ _ h => h) (fun aS wS pS => by
        have eR74_5 : aS.eval (.tmp 22) = .pointer (some ⟨b55, 1, none⟩) := pS.pre 5 rfl
        exact Does.val (wn _ rfl) (o_ldA (k := 1) (cs := [.int .i64 (xh51.d.s), .int .i64 (xh51.d.c)]) (eR74_5) (bk_part (Bk.gr u68b (gr_drew pS.gr)) rfl) Try.underlying24 rfl (by kernel_rfl)) (Gr.refl _) rfl rfl)
    have R748 := R747.snoc (n' := 8) rfl (fun vJ _ => vJ = .agg (wArr (withX (fun q => X q ||| xOf (dsV xh51.d) q) xh51.d.s.toNat xh51.d.c.toNat))) rfl (fun _ _ _ _ h => h) (fun aS wS pS => by
        have eR74_4 : aS.eval (.tmp 21) = .agg (wArr (fun q => X q ||| xOf (dsV xh51.d) q)) := pS.pre 4 rfl
        have eR74_6 : aS.eval (.tmp 23) = .agg #[.int .i64 (xh51.d.s), .int .i64 (xh51.d.c)] := pS.pre 6 rfl
        exact Does.call (wn _ rfl) (o_f2 Try.func40 rfl rfl rfl (eR74_4) (eR74_6)) ((by have d0 := (dotB_iff _).1 (argB_dot (chkOne_zero (hin _ (List.mem_of_getElem? h51x)).1).2.1); simp only at d0; exact rwithI (fun q => X q ||| xOf (dsV xh51.d) q) xh51.d.s xh51.d.c wS (fun q => Nat.or_lt_two_pow (hPI38 q) (xOf_ok _ q)) (by omega) (by omega) (by omega) (by omega))) (by rintro _ w2 ⟨rfl, g⟩; exact ⟨_, rfl, g, rfl⟩) rfl)
    refine R748.run (k := 1) (L := #[true, true, true, true, true, true, true, true, false]) (by kernel_rfl) (by kernel_rfl) (by kernel_rfl) n54.ok (by kernel_rfl) (by kernel_rfl) (fun ap77 w78 p77 => ?_)
    have g79 := gr_drew p77.gr
    have G80 := G69.trans g79
    have B81 := B70.gr g79
    have B82 := B71.gr g79
    have B83 := u68b.gr g79
    have z84 := Nat.le_trans z72 g79.size
    have O85 := ow_gr O73 g79
    have ep77_7 : ap77.eval (.tmp 24) = .agg (wArr (withX (fun q => X q ||| xOf (dsV xh51.d) q) xh51.d.s.toNat xh51.d.c.toNat)) := p77.js 7 rfl
    refine t_stR (i := 8) (by kernel_rfl) rfl rfl (wn _ rfl) (o_stR ((p77.old 6 rfl).trans e75) ep77_7 B82 (dots_sz (withX (fun q => X q ||| xOf (dsV xh51.d) q) xh51.d.s.toNat xh51.d.c.toNat)) (by rw [wArr_size, wArr_size]) (wArr_one (withX (fun q => X q ||| xOf (dsV xh51.d) q) xh51.d.s.toNat xh51.d.c.toNat))) B82 (fun w86 u87 u87b => ?_)
    have G88 : Gr w w86 := Below.upd G80 l15 u87
    have B89 := B81.upd u87 (Nat.ne_of_lt l14)
    have B90 := B83.upd u87 (Nat.ne_of_gt l59)
    have z91 : base ≤ w86.heap.size := by rw [u87.size]; exact z84
    have O92 := ow_upd O85 u87 l26
    refine wpAny_done (by kernel_rfl) ?_ _
    refine ib_n ?_
    refine th_n (hK49 _ _ ?_)
    refine wp_region_lit ?_
    have e93 := (p77.old 13 rfl).trans (n54.ne rfl (n53.ne rfl (n52.ne rfl (n46.ne rfl s13I38))))
    refine sv p77.ok rfl (wn _ rfl) rfl (o_add (r := ((i + 1 : Nat) : Int)) e93 ev_const (by omega) (by omega)) (fun an94 n94 => ?_)
    refine sv n94.ok rfl (wn _ rfl) rfl (o_mv n94.at_) (fun an95 n95 => ?_)
    refine wpList_nil ?_
    have e96 := n95.ne rfl (n94.ne rfl ((p77.old 4 rfl).trans (n54.ne rfl (n53.ne rfl (n52.ne rfl (n46.ne rfl s4I38))))))
    have e97 := n95.ne rfl (n94.ne rfl ((p77.old 5 rfl).trans (n54.ne rfl (n53.ne rfl (n52.ne rfl (n46.ne rfl s5I38))))))
    have e98 := n95.ne rfl (n94.ne rfl ((p77.old 6 rfl).trans e75))
    have e99 := n95.ne rfl (n94.ne rfl ((p77.old 11 rfl).trans (n54.ne rfl (n53.ne rfl (n52.ne rfl (n46.ne rfl s11I38))))))
    have e100 := n95.ne rfl (n94.ne rfl ((p77.old 12 rfl).trans (n54.ne rfl (n53.ne rfl (n52.ne rfl (n46.ne rfl s12I38))))))
    exact th_n (hKI38 _ _ _ (by omega) ⟨i + 1, (withX (fun q => X q ||| xOf (dsV xh51.d) q) xh51.d.s.toNat xh51.d.c.toNat), rfl, n95.ok, G88, e96, e97, e98, e99, e100, n95.at_, B89, u87b, O92, z91, by omega, past_okX hPI38 (chkOne_zero (hin _ (List.mem_of_getElem? h51x)).1).2.1, past_stepX hEI38 (map_at h51x) (hin _ (List.mem_of_getElem? h51x)).2 (chkOne_zero (hin _ (List.mem_of_getElem? h51x)).1).2.1⟩)
  · refine wp_cond_false ((n46.at_).trans (congrArg Value.bool (decide_eq_false c48))) ?_
    refine wp_exit ?_
    refine th_x ?_
    refine th_x ?_
    refine ib_x ?_
    refine th_n (hK18 _ _ ?_)
    refine wp_seq_k (fun K101 hK101 => ?_)
    refine wp_region_lit ?_
    refine sv n46.ok rfl (wn _ rfl) rfl (o_ldR (n46.ne rfl s6I38) kb11I38 Try.underlying61 rfl (dots_sz X)) (fun an102 n102 => ?_)
    refine sc n102.ok rfl (wn _ rfl) rfl (o_f1 Try.func41 rfl rfl rfl n102.at_) ((past_formed (pD (K.map VerI.d) l) X hPI38 w44 (fun s c i => by have h := hEI38 s c i.1 (by have := i.2.2; omega); rw [List.take_of_length_le (by rw [List.length_map]; omega), hR, pD_get] at h; exact h))) ?_
    rintro _ w104 ⟨pa, nV, pc, qa, nM, qc, rfl, hkk, g105⟩
    refine ⟨_, rfl, fun an103 n103 => ?_⟩
    have G106 := GI38.trans g105
    have B107 := kb3I38.gr g105
    have B108 := kb11I38.gr g105
    have z109 := Nat.le_trans zbaseI38 g105.size
    have O110 := ow_gr orI38 g105
    refine sv n103.ok rfl (wn _ rfl) rfl (o_ex n103.at_ rfl) (fun an111 n111 => ?_)
    refine sv n111.ok rfl (wn _ rfl) rfl (o_ex (n111.ne rfl n103.at_) rfl) (fun an112 n112 => ?_)
    have e113 := n112.ne rfl (n111.ne rfl (n103.ne rfl (n102.ne rfl (n46.ne rfl s4I38))))
    refine ssR rfl (wn _ rfl) (o_stR e113 (n112.ne rfl n111.at_) B107 (by kernel_rfl) rfl (by simp [Value.oneCell'])) B107 (fun w114 u115 u115b => ?_)
    have G116 : Gr w w114 := Below.upd G106 l6 u115
    have B117 := B108.upd u115 (Nat.ne_of_gt l14)
    have z118 : base ≤ w114.heap.size := by rw [u115.size]; exact z109
    have O119 := ow_upd O110 u115 l25
    have F120 := KnW.tks hkk (tks_upd u115 B107 (by decide))
    refine sv n112.ok rfl (wn _ rfl) rfl (o_as n112.at_) (fun an121 n121 => ?_)
    refine wpList_nil ?_
    refine th_n (hK101 _ _ ?_)
    refine wp_ret ?_
    exact ret2 n121.ok rfl (⟨_, _, (n121.ne rfl e113), ld_row u115b Try.underlying30 rfl (by kernel_rfl)⟩) (n121.at_) ⟨_, rfl, (F120).rd, G116⟩
end Go.Proofs.Ytbpkfkljeibjoaa

/- reedref.Id: a string by its bytes. -/
set_option linter.unusedVariables false
set_option linter.unusedSimpArgs false
namespace Gx
open Go Go.RowKit Rm
/-- the bytes of a string, in new memory -/
theorem o_bytes {P : Program} {ev : Operand → Value} {d : Option Tmp} {ty : TypeId} {p : String} {af : Array Edge} {g : Option (Nat × Bool)} (w : World) {t e : TypeId} {x : Operand} {src : TypeId} {l : List UInt8} (hx : ev x = .string (bs l)) (hs : P.underlying src = some .string) (hd : P.underlying t = some (.slice e)) (he : P.underlying e = some (.int .u8)) :
    ∃ b cap w', (execOp ev (Oper.mk d (.convert src t x) ty p af g)).run P w = .ok (.value (.slice (some ⟨b, 0, none⟩) l.length cap)) w' ∧ Gr w w' ∧ b < w'.heap.size ∧ ∀ i c, l[i]? = some c → w'.cell? ⟨b, 0 + i * 1, none⟩ = some (.int .u8 (c.toNat : Int)) := by
  have h := run_bytes_of_string (P := P) w src t e (bs l) hs hd he
  refine ⟨w.heap.size, grownCap w (bs l).size 0 e, w.drew.alloc (.cells (bytesRow (bs l) (grownCap w (bs l).size 0 e)) e ((bytesRow (bs l) (grownCap w (bs l).size 0 e)).size, (bytesRow (bs l) (grownCap w (bs l).size 0 e)).size + 1)), ?_, ((Gr.refl w).drew).alloc _, ?_, ?_⟩
  · unfold execOp
    simp only [hx, Sem.run_bind, h, Result.andThen_ok, bs_size]
    rfl
  · show w.heap.size < (w.heap.push _).size
    simp
  · intro i c hc
    have hi := (List.getElem?_eq_some_iff.1 hc).1
    have hrow : (bytesRow (bs l) (grownCap w (bs l).size 0 e))[i]? = some (.int .u8 (c.toNat : Int)) := by
      unfold bytesRow
      rw [Array.getElem?_append_left (by simp [bs]; exact hi)]
      simp [bs, hc]
    have hb : (w.drew.alloc (.cells (bytesRow (bs l) (grownCap w (bs l).size 0 e)) e ((bytesRow (bs l) (grownCap w (bs l).size 0 e)).size, (bytesRow (bs l) (grownCap w (bs l).size 0 e)).size + 1))).heap[w.heap.size]? = some (.cells (bytesRow (bs l) (grownCap w (bs l).size 0 e)) e ((bytesRow (bs l) (grownCap w (bs l).size 0 e)).size, (bytesRow (bs l) (grownCap w (bs l).size 0 e)).size + 1)) := by
      show (w.heap.push _)[w.heap.size]? = _
      simp
    rw [Nat.zero_add, Nat.mul_one]
    simp only [World.cell?, hb]
    simpa using hrow
theorem id_all {l : List UInt8} {i : Nat} (h : ∀ k c, k < i → l[k]? = some c → ltrB c = true) (hi : l.length ≤ i) : l.all ltrB = true := List.all_eq_true.2 fun c hc => by
  obtain ⟨k, hk⟩ := List.getElem?_of_mem hc
  have hl := (List.getElem?_eq_some_iff.1 hk).1
  exact h k c (by omega) hk
theorem id_not {l : List UInt8} {i : Nat} {c : UInt8} (hc : l[i]? = some c) (h : ¬ ltrB c = true) : idB l = false := by
  unfold idB
  have : l.all ltrB = false := List.all_eq_false.2 ⟨c, List.mem_of_getElem? hc, h⟩
  rw [this, Bool.and_false]
end Gx
namespace Go.Proofs.Ytbpkfkljeibjoaa
open Go.RowKit Rm Gx
set_option maxHeartbeats 8000000 in
set_option maxRecDepth 100000 in
theorem rid_any (l : List UInt8) (hl : l.length ≤ 9223372036854775807) (w : World) :
    Calls Try.prog 8 #[.string (bs l)] w fun e w' => e = .returned (.bool (idB l)) ∧ Gr w w' := by
  refine enter (N := 22) Try.func8 rfl rfl rfl (fun a0 ok0 h0 => ?_)
  have e0_0 : a0.eval (.tmp 0) = .string (bs l) := h0 0 _ rfl
  clear h0
  have G0 := Gr.refl w
  refine wp_seq_k (fun K1 hK1 => ?_)
  refine wp_region_lit ?_
  refine sv ok0 rfl (wn _ rfl) rfl (o_as ev_const) (fun an2 n2 => ?_)
  refine wpList_nil ?_
  refine th_n (hK1 _ _ ?_)
  refine wp_seq_k (fun K3 hK3 => ?_)
  refine wp_seq_k (fun K4 hK4 => ?_)
  refine wp_region_lit ?_
  refine sv n2.ok rfl (wn _ rfl) rfl (o_mv (n2.ne rfl e0_0)) (fun an5 n5 => ?_)
  obtain ⟨bb, cb, wb, hrun, hgb, hbb, hcb⟩ := o_bytes (P := Try.prog) (d := some 6) w n5.at_ Try.underlying9 Try.underlying52 Try.underlying5
  refine sv n5.ok rfl (wn _ rfl) rfl hrun (fun an6 n6 => ?_)
  have G7 := G0.trans hgb
  have A9 := Gr.refl wb
  refine sv n6.ok rfl (wn _ rfl) rfl (o_len n6.at_ Try.underlying52) (fun an10 n10 => ?_)
  refine sv n10.ok rfl (wn _ rfl) rfl (o_mv ev_const) (fun an11 n11 => ?_)
  refine wpList_nil ?_
  refine th_n (hK4 _ _ ?_)
  refine wp_block ?_
  have e13 := n11.ne rfl (n10.ne rfl (n6.ne rfl (n5.ne rfl (n2.ne rfl e0_0))))
  have e14 := n11.ne rfl (n10.ne rfl (n6.ne rfl (n5.ne rfl n2.at_)))
  refine lp (fun (nL : Nat) (aL : Act) (wL : World) => ∃ i : Nat, nL = l.length - i ∧ Ok 22 aL ∧ Gr w wL ∧ (aL.eval (.tmp 0) = .string (bs l)) ∧ (aL.eval (.tmp 2) = .bool false) ∧ (aL.eval (.tmp 6) = .slice (some ⟨bb, 0, none⟩) l.length cb) ∧ (aL.eval (.tmp 7) = .int .i64 ((l.length : Nat) : Int)) ∧ (aL.eval (.tmp 8) = .int .i64 (i : Int)) ∧ (Gr wb wL) ∧ (i ≤ l.length) ∧ (∀ (k : Nat) (c : UInt8), k < i → l[k]? = some c → ltrB c = true)) _ ⟨0, rfl, n11.ok, G7, e13, e14, (n11.ne rfl (n10.ne rfl n6.at_)), (n11.ne rfl n10.at_), n11.at_, A9, by omega, fun k c hk => by omega⟩ ?_
  rintro m15 aI12 w17 ⟨i, hmI12, okI12, GI12, s0I12, s2I12, s6I12, s7I12, s8I12, xanch8I12, hiI12, hhI12⟩ KI12 hKI12
  refine wp_seq_k (fun K18 hK18 => ?_)
  refine wp_region_lit ?_
  refine sv okI12 rfl (wn _ rfl) rfl (o_ltI s8I12 s7I12) (fun an19 n19 => ?_)
  refine wpList_nil ?_
  refine th_n (hK18 _ _ ?_)
  refine wp_seq_k (fun K20 hK20 => ?_)
  by_cases c21 : (i : Int) < ((l.length : Nat) : Int)
  · refine wp_cond_true ((n19.at_).trans (congrArg Value.bool (decide_eq_true c21))) ?_
    refine wp_skip ?_
    refine th_n (hK20 _ _ ?_)
    refine wp_seq_k (fun K22 hK22 => ?_)
    refine wp_block ?_
    refine wp_seq_k (fun K23 hK23 => ?_)
    refine wp_region_lit ?_
    have h24l : i < l.length := by omega
    obtain ⟨ch24, h24x⟩ : ∃ c, l[i]? = some c := ⟨_, List.getElem?_eq_getElem h24l⟩
    refine sv n19.ok rfl (wn _ rfl) rfl (o_iaV (i := i) (s := 1) rfl (n19.ne rfl s6I12) (n19.ne rfl s8I12) Try.underlying52 (by kernel_rfl) h24l) (fun an25 n25 => ?_)
    refine sv n25.ok rfl (wn _ rfl) rfl (o_ld n25.at_ (Try.isAgg5 _) ((Below.cell xanch8I12 hbb).trans (hcb _ _ h24x))) (fun an26 n26 => ?_)
    refine sv n26.ok rfl (wn _ rfl) rfl (o_as n26.at_) (fun an27 n27 => ?_)
    refine wpList_nil ?_
    refine th_n (hK23 _ _ ?_)
    refine wp_seq_k (fun K28 hK28 => ?_)
    refine wp_region_lit ?_
    refine sv n27.ok rfl (wn _ rfl) rfl (o_mv n27.at_) (fun an29 n29 => ?_)
    refine sv n29.ok rfl (wn _ rfl) rfl (o_ltI n29.at_ ev_const) (fun an30 n30 => ?_)
    refine sv n30.ok rfl (wn _ rfl) rfl (o_mv n30.at_) (fun an31 n31 => ?_)
    by_cases c32 : ((ch24.toNat : Nat) : Int) < 97
    · have e33 := (n31.at_).trans (congrArg Value.bool (decide_eq_true c32))
      have e34 := ((n31.ne rfl n30.at_)).trans (congrArg Value.bool (decide_eq_true c32))
      refine sn n31.ok rfl (wgF rfl (yl 2 true rfl e33) rfl) rfl (fun an35 n35 => ?_)
      refine sn n35.ok rfl (wgF rfl (yl 2 true rfl (n35.ne rfl e33)) rfl) rfl (fun an36 n36 => ?_)
      refine sv n36.ok rfl (wn _ rfl) rfl (o_pkT (n36.ne rfl (n35.ne rfl e33)) ev_const) (fun an37 n37 => ?_)
      refine wpList_nil ?_
      refine th_n (hK28 _ _ ?_)
      refine wp_cond_true (n37.at_) ?_
      refine wp_seq_k (fun K38 hK38 => ?_)
      refine wp_region_lit ?_
      refine sv n37.ok rfl (wn _ rfl) rfl (o_as ev_const) (fun an39 n39 => ?_)
      refine wpList_nil ?_
      refine th_n (hK38 _ _ ?_)
      refine wp_ret ?_
      refine ib_r ?_
      refine th_r ?_
      refine th_r ?_
      refine ib_r ?_
      refine th_r ?_
      exact ret1 n39.ok rfl (n39.at_) ⟨by rw [id_not h24x (by unfold ltrB; rw [Bool.and_eq_true, decide_eq_true_eq, decide_eq_true_eq]; omega)], GI12⟩
    · have e40 := (n31.at_).trans (congrArg Value.bool (decide_eq_false c32))
      have e41 := ((n31.ne rfl n30.at_)).trans (congrArg Value.bool (decide_eq_false c32))
      have e42 := n31.ne rfl (n30.ne rfl (n29.ne rfl n27.at_))
      refine sv n31.ok rfl (wgT rfl (yl 2 false rfl e40) rfl) rfl (o_mv e42) (fun an43 n43 => ?_)
      refine sv n43.ok rfl (wgT rfl (yl 2 false rfl (n43.ne rfl e40)) rfl) rfl (o_gtI n43.at_ ev_const) (fun an44 n44 => ?_)
      refine sv n44.ok rfl (wn _ rfl) rfl (o_pkF (n44.ne rfl (n43.ne rfl e40)) n44.at_) (fun an45 n45 => ?_)
      refine wpList_nil ?_
      refine th_n (hK28 _ _ ?_)
      by_cases c46 : (122 : Int) < ((ch24.toNat : Nat) : Int)
      · refine wp_cond_true ((n45.at_).trans (congrArg Value.bool (decide_eq_true c46))) ?_
        refine wp_seq_k (fun K47 hK47 => ?_)
        refine wp_region_lit ?_
        refine sv n45.ok rfl (wn _ rfl) rfl (o_as ev_const) (fun an48 n48 => ?_)
        refine wpList_nil ?_
        refine th_n (hK47 _ _ ?_)
        refine wp_ret ?_
        refine ib_r ?_
        refine th_r ?_
        refine th_r ?_
        refine ib_r ?_
        refine th_r ?_
        exact ret1 n48.ok rfl (n48.at_) ⟨by rw [id_not h24x (by unfold ltrB; rw [Bool.and_eq_true, decide_eq_true_eq, decide_eq_true_eq]; omega)], GI12⟩
      · refine wp_cond_false ((n45.at_).trans (congrArg Value.bool (decide_eq_false c46))) ?_
        refine wp_skip ?_
        refine ib_n ?_
        refine th_n (hK22 _ _ ?_)
        refine wp_region_lit ?_
        have e49 := n45.ne rfl (n44.ne rfl (n43.ne rfl (n31.ne rfl (n30.ne rfl (n29.ne rfl (n27.ne rfl (n26.ne rfl (n25.ne rfl (n19.ne rfl s8I12)))))))))
        refine sv n45.ok rfl (wn _ rfl) rfl (o_add (r := ((i + 1 : Nat) : Int)) e49 ev_const (by omega) (by omega)) (fun an50 n50 => ?_)
        refine sv n50.ok rfl (wn _ rfl) rfl (o_mv n50.at_) (fun an51 n51 => ?_)
        refine wpList_nil ?_
        have e52 := n51.ne rfl (n50.ne rfl (n45.ne rfl (n44.ne rfl (n43.ne rfl (n31.ne rfl (n30.ne rfl (n29.ne rfl (n27.ne rfl (n26.ne rfl (n25.ne rfl (n19.ne rfl s0I12)))))))))))
        have e53 := n51.ne rfl (n50.ne rfl (n45.ne rfl (n44.ne rfl (n43.ne rfl (n31.ne rfl (n30.ne rfl (n29.ne rfl (n27.ne rfl (n26.ne rfl (n25.ne rfl (n19.ne rfl s2I12)))))))))))
        have e54 := n51.ne rfl (n50.ne rfl (n45.ne rfl (n44.ne rfl (n43.ne rfl (n31.ne rfl (n30.ne rfl (n29.ne rfl (n27.ne rfl (n26.ne rfl (n25.ne rfl (n19.ne rfl s6I12)))))))))))
        have e55 := n51.ne rfl (n50.ne rfl (n45.ne rfl (n44.ne rfl (n43.ne rfl (n31.ne rfl (n30.ne rfl (n29.ne rfl (n27.ne rfl (n26.ne rfl (n25.ne rfl (n19.ne rfl s7I12)))))))))))
        exact th_n (hKI12 _ _ _ (by omega) ⟨i + 1, rfl, n51.ok, GI12, e52, e53, e54, e55, n51.at_, xanch8I12, by omega, (fun k c hk hc => by
            rcases Nat.lt_or_ge k i with q | q
            · exact hhI12 k c q hc
            · obtain rfl : k = i := by omega
              rw [h24x] at hc
              cases hc
              unfold ltrB
              rw [Bool.and_eq_true, decide_eq_true_eq, decide_eq_true_eq]
              omega)⟩)
  · refine wp_cond_false ((n19.at_).trans (congrArg Value.bool (decide_eq_false c21))) ?_
    refine wp_exit ?_
    refine th_x ?_
    refine th_x ?_
    refine ib_x ?_
    refine th_n (hK3 _ _ ?_)
    refine wp_seq_k (fun K56 hK56 => ?_)
    refine wp_region_lit ?_
    refine sv n19.ok rfl (wn _ rfl) rfl (o_mv (n19.ne rfl s0I12)) (fun an57 n57 => ?_)
    refine sv n57.ok rfl (wn _ rfl) rfl (o_lenS n57.at_ Try.underlying9) (fun an58 n58 => ?_)
    refine sc n58.ok rfl (wn _ rfl) rfl (o_f3 Try.func24 rfl rfl rfl n58.at_ ev_const ev_const) (rwithin_p ((l.length : Nat) : Int) 1 8 w17) ?_
    rintro _ w60 ⟨rfl, g61⟩
    refine ⟨_, rfl, fun an59 n59 => ?_⟩
    have G62 := GI12.trans g61
    have A63 := xanch8I12.trans g61
    refine sv n59.ok rfl (wn _ rfl) rfl (o_as n59.at_) (fun an64 n64 => ?_)
    refine wpList_nil ?_
    refine th_n (hK56 _ _ ?_)
    refine wp_ret ?_
    exact ret1 n64.ok rfl (n64.at_) ⟨congrArg (fun b => Ending.returned (Value.bool b)) (by unfold idB; rw [id_all hhI12 (by omega), Bool.and_true, Bool.eq_iff_iff, Bool.and_eq_true, decide_eq_true_eq, decide_eq_true_eq, decide_eq_true_eq]; omega), G62⟩
end Go.Proofs.Ytbpkfkljeibjoaa

/- reedref.Point, One, Shelf; shelf.Past where the slice is no shelf. -/
set_option linter.unusedVariables false
set_option linter.unusedSimpArgs false
namespace Go.Proofs.Ytbpkfkljeibjoaa
open Go.RowKit Rm Gx
theorem ahead_iff (a b : VerD) : aheadB a b = decide (cmpV a b < 0) := by
  rw [Bool.eq_iff_iff, decide_eq_true_eq, cmpV_lt]
  unfold aheadB ltV
  by_cases h1 : a.id = b.id
  · rw [if_neg (by simpa using h1), h1, bl_irr]
    by_cases h2 : a.s = b.s
    · rw [if_neg (by simpa using h2), decide_eq_true_eq]
      constructor
      · exact fun h => .inr ⟨rfl, .inr ⟨h2, h⟩⟩
      · rintro (h | ⟨-, h | ⟨-, h⟩⟩)
        · cases h
        · omega
        · exact h
    · rw [if_pos h2, decide_eq_true_eq]
      constructor
      · exact fun h => .inr ⟨rfl, .inl h⟩
      · rintro (h | ⟨-, h | ⟨h, -⟩⟩)
        · cases h
        · exact h
        · exact absurd h h2
  · rw [if_pos h1]
    constructor
    · exact fun h => .inl h
    · rintro (h | ⟨h, -⟩)
      · exact h
      · exact absurd h h1
theorem one_rng {x : VerD} (h : argB x = true) : 0 ≤ x.s ∧ x.s < 5 ∧ 0 ≤ x.c ∧ x.c < 1024 := by
  have d0 := (dotB_iff _).1 (argB_dot h)
  simp only at d0
  omega
set_option maxHeartbeats 8000000 in
set_option maxRecDepth 100000 in
theorem rpt_any (t n : Int) (w : World) :
    Calls Try.prog 30 #[.agg #[.int .i64 (t), .int .i64 (n)]] w fun e w' => e = .returned (.bool (ptB t n)) ∧ Gr w w' := by
  refine enter (N := 11) Try.func30 rfl rfl rfl (fun a0 ok0 h0 => ?_)
  have e0_0 : a0.eval (.tmp 0) = .agg #[.int .i64 (t), .int .i64 (n)] := h0 0 _ rfl
  clear h0
  have G0 := Gr.refl w
  refine wp_seq_k (fun K1 hK1 => ?_)
  refine wp_region_lit ?_
  refine sal (cs := #[.int .i64 (t), .int .i64 (n)]) ok0 rfl (wn _ rfl) rfl (o_box e0_0) (fun an2 w4 b3 W5 n2 => ?_)
  have l6 : w.heap.size ≤ b3 := by rw [W5.eq]; exact G0.size
  have G7 := G0.trans W5.gr
  refine sv n2.ok rfl (wn _ rfl) rfl (o_as ev_const) (fun an8 n8 => ?_)
  refine wpList_nil ?_
  refine th_n (hK1 _ _ ?_)
  refine wp_seq_k (fun K9 hK9 => ?_)
  refine wp_region_lit ?_
  refine sv n8.ok rfl (wn _ rfl) rfl (o_fa (z := 1) (n8.ne rfl n2.at_) Try.underlying26 rfl (by kernel_rfl) rfl rfl) (fun an10 n10 => ?_)
  refine sv n10.ok rfl (wn _ rfl) rfl (o_ld n10.at_ (Try.isAgg3 _) (W5.bk.cell _ rfl)) (fun an11 n11 => ?_)
  refine sc n11.ok rfl (wn _ rfl) rfl (o_f3 Try.func24 rfl rfl rfl n11.at_ ev_const ev_const) (rwithin_p t 0 15 w4) ?_
  rintro _ w13 ⟨rfl, g14⟩
  refine ⟨_, rfl, fun an12 n12 => ?_⟩
  have G15 := G7.trans g14
  have B16 := W5.bk.gr g14
  refine sv n12.ok rfl (wn _ rfl) rfl (o_mv n12.at_) (fun an17 n17 => ?_)
  by_cases c18 : 0 ≤ t ∧ t ≤ 15
  · have e19 := (n17.at_).trans (congrArg Value.bool (decide_eq_true c18))
    have e20 := ((n17.ne rfl n12.at_)).trans (congrArg Value.bool (decide_eq_true c18))
    have e21 := n17.ne rfl (n12.ne rfl (n11.ne rfl (n10.ne rfl (n8.ne rfl n2.at_))))
    refine sv n17.ok rfl (wgT rfl (yl 3 true rfl e19) rfl) rfl (o_fa (z := 1) e21 Try.underlying26 rfl (by kernel_rfl) rfl rfl) (fun an22 n22 => ?_)
    refine sv n22.ok rfl (wgT rfl (yl 3 true rfl (n22.ne rfl e19)) rfl) rfl (o_ld n22.at_ (Try.isAgg3 _) (B16.cell _ rfl)) (fun an23 n23 => ?_)
    refine sc n23.ok rfl (wgT rfl (yl 3 true rfl (n23.ne rfl (n22.ne rfl e19))) rfl) rfl (o_f3 Try.func24 rfl rfl rfl n23.at_ ev_const ev_const) (rwithin_p n 0 31 w13) ?_
    rintro _ w25 ⟨rfl, g26⟩
    refine ⟨_, rfl, fun an24 n24 => ?_⟩
    have G27 := G15.trans g26
    have B28 := B16.gr g26
    have e29 := n24.ne rfl (n23.ne rfl (n22.ne rfl e19))
    refine sv n24.ok rfl (wn _ rfl) rfl (o_pkT e29 n24.at_) (fun an30 n30 => ?_)
    refine sv n30.ok rfl (wn _ rfl) rfl (o_as n30.at_) (fun an31 n31 => ?_)
    refine wpList_nil ?_
    refine th_n (hK9 _ _ ?_)
    refine wp_ret ?_
    exact ret1 n31.ok rfl (n31.at_) ⟨congrArg (fun b => Ending.returned (Value.bool b)) (by unfold ptB; rw [Bool.eq_iff_iff]; simp only [Bool.and_eq_true, decide_eq_true_eq, Bool.false_eq_true, false_iff]; omega), G27⟩
  · have e32 := (n17.at_).trans (congrArg Value.bool (decide_eq_false c18))
    have e33 := ((n17.ne rfl n12.at_)).trans (congrArg Value.bool (decide_eq_false c18))
    refine sn n17.ok rfl (wgF rfl (yl 3 false rfl e32) rfl) rfl (fun an34 n34 => ?_)
    refine sn n34.ok rfl (wgF rfl (yl 3 false rfl (n34.ne rfl e32)) rfl) rfl (fun an35 n35 => ?_)
    refine sn n35.ok rfl (wgF rfl (yl 3 false rfl (n35.ne rfl (n34.ne rfl e32))) rfl) rfl (fun an36 n36 => ?_)
    have e37 := n36.ne rfl (n35.ne rfl (n34.ne rfl e32))
    refine sv n36.ok rfl (wn _ rfl) rfl (o_pkF e37 ev_const) (fun an38 n38 => ?_)
    refine sv n38.ok rfl (wn _ rfl) rfl (o_as n38.at_) (fun an39 n39 => ?_)
    refine wpList_nil ?_
    refine th_n (hK9 _ _ ?_)
    refine wp_ret ?_
    exact ret1 n39.ok rfl (n39.at_) ⟨congrArg (fun b => Ending.returned (Value.bool b)) (by unfold ptB; rw [Bool.eq_iff_iff]; simp only [Bool.and_eq_true, decide_eq_true_eq, Bool.false_eq_true, false_iff]; omega), G15⟩
set_option maxHeartbeats 8000000 in
set_option maxRecDepth 100000 in
theorem rone_any (x : VerI) (hid : x.d.id.length ≤ 9223372036854775807) (w : World) (hm : MeanV w x) :
    Calls Try.prog 10 #[.agg #[.string (bs x.d.id), .int .i64 (x.d.s), .int .i64 (x.d.c), .int .i64 (x.d.t), .int .i64 (x.d.n), .int .i64 (x.d.b), .slice x.va x.d.V.length x.vc, .slice x.ma x.d.M.length x.mc]] w fun e w' => e = .returned (.int .i64 (chkOne x.d)) ∧ Gr w w' := by
  refine enter (N := 38) Try.func10 rfl rfl rfl (fun a0 ok0 h0 => ?_)
  have e0_0 : a0.eval (.tmp 0) = .agg #[.string (bs x.d.id), .int .i64 (x.d.s), .int .i64 (x.d.c), .int .i64 (x.d.t), .int .i64 (x.d.n), .int .i64 (x.d.b), .slice x.va x.d.V.length x.vc, .slice x.ma x.d.M.length x.mc] := h0 0 _ rfl
  clear h0
  have G0 := Gr.refl w
  refine wp_seq_k (fun K1 hK1 => ?_)
  refine wp_region_lit ?_
  refine sal (cs := #[.string (bs x.d.id), .int .i64 (x.d.s), .int .i64 (x.d.c), .int .i64 (x.d.t), .int .i64 (x.d.n), .int .i64 (x.d.b), .slice x.va x.d.V.length x.vc, .slice x.ma x.d.M.length x.mc]) ok0 rfl (wn _ rfl) rfl (o_box e0_0) (fun an2 w4 b3 W5 n2 => ?_)
  have l6 : w.heap.size ≤ b3 := by rw [W5.eq]; exact G0.size
  have G7 := G0.trans W5.gr
  refine sv n2.ok rfl (wn _ rfl) rfl (o_as ev_const) (fun an8 n8 => ?_)
  refine wpList_nil ?_
  refine th_n (hK1 _ _ ?_)
  refine wp_seq_k (fun K9 hK9 => ?_)
  refine wp_block ?_
  refine wp_seq_k (fun K10 hK10 => ?_)
  refine wp_region_lit ?_
  refine sv n8.ok rfl (wn _ rfl) rfl (o_fa (z := 1) (n8.ne rfl n2.at_) Try.underlying32 rfl (by kernel_rfl) rfl rfl) (fun an11 n11 => ?_)
  refine sv n11.ok rfl (wn _ rfl) rfl (o_ld n11.at_ (Try.isAgg9 _) (W5.bk.cell _ rfl)) (fun an12 n12 => ?_)
  refine sc n12.ok rfl (wn _ rfl) rfl (o_f1 Try.func8 rfl rfl rfl n12.at_) (rid_any x.d.id hid w4) ?_
  rintro _ w14 ⟨rfl, g15⟩
  refine ⟨_, rfl, fun an13 n13 => ?_⟩
  have G16 := G7.trans g15
  have B17 := W5.bk.gr g15
  refine sv n13.ok rfl (wn _ rfl) rfl (o_notI n13.at_) (fun an18 n18 => ?_)
  refine sv n18.ok rfl (wn _ rfl) rfl (o_as n18.at_) (fun an19 n19 => ?_)
  refine wpList_nil ?_
  refine th_n (hK10 _ _ ?_)
  cases c20 : (!(idB x.d.id))
  · refine wp_cond_false ((n19.at_).trans (congrArg Value.bool (c20))) ?_
    have hI : idB x.d.id = true := by simpa using c20
    refine wp_seq_k (fun K21 hK21 => ?_)
    refine wp_region_lit ?_
    have e22 := n19.ne rfl (n18.ne rfl (n13.ne rfl (n12.ne rfl (n11.ne rfl (n8.ne rfl n2.at_)))))
    refine sv n19.ok rfl (wn _ rfl) rfl (o_fa (z := 2) e22 Try.underlying32 rfl (by kernel_rfl) rfl rfl) (fun an23 n23 => ?_)
    refine sv n23.ok rfl (wn _ rfl) rfl (o_ldA (k := 1) (cs := [.int .i64 (x.d.s), .int .i64 (x.d.c)]) n23.at_ (bk_part B17 rfl) Try.underlying24 rfl (by kernel_rfl)) (fun an24 n24 => ?_)
    refine sc n24.ok rfl (wn _ rfl) rfl (o_f1 Try.func29 rfl rfl rfl n24.at_) (rdot_any (x.d.s, x.d.c) w14) ?_
    rintro _ w26 ⟨rfl, g27⟩
    refine ⟨_, rfl, fun an25 n25 => ?_⟩
    have G28 := G16.trans g27
    have B29 := B17.gr g27
    refine sv n25.ok rfl (wn _ rfl) rfl (o_notI n25.at_) (fun an30 n30 => ?_)
    refine sv n30.ok rfl (wn _ rfl) rfl (o_mv n30.at_) (fun an31 n31 => ?_)
    cases c32 : (!(dotB (x.d.s, x.d.c)))
    · have e33 := (n31.at_).trans (congrArg Value.bool (c32))
      have e34 := ((n31.ne rfl n30.at_)).trans (congrArg Value.bool (c32))
      have e35 := n31.ne rfl (n30.ne rfl (n25.ne rfl (n24.ne rfl (n23.ne rfl e22))))
      refine sv n31.ok rfl (wgT rfl (yl 4 false rfl e33) rfl) rfl (o_fa (z := 2) e35 Try.underlying32 rfl (by kernel_rfl) rfl rfl) (fun an36 n36 => ?_)
      refine sv n36.ok rfl (wgT rfl (yl 4 false rfl (n36.ne rfl e33)) rfl) rfl (o_ldA (k := 3) (cs := [.int .i64 (x.d.t), .int .i64 (x.d.n)]) n36.at_ (bk_part B29 rfl) Try.underlying26 rfl (by kernel_rfl)) (fun an37 n37 => ?_)
      refine sc n37.ok rfl (wgT rfl (yl 4 false rfl (n37.ne rfl (n36.ne rfl e33))) rfl) rfl (o_f1 Try.func30 rfl rfl rfl n37.at_) (rpt_any x.d.t x.d.n w26) ?_
      rintro _ w39 ⟨rfl, g40⟩
      refine ⟨_, rfl, fun an38 n38 => ?_⟩
      have G41 := G28.trans g40
      have B42 := B29.gr g40
      have e43 := n38.ne rfl (n37.ne rfl (n36.ne rfl e33))
      refine sv n38.ok rfl (wgT rfl (yl 4 false rfl e43) rfl) rfl (o_notI n38.at_) (fun an44 n44 => ?_)
      refine sv n44.ok rfl (wn _ rfl) rfl (o_pkF (n44.ne rfl e43) n44.at_) (fun an45 n45 => ?_)
      refine sv n45.ok rfl (wn _ rfl) rfl (o_mv n45.at_) (fun an46 n46 => ?_)
      cases c47 : (!(ptB x.d.t x.d.n))
      · have e48 := (n46.at_).trans (congrArg Value.bool (c47))
        have e49 := ((n46.ne rfl (n45.ne rfl n44.at_))).trans (congrArg Value.bool (c47))
        have e50 := ((n46.ne rfl n45.at_)).trans (congrArg Value.bool (c47))
        have e51 := n46.ne rfl (n45.ne rfl (n44.ne rfl (n38.ne rfl (n37.ne rfl (n36.ne rfl e35)))))
        refine sv n46.ok rfl (wgT rfl (yl 10 false rfl e48) rfl) rfl (o_fa (z := 1) e51 Try.underlying32 rfl (by kernel_rfl) rfl rfl) (fun an52 n52 => ?_)
        refine sv n52.ok rfl (wgT rfl (yl 10 false rfl (n52.ne rfl e48)) rfl) rfl (o_ld n52.at_ (Try.isAgg3 _) (B42.cell _ rfl)) (fun an53 n53 => ?_)
        refine sc n53.ok rfl (wgT rfl (yl 10 false rfl (n53.ne rfl (n52.ne rfl e48))) rfl) rfl (o_f3 Try.func24 rfl rfl rfl n53.at_ ev_const ev_const) (rwithin_p x.d.b 0 1000000 w39) ?_
        rintro _ w55 ⟨rfl, g56⟩
        refine ⟨_, rfl, fun an54 n54 => ?_⟩
        have G57 := G41.trans g56
        have B58 := B42.gr g56
        have e59 := n54.ne rfl (n53.ne rfl (n52.ne rfl e48))
        refine sv n54.ok rfl (wgT rfl (yl 10 false rfl e59) rfl) rfl (o_notD n54.at_) (fun an60 n60 => ?_)
        refine sv n60.ok rfl (wn _ rfl) rfl (o_pkF (n60.ne rfl e59) n60.at_) (fun an61 n61 => ?_)
        refine sv n61.ok rfl (wn _ rfl) rfl (o_as n61.at_) (fun an62 n62 => ?_)
        refine wpList_nil ?_
        refine th_n (hK21 _ _ ?_)
        by_cases c63 : ¬ (0 ≤ x.d.b ∧ x.d.b ≤ 1000000)
        · refine wp_cond_true ((n62.at_).trans (congrArg Value.bool (decide_eq_true c63))) ?_
          refine wp_seq_k (fun K64 hK64 => ?_)
          refine wp_region_lit ?_
          refine sv n62.ok rfl (wn _ rfl) rfl (o_as ev_const) (fun an65 n65 => ?_)
          refine wpList_nil ?_
          refine th_n (hK64 _ _ ?_)
          refine wp_ret ?_
          refine ib_r ?_
          refine th_r ?_
          exact ret1 n65.ok rfl (n65.at_) ⟨congrArg (fun n => Ending.returned (Value.int .i64 n)) (Eq.symm (by unfold chkOne; rw [if_neg (by rw [hI]; simp), if_pos (show argB x.d = false by unfold argB; have h := c63; simp only [Bool.and_eq_false_iff, decide_eq_false_iff_not]; by_cases q0 : 0 ≤ x.d.b <;> first | (left; right; exact q0) | (right; omega))])), G57⟩
        · refine wp_cond_false ((n62.at_).trans (congrArg Value.bool (decide_eq_false c63))) ?_
          have hA : argB x.d = true := by unfold argB; rw [show dotB (x.d.s, x.d.c) = true by simpa using c32, show ptB x.d.t x.d.n = true by simpa using c47, decide_eq_true (show 0 ≤ x.d.b by have h := c63; simp only [Decidable.not_not] at h; omega), decide_eq_true (show x.d.b ≤ 1000000 by have h := c63; simp only [Decidable.not_not] at h; omega)]; rfl
          refine wp_skip ?_
          refine ib_n ?_
          refine th_n (hK9 _ _ ?_)
          refine wp_seq_k (fun K66 hK66 => ?_)
          refine wp_seq_k (fun K67 hK67 => ?_)
          refine wp_region_lit ?_
          have e68 := n62.ne rfl (n61.ne rfl (n60.ne rfl (n54.ne rfl (n53.ne rfl (n52.ne rfl e51)))))
          refine sv n62.ok rfl (wn _ rfl) rfl (o_fa (z := 2) e68 Try.underlying32 rfl (by kernel_rfl) rfl rfl) (fun an69 n69 => ?_)
          refine sv n69.ok rfl (wn _ rfl) rfl (o_ldA (k := 6) (cs := [.slice x.va x.d.V.length x.vc, .slice x.ma x.d.M.length x.mc]) n69.at_ (bk_part B58 rfl) Try.underlying30 rfl (by kernel_rfl)) (fun an70 n70 => ?_)
          refine sc n70.ok rfl (wn _ rfl) rfl (o_f1 Try.func31 rfl rfl rfl n70.at_) (rknow_any _ _ _ w55 (MeanV.gr hm G57)) ?_
          rintro _ w72 ⟨rfl, g73⟩
          refine ⟨_, rfl, fun an71 n71 => ?_⟩
          have G74 := G57.trans g73
          have B75 := B58.gr g73
          refine sv n71.ok rfl (wn _ rfl) rfl (o_as n71.at_) (fun an76 n76 => ?_)
          refine wpList_nil ?_
          refine th_n (hK67 _ _ ?_)
          refine wp_seq_k (fun K77 hK77 => ?_)
          refine wp_region_lit ?_
          refine sv n76.ok rfl (wn _ rfl) rfl (o_mv n76.at_) (fun an78 n78 => ?_)
          refine sv n78.ok rfl (wn _ rfl) rfl (o_neI n78.at_ ev_const) (fun an79 n79 => ?_)
          refine wpList_nil ?_
          refine th_n (hK77 _ _ ?_)
          by_cases c80 : ¬ (chkK x.d.V x.d.M) = 0
          · refine wp_cond_true ((n79.at_).trans (congrArg Value.bool (decide_eq_true c80))) ?_
            refine wp_seq_k (fun K81 hK81 => ?_)
            refine wp_region_lit ?_
            refine sv n79.ok rfl (wn _ rfl) rfl (o_mv (n79.ne rfl (n78.ne rfl n76.at_))) (fun an82 n82 => ?_)
            refine sv n82.ok rfl (wn _ rfl) rfl (o_as n82.at_) (fun an83 n83 => ?_)
            refine wpList_nil ?_
            refine th_n (hK81 _ _ ?_)
            refine wp_ret ?_
            refine th_r ?_
            exact ret1 n83.ok rfl (n83.at_) ⟨congrArg (fun n => Ending.returned (Value.int .i64 n)) (Eq.symm (by unfold chkOne; rw [if_neg (by rw [hI]; simp), if_neg (by rw [hA]; simp), if_pos c80])), G74⟩
          · refine wp_cond_false ((n79.at_).trans (congrArg Value.bool (decide_eq_false c80))) ?_
            have hK : chkK x.d.V x.d.M = 0 := Decidable.of_not_not c80
            refine wp_skip ?_
            refine th_n (hK66 _ _ ?_)
            refine wp_seq_k (fun K84 hK84 => ?_)
            refine wp_seq_k (fun K85 hK85 => ?_)
            refine reg_start (N := 38) (m := 6) (by kernel_rfl) (fun R860 => ?_)
            have e87 := n79.ne rfl (n78.ne rfl (n76.ne rfl (n71.ne rfl (n70.ne rfl (n69.ne rfl e68)))))
            have R861 := R860.snoc (n' := 1) rfl (fun vJ _ => vJ = .pointer (some ⟨b3, 6, none⟩)) rfl (fun _ _ _ _ h => h) (fun aS wS pS => by
                exact Does.val (wn _ rfl) (o_fa (z := 2) ((pS.old 1 rfl).trans e87) Try.underlying32 rfl (by kernel_rfl) rfl rfl) (Gr.refl _) rfl rfl)
            have R862 := R861.snoc (n' := 2) rfl (fun vJ _ => vJ = .agg #[.slice x.va x.d.V.length x.vc, .slice x.ma x.d.M.length x.mc]) rfl (fun _ _ _ _ h => h) (fun aS wS pS => by
                have eR86_0 : aS.eval (.tmp 32) = .pointer (some ⟨b3, 6, none⟩) := pS.pre 0 rfl
                exact Does.val (wn _ rfl) (o_ldA (k := 6) (cs := [.slice x.va x.d.V.length x.vc, .slice x.ma x.d.M.length x.mc]) (eR86_0) (bk_part (Bk.gr B75 (gr_drew pS.gr)) rfl) Try.underlying30 rfl (by kernel_rfl)) (Gr.refl _) rfl rfl)
            have R863 := R862.snoc (n' := 3) rfl (fun vJ _ => vJ = .agg (wArr (xOf (dsV x.d)))) rfl (fun _ _ _ _ h => h) (fun aS wS pS => by
                have eR86_1 : aS.eval (.tmp 33) = .agg #[.slice x.va x.d.V.length x.vc, .slice x.ma x.d.M.length x.mc] := pS.pre 1 rfl
                exact Does.call (wn _ rfl) (o_f1 Try.func32 rfl rfl rfl (eR86_1)) (rallC _ x.d.V x.d.M wS (MeanV.gr hm (G74.trans (gr_drew pS.gr))) hK) (by rintro _ w2 ⟨rfl, g⟩; exact ⟨_, rfl, g, rfl⟩) rfl)
            have R864 := R863.snoc (n' := 4) rfl (fun vJ _ => vJ = .pointer (some ⟨b3, 1, none⟩)) rfl (fun _ _ _ _ h => h) (fun aS wS pS => by
                exact Does.val (wn _ rfl) (o_fa (z := 2) ((pS.old 1 rfl).trans e87) Try.underlying32 rfl (by kernel_rfl) rfl rfl) (Gr.refl _) rfl rfl)
            have R865 := R864.snoc (n' := 5) rfl (fun vJ _ => vJ = .agg #[.int .i64 (x.d.s), .int .i64 (x.d.c)]) rfl (fun _ _ _ _ h => h) (fun aS wS pS => by
                have eR86_3 : aS.eval (.tmp 35) = .pointer (some ⟨b3, 1, none⟩) := pS.pre 3 rfl
                exact Does.val (wn _ rfl) (o_ldA (k := 1) (cs := [.int .i64 (x.d.s), .int .i64 (x.d.c)]) (eR86_3) (bk_part (Bk.gr B75 (gr_drew pS.gr)) rfl) Try.underlying24 rfl (by kernel_rfl)) (Gr.refl _) rfl rfl)
            have R866 := R865.snoc (n' := 6) rfl (fun vJ _ => vJ = .bool (memI x.d.V x.d.M x.d.s x.d.c)) rfl (fun _ _ _ _ h => h) (fun aS wS pS => by
                have eR86_2 : aS.eval (.tmp 34) = .agg (wArr (xOf (dsV x.d))) := pS.pre 2 rfl
                have eR86_4 : aS.eval (.tmp 36) = .agg #[.int .i64 (x.d.s), .int .i64 (x.d.c)] := pS.pre 4 rfl
                exact Does.call (wn _ rfl) (o_f2 Try.func33 rfl rfl rfl (eR86_2) (eR86_4)) (rhasI (dsV x.d) x.d.s x.d.c wS (one_rng hA).1 (one_rng hA).2.1 (one_rng hA).2.2.1 (one_rng hA).2.2.2) (by rintro _ w2 ⟨rfl, g⟩; exact ⟨_, rfl, g, rfl⟩) rfl)
            refine R866.run (k := 0) (L := #[true, true, true, true, true, true]) (by kernel_rfl) (by kernel_rfl) (by kernel_rfl) n79.ok (by kernel_rfl) (by kernel_rfl) (fun ap89 w90 p89 => ?_)
            have g91 := gr_drew p89.gr
            have G92 := G74.trans g91
            have B93 := B75.gr g91
            refine wpAny_done (by kernel_rfl) ?_ _
            refine th_n (hK85 _ _ ?_)
            have ep89_5 : ap89.eval (.tmp 37) = .bool (memI x.d.V x.d.M x.d.s x.d.c) := p89.js 5 rfl
            cases c94 : (memI x.d.V x.d.M x.d.s x.d.c)
            · refine wp_cond_false ((ep89_5).trans (congrArg Value.bool (c94))) ?_
              refine wp_skip ?_
              refine th_n (hK84 _ _ ?_)
              refine wp_seq_k (fun K95 hK95 => ?_)
              refine wp_region_lit ?_
              refine sv p89.ok rfl (wn _ rfl) rfl (o_as ev_const) (fun an96 n96 => ?_)
              refine wpList_nil ?_
              refine th_n (hK95 _ _ ?_)
              refine wp_ret ?_
              exact ret1 n96.ok rfl (n96.at_) ⟨congrArg (fun n => Ending.returned (Value.int .i64 n)) (Eq.symm (by unfold chkOne; rw [if_neg (by rw [hI]; simp), if_neg (by rw [hA]; simp), if_neg c80, if_neg (by rw [c94]; simp)])), G92⟩
            · refine wp_cond_true ((ep89_5).trans (congrArg Value.bool (c94))) ?_
              refine wp_seq_k (fun K97 hK97 => ?_)
              refine wp_region_lit ?_
              refine sv p89.ok rfl (wn _ rfl) rfl (o_as ev_const) (fun an98 n98 => ?_)
              refine wpList_nil ?_
              refine th_n (hK97 _ _ ?_)
              refine wp_ret ?_
              refine th_r ?_
              exact ret1 n98.ok rfl (n98.at_) ⟨congrArg (fun n => Ending.returned (Value.int .i64 n)) (Eq.symm (by unfold chkOne; rw [if_neg (by rw [hI]; simp), if_neg (by rw [hA]; simp), if_neg c80, if_pos c94])), G92⟩
      · have e99 := (n46.at_).trans (congrArg Value.bool (c47))
        have e100 := ((n46.ne rfl (n45.ne rfl n44.at_))).trans (congrArg Value.bool (c47))
        have e101 := ((n46.ne rfl n45.at_)).trans (congrArg Value.bool (c47))
        refine sn n46.ok rfl (wgF rfl (yl 10 true rfl e99) rfl) rfl (fun an102 n102 => ?_)
        refine sn n102.ok rfl (wgF rfl (yl 10 true rfl (n102.ne rfl e99)) rfl) rfl (fun an103 n103 => ?_)
        refine sn n103.ok rfl (wgF rfl (yl 10 true rfl (n103.ne rfl (n102.ne rfl e99))) rfl) rfl (fun an104 n104 => ?_)
        have e105 := n104.ne rfl (n103.ne rfl (n102.ne rfl e99))
        refine sn n104.ok rfl (wgF rfl (yl 10 true rfl e105) rfl) rfl (fun an106 n106 => ?_)
        refine sv n106.ok rfl (wn _ rfl) rfl (o_pkT (n106.ne rfl e105) ev_const) (fun an107 n107 => ?_)
        refine sv n107.ok rfl (wn _ rfl) rfl (o_as n107.at_) (fun an108 n108 => ?_)
        refine wpList_nil ?_
        refine th_n (hK21 _ _ ?_)
        refine wp_cond_true (n108.at_) ?_
        refine wp_seq_k (fun K109 hK109 => ?_)
        refine wp_region_lit ?_
        refine sv n108.ok rfl (wn _ rfl) rfl (o_as ev_const) (fun an110 n110 => ?_)
        refine wpList_nil ?_
        refine th_n (hK109 _ _ ?_)
        refine wp_ret ?_
        refine ib_r ?_
        refine th_r ?_
        exact ret1 n110.ok rfl (n110.at_) ⟨congrArg (fun n => Ending.returned (Value.int .i64 n)) (Eq.symm (by unfold chkOne; rw [if_neg (by rw [hI]; simp), if_pos (show argB x.d = false by unfold argB; rw [show ptB x.d.t x.d.n = false by simpa using c47]; simp)])), G41⟩
    · have e111 := (n31.at_).trans (congrArg Value.bool (c32))
      have e112 := ((n31.ne rfl n30.at_)).trans (congrArg Value.bool (c32))
      refine sn n31.ok rfl (wgF rfl (yl 4 true rfl e111) rfl) rfl (fun an113 n113 => ?_)
      refine sn n113.ok rfl (wgF rfl (yl 4 true rfl (n113.ne rfl e111)) rfl) rfl (fun an114 n114 => ?_)
      refine sn n114.ok rfl (wgF rfl (yl 4 true rfl (n114.ne rfl (n113.ne rfl e111))) rfl) rfl (fun an115 n115 => ?_)
      have e116 := n115.ne rfl (n114.ne rfl (n113.ne rfl e111))
      refine sn n115.ok rfl (wgF rfl (yl 4 true rfl e116) rfl) rfl (fun an117 n117 => ?_)
      refine sv n117.ok rfl (wn _ rfl) rfl (o_pkT (n117.ne rfl e116) ev_const) (fun an118 n118 => ?_)
      refine sv n118.ok rfl (wn _ rfl) rfl (o_mv n118.at_) (fun an119 n119 => ?_)
      refine sn n119.ok rfl (wgF rfl (yl 10 true rfl n119.at_) rfl) rfl (fun an120 n120 => ?_)
      refine sn n120.ok rfl (wgF rfl (yl 10 true rfl (n120.ne rfl n119.at_)) rfl) rfl (fun an121 n121 => ?_)
      refine sn n121.ok rfl (wgF rfl (yl 10 true rfl (n121.ne rfl (n120.ne rfl n119.at_))) rfl) rfl (fun an122 n122 => ?_)
      have e123 := n122.ne rfl (n121.ne rfl (n120.ne rfl n119.at_))
      refine sn n122.ok rfl (wgF rfl (yl 10 true rfl e123) rfl) rfl (fun an124 n124 => ?_)
      refine sv n124.ok rfl (wn _ rfl) rfl (o_pkT (n124.ne rfl e123) ev_const) (fun an125 n125 => ?_)
      refine sv n125.ok rfl (wn _ rfl) rfl (o_as n125.at_) (fun an126 n126 => ?_)
      refine wpList_nil ?_
      refine th_n (hK21 _ _ ?_)
      refine wp_cond_true (n126.at_) ?_
      refine wp_seq_k (fun K127 hK127 => ?_)
      refine wp_region_lit ?_
      refine sv n126.ok rfl (wn _ rfl) rfl (o_as ev_const) (fun an128 n128 => ?_)
      refine wpList_nil ?_
      refine th_n (hK127 _ _ ?_)
      refine wp_ret ?_
      refine ib_r ?_
      refine th_r ?_
      exact ret1 n128.ok rfl (n128.at_) ⟨congrArg (fun n => Ending.returned (Value.int .i64 n)) (Eq.symm (by unfold chkOne; rw [if_neg (by rw [hI]; simp), if_pos (show argB x.d = false by unfold argB; rw [show dotB (x.d.s, x.d.c) = false by simpa using c32]; rfl)])), G28⟩
  · refine wp_cond_true ((n19.at_).trans (congrArg Value.bool (c20))) ?_
    refine wp_seq_k (fun K129 hK129 => ?_)
    refine wp_region_lit ?_
    refine sv n19.ok rfl (wn _ rfl) rfl (o_as ev_const) (fun an130 n130 => ?_)
    refine wpList_nil ?_
    refine th_n (hK129 _ _ ?_)
    refine wp_ret ?_
    refine ib_r ?_
    refine th_r ?_
    exact ret1 n130.ok rfl (n130.at_) ⟨congrArg (fun n => Ending.returned (Value.int .i64 n)) (Eq.symm (by unfold chkOne; rw [if_pos (show idB x.d.id = false by simpa using c20)])), G16⟩
set_option maxHeartbeats 8000000 in
set_option maxRecDepth 100000 in
theorem rshelf_any (K : List VerI) (va : Option Addr) (vc : Nat) (hid : ∀ x ∈ K, x.d.id.length ≤ 9223372036854775807) (w : World) (hv : RdA encVr 8 w va K) (hm : MeansV w K) :
    Calls Try.prog 6 #[.slice va K.length vc] w fun e w' => e = .returned (.int .i64 (chkShf (K.map VerI.d))) ∧ Gr w w' := by
  refine enter (N := 55) Try.func6 rfl rfl rfl (fun a0 ok0 h0 => ?_)
  have e0_0 : a0.eval (.tmp 0) = .slice va K.length vc := h0 0 _ rfl
  clear h0
  have G0 := Gr.refl w
  refine wp_seq_k (fun K1 hK1 => ?_)
  refine wp_region_lit ?_
  refine sv ok0 rfl (wn _ rfl) rfl (o_as ev_const) (fun an2 n2 => ?_)
  refine wpList_nil ?_
  refine th_n (hK1 _ _ ?_)
  refine wp_seq_k (fun K3 hK3 => ?_)
  refine wp_seq_k (fun K4 hK4 => ?_)
  refine wp_region_lit ?_
  refine sv n2.ok rfl (wn _ rfl) rfl (o_mv (n2.ne rfl e0_0)) (fun an5 n5 => ?_)
  refine sv n5.ok rfl (wn _ rfl) rfl (o_len n5.at_ Try.underlying22) (fun an6 n6 => ?_)
  refine sv n6.ok rfl (wn _ rfl) rfl (o_gtI n6.at_ ev_const) (fun an7 n7 => ?_)
  refine wpList_nil ?_
  refine th_n (hK4 _ _ ?_)
  by_cases c8 : (60 : Int) < ((K.length : Nat) : Int)
  · refine wp_cond_true ((n7.at_).trans (congrArg Value.bool (decide_eq_true c8))) ?_
    refine wp_seq_k (fun K9 hK9 => ?_)
    refine wp_region_lit ?_
    refine sv n7.ok rfl (wn _ rfl) rfl (o_as ev_const) (fun an10 n10 => ?_)
    refine wpList_nil ?_
    refine th_n (hK9 _ _ ?_)
    refine wp_ret ?_
    refine th_r ?_
    exact ret1 n10.ok rfl (n10.at_) ⟨congrArg (fun n => Ending.returned (Value.int .i64 n)) (Eq.symm (by unfold chkShf; rw [if_pos (by rw [List.length_map]; omega)])), G0⟩
  · refine wp_cond_false ((n7.at_).trans (congrArg Value.bool (decide_eq_false c8))) ?_
    refine wp_skip ?_
    refine th_n (hK3 _ _ ?_)
    refine wp_seq_k (fun K11 hK11 => ?_)
    refine wp_seq_k (fun K12 hK12 => ?_)
    refine wp_region_lit ?_
    have e13 := n7.ne rfl (n6.ne rfl (n5.ne rfl (n2.ne rfl e0_0)))
    refine sv n7.ok rfl (wn _ rfl) rfl (o_mv e13) (fun an14 n14 => ?_)
    refine sv n14.ok rfl (wn _ rfl) rfl (o_len n14.at_ Try.underlying22) (fun an15 n15 => ?_)
    refine sv n15.ok rfl (wn _ rfl) rfl (o_mv ev_const) (fun an16 n16 => ?_)
    refine wpList_nil ?_
    refine th_n (hK12 _ _ ?_)
    refine wp_block ?_
    have e18 := n16.ne rfl (n15.ne rfl (n14.ne rfl e13))
    have e19 := n16.ne rfl (n15.ne rfl (n14.ne rfl (n7.ne rfl (n6.ne rfl (n5.ne rfl n2.at_)))))
    refine lp (fun (nL : Nat) (aL : Act) (wL : World) => ∃ i : Nat, nL = K.length - i ∧ Ok 55 aL ∧ Gr w wL ∧ (aL.eval (.tmp 0) = .slice va K.length vc) ∧ (aL.eval (.tmp 2) = .int .i64 0) ∧ (aL.eval (.tmp 13) = .slice va K.length vc) ∧ (aL.eval (.tmp 14) = .int .i64 ((K.length : Nat) : Int)) ∧ (aL.eval (.tmp 15) = .int .i64 (i : Int)) ∧ (i ≤ K.length) ∧ (chkRow none (K.map VerI.d) = chkRow (prevV K i) ((K.map VerI.d).drop i))) _ ⟨0, rfl, n16.ok, G0, e18, e19, (n16.ne rfl (n15.ne rfl n14.at_)), (n16.ne rfl n15.at_), n16.at_, by omega, rfl⟩ ?_
    rintro m20 aI17 w22 ⟨i, hmI17, okI17, GI17, s0I17, s2I17, s13I17, s14I17, s15I17, hiI17, hgI17⟩ KI17 hKI17
    refine wp_seq_k (fun K23 hK23 => ?_)
    refine wp_region_lit ?_
    refine sv okI17 rfl (wn _ rfl) rfl (o_ltI s15I17 s14I17) (fun an24 n24 => ?_)
    refine wpList_nil ?_
    refine th_n (hK23 _ _ ?_)
    refine wp_seq_k (fun K25 hK25 => ?_)
    by_cases c26 : (i : Int) < ((K.length : Nat) : Int)
    · refine wp_cond_true ((n24.at_).trans (congrArg Value.bool (decide_eq_true c26))) ?_
      refine wp_skip ?_
      refine th_n (hK25 _ _ ?_)
      refine wp_seq_k (fun K27 hK27 => ?_)
      refine wp_block ?_
      refine wp_seq_k (fun K28 hK28 => ?_)
      refine wp_region_lit ?_
      refine sv n24.ok rfl (wn _ rfl) rfl (o_mv (n24.ne rfl s15I17)) (fun an29 n29 => ?_)
      have h30l : i < List.length K := by omega
      obtain ⟨bh30, fh30, h30a, h30b, h30c⟩ := hv (ne_nil_of_lt h30l)
      obtain ⟨xh30, h30x⟩ : ∃ x, (K)[i]? = some x := ⟨_, List.getElem?_eq_getElem h30l⟩
      refine sv n29.ok rfl (wn _ rfl) rfl (o_iaV (i := i) (s := 8) h30a (n29.ne rfl (n24.ne rfl s13I17)) (n29.ne rfl (n24.ne rfl s15I17)) Try.underlying22 (by kernel_rfl) h30l) (fun an31 n31 => ?_)
      refine sv n31.ok rfl (wn _ rfl) rfl (o_ldA (k := fh30 + i * 8) n31.at_ (cs := [.string (bs xh30.d.id), .int .i64 (xh30.d.s), .int .i64 (xh30.d.c), .int .i64 (xh30.d.t), .int .i64 (xh30.d.n), .int .i64 (xh30.d.b), .slice xh30.va xh30.d.V.length xh30.vc, .slice xh30.ma xh30.d.M.length xh30.mc]) (fun j v hv => (Below.cell GI17 h30b).trans (h30c _ _ h30x j v hv)) Try.underlying32 rfl (by kernel_rfl)) (fun an32 n32 => ?_)
      refine sal (cs := #[.string (bs []), .int .i64 0, .int .i64 0, .int .i64 0, .int .i64 0, .int .i64 0, .slice none 0 0, .slice none 0 0]) n32.ok rfl (wn _ rfl) rfl (o_al (z := .agg #[.string (bs []), .int .i64 0, .int .i64 0, .int .i64 0, .int .i64 0, .int .i64 0, .slice none 0 0, .slice none 0 0]) (by kernel_rfl)) (fun an33 w35 b34 W36 n33 => ?_)
      have l37 : w.heap.size ≤ b34 := by rw [W36.eq]; exact GI17.size
      have G38 := GI17.trans W36.gr
      have e39 := n33.ne rfl (n32.ne rfl (n31.ne rfl n29.at_))
      refine sv n33.ok rfl (wn _ rfl) rfl (o_as e39) (fun an40 n40 => ?_)
      refine ssR rfl (wn _ rfl) (o_stR (n40.ne rfl n33.at_) (n40.ne rfl (n33.ne rfl n32.at_)) W36.bk (by kernel_rfl) rfl (by simp [Value.oneCell'])) W36.bk (fun w41 u42 u42b => ?_)
      have G43 : Gr w w41 := Below.upd G38 l37 u42
      refine wpList_nil ?_
      refine th_n (hK28 _ _ ?_)
      refine wp_seq_k (fun K44 hK44 => ?_)
      refine wp_seq_k (fun K45 hK45 => ?_)
      refine wp_region_lit ?_
      refine sv n40.ok rfl (wn _ rfl) rfl (o_ldR (n40.ne rfl n33.at_) u42b Try.underlying32 rfl (by kernel_rfl)) (fun an46 n46 => ?_)
      refine sc n46.ok rfl (wn _ rfl) rfl (o_f1 Try.func10 rfl rfl rfl n46.at_) (rone_any xh30 (hid _ (List.mem_of_getElem? h30x)) w41 ((hm _ (List.mem_of_getElem? h30x)).gr G43)) ?_
      rintro _ w48 ⟨rfl, g49⟩
      refine ⟨_, rfl, fun an47 n47 => ?_⟩
      have G50 := G43.trans g49
      have B51 := u42b.gr g49
      refine sv n47.ok rfl (wn _ rfl) rfl (o_as n47.at_) (fun an52 n52 => ?_)
      refine wpList_nil ?_
      refine th_n (hK45 _ _ ?_)
      refine wp_seq_k (fun K53 hK53 => ?_)
      refine wp_region_lit ?_
      refine sv n52.ok rfl (wn _ rfl) rfl (o_mv n52.at_) (fun an54 n54 => ?_)
      refine sv n54.ok rfl (wn _ rfl) rfl (o_neI n54.at_ ev_const) (fun an55 n55 => ?_)
      refine wpList_nil ?_
      refine th_n (hK53 _ _ ?_)
      by_cases c56 : ¬ (chkOne xh30.d) = 0
      · refine wp_cond_true ((n55.at_).trans (congrArg Value.bool (decide_eq_true c56))) ?_
        refine wp_seq_k (fun K57 hK57 => ?_)
        refine wp_region_lit ?_
        refine sv n55.ok rfl (wn _ rfl) rfl (o_mv (n55.ne rfl (n54.ne rfl n52.at_))) (fun an58 n58 => ?_)
        refine sv n58.ok rfl (wn _ rfl) rfl (o_as n58.at_) (fun an59 n59 => ?_)
        refine wpList_nil ?_
        refine th_n (hK57 _ _ ?_)
        refine wp_ret ?_
        refine th_r ?_
        refine ib_r ?_
        refine th_r ?_
        refine th_r ?_
        refine ib_r ?_
        refine th_r ?_
        exact ret1 n59.ok rfl (n59.at_) ⟨congrArg (fun n => Ending.returned (Value.int .i64 n)) (Eq.symm (by unfold chkShf; have e4 : chkRow none (K.map VerI.d) = chkOne xh30.d := (by rw [hgI17, chkRow_at h30x, if_neg c56]); rw [if_neg (by rw [List.length_map]; omega), if_neg (by rw [e4]; exact c56), e4])), G50⟩
      · refine wp_cond_false ((n55.at_).trans (congrArg Value.bool (decide_eq_false c56))) ?_
        refine wp_skip ?_
        refine th_n (hK44 _ _ ?_)
        refine wp_seq_k (fun K60 hK60 => ?_)
        rcases Nat.eq_zero_or_pos i with hi0 | hi0
        · have hi1 := hi0
          refine reg_start (N := 55) (m := 12) (by kernel_rfl) (fun R610 => ?_)
          have e62 := n55.ne rfl (n54.ne rfl (n52.ne rfl (n47.ne rfl (n46.ne rfl n40.at_))))
          have R611 := R610.snoc (n' := 1) rfl (fun vJ _ => vJ = .int .i64 (i : Int)) rfl (fun _ _ _ _ h => h) (fun aS wS pS => by
              exact Does.val (wn _ rfl) (o_mv ((pS.old 3 rfl).trans e62)) (Gr.refl _) rfl rfl)
          have R612 := R611.snoc (n' := 2) rfl (fun vJ _ => vJ = .bool false) rfl (fun _ _ _ _ h => h) (fun aS wS pS => by
              have eR61_0 : aS.eval (.tmp 25) = .int .i64 (i : Int) := pS.pre 0 rfl
              exact Does.val (wn _ rfl) (o_gtr (eR61_0) ev_const (decide_eq_false (show ¬ (i : Int) > 0 by omega))) (Gr.refl _) rfl rfl)
          have R613 := R612.snoc (n' := 3) rfl (fun vJ _ => vJ = .bool false) rfl (fun _ _ _ _ h => h) (fun aS wS pS => by
              have eR61_1 : aS.eval (.tmp 26) = .bool false := pS.pre 1 rfl
              exact Does.val (wn _ rfl) (o_mv (eR61_1)) (Gr.refl _) rfl rfl)
          have R614 := R613.snoc (n' := 4) rfl (fun vJ _ => vJ = undef) rfl (fun _ _ _ _ h => h) (fun aS wS pS => by
              have eR61_2 : aS.eval (.tmp 27) = .bool false := pS.pre 2 rfl
              exact Does.not (wgF rfl (yl 2 false rfl eR61_2) rfl) rfl rfl)
          have R615 := R614.snoc (n' := 5) rfl (fun vJ _ => vJ = undef) rfl (fun _ _ _ _ h => h) (fun aS wS pS => by
              have eR61_2 : aS.eval (.tmp 27) = .bool false := pS.pre 2 rfl
              exact Does.not (wgF rfl (yl 2 false rfl eR61_2) rfl) rfl rfl)
          have R616 := R615.snoc (n' := 6) rfl (fun vJ _ => vJ = undef) rfl (fun _ _ _ _ h => h) (fun aS wS pS => by
              have eR61_2 : aS.eval (.tmp 27) = .bool false := pS.pre 2 rfl
              exact Does.not (wgF rfl (yl 2 false rfl eR61_2) rfl) rfl rfl)
          have R617 := R616.snoc (n' := 7) rfl (fun vJ _ => vJ = undef) rfl (fun _ _ _ _ h => h) (fun aS wS pS => by
              have eR61_2 : aS.eval (.tmp 27) = .bool false := pS.pre 2 rfl
              exact Does.not (wgF rfl (yl 2 false rfl eR61_2) rfl) rfl rfl)
          have R618 := R617.snoc (n' := 8) rfl (fun vJ _ => vJ = undef) rfl (fun _ _ _ _ h => h) (fun aS wS pS => by
              have eR61_2 : aS.eval (.tmp 27) = .bool false := pS.pre 2 rfl
              exact Does.not (wgF rfl (yl 2 false rfl eR61_2) rfl) rfl rfl)
          have R619 := R618.snoc (n' := 9) rfl (fun vJ _ => vJ = undef) rfl (fun _ _ _ _ h => h) (fun aS wS pS => by
              have eR61_2 : aS.eval (.tmp 27) = .bool false := pS.pre 2 rfl
              exact Does.not (wgF rfl (yl 2 false rfl eR61_2) rfl) rfl rfl)
          have R6110 := R619.snoc (n' := 10) rfl (fun vJ _ => vJ = undef) rfl (fun _ _ _ _ h => h) (fun aS wS pS => by
              have eR61_2 : aS.eval (.tmp 27) = .bool false := pS.pre 2 rfl
              exact Does.not (wgF rfl (yl 2 false rfl eR61_2) rfl) rfl rfl)
          have R6111 := R6110.snoc (n' := 11) rfl (fun vJ _ => vJ = undef) rfl (fun _ _ _ _ h => h) (fun aS wS pS => by
              have eR61_2 : aS.eval (.tmp 27) = .bool false := pS.pre 2 rfl
              exact Does.not (wgF rfl (yl 2 false rfl eR61_2) rfl) rfl rfl)
          have R6112 := R6111.snoc (n' := 12) rfl (fun vJ _ => vJ = .bool false) rfl (fun _ _ _ _ h => h) (fun aS wS pS => by
              have eR61_2 : aS.eval (.tmp 27) = .bool false := pS.pre 2 rfl
              exact Does.val (wn _ rfl) (o_pkF (eR61_2) ev_const) (Gr.refl _) rfl rfl)
          refine R6112.run (k := 0) (L := #[true, true, true, true, true, true, true, true, true, true, true, true]) (by kernel_rfl) (by kernel_rfl) (by kernel_rfl) n55.ok (by kernel_rfl) (by kernel_rfl) (fun ap64 w65 p64 => ?_)
          have g66 := gr_drew p64.gr
          have G67 := G50.trans g66
          have B68 := B51.gr g66
          refine wpAny_done (by kernel_rfl) ?_ _
          refine th_n (hK60 _ _ ?_)
          have ep64_11 : ap64.eval (.tmp 36) = .bool false := p64.js 11 rfl
          refine wp_cond_false (ep64_11) ?_
          refine wp_skip ?_
          refine ib_n ?_
          refine th_n (hK27 _ _ ?_)
          refine wp_region_lit ?_
          have e69 := (p64.old 15 rfl).trans (n55.ne rfl (n54.ne rfl (n52.ne rfl (n47.ne rfl (n46.ne rfl (n40.ne rfl (n33.ne rfl (n32.ne rfl (n31.ne rfl (n29.ne rfl (n24.ne rfl s15I17)))))))))))
          refine sv p64.ok rfl (wn _ rfl) rfl (o_add (r := ((i + 1 : Nat) : Int)) e69 ev_const (by omega) (by omega)) (fun an70 n70 => ?_)
          refine sv n70.ok rfl (wn _ rfl) rfl (o_mv n70.at_) (fun an71 n71 => ?_)
          refine wpList_nil ?_
          have e72 := n71.ne rfl (n70.ne rfl ((p64.old 0 rfl).trans (n55.ne rfl (n54.ne rfl (n52.ne rfl (n47.ne rfl (n46.ne rfl (n40.ne rfl (n33.ne rfl (n32.ne rfl (n31.ne rfl (n29.ne rfl (n24.ne rfl s0I17)))))))))))))
          have e73 := n71.ne rfl (n70.ne rfl ((p64.old 2 rfl).trans (n55.ne rfl (n54.ne rfl (n52.ne rfl (n47.ne rfl (n46.ne rfl (n40.ne rfl (n33.ne rfl (n32.ne rfl (n31.ne rfl (n29.ne rfl (n24.ne rfl s2I17)))))))))))))
          have e74 := n71.ne rfl (n70.ne rfl ((p64.old 13 rfl).trans (n55.ne rfl (n54.ne rfl (n52.ne rfl (n47.ne rfl (n46.ne rfl (n40.ne rfl (n33.ne rfl (n32.ne rfl (n31.ne rfl (n29.ne rfl (n24.ne rfl s13I17)))))))))))))
          have e75 := n71.ne rfl (n70.ne rfl ((p64.old 14 rfl).trans (n55.ne rfl (n54.ne rfl (n52.ne rfl (n47.ne rfl (n46.ne rfl (n40.ne rfl (n33.ne rfl (n32.ne rfl (n31.ne rfl (n29.ne rfl (n24.ne rfl s14I17)))))))))))))
          exact th_n (hKI17 _ _ _ (by omega) ⟨i + 1, rfl, n71.ok, G67, e72, e73, e74, e75, n71.at_, by omega, by rw [hgI17, chkRow_at h30x, if_pos (Decidable.of_not_not c56), if_neg (by rw [show prevV K i = none from by unfold prevV; rw [if_pos (by omega)]]; simp), prevV_succ h30x]⟩)
        · have hi1 := hi0
          obtain ⟨p1, hp1⟩ : ∃ p1, p1 = i - 1 := ⟨_, rfl⟩
          refine reg_start (N := 55) (m := 12) (by kernel_rfl) (fun R760 => ?_)
          have e77 := n55.ne rfl (n54.ne rfl (n52.ne rfl (n47.ne rfl (n46.ne rfl n40.at_))))
          have R761 := R760.snoc (n' := 1) rfl (fun vJ _ => vJ = .int .i64 (i : Int)) rfl (fun _ _ _ _ h => h) (fun aS wS pS => by
              exact Does.val (wn _ rfl) (o_mv ((pS.old 3 rfl).trans e77)) (Gr.refl _) rfl rfl)
          have R762 := R761.snoc (n' := 2) rfl (fun vJ _ => vJ = .bool true) rfl (fun _ _ _ _ h => h) (fun aS wS pS => by
              have eR76_0 : aS.eval (.tmp 25) = .int .i64 (i : Int) := pS.pre 0 rfl
              exact Does.val (wn _ rfl) (o_gtr (eR76_0) ev_const (decide_eq_true (show (i : Int) > 0 by omega))) (Gr.refl _) rfl rfl)
          have R763 := R762.snoc (n' := 3) rfl (fun vJ _ => vJ = .bool true) rfl (fun _ _ _ _ h => h) (fun aS wS pS => by
              have eR76_1 : aS.eval (.tmp 26) = .bool true := pS.pre 1 rfl
              exact Does.val (wn _ rfl) (o_mv (eR76_1)) (Gr.refl _) rfl rfl)
          have e78 := n55.ne rfl (n54.ne rfl (n52.ne rfl (n47.ne rfl (n46.ne rfl (n40.ne rfl (n33.ne rfl (n32.ne rfl (n31.ne rfl (n29.ne rfl (n24.ne rfl s0I17))))))))))
          have R764 := R763.snoc (n' := 4) rfl (fun vJ _ => vJ = .slice va K.length vc) rfl (fun _ _ _ _ h => h) (fun aS wS pS => by
              have eR76_2 : aS.eval (.tmp 27) = .bool true := pS.pre 2 rfl
              exact Does.val (wgT rfl (yl 2 true rfl eR76_2) rfl) (o_mv ((pS.old 0 rfl).trans e78)) (Gr.refl _) rfl rfl)
          have R765 := R764.snoc (n' := 5) rfl (fun vJ _ => vJ = .int .i64 (i : Int)) rfl (fun _ _ _ _ h => h) (fun aS wS pS => by
              have eR76_2 : aS.eval (.tmp 27) = .bool true := pS.pre 2 rfl
              exact Does.val (wgT rfl (yl 2 true rfl eR76_2) rfl) (o_mv ((pS.old 3 rfl).trans e77)) (Gr.refl _) rfl rfl)
          have R766 := R765.snoc (n' := 6) rfl (fun vJ _ => vJ = .int .i64 (p1 : Int)) rfl (fun _ _ _ _ h => h) (fun aS wS pS => by
              have eR76_2 : aS.eval (.tmp 27) = .bool true := pS.pre 2 rfl
              have eR76_4 : aS.eval (.tmp 29) = .int .i64 (i : Int) := pS.pre 4 rfl
              exact Does.val (wgT rfl (yl 2 true rfl eR76_2) rfl) (o_sub (r := ((p1 : Nat) : Int)) (eR76_4) ev_const (by omega) (by omega)) (Gr.refl _) rfl rfl)
          have h79l : p1 < List.length K := by omega
          obtain ⟨bh79, fh79, h79a, h79b, h79c⟩ := hv (ne_nil_of_lt h79l)
          obtain ⟨xh79, h79x⟩ : ∃ x, (K)[p1]? = some x := ⟨_, List.getElem?_eq_getElem h79l⟩
          have R767 := R766.snoc (n' := 7) rfl (fun vJ _ => vJ = .pointer (some ⟨bh79, fh79 + p1 * 8, none⟩)) rfl (fun _ _ _ _ h => h) (fun aS wS pS => by
              have eR76_2 : aS.eval (.tmp 27) = .bool true := pS.pre 2 rfl
              have eR76_3 : aS.eval (.tmp 28) = .slice va K.length vc := pS.pre 3 rfl
              have eR76_5 : aS.eval (.tmp 30) = .int .i64 (p1 : Int) := pS.pre 5 rfl
              exact Does.val (wgT rfl (yl 2 true rfl eR76_2) rfl) (o_iaV (i := p1) (s := 8) h79a (eR76_3) (eR76_5) Try.underlying22 (by kernel_rfl) h79l) (Gr.refl _) rfl rfl)
          have R768 := R767.snoc (n' := 8) rfl (fun vJ _ => vJ = .agg #[.string (bs xh79.d.id), .int .i64 (xh79.d.s), .int .i64 (xh79.d.c), .int .i64 (xh79.d.t), .int .i64 (xh79.d.n), .int .i64 (xh79.d.b), .slice xh79.va xh79.d.V.length xh79.vc, .slice xh79.ma xh79.d.M.length xh79.mc]) rfl (fun _ _ _ _ h => h) (fun aS wS pS => by
              have eR76_2 : aS.eval (.tmp 27) = .bool true := pS.pre 2 rfl
              have eR76_6 : aS.eval (.tmp 31) = .pointer (some ⟨bh79, fh79 + p1 * 8, none⟩) := pS.pre 6 rfl
              exact Does.val (wgT rfl (yl 2 true rfl eR76_2) rfl) (o_ldA (k := fh79 + p1 * 8) (eR76_6) (cs := [.string (bs xh79.d.id), .int .i64 (xh79.d.s), .int .i64 (xh79.d.c), .int .i64 (xh79.d.t), .int .i64 (xh79.d.n), .int .i64 (xh79.d.b), .slice xh79.va xh79.d.V.length xh79.vc, .slice xh79.ma xh79.d.M.length xh79.mc]) (fun j v hv => (Below.cell (G50.trans (gr_drew pS.gr)) h79b).trans (h79c _ _ h79x j v hv)) Try.underlying32 rfl (by kernel_rfl)) (Gr.refl _) rfl rfl)
          have e80 := n55.ne rfl (n54.ne rfl (n52.ne rfl (n47.ne rfl (n46.ne rfl (n40.ne rfl n33.at_)))))
          have R769 := R768.snoc (n' := 9) rfl (fun vJ _ => vJ = .agg #[.string (bs xh30.d.id), .int .i64 (xh30.d.s), .int .i64 (xh30.d.c), .int .i64 (xh30.d.t), .int .i64 (xh30.d.n), .int .i64 (xh30.d.b), .slice xh30.va xh30.d.V.length xh30.vc, .slice xh30.ma xh30.d.M.length xh30.mc]) rfl (fun _ _ _ _ h => h) (fun aS wS pS => by
              have eR76_2 : aS.eval (.tmp 27) = .bool true := pS.pre 2 rfl
              exact Does.val (wgT rfl (yl 2 true rfl eR76_2) rfl) (o_ldR ((pS.old 4 rfl).trans e80) (Bk.gr B51 (gr_drew pS.gr)) Try.underlying32 rfl (by kernel_rfl)) (Gr.refl _) rfl rfl)
          have R7610 := R769.snoc (n' := 10) rfl (fun vJ _ => vJ = .bool (decide (cmpV xh79.d xh30.d < 0))) rfl (fun _ _ _ _ h => h) (fun aS wS pS => by
              have eR76_2 : aS.eval (.tmp 27) = .bool true := pS.pre 2 rfl
              have eR76_7 : aS.eval (.tmp 32) = .agg #[.string (bs xh79.d.id), .int .i64 (xh79.d.s), .int .i64 (xh79.d.c), .int .i64 (xh79.d.t), .int .i64 (xh79.d.n), .int .i64 (xh79.d.b), .slice xh79.va xh79.d.V.length xh79.vc, .slice xh79.ma xh79.d.M.length xh79.mc] := pS.pre 7 rfl
              have eR76_8 : aS.eval (.tmp 33) = .agg #[.string (bs xh30.d.id), .int .i64 (xh30.d.s), .int .i64 (xh30.d.c), .int .i64 (xh30.d.t), .int .i64 (xh30.d.n), .int .i64 (xh30.d.b), .slice xh30.va xh30.d.V.length xh30.vc, .slice xh30.ma xh30.d.M.length xh30.mc] := pS.pre 8 rfl
              exact Does.call (wgT rfl (yl 2 true rfl eR76_2) rfl) (o_f2 Try.func20 rfl rfl rfl (eR76_7) (eR76_8)) ((by have h := ahead_any xh79 xh30 wS; rw [ahead_iff] at h; exact h)) (by rintro _ w2 ⟨rfl, g⟩; exact ⟨_, rfl, g, rfl⟩) rfl)
          have R7611 := R7610.snoc (n' := 11) rfl (fun vJ _ => vJ = .bool (decide (¬ (cmpV xh79.d xh30.d < 0)))) rfl (fun _ _ _ _ h => h) (fun aS wS pS => by
              have eR76_2 : aS.eval (.tmp 27) = .bool true := pS.pre 2 rfl
              have eR76_9 : aS.eval (.tmp 34) = .bool (decide (cmpV xh79.d xh30.d < 0)) := pS.pre 9 rfl
              exact Does.val (wgT rfl (yl 2 true rfl eR76_2) rfl) (o_notD (eR76_9)) (Gr.refl _) rfl rfl)
          have R7612 := R7611.snoc (n' := 12) rfl (fun vJ _ => vJ = .bool (decide (¬ (cmpV xh79.d xh30.d < 0)))) rfl (fun _ _ _ _ h => h) (fun aS wS pS => by
              have eR76_2 : aS.eval (.tmp 27) = .bool true := pS.pre 2 rfl
              have eR76_10 : aS.eval (.tmp 35) = .bool (decide (¬ (cmpV xh79.d xh30.d < 0))) := pS.pre 10 rfl
              exact Does.val (wn _ rfl) (o_pkT (eR76_2) (eR76_10)) (Gr.refl _) rfl rfl)
          refine R7612.run (k := 0) (L := #[true, true, true, true, true, true, true, true, true, true, true, true]) (by kernel_rfl) (by kernel_rfl) (by kernel_rfl) n55.ok (by kernel_rfl) (by kernel_rfl) (fun ap82 w83 p82 => ?_)
          have g84 := gr_drew p82.gr
          have G85 := G50.trans g84
          have B86 := B51.gr g84
          refine wpAny_done (by kernel_rfl) ?_ _
          refine th_n (hK60 _ _ ?_)
          have ep82_11 : ap82.eval (.tmp 36) = .bool (decide (¬ (cmpV xh79.d xh30.d < 0))) := p82.js 11 rfl
          by_cases c87 : ¬ (cmpV xh79.d xh30.d < 0)
          · refine wp_cond_true ((ep82_11).trans (congrArg Value.bool (decide_eq_true c87))) ?_
            refine wp_seq_k (fun K88 hK88 => ?_)
            refine wp_region_lit ?_
            refine sv p82.ok rfl (wn _ rfl) rfl (o_as ev_const) (fun an89 n89 => ?_)
            refine wpList_nil ?_
            refine th_n (hK88 _ _ ?_)
            refine wp_ret ?_
            refine ib_r ?_
            refine th_r ?_
            refine th_r ?_
            refine ib_r ?_
            refine th_r ?_
            exact ret1 n89.ok rfl (n89.at_) ⟨congrArg (fun n => Ending.returned (Value.int .i64 n)) (Eq.symm (by unfold chkShf; have e3 : chkRow none (K.map VerI.d) = 3 := (by rw [hgI17, chkRow_at h30x, if_pos (Decidable.of_not_not c56), if_pos (by rw [show prevV K i = some xh79.d from by unfold prevV; rw [if_neg (by omega), ← hp1, h79x]; rfl]; simp only [Option.any_some, decide_eq_true_eq]; have h := c87; omega)]); rw [if_neg (by rw [List.length_map]; omega), if_neg (by rw [e3]; decide), e3])), G85⟩
          · refine wp_cond_false ((ep82_11).trans (congrArg Value.bool (decide_eq_false c87))) ?_
            refine wp_skip ?_
            refine ib_n ?_
            refine th_n (hK27 _ _ ?_)
            refine wp_region_lit ?_
            have e90 := (p82.old 15 rfl).trans (n55.ne rfl (n54.ne rfl (n52.ne rfl (n47.ne rfl (n46.ne rfl (n40.ne rfl (n33.ne rfl (n32.ne rfl (n31.ne rfl (n29.ne rfl (n24.ne rfl s15I17)))))))))))
            refine sv p82.ok rfl (wn _ rfl) rfl (o_add (r := ((i + 1 : Nat) : Int)) e90 ev_const (by omega) (by omega)) (fun an91 n91 => ?_)
            refine sv n91.ok rfl (wn _ rfl) rfl (o_mv n91.at_) (fun an92 n92 => ?_)
            refine wpList_nil ?_
            have e93 := n92.ne rfl (n91.ne rfl ((p82.old 0 rfl).trans e78))
            have e94 := n92.ne rfl (n91.ne rfl ((p82.old 2 rfl).trans (n55.ne rfl (n54.ne rfl (n52.ne rfl (n47.ne rfl (n46.ne rfl (n40.ne rfl (n33.ne rfl (n32.ne rfl (n31.ne rfl (n29.ne rfl (n24.ne rfl s2I17)))))))))))))
            have e95 := n92.ne rfl (n91.ne rfl ((p82.old 13 rfl).trans (n55.ne rfl (n54.ne rfl (n52.ne rfl (n47.ne rfl (n46.ne rfl (n40.ne rfl (n33.ne rfl (n32.ne rfl (n31.ne rfl (n29.ne rfl (n24.ne rfl s13I17)))))))))))))
            have e96 := n92.ne rfl (n91.ne rfl ((p82.old 14 rfl).trans (n55.ne rfl (n54.ne rfl (n52.ne rfl (n47.ne rfl (n46.ne rfl (n40.ne rfl (n33.ne rfl (n32.ne rfl (n31.ne rfl (n29.ne rfl (n24.ne rfl s14I17)))))))))))))
            exact th_n (hKI17 _ _ _ (by omega) ⟨i + 1, rfl, n92.ok, G85, e93, e94, e95, e96, n92.at_, by omega, by rw [hgI17, chkRow_at h30x, if_pos (Decidable.of_not_not c56), if_neg (by rw [show prevV K i = some xh79.d from by unfold prevV; rw [if_neg (by omega), ← hp1, h79x]; rfl]; simp only [Option.any_some, decide_eq_true_eq]; have h := c87; simp only [Decidable.not_not] at h; omega), prevV_succ h30x]⟩)
    · refine wp_cond_false ((n24.at_).trans (congrArg Value.bool (decide_eq_false c26))) ?_
      refine wp_exit ?_
      refine th_x ?_
      refine th_x ?_
      refine ib_x ?_
      refine th_n (hK11 _ _ ?_)
      refine wp_seq_k (fun K97 hK97 => ?_)
      refine wp_seq_k (fun K98 hK98 => ?_)
      refine wp_region_lit ?_
      refine sv n24.ok rfl (wn _ rfl) rfl (o_mv (n24.ne rfl s0I17)) (fun an99 n99 => ?_)
      refine sv n99.ok rfl (wn _ rfl) rfl (o_len n99.at_ Try.underlying22) (fun an100 n100 => ?_)
      refine sv n100.ok rfl (wn _ rfl) rfl (o_mv ev_const) (fun an101 n101 => ?_)
      refine wpList_nil ?_
      refine th_n (hK98 _ _ ?_)
      refine wp_block ?_
      have hz : chkRow none (K.map VerI.d) = 0 := by rw [hgI17, List.drop_eq_nil_of_le (by simp; omega)]; cases prevV K i <;> rfl
      have hok := chkRow_all hz
      have e103 := n101.ne rfl (n100.ne rfl (n99.ne rfl (n24.ne rfl s0I17)))
      have e104 := n101.ne rfl (n100.ne rfl (n99.ne rfl (n24.ne rfl s2I17)))
      refine lp (fun (nL : Nat) (aL : Act) (wL : World) => ∃ k : Nat, nL = K.length - k ∧ Ok 55 aL ∧ Gr w wL ∧ (aL.eval (.tmp 0) = .slice va K.length vc) ∧ (aL.eval (.tmp 2) = .int .i64 0) ∧ (aL.eval (.tmp 38) = .slice va K.length vc) ∧ (aL.eval (.tmp 39) = .int .i64 ((K.length : Nat) : Int)) ∧ (aL.eval (.tmp 40) = .int .i64 (k : Int)) ∧ (k ≤ K.length) ∧ (∀ j y, j < k → K[j]? = some y → (K.any fun z => ovB z.d y.d) = false)) _ ⟨0, rfl, n101.ok, GI17, e103, e104, (n101.ne rfl (n100.ne rfl n99.at_)), (n101.ne rfl n100.at_), n101.at_, by omega, fun j y hj => by omega⟩ ?_
      rintro m105 aI102 w107 ⟨k, hmI102, okI102, GI102, s0I102, s2I102, s38I102, s39I102, s40I102, hkI102, hnI102⟩ KI102 hKI102
      refine wp_seq_k (fun K108 hK108 => ?_)
      refine wp_region_lit ?_
      refine sv okI102 rfl (wn _ rfl) rfl (o_ltI s40I102 s39I102) (fun an109 n109 => ?_)
      refine wpList_nil ?_
      refine th_n (hK108 _ _ ?_)
      refine wp_seq_k (fun K110 hK110 => ?_)
      by_cases c111 : (k : Int) < ((K.length : Nat) : Int)
      · refine wp_cond_true ((n109.at_).trans (congrArg Value.bool (decide_eq_true c111))) ?_
        refine wp_skip ?_
        refine th_n (hK110 _ _ ?_)
        refine wp_seq_k (fun K112 hK112 => ?_)
        refine wp_block ?_
        refine wp_seq_k (fun K113 hK113 => ?_)
        refine wp_region_lit ?_
        have h114l : k < List.length K := by omega
        obtain ⟨bh114, fh114, h114a, h114b, h114c⟩ := hv (ne_nil_of_lt h114l)
        obtain ⟨xh114, h114x⟩ : ∃ x, (K)[k]? = some x := ⟨_, List.getElem?_eq_getElem h114l⟩
        refine sv n109.ok rfl (wn _ rfl) rfl (o_iaV (i := k) (s := 8) h114a (n109.ne rfl s38I102) (n109.ne rfl s40I102) Try.underlying22 (by kernel_rfl) h114l) (fun an115 n115 => ?_)
        refine sv n115.ok rfl (wn _ rfl) rfl (o_ldA (k := fh114 + k * 8) n115.at_ (cs := [.string (bs xh114.d.id), .int .i64 (xh114.d.s), .int .i64 (xh114.d.c), .int .i64 (xh114.d.t), .int .i64 (xh114.d.n), .int .i64 (xh114.d.b), .slice xh114.va xh114.d.V.length xh114.vc, .slice xh114.ma xh114.d.M.length xh114.mc]) (fun j v hv => (Below.cell GI102 h114b).trans (h114c _ _ h114x j v hv)) Try.underlying32 rfl (by kernel_rfl)) (fun an116 n116 => ?_)
        refine sal (cs := #[.string (bs []), .int .i64 0, .int .i64 0, .int .i64 0, .int .i64 0, .int .i64 0, .slice none 0 0, .slice none 0 0]) n116.ok rfl (wn _ rfl) rfl (o_al (z := .agg #[.string (bs []), .int .i64 0, .int .i64 0, .int .i64 0, .int .i64 0, .int .i64 0, .slice none 0 0, .slice none 0 0]) (by kernel_rfl)) (fun an117 w119 b118 W120 n117 => ?_)
        have l121 : w.heap.size ≤ b118 := by rw [W120.eq]; exact GI102.size
        have G122 := GI102.trans W120.gr
        refine ssR rfl (wn _ rfl) (o_stR n117.at_ (n117.ne rfl n116.at_) W120.bk (by kernel_rfl) rfl (by simp [Value.oneCell'])) W120.bk (fun w123 u124 u124b => ?_)
        have G125 : Gr w w123 := Below.upd G122 l121 u124
        refine wpList_nil ?_
        refine th_n (hK113 _ _ ?_)
        refine wp_seq_k (fun K126 hK126 => ?_)
        refine wp_region_lit ?_
        have e127 := n117.ne rfl (n116.ne rfl (n115.ne rfl (n109.ne rfl s0I102)))
        refine sv n117.ok rfl (wn _ rfl) rfl (o_mv e127) (fun an128 n128 => ?_)
        refine sv n128.ok rfl (wn _ rfl) rfl (o_len n128.at_ Try.underlying22) (fun an129 n129 => ?_)
        refine sv n129.ok rfl (wn _ rfl) rfl (o_mv ev_const) (fun an130 n130 => ?_)
        refine wpList_nil ?_
        refine th_n (hK126 _ _ ?_)
        refine wp_block ?_
        have e132 := n130.ne rfl (n129.ne rfl (n128.ne rfl e127))
        have e133 := n130.ne rfl (n129.ne rfl (n128.ne rfl (n117.ne rfl (n116.ne rfl (n115.ne rfl (n109.ne rfl s2I102))))))
        have e134 := n130.ne rfl (n129.ne rfl (n128.ne rfl n117.at_))
        have e135 := n130.ne rfl (n129.ne rfl (n128.ne rfl (n117.ne rfl (n116.ne rfl (n115.ne rfl (n109.ne rfl s38I102))))))
        have e136 := n130.ne rfl (n129.ne rfl (n128.ne rfl (n117.ne rfl (n116.ne rfl (n115.ne rfl (n109.ne rfl s39I102))))))
        have e137 := n130.ne rfl (n129.ne rfl (n128.ne rfl (n117.ne rfl (n116.ne rfl (n115.ne rfl (n109.ne rfl s40I102))))))
        refine lp (fun (nL : Nat) (aL : Act) (wL : World) => ∃ m : Nat, nL = K.length - m ∧ Ok 55 aL ∧ Gr w wL ∧ (aL.eval (.tmp 0) = .slice va K.length vc) ∧ (aL.eval (.tmp 2) = .int .i64 0) ∧ (aL.eval (.tmp 7) = .pointer (some ⟨b118, 0, none⟩)) ∧ (aL.eval (.tmp 38) = .slice va K.length vc) ∧ (aL.eval (.tmp 39) = .int .i64 ((K.length : Nat) : Int)) ∧ (aL.eval (.tmp 40) = .int .i64 (k : Int)) ∧ (aL.eval (.tmp 44) = .slice va K.length vc) ∧ (aL.eval (.tmp 45) = .int .i64 ((K.length : Nat) : Int)) ∧ (aL.eval (.tmp 46) = .int .i64 (m : Int)) ∧ (Bk wL b118 #[.string (bs xh114.d.id), .int .i64 (xh114.d.s), .int .i64 (xh114.d.c), .int .i64 (xh114.d.t), .int .i64 (xh114.d.n), .int .i64 (xh114.d.b), .slice xh114.va xh114.d.V.length xh114.vc, .slice xh114.ma xh114.d.M.length xh114.mc] 32) ∧ (m ≤ K.length) ∧ (∀ t z, t < m → K[t]? = some z → ovB z.d xh114.d = false)) _ ⟨0, rfl, n130.ok, G125, e132, e133, e134, e135, e136, e137, (n130.ne rfl (n129.ne rfl n128.at_)), (n130.ne rfl n129.at_), n130.at_, u124b, by omega, fun t z ht => by omega⟩ ?_
        rintro m138 aI131 w140 ⟨m, hmI131, okI131, GI131, s0I131, s2I131, s7I131, s38I131, s39I131, s40I131, s44I131, s45I131, s46I131, kb118I131, hm2I131, hqI131⟩ KI131 hKI131
        refine wp_seq_k (fun K141 hK141 => ?_)
        refine wp_region_lit ?_
        refine sv okI131 rfl (wn _ rfl) rfl (o_ltI s46I131 s45I131) (fun an142 n142 => ?_)
        refine wpList_nil ?_
        refine th_n (hK141 _ _ ?_)
        refine wp_seq_k (fun K143 hK143 => ?_)
        by_cases c144 : (m : Int) < ((K.length : Nat) : Int)
        · refine wp_cond_true ((n142.at_).trans (congrArg Value.bool (decide_eq_true c144))) ?_
          refine wp_skip ?_
          refine th_n (hK143 _ _ ?_)
          refine wp_seq_k (fun K145 hK145 => ?_)
          refine wp_block ?_
          refine wp_seq_k (fun K146 hK146 => ?_)
          refine wp_region_lit ?_
          have h147l : m < List.length K := by omega
          obtain ⟨bh147, fh147, h147a, h147b, h147c⟩ := hv (ne_nil_of_lt h147l)
          obtain ⟨xh147, h147x⟩ : ∃ x, (K)[m]? = some x := ⟨_, List.getElem?_eq_getElem h147l⟩
          refine sv n142.ok rfl (wn _ rfl) rfl (o_iaV (i := m) (s := 8) h147a (n142.ne rfl s44I131) (n142.ne rfl s46I131) Try.underlying22 (by kernel_rfl) h147l) (fun an148 n148 => ?_)
          refine sv n148.ok rfl (wn _ rfl) rfl (o_ldA (k := fh147 + m * 8) n148.at_ (cs := [.string (bs xh147.d.id), .int .i64 (xh147.d.s), .int .i64 (xh147.d.c), .int .i64 (xh147.d.t), .int .i64 (xh147.d.n), .int .i64 (xh147.d.b), .slice xh147.va xh147.d.V.length xh147.vc, .slice xh147.ma xh147.d.M.length xh147.mc]) (fun j v hv => (Below.cell GI131 h147b).trans (h147c _ _ h147x j v hv)) Try.underlying32 rfl (by kernel_rfl)) (fun an149 n149 => ?_)
          refine sal (cs := #[.string (bs []), .int .i64 0, .int .i64 0, .int .i64 0, .int .i64 0, .int .i64 0, .slice none 0 0, .slice none 0 0]) n149.ok rfl (wn _ rfl) rfl (o_al (z := .agg #[.string (bs []), .int .i64 0, .int .i64 0, .int .i64 0, .int .i64 0, .int .i64 0, .slice none 0 0, .slice none 0 0]) (by kernel_rfl)) (fun an150 w152 b151 W153 n150 => ?_)
          have l154 : b118 < b151 := by rw [W153.eq]; exact kb118I131.lt
          have l155 : w.heap.size ≤ b151 := by rw [W153.eq]; exact GI131.size
          have G156 := GI131.trans W153.gr
          have B157 := kb118I131.gr W153.gr
          refine ssR rfl (wn _ rfl) (o_stR n150.at_ (n150.ne rfl n149.at_) W153.bk (by kernel_rfl) rfl (by simp [Value.oneCell'])) W153.bk (fun w158 u159 u159b => ?_)
          have G160 : Gr w w158 := Below.upd G156 l155 u159
          have B161 := B157.upd u159 (Nat.ne_of_lt l154)
          refine wpList_nil ?_
          refine th_n (hK146 _ _ ?_)
          refine wp_seq_k (fun K162 hK162 => ?_)
          refine wp_region_lit ?_
          refine sv n150.ok rfl (wn _ rfl) rfl (o_ldR n150.at_ u159b Try.underlying32 rfl (by kernel_rfl)) (fun an163 n163 => ?_)
          have e164 := n163.ne rfl (n150.ne rfl (n149.ne rfl (n148.ne rfl (n142.ne rfl s7I131))))
          refine sv n163.ok rfl (wn _ rfl) rfl (o_ldR e164 B161 Try.underlying32 rfl (by kernel_rfl)) (fun an165 n165 => ?_)
          refine sc n165.ok rfl (wn _ rfl) rfl (o_f2 Try.func21 rfl rfl rfl (n165.ne rfl n163.at_) n165.at_) (rover_any xh147 xh114 (chkOne_zero (hok _ (List.mem_of_getElem? h147x))).2.2.1 (one_rng (chkOne_zero (hok _ (List.mem_of_getElem? h114x))).2.1).1 (one_rng (chkOne_zero (hok _ (List.mem_of_getElem? h114x))).2.1).2.1 (one_rng (chkOne_zero (hok _ (List.mem_of_getElem? h114x))).2.1).2.2.1 (one_rng (chkOne_zero (hok _ (List.mem_of_getElem? h114x))).2.1).2.2.2 w158 ((hm _ (List.mem_of_getElem? h147x)).gr G160)) ?_
          rintro _ w167 ⟨rfl, g168⟩
          refine ⟨_, rfl, fun an166 n166 => ?_⟩
          have G169 := G160.trans g168
          have B170 := B161.gr g168
          have B171 := u159b.gr g168
          refine wpList_nil ?_
          refine th_n (hK162 _ _ ?_)
          cases c172 : (ovB xh147.d xh114.d)
          · refine wp_cond_false ((n166.at_).trans (congrArg Value.bool (c172))) ?_
            refine wp_skip ?_
            refine ib_n ?_
            refine th_n (hK145 _ _ ?_)
            refine wp_region_lit ?_
            have e173 := n166.ne rfl (n165.ne rfl (n163.ne rfl (n150.ne rfl (n149.ne rfl (n148.ne rfl (n142.ne rfl s46I131))))))
            refine sv n166.ok rfl (wn _ rfl) rfl (o_add (r := ((m + 1 : Nat) : Int)) e173 ev_const (by omega) (by omega)) (fun an174 n174 => ?_)
            refine sv n174.ok rfl (wn _ rfl) rfl (o_mv n174.at_) (fun an175 n175 => ?_)
            refine wpList_nil ?_
            have e176 := n175.ne rfl (n174.ne rfl (n166.ne rfl (n165.ne rfl (n163.ne rfl (n150.ne rfl (n149.ne rfl (n148.ne rfl (n142.ne rfl s0I131))))))))
            have e177 := n175.ne rfl (n174.ne rfl (n166.ne rfl (n165.ne rfl (n163.ne rfl (n150.ne rfl (n149.ne rfl (n148.ne rfl (n142.ne rfl s2I131))))))))
            have e178 := n175.ne rfl (n174.ne rfl (n166.ne rfl (n165.ne rfl e164)))
            have e179 := n175.ne rfl (n174.ne rfl (n166.ne rfl (n165.ne rfl (n163.ne rfl (n150.ne rfl (n149.ne rfl (n148.ne rfl (n142.ne rfl s38I131))))))))
            have e180 := n175.ne rfl (n174.ne rfl (n166.ne rfl (n165.ne rfl (n163.ne rfl (n150.ne rfl (n149.ne rfl (n148.ne rfl (n142.ne rfl s39I131))))))))
            have e181 := n175.ne rfl (n174.ne rfl (n166.ne rfl (n165.ne rfl (n163.ne rfl (n150.ne rfl (n149.ne rfl (n148.ne rfl (n142.ne rfl s40I131))))))))
            have e182 := n175.ne rfl (n174.ne rfl (n166.ne rfl (n165.ne rfl (n163.ne rfl (n150.ne rfl (n149.ne rfl (n148.ne rfl (n142.ne rfl s44I131))))))))
            have e183 := n175.ne rfl (n174.ne rfl (n166.ne rfl (n165.ne rfl (n163.ne rfl (n150.ne rfl (n149.ne rfl (n148.ne rfl (n142.ne rfl s45I131))))))))
            exact th_n (hKI131 _ _ _ (by omega) ⟨m + 1, rfl, n175.ok, G169, e176, e177, e178, e179, e180, e181, e182, e183, n175.at_, B170, by omega, fun t z ht hz => by
                rcases Nat.lt_or_ge t m with q | q
                · exact hqI131 t z q hz
                · obtain rfl : t = m := by omega
                  rw [h147x] at hz
                  cases hz
                  exact c172⟩)
          · refine wp_cond_true ((n166.at_).trans (congrArg Value.bool (c172))) ?_
            refine wp_seq_k (fun K184 hK184 => ?_)
            refine wp_region_lit ?_
            refine sv n166.ok rfl (wn _ rfl) rfl (o_as ev_const) (fun an185 n185 => ?_)
            refine wpList_nil ?_
            refine th_n (hK184 _ _ ?_)
            refine wp_ret ?_
            refine ib_r ?_
            refine th_r ?_
            refine th_r ?_
            refine ib_r ?_
            refine ib_r ?_
            refine th_r ?_
            refine th_r ?_
            refine ib_r ?_
            refine th_r ?_
            exact ret1 n185.ok rfl (n185.at_) ⟨congrArg (fun n => Ending.returned (Value.int .i64 n)) (Eq.symm (by unfold chkShf; rw [if_neg (by rw [List.length_map]; omega), if_pos hz, if_pos]; rw [List.any_map, List.any_eq_true]; exact ⟨_, List.mem_of_getElem? h147x, by show ((K.map VerI.d).any _) = true; rw [List.any_map, List.any_eq_true]; exact ⟨_, List.mem_of_getElem? h114x, c172⟩⟩)), G169⟩
        · refine wp_cond_false ((n142.at_).trans (congrArg Value.bool (decide_eq_false c144))) ?_
          refine wp_exit ?_
          refine th_x ?_
          refine th_x ?_
          refine ib_x ?_
          refine ib_n ?_
          refine th_n (hK112 _ _ ?_)
          refine wp_region_lit ?_
          refine sv n142.ok rfl (wn _ rfl) rfl (o_add (r := ((k + 1 : Nat) : Int)) (n142.ne rfl s40I131) ev_const (by omega) (by omega)) (fun an186 n186 => ?_)
          refine sv n186.ok rfl (wn _ rfl) rfl (o_mv n186.at_) (fun an187 n187 => ?_)
          refine wpList_nil ?_
          have e188 := n187.ne rfl (n186.ne rfl (n142.ne rfl s0I131))
          have e189 := n187.ne rfl (n186.ne rfl (n142.ne rfl s2I131))
          have e190 := n187.ne rfl (n186.ne rfl (n142.ne rfl s38I131))
          have e191 := n187.ne rfl (n186.ne rfl (n142.ne rfl s39I131))
          exact th_n (hKI102 _ _ _ (by omega) ⟨k + 1, rfl, n187.ok, GI131, e188, e189, e190, e191, n187.at_, by omega, fun j y hj hy => by
              rcases Nat.lt_or_ge j k with q | q
              · exact hnI102 j y q hy
              · obtain rfl : j = k := by omega
                rw [h114x] at hy
                cases hy
                rw [List.any_eq_false]
                intro z hz
                obtain ⟨t, ht⟩ := List.getElem?_of_mem hz
                have htl := (List.getElem?_eq_some_iff.1 ht).1
                rw [Bool.not_eq_true]
                exact hqI131 t z (by omega) ht⟩)
      · refine wp_cond_false ((n109.at_).trans (congrArg Value.bool (decide_eq_false c111))) ?_
        refine wp_exit ?_
        refine th_x ?_
        refine th_x ?_
        refine ib_x ?_
        refine th_n (hK97 _ _ ?_)
        refine wp_seq_k (fun K192 hK192 => ?_)
        refine wp_region_lit ?_
        refine sv n109.ok rfl (wn _ rfl) rfl (o_as ev_const) (fun an193 n193 => ?_)
        refine wpList_nil ?_
        refine th_n (hK192 _ _ ?_)
        refine wp_ret ?_
        exact ret1 n193.ok rfl (n193.at_) ⟨congrArg (fun n => Ending.returned (Value.int .i64 n)) (Eq.symm (by unfold chkShf; rw [if_neg (by rw [List.length_map]; omega), if_pos hz, if_neg]; rw [List.any_map, Bool.not_eq_true, List.any_eq_false]; intro y hy; show ¬ ((K.map VerI.d).any _) = true; rw [List.any_map, Bool.not_eq_true, List.any_eq_false]; intro z hz2; obtain ⟨j, hj⟩ := List.getElem?_of_mem hz2; have hjl := (List.getElem?_eq_some_iff.1 hj).1; have q := hnI102 j z (by omega) hj; rw [List.any_eq_false] at q; exact q y hy)), GI102⟩
set_option maxHeartbeats 8000000 in
set_option maxRecDepth 100000 in
theorem past_bad (K : List VerI) (va : Option Addr) (vc : Nat) (l : List UInt8) (hE : ¬ chkShf (K.map VerI.d) = 0) (w : World) (hv : RdA encVr 8 w va K) (hm : MeansV w K) :
    Calls Try.prog 5 #[.slice va K.length vc, .string (bs l)] w fun e w' => e = .returned (.tuple #[.agg #[.slice none 0 0, .slice none 0 0], .int .i64 (chkShf (K.map VerI.d))]) ∧ Gr w w' := by
  refine enter (N := 51) Try.func5 rfl rfl rfl (fun a0 ok0 h0 => ?_)
  have e0_0 : a0.eval (.tmp 0) = .slice va K.length vc := h0 0 _ rfl
  have e0_1 : a0.eval (.tmp 1) = .string (bs l) := h0 1 _ rfl
  clear h0
  have G0 := Gr.refl w
  refine wp_seq_k (fun K1 hK1 => ?_)
  refine wp_region_lit ?_
  refine sal (cs := #[.slice none 0 0, .slice none 0 0]) ok0 rfl (wn _ rfl) rfl (o_al (z := .agg #[.slice none 0 0, .slice none 0 0]) (by kernel_rfl)) (fun an2 w4 b3 W5 n2 => ?_)
  have l6 : w.heap.size ≤ b3 := by rw [W5.eq]; exact G0.size
  have G7 := G0.trans W5.gr
  refine sv n2.ok rfl (wn _ rfl) rfl (o_as ev_const) (fun an8 n8 => ?_)
  refine wpList_nil ?_
  refine th_n (hK1 _ _ ?_)
  refine wp_seq_k (fun K9 hK9 => ?_)
  refine wp_seq_k (fun K10 hK10 => ?_)
  refine wp_region_lit ?_
  refine sv n8.ok rfl (wn _ rfl) rfl (o_mv (n8.ne rfl (n2.ne rfl e0_0))) (fun an11 n11 => ?_)
  refine sc n11.ok rfl (wn _ rfl) rfl (o_f1 Try.func11 rfl rfl rfl n11.at_) (vchk_any K va vc w4 (hv.gr G7) (hm.gr G7)) ?_
  rintro _ w13 ⟨rfl, g14⟩
  refine ⟨_, rfl, fun an12 n12 => ?_⟩
  have G15 := G7.trans g14
  have B16 := W5.bk.gr g14
  refine sv n12.ok rfl (wn _ rfl) rfl (o_as n12.at_) (fun an17 n17 => ?_)
  refine wpList_nil ?_
  refine th_n (hK10 _ _ ?_)
  refine wp_seq_k (fun K18 hK18 => ?_)
  refine wp_region_lit ?_
  refine sv n17.ok rfl (wn _ rfl) rfl (o_mv n17.at_) (fun an19 n19 => ?_)
  refine sv n19.ok rfl (wn _ rfl) rfl (o_neq (b := true) n19.at_ ev_const (by simp [show ¬ (chkShf (K.map VerI.d)) = 0 from hE])) (fun an20 n20 => ?_)
  refine wpList_nil ?_
  refine th_n (hK18 _ _ ?_)
  refine wp_cond_true (n20.at_) ?_
  refine wp_seq_k (fun K21 hK21 => ?_)
  refine wp_region_lit ?_
  refine sv n20.ok rfl (wn _ rfl) rfl (o_b0 (cs := #[.slice none 0 0, .slice none 0 0]) Try.underlying30 (by kernel_rfl) (by kernel_rfl)) (fun an22 n22 => ?_)
  have e23 := n22.ne rfl (n20.ne rfl (n19.ne rfl n17.at_))
  refine sv n22.ok rfl (wn _ rfl) rfl (o_mv e23) (fun an24 n24 => ?_)
  have e25 := n24.ne rfl (n22.ne rfl (n20.ne rfl (n19.ne rfl (n17.ne rfl (n12.ne rfl (n11.ne rfl (n8.ne rfl n2.at_)))))))
  refine ssR rfl (wn _ rfl) (o_stR e25 (n24.ne rfl n22.at_) B16 (by kernel_rfl) rfl (by simp [Value.oneCell'])) B16 (fun w26 u27 u27b => ?_)
  have G28 : Gr w w26 := Below.upd G15 l6 u27
  refine sv n24.ok rfl (wn _ rfl) rfl (o_as n24.at_) (fun an29 n29 => ?_)
  refine wpList_nil ?_
  refine th_n (hK21 _ _ ?_)
  refine wp_ret ?_
  refine th_r ?_
  exact ret2 n29.ok rfl (⟨_, _, (n29.ne rfl e25), ld_row u27b Try.underlying30 rfl (by kernel_rfl)⟩) (n29.at_) ⟨rfl, G28⟩
end Go.Proofs.Ytbpkfkljeibjoaa

/- Arguments: versions. -/
set_option linter.unusedVariables false
namespace Go.Proofs.Ytbpkfkljeibjoaa
open Go.ChangeShapes Go.WideShapes Go.ChangeAt Go.RowKit Go.Deep Rm Gx
section
variable {H : Type} {enc : TypeId × Value → H} {W : World} {base : Nat} {spare : Nat → Bool} {held : Bool}
set_option maxRecDepth 100000 in
theorem structsW_trod {α : Type} [Inhabited α] {R : World → α → Prop} {en : α → List Value} {k : Nat} {S E : TypeId} (hu : Try.prog.underlying S = some (.slice E)) (hc1 : Try.prog.cellsOf E = k) (hk : 0 < k) (hen : ∀ x, (en x).length = k)
    (hE : ∀ (fuel : Nat) (cs : List Value) (x : DataW H × List MemPlace), DataW.trod enc Try.prog W base spare held fuel E cs = some x → ∃ p : α, cs = en p ∧ R W p)
    {fuel : Nat} {cs : List Value} {x : DataW H × List MemPlace} (h : DataW.trod enc Try.prog W base spare held fuel S cs = some x) : ∃ (a : Option Addr) (L : List α) (c : Nat), cs = [.slice a L.length c] ∧ L.length ≤ c ∧ c ≤ maxLen ∧ (a = none → c = 0) ∧ RdA en k W a L ∧ ∀ p ∈ L, R W p := by
  rcases open_slice hu h with ⟨rfl, _⟩ | ⟨a, len, cap, m, n, D, Pl, rfl, hb, hl, hm, hmm, hx, hcell⟩
  · exact ⟨none, [], 0, rfl, Nat.le_refl _, Nat.zero_le _, fun _ => rfl, fun hn => absurd rfl hn, fun p hp => by cases hp⟩
  · have hlm : len ≤ m := by rw [hmm]; split <;> omega
    obtain ⟨q, hq⟩ := choose_lt (α := α) (n := len) (p := fun i p => (∀ j, j < k → W.cell? (a.add (i * k + j)) = (en p)[j]?) ∧ R W p) (fun i hi => by
        obtain ⟨cs', h1, h2⟩ := hcell i (by omega)
        rw [hc1] at h1
        obtain ⟨p, rfl, hs⟩ := hE _ _ _ h2
        obtain ⟨_, _, hc⟩ := World.cells?_some h1
        exact ⟨p, fun j hj => by rw [← add_add]; exact hc j hj, hs⟩)
    refine ⟨some a, (List.range len).map q, cap, by simp, by simpa using hl, hm, (fun e => by cases e), fun hne => ?_, fun p hp => ?_⟩
    · have h0 : 0 < len := by
        rcases Nat.eq_zero_or_pos len with h | h
        · subst h; simp at hne
        · exact h
      obtain ⟨b, off, spot⟩ := a
      obtain ⟨hc0, _⟩ := hq 0 h0
      obtain ⟨u, hu0⟩ : ∃ u, (en (q 0))[0]? = some u := by
        have : 0 < (en (q 0)).length := by rw [hen]; exact hk
        exact ⟨_, List.getElem?_eq_getElem this⟩
      have hc0' := (hc0 0 hk).trans hu0
      have hspot : spot = none := by simpa [Addr.add] using World.cell?_spot hc0'
      subst hspot
      have hlt : b < W.heap.size := by
        have := block_lt_of_cell hc0'
        simpa [Addr.add] using this
      refine ⟨b, off, rfl, hlt, fun i p hp j u hu => ?_⟩
      have hil : i < len := by
        have := (List.getElem?_eq_some_iff.1 hp).1
        simpa using this
      have hp' : p = q i := by
        simp [List.getElem?_map, List.getElem?_range hil] at hp
        exact hp.symm
      subst hp'
      have hj : j < k := by
        have := (List.getElem?_eq_some_iff.1 hu).1
        rwa [hen] at this
      have q1 := ((hq i hil).1 j hj).trans hu
      rw [add_none] at q1
      rw [Nat.add_assoc]
      exact q1
    · obtain ⟨i, hi, rfl⟩ := List.mem_map.1 hp
      exact (hq i (List.mem_range.1 hi)).2
theorem ver_cells : Try.prog.cellsOf 32 = 8 := by kernel_rfl
theorem str_cells : Try.prog.cellsOf 9 = 1 := by kernel_rfl
theorem pt_cells : Try.prog.cellsOf 26 = 2 := by kernel_rfl
set_option maxRecDepth 100000 in
theorem pair_trod {T : TypeId} (hT : ∀ {fuel : Nat} {cs : List Value} {x : DataW H × List MemPlace}, DataW.trod enc Try.prog W base spare held fuel T cs = some x → ∃ (xs : List (DataW H × List MemPlace)) (k : Nat), cs.length = 2 ∧ xs.length = 2 ∧ DataW.trod enc Try.prog W base spare held k 3 ((cs.drop 0).take 1) = xs[0]? ∧ DataW.trod enc Try.prog W base spare held k 3 ((cs.drop 1).take 1) = xs[1]?)
    {fuel : Nat} {cs : List Value} {x : DataW H × List MemPlace} (h : DataW.trod enc Try.prog W base spare held fuel T cs = some x) : ∃ a b : Int, cs = [.int .i64 a, .int .i64 b] := by
  obtain ⟨xs, k, hlen, hxl, g0, g1⟩ := hT h
  match xs, hxl, cs, hlen with
  | [y0, y1], _, [v0, v1], _ =>
    simp at g0 g1
    obtain ⟨a, ea, _, _⟩ := DataW.trod_int Try.underlying3 g0
    obtain ⟨b, eb, _, _⟩ := DataW.trod_int Try.underlying3 g1
    simp at ea eb
    subst ea eb
    exact ⟨a, b, rfl⟩
set_option maxRecDepth 100000 in
theorem dot_trod {fuel : Nat} {cs : List Value} {x : DataW H × List MemPlace} (h : DataW.trod enc Try.prog W base spare held fuel 24 cs = some x) : ∃ a b : Int, cs = [.int .i64 a, .int .i64 b] := by
  refine pair_trod (fun {f2 cs x2} h => ?_) h
  obtain ⟨xs, k, _, _, hlen, hxl, hf⟩ := DataW.trod_struct Try.underlying24 h
  rw [dot_cells] at hlen
  have g0 : DataW.trod enc Try.prog W base spare held k 3 ((cs.drop 0).take (Try.prog.cellsOf 3)) = xs[0]? := hf 0 _ rfl
  have g1 : DataW.trod enc Try.prog W base spare held k 3 ((cs.drop 1).take (Try.prog.cellsOf 3)) = xs[1]? := hf 1 _ rfl
  rw [kint_cells] at g0 g1
  exact ⟨xs, k, hlen, hxl, g0, g1⟩
set_option maxRecDepth 100000 in
theorem point_trod {fuel : Nat} {cs : List Value} {x : DataW H × List MemPlace} (h : DataW.trod enc Try.prog W base spare held fuel 26 cs = some x) : ∃ a b : Int, cs = [.int .i64 a, .int .i64 b] := by
  refine pair_trod (fun {f2 cs x2} h => ?_) h
  obtain ⟨xs, k, _, _, hlen, hxl, hf⟩ := DataW.trod_struct Try.underlying26 h
  rw [pt_cells] at hlen
  have g0 : DataW.trod enc Try.prog W base spare held k 3 ((cs.drop 0).take (Try.prog.cellsOf 3)) = xs[0]? := hf 0 _ rfl
  have g1 : DataW.trod enc Try.prog W base spare held k 3 ((cs.drop 1).take (Try.prog.cellsOf 3)) = xs[1]? := hf 1 _ rfl
  rw [kint_cells] at g0 g1
  exact ⟨xs, k, hlen, hxl, g0, g1⟩
theorem know_trodV {fuel : Nat} {cs : List Value} {x : DataW H × List MemPlace} (h : DataW.trod enc Try.prog W base spare held fuel 30 cs = some x) : ∃ (va ma : Option Addr) (vc mc : Nat) (V : List Int) (M : List (Int × Int)), cs = [.slice va V.length vc, .slice ma M.length mc] ∧ KnR W (.agg #[.slice va V.length vc, .slice ma M.length mc]) V M := by
  obtain ⟨vv, mv, V, M, rfl, h1, h2, h3⟩ := know_trod h
  obtain ⟨va, vc, ma, mc, e, -, -⟩ := knr_form (k := .agg #[vv, mv]) ⟨_, _, rfl, h1, h2, h3⟩
  injection e with e
  obtain ⟨rfl, rfl⟩ : vv = .slice va V.length vc ∧ mv = .slice ma M.length mc := by simpa using e
  exact ⟨va, ma, vc, mc, V, M, rfl, ⟨_, _, rfl, h1, h2, h3⟩⟩
instance : Inhabited VerI := ⟨⟨⟨[], 0, 0, 0, 0, 0, [], []⟩, none, 0, none, 0⟩⟩
end
end Go.Proofs.Ytbpkfkljeibjoaa

/- Arguments: versions, with the bounds of their names. -/
set_option linter.unusedVariables false
namespace Go.Proofs.Ytbpkfkljeibjoaa
open Go.ChangeShapes Go.WideShapes Go.ChangeAt Go.RowKit Go.Deep Rm Gx
section
variable {H : Type} {enc : TypeId × Value → H} {W : World} {base : Nat} {spare : Nat → Bool} {held : Bool}
set_option maxRecDepth 100000 in
theorem ver_trodL {fuel : Nat} {cs : List Value} {x : DataW H × List MemPlace} (h : DataW.trod enc Try.prog W base spare held fuel 32 cs = some x) : ∃ p : VerI, cs = encVr p ∧ (MeanV W p ∧ p.d.id.length ≤ maxLen) := by
  obtain ⟨xs, k, _, _, hlen, hxl, hf⟩ := DataW.trod_struct Try.underlying32 h
  rw [ver_cells] at hlen
  have g0 : DataW.trod enc Try.prog W base spare held k 9 ((cs.drop 0).take (Try.prog.cellsOf 9)) = xs[0]? := hf 0 _ rfl
  have g1 : DataW.trod enc Try.prog W base spare held k 24 ((cs.drop 1).take (Try.prog.cellsOf 24)) = xs[1]? := hf 1 _ rfl
  have g2 : DataW.trod enc Try.prog W base spare held k 26 ((cs.drop 3).take (Try.prog.cellsOf 26)) = xs[2]? := hf 2 _ rfl
  have g3 : DataW.trod enc Try.prog W base spare held k 3 ((cs.drop 5).take (Try.prog.cellsOf 3)) = xs[3]? := hf 3 _ rfl
  have g4 : DataW.trod enc Try.prog W base spare held k 30 ((cs.drop 6).take (Try.prog.cellsOf 30)) = xs[4]? := hf 4 _ rfl
  rw [str_cells] at g0
  rw [dot_cells] at g1
  rw [pt_cells] at g2
  rw [kint_cells] at g3
  rw [know_cells] at g4
  match xs, hxl, cs, hlen with
  | [y0, y1, y2, y3, y4], _, [v0, v1, v2, v3, v4, v5, v6, v7], _ =>
    simp at g0 g1 g2 g3 g4
    obtain ⟨s, e0, _, hsz⟩ := DataW.trod_string Try.underlying9 g0
    obtain ⟨a, b, e1⟩ := dot_trod g1
    obtain ⟨t, n, e2⟩ := point_trod g2
    obtain ⟨q, e3, _, _⟩ := DataW.trod_int Try.underlying3 g3
    obtain ⟨va, ma, vc, mc, V, M, e4, hk⟩ := know_trodV g4
    simp at e0 e1 e2 e3 e4
    obtain ⟨rfl, rfl⟩ := e1
    obtain ⟨rfl, rfl⟩ := e2
    obtain ⟨rfl, rfl⟩ := e4
    subst e0 e3
    exact ⟨⟨⟨s.toList, a, b, t, n, q, V, M⟩, va, vc, ma, mc⟩, by unfold encVr; rw [← bs_of], hk, by have h := hsz; rw [bs_of s, bs_size] at h; exact h⟩
set_option maxRecDepth 100000 in
theorem open_versL {r : Reach} {b0 : Nat} {v : Value} {d : DataW H} {p : List MemPlace}
    (hv : Value.okWide Try.prog W r b0 22 v) (h : DataW.Trod enc Try.prog W base spare held 22 v d p) : ∃ (a : Option Addr) (K : List VerI) (c : Nat), v = .slice a K.length c ∧ K.length ≤ c ∧ c ≤ maxLen ∧ (a = none → c = 0) ∧ RdA encVr 8 W a K ∧ MeansV W K ∧ ∀ x ∈ K, x.d.id.length ≤ maxLen := by
  obtain ⟨a0, len0, cap0, rfl⟩ := okWide_slice Try.underlying22 hv
  obtain ⟨fuel, hf⟩ := h
  obtain ⟨a, K, c, e, h1, h2, h3, h4, h5⟩ := structsW_trod (R := fun W p => MeanV W p ∧ p.d.id.length ≤ maxLen) (en := encVr) Try.underlying22 ver_cells (by decide) (fun _ => rfl) (fun _ _ _ q => ver_trodL q) hf
  simp [Value.cells] at e
  exact ⟨a, K, c, by simp [e], h1, h2, h3, h4, fun p hp => (h5 p hp).1, fun p hp => (h5 p hp).2⟩
set_option maxRecDepth 100000 in
theorem open_verL {r : Reach} {b0 : Nat} {v : Value} {d : DataW H} {p : List MemPlace}
    (hv : Value.okWide Try.prog W r b0 32 v) (h : DataW.Trod enc Try.prog W base spare held 32 v d p) : ∃ y : VerI, v = .agg (encVr y).toArray ∧ MeanV W y ∧ y.d.id.length ≤ maxLen := by
  obtain ⟨fuel, hf⟩ := h
  obtain ⟨y, e, hy⟩ := ver_trodL hf
  obtain ⟨cs, rfl, -⟩ := okWide_struct Try.underlying32 hv
  have e' : cs.toList = encVr y := by simpa [Value.cells] using e
  exact ⟨y, by rw [← e', Array.toArray_toList], hy⟩
end
end Go.Proofs.Ytbpkfkljeibjoaa

