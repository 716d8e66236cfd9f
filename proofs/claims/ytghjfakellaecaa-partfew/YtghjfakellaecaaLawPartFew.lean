/- The walk of PartFew. -/
import Derived.Test.YtghjfakellaecaaPf4
set_option linter.unusedVariables false
set_option linter.unusedSimpArgs false
namespace Go.Proofs.Ytghjfakellaecaa
open Go.RowKit Rm Gx
set_option maxHeartbeats 8000000 in
set_option maxRecDepth 100000 in
theorem partFew_walk (Fs0 : List (List BoxI)) (Ls0 : List (List (List Int))) (fa0 la0 : Option Addr) (fc0 lc0 : Nat) (hfc0 : Fs0.length ≤ fc0) (w : World) (hF0 : RdV (fun w u x => RdF w u x) w fa0 Fs0) (hL0 : RdV (fun w u x => RdLL w u x) w la0 Ls0) :
    Calls Try.prog 4 #[.slice fa0 Fs0.length fc0, .slice la0 Ls0.length lc0] w fun e w' => e = .returned (.bool true) ∧ Gr w w' := by
  refine enter (N := 110) Try.func4 rfl rfl rfl (fun a0 ok0 h0 => ?_)
  have e0_0 : a0.eval (.tmp 0) = .slice fa0 Fs0.length fc0 := h0 0 _ rfl
  have e0_1 : a0.eval (.tmp 1) = .slice la0 Ls0.length lc0 := h0 1 _ rfl
  clear h0
  have G0 := Gr.refl w
  refine wp_seq_k (fun K1 hK1 => ?_)
  refine wp_region_lit ?_
  refine sv ok0 rfl (wn _ rfl) rfl (o_as ev_const) (fun an2 n2 => ?_)
  refine wpList_nil ?_
  refine th_n (hK1 _ _ ?_)
  refine wp_seq_k (fun K3 hK3 => ?_)
  refine wp_seq_k (fun K4 hK4 => ?_)
  refine wp_region_lit ?_
  refine sc n2.ok rfl (wn _ rfl) rfl (o_f0 Try.func15 rfl rfl rfl ) (partBegun_any w) ?_
  rintro _ w6 ⟨rfl, g7⟩
  refine ⟨_, rfl, fun an5 n5 => ?_⟩
  have G8 := G0.trans g7
  refine sv n5.ok rfl (wn _ rfl) rfl (o_not n5.at_ rfl) (fun an9 n9 => ?_)
  refine wpList_nil ?_
  refine th_n (hK4 _ _ ?_)
  refine wp_cond_false (n9.at_) ?_
  refine wp_skip ?_
  refine th_n (hK3 _ _ ?_)
  refine wp_seq_k (fun K10 hK10 => ?_)
  refine wp_region_lit ?_
  have e11 := n9.ne rfl (n5.ne rfl (n2.ne rfl e0_0))
  refine sv n9.ok rfl (wn _ rfl) rfl (o_mv e11) (fun an12 n12 => ?_)
  have e13 := n12.ne rfl (n9.ne rfl (n5.ne rfl (n2.ne rfl e0_1)))
  refine sv n12.ok rfl (wn _ rfl) rfl (o_mv e13) (fun an14 n14 => ?_)
  refine sc n14.ok rfl (wn _ rfl) rfl (o_f2 Try.func17 rfl rfl rfl (n14.ne rfl n12.at_) n14.at_) (parts_any Fs0 Ls0 fa0 la0 fc0 lc0 hfc0 w6 (RdV.gr rdf_gr hF0 G8) (RdV.gr rdll_gr hL0 G8)) ?_
  rintro _ w16 ⟨Kp0, vp0, rfl, hlp0, hop0, hmp0, g17⟩
  obtain ⟨pap0, pcp0, rfl, hcp0⟩ := ow_form hop0
  have hnp0 := ow_nil hop0
  have hrp0 := RdA.own encP_ok hop0 rfl
  refine ⟨_, rfl, fun an15 n15 => ?_⟩
  have G18 := G8.trans g17
  have A20 := Gr.refl w16
  refine sc n15.ok rfl (wn _ rfl) rfl (o_f2 Try.func16 rfl rfl rfl n15.at_ ev_const) (pjoin_small Kp0 [] pap0 none pcp0 0 (by simp; omega) hcp0 (Nat.le_refl _) hnp0 (fun _ => rfl) w16 (hrp0.gr A20) (fun q => absurd rfl q) (hmp0.gr A20) (fun x hx => by cases hx)) ?_
  rintro _ w22 ⟨Fj1, qaj1, qcj1, rfl, hcj1, hnj1, hlj1, hej1, hfj1, hrj1, hmj1, g23⟩
  have hsj1 := hlj1
  simp only [List.length_nil, Nat.add_zero, Nat.zero_add] at hsj1
  refine ⟨_, rfl, fun an21 n21 => ?_⟩
  have G24 := G18.trans g23
  have A25 := A20.trans g23
  have A27 := Gr.refl w22
  refine sv n21.ok rfl (wn _ rfl) rfl (o_mv n21.at_) (fun an28 n28 => ?_)
  refine sv n28.ok rfl (wn _ rfl) rfl (o_ex n28.at_ rfl) (fun an29 n29 => ?_)
  refine sv n29.ok rfl (wn _ rfl) rfl (o_ex (n29.ne rfl n28.at_) rfl) (fun an30 n30 => ?_)
  refine sv n30.ok rfl (wn _ rfl) rfl (o_as (n30.ne rfl n29.at_)) (fun an31 n31 => ?_)
  refine sv n31.ok rfl (wn _ rfl) rfl (o_as (n31.ne rfl n30.at_)) (fun an32 n32 => ?_)
  refine wpList_nil ?_
  refine th_n (hK10 _ _ ?_)
  refine wp_seq_k (fun K33 hK33 => ?_)
  refine wp_seq_k (fun K34 hK34 => ?_)
  refine wp_region_lit ?_
  refine sv n32.ok rfl (wn _ rfl) rfl (o_mv n32.at_) (fun an35 n35 => ?_)
  refine sv n35.ok rfl (wn _ rfl) rfl (o_neq (b := false) n35.at_ ev_const (by decide)) (fun an36 n36 => ?_)
  refine sv n36.ok rfl (wn _ rfl) rfl (o_mv n36.at_) (fun an37 n37 => ?_)
  have e38 := n37.ne rfl (n36.ne rfl (n35.ne rfl (n32.ne rfl n31.at_)))
  refine sv n37.ok rfl (wgT rfl (yl 2 false rfl n37.at_) rfl) rfl (o_mv e38) (fun an39 n39 => ?_)
  refine sc n39.ok rfl (wgT rfl (yl 2 false rfl (n39.ne rfl n37.at_)) rfl) rfl (o_f1 Try.func9 rfl rfl rfl n39.at_) (pcheck_ok Fj1 qaj1 qcj1 w22 (by omega) (hrj1.gr A27) (hmj1.gr A27)) ?_
  rintro _ w41 ⟨rfl, g42⟩
  refine ⟨_, rfl, fun an40 n40 => ?_⟩
  have G43 := G24.trans g42
  have A44 := A25.trans g42
  have A45 := A27.trans g42
  refine sv n40.ok rfl (wgT rfl (yl 2 false rfl (n40.ne rfl (n39.ne rfl n37.at_))) rfl) rfl (o_neq (b := false) n40.at_ ev_const (by decide)) (fun an46 n46 => ?_)
  have e47 := n46.ne rfl (n40.ne rfl (n39.ne rfl n37.at_))
  refine sv n46.ok rfl (wn _ rfl) rfl (o_pkF e47 n46.at_) (fun an48 n48 => ?_)
  refine wpList_nil ?_
  refine th_n (hK34 _ _ ?_)
  refine wp_cond_false (n48.at_) ?_
  refine wp_skip ?_
  refine th_n (hK33 _ _ ?_)
  refine wp_seq_k (fun K49 hK49 => ?_)
  refine wp_seq_k (fun K50 hK50 => ?_)
  refine wp_region_lit ?_
  have e51 := n48.ne rfl (n46.ne rfl (n40.ne rfl (n39.ne rfl e38)))
  refine sv n48.ok rfl (wn _ rfl) rfl (o_mv e51) (fun an52 n52 => ?_)
  refine sv n52.ok rfl (wn _ rfl) rfl (o_len n52.at_ Try.underlying22) (fun an53 n53 => ?_)
  refine sv n53.ok rfl (wn _ rfl) rfl (o_mv ev_const) (fun an54 n54 => ?_)
  refine wpList_nil ?_
  refine th_n (hK50 _ _ ?_)
  refine wp_block ?_
  have e56 := n54.ne rfl (n53.ne rfl (n52.ne rfl (n48.ne rfl (n46.ne rfl (n40.ne rfl (n39.ne rfl (n37.ne rfl (n36.ne rfl (n35.ne rfl (n32.ne rfl (n31.ne rfl (n30.ne rfl (n29.ne rfl (n28.ne rfl (n21.ne rfl (n15.ne rfl (n14.ne rfl (n12.ne rfl (n9.ne rfl (n5.ne rfl n2.at_))))))))))))))))))))
  have e57 := n54.ne rfl (n53.ne rfl (n52.ne rfl e51))
  refine lp (fun (nL : Nat) (aL : Act) (wL : World) => ∃ i : Nat, nL = Fj1.length - i ∧ Ok 110 aL ∧ Gr w wL ∧ (aL.eval (.tmp 4) = .bool false) ∧ (aL.eval (.tmp 5) = .slice qaj1 Fj1.length qcj1) ∧ (aL.eval (.tmp 35) = .slice qaj1 Fj1.length qcj1) ∧ (aL.eval (.tmp 36) = .int .i64 ((Fj1.length : Nat) : Int)) ∧ (aL.eval (.tmp 37) = .int .i64 (i : Int)) ∧ (Gr w16 wL) ∧ (Gr w22 wL) ∧ (i ≤ Fj1.length)) _ ⟨0, rfl, n54.ok, G43, e56, e57, (n54.ne rfl (n53.ne rfl n52.at_)), (n54.ne rfl n53.at_), n54.at_, A44, A45, by omega⟩ ?_
  rintro m58 aI55 w60 ⟨i, hmI55, okI55, GI55, s4I55, s5I55, s35I55, s36I55, s37I55, xanch19I55, xanch26I55, hiI55⟩ KI55 hKI55
  refine wp_seq_k (fun K61 hK61 => ?_)
  refine wp_region_lit ?_
  refine sv okI55 rfl (wn _ rfl) rfl (o_ltI s37I55 s36I55) (fun an62 n62 => ?_)
  refine wpList_nil ?_
  refine th_n (hK61 _ _ ?_)
  refine wp_seq_k (fun K63 hK63 => ?_)
  by_cases c64 : (i : Int) < ((Fj1.length : Nat) : Int)
  · refine wp_cond_true ((n62.at_).trans (congrArg Value.bool (decide_eq_true c64))) ?_
    refine wp_skip ?_
    refine th_n (hK63 _ _ ?_)
    refine wp_seq_k (fun K65 hK65 => ?_)
    refine wp_block ?_
    refine wp_seq_k (fun K66 hK66 => ?_)
    refine wp_region_lit ?_
    refine sv n62.ok rfl (wn _ rfl) rfl (o_mv (n62.ne rfl s37I55)) (fun an67 n67 => ?_)
    have h68l : i < List.length Fj1 := by omega
    obtain ⟨bh68, fh68, h68a, h68b, h68c⟩ := (hrj1.gr xanch26I55) (ne_nil_of_lt h68l)
    obtain ⟨xh68, h68x⟩ : ∃ x, (Fj1)[i]? = some x := ⟨_, List.getElem?_eq_getElem h68l⟩
    have hneh68 := hfj1.ne xh68 (List.mem_of_getElem? h68x)
    rw [emptyP_eq, Bool.or_eq_false_iff, decide_eq_false_iff_not, decide_eq_false_iff_not] at hneh68
    refine sv n67.ok rfl (wn _ rfl) rfl (o_iaV (i := i) (s := 3) h68a (n67.ne rfl (n62.ne rfl s35I55)) (n67.ne rfl (n62.ne rfl s37I55)) Try.underlying22 (by kernel_rfl) h68l) (fun an69 n69 => ?_)
    refine sv n69.ok rfl (wn _ rfl) rfl (o_ldA (k := fh68 + i * 3) n69.at_ (cs := [.slice xh68.fa xh68.fn xh68.fc, .slice xh68.va xh68.vn xh68.vc, .slice xh68.ma xh68.mn xh68.mc]) (fun j v hv => (Below.cell (Gr.refl _) h68b).trans (h68c _ _ h68x j v hv)) Try.underlying38 rfl (by kernel_rfl)) (fun an70 n70 => ?_)
    refine sal (cs := #[.slice none 0 0, .slice none 0 0, .slice none 0 0]) n70.ok rfl (wn _ rfl) rfl (o_al (z := .agg #[.slice none 0 0, .slice none 0 0, .slice none 0 0]) (by kernel_rfl)) (fun an71 w73 b72 W74 n71 => ?_)
    have l75 : w.heap.size ≤ b72 := by rw [W74.eq]; exact GI55.size
    have l76 : w16.heap.size ≤ b72 := by rw [W74.eq]; exact xanch19I55.size
    have l77 : w22.heap.size ≤ b72 := by rw [W74.eq]; exact xanch26I55.size
    have G78 := GI55.trans W74.gr
    have A79 := xanch19I55.trans W74.gr
    have A80 := xanch26I55.trans W74.gr
    have e81 := n71.ne rfl (n70.ne rfl (n69.ne rfl n67.at_))
    refine sv n71.ok rfl (wn _ rfl) rfl (o_as e81) (fun an82 n82 => ?_)
    refine ssR rfl (wn _ rfl) (o_stR (n82.ne rfl n71.at_) (n82.ne rfl (n71.ne rfl n70.at_)) W74.bk (by kernel_rfl) rfl (by simp [Value.oneCell'])) W74.bk (fun w83 u84 u84b => ?_)
    have G85 : Gr w w83 := Below.upd G78 l75 u84
    have A86 : Gr w16 w83 := Below.upd A79 l76 u84
    have A87 : Gr w22 w83 := Below.upd A80 l77 u84
    refine wpList_nil ?_
    refine th_n (hK66 _ _ ?_)
    refine wp_seq_k (fun K88 hK88 => ?_)
    refine wp_region_lit ?_
    refine sv n82.ok rfl (wn _ rfl) rfl (o_fa (z := 1) (n82.ne rfl n71.at_) Try.underlying38 rfl (by kernel_rfl) rfl rfl) (fun an89 n89 => ?_)
    refine sv n89.ok rfl (wn _ rfl) rfl (o_ld n89.at_ (Try.isAgg36 _) (u84b.cell _ rfl)) (fun an90 n90 => ?_)
    refine sc n90.ok rfl (wn _ rfl) rfl (o_f1 Try.func18 rfl rfl rfl n90.at_) (fcount_ok (T := xh68.T) ((hmj1.gr A87) xh68 (List.mem_of_getElem? h68x)).fs) ?_
    rintro _ w92 ⟨rfl, g93⟩
    refine ⟨_, rfl, fun an91 n91 => ?_⟩
    have G94 := G85.trans g93
    have B95 := u84b.gr g93
    have A96 := A86.trans g93
    have A97 := A87.trans g93
    refine sv n91.ok rfl (wn _ rfl) rfl (o_mv n91.at_) (fun an98 n98 => ?_)
    refine sv n98.ok rfl (wn _ rfl) rfl (o_ex n98.at_ rfl) (fun an99 n99 => ?_)
    refine sv n99.ok rfl (wn _ rfl) rfl (o_ex (n99.ne rfl n98.at_) rfl) (fun an100 n100 => ?_)
    refine sv n100.ok rfl (wn _ rfl) rfl (o_as (n100.ne rfl n99.at_)) (fun an101 n101 => ?_)
    refine sv n101.ok rfl (wn _ rfl) rfl (o_as (n101.ne rfl n100.at_)) (fun an102 n102 => ?_)
    refine wpList_nil ?_
    refine th_n (hK88 _ _ ?_)
    refine wp_seq_k (fun K103 hK103 => ?_)
    refine wp_region_lit ?_
    have e104 := n102.ne rfl (n101.ne rfl (n100.ne rfl (n99.ne rfl (n98.ne rfl (n91.ne rfl (n90.ne rfl (n89.ne rfl (n82.ne rfl n71.at_))))))))
    refine sv n102.ok rfl (wn _ rfl) rfl (o_fa (z := 2) e104 Try.underlying38 rfl (by kernel_rfl) rfl rfl) (fun an105 n105 => ?_)
    refine sv n105.ok rfl (wn _ rfl) rfl (o_ldA (k := 1) (cs := [.slice xh68.va xh68.vn xh68.vc, .slice xh68.ma xh68.mn xh68.mc]) n105.at_ (bk_part B95 rfl) Try.underlying35 rfl (by kernel_rfl)) (fun an106 n106 => ?_)
    refine sc n106.ok rfl (wn _ rfl) rfl (o_f1 Try.func19 rfl rfl rfl n106.at_) (kcount _ xh68.D w92 ((hmj1.gr A97) xh68 (List.mem_of_getElem? h68x)).kn ((hmj1.gr A97) xh68 (List.mem_of_getElem? h68x)).few) ?_
    rintro _ w108 ⟨rfl, g109⟩
    refine ⟨_, rfl, fun an107 n107 => ?_⟩
    have G110 := G94.trans g109
    have B111 := B95.gr g109
    have A112 := A96.trans g109
    have A113 := A97.trans g109
    refine sv n107.ok rfl (wn _ rfl) rfl (o_mv n107.at_) (fun an114 n114 => ?_)
    refine sv n114.ok rfl (wn _ rfl) rfl (o_ex n114.at_ rfl) (fun an115 n115 => ?_)
    refine sv n115.ok rfl (wn _ rfl) rfl (o_ex (n115.ne rfl n114.at_) rfl) (fun an116 n116 => ?_)
    refine sv n116.ok rfl (wn _ rfl) rfl (o_as (n116.ne rfl n115.at_)) (fun an117 n117 => ?_)
    refine sv n117.ok rfl (wn _ rfl) rfl (o_as (n117.ne rfl n116.at_)) (fun an118 n118 => ?_)
    refine wpList_nil ?_
    refine th_n (hK103 _ _ ?_)
    refine wp_seq_k (fun K119 hK119 => ?_)
    refine wp_seq_k (fun K120 hK120 => ?_)
    refine wp_region_lit ?_
    have e121 := n118.ne rfl (n117.ne rfl (n116.ne rfl (n115.ne rfl (n114.ne rfl (n107.ne rfl (n106.ne rfl (n105.ne rfl n102.at_)))))))
    refine sv n118.ok rfl (wn _ rfl) rfl (o_mv e121) (fun an122 n122 => ?_)
    refine sv n122.ok rfl (wn _ rfl) rfl (o_neq (b := false) n122.at_ ev_const (by decide)) (fun an123 n123 => ?_)
    refine sv n123.ok rfl (wn _ rfl) rfl (o_mv n123.at_) (fun an124 n124 => ?_)
    have e125 := n124.ne rfl (n123.ne rfl (n122.ne rfl n118.at_))
    refine sv n124.ok rfl (wgT rfl (yl 2 false rfl n124.at_) rfl) rfl (o_mv e125) (fun an126 n126 => ?_)
    refine sv n126.ok rfl (wgT rfl (yl 2 false rfl (n126.ne rfl n124.at_)) rfl) rfl (o_neq (b := false) n126.at_ ev_const (by decide)) (fun an127 n127 => ?_)
    refine sv n127.ok rfl (wn _ rfl) rfl (o_pkF (n127.ne rfl (n126.ne rfl n124.at_)) n127.at_) (fun an128 n128 => ?_)
    refine sv n128.ok rfl (wn _ rfl) rfl (o_mv n128.at_) (fun an129 n129 => ?_)
    have e130 := n129.ne rfl (n128.ne rfl (n127.ne rfl (n126.ne rfl (n124.ne rfl (n123.ne rfl (n122.ne rfl (n118.ne rfl (n117.ne rfl (n116.ne rfl (n115.ne rfl (n114.ne rfl (n107.ne rfl (n106.ne rfl (n105.ne rfl (n102.ne rfl n101.at_)))))))))))))))
    refine sv n129.ok rfl (wgT rfl (yl 6 false rfl n129.at_) rfl) rfl (o_mv e130) (fun an131 n131 => ?_)
    refine sv n131.ok rfl (wgT rfl (yl 6 false rfl (n131.ne rfl n129.at_)) rfl) rfl (o_eq n131.at_ ev_const (decide_eq_false hneh68.1)) (fun an132 n132 => ?_)
    refine sv n132.ok rfl (wn _ rfl) rfl (o_pkF (n132.ne rfl (n131.ne rfl n129.at_)) n132.at_) (fun an133 n133 => ?_)
    refine sv n133.ok rfl (wn _ rfl) rfl (o_mv n133.at_) (fun an134 n134 => ?_)
    have e135 := n134.ne rfl (n133.ne rfl (n132.ne rfl (n131.ne rfl (n129.ne rfl (n128.ne rfl (n127.ne rfl (n126.ne rfl (n124.ne rfl (n123.ne rfl (n122.ne rfl (n118.ne rfl n117.at_)))))))))))
    refine sv n134.ok rfl (wgT rfl (yl 10 false rfl n134.at_) rfl) rfl (o_mv e135) (fun an136 n136 => ?_)
    refine sv n136.ok rfl (wgT rfl (yl 10 false rfl (n136.ne rfl n134.at_)) rfl) rfl (o_eq n136.at_ ev_const (decide_eq_false hneh68.2)) (fun an137 n137 => ?_)
    refine sv n137.ok rfl (wn _ rfl) rfl (o_pkF (n137.ne rfl (n136.ne rfl n134.at_)) n137.at_) (fun an138 n138 => ?_)
    refine wpList_nil ?_
    refine th_n (hK120 _ _ ?_)
    refine wp_cond_false (n138.at_) ?_
    refine wp_skip ?_
    refine th_n (hK119 _ _ ?_)
    refine wp_seq_k (fun K139 hK139 => ?_)
    refine wp_region_lit ?_
    have e140 := n138.ne rfl (n137.ne rfl (n136.ne rfl (n134.ne rfl (n133.ne rfl (n132.ne rfl (n131.ne rfl (n129.ne rfl (n128.ne rfl (n127.ne rfl (n126.ne rfl (n124.ne rfl (n123.ne rfl (n122.ne rfl (n118.ne rfl (n117.ne rfl (n116.ne rfl (n115.ne rfl (n114.ne rfl (n107.ne rfl (n106.ne rfl (n105.ne rfl (n102.ne rfl (n101.ne rfl (n100.ne rfl (n99.ne rfl (n98.ne rfl (n91.ne rfl (n90.ne rfl (n89.ne rfl (n82.ne rfl (n71.ne rfl (n70.ne rfl (n69.ne rfl (n67.ne rfl (n62.ne rfl s5I55)))))))))))))))))))))))))))))))))))
    refine sv n138.ok rfl (wn _ rfl) rfl (o_mv e140) (fun an141 n141 => ?_)
    refine sv n141.ok rfl (wn _ rfl) rfl (o_len n141.at_ Try.underlying22) (fun an142 n142 => ?_)
    refine sv n142.ok rfl (wn _ rfl) rfl (o_mv ev_const) (fun an143 n143 => ?_)
    refine wpList_nil ?_
    refine th_n (hK139 _ _ ?_)
    refine wp_block ?_
    have e145 := n143.ne rfl (n142.ne rfl (n141.ne rfl (n138.ne rfl (n137.ne rfl (n136.ne rfl (n134.ne rfl (n133.ne rfl (n132.ne rfl (n131.ne rfl (n129.ne rfl (n128.ne rfl (n127.ne rfl (n126.ne rfl (n124.ne rfl (n123.ne rfl (n122.ne rfl (n118.ne rfl (n117.ne rfl (n116.ne rfl (n115.ne rfl (n114.ne rfl (n107.ne rfl (n106.ne rfl (n105.ne rfl (n102.ne rfl (n101.ne rfl (n100.ne rfl (n99.ne rfl (n98.ne rfl (n91.ne rfl (n90.ne rfl (n89.ne rfl (n82.ne rfl (n71.ne rfl (n70.ne rfl (n69.ne rfl (n67.ne rfl (n62.ne rfl s4I55))))))))))))))))))))))))))))))))))))))
    have e146 := n143.ne rfl (n142.ne rfl (n141.ne rfl e140))
    have e147 := n143.ne rfl (n142.ne rfl (n141.ne rfl (n138.ne rfl (n137.ne rfl (n136.ne rfl (n134.ne rfl (n133.ne rfl (n132.ne rfl (n131.ne rfl (n129.ne rfl (n128.ne rfl (n127.ne rfl (n126.ne rfl (n124.ne rfl (n123.ne rfl (n122.ne rfl (n118.ne rfl (n117.ne rfl (n116.ne rfl (n115.ne rfl (n114.ne rfl (n107.ne rfl (n106.ne rfl (n105.ne rfl (n102.ne rfl (n101.ne rfl (n100.ne rfl (n99.ne rfl (n98.ne rfl (n91.ne rfl (n90.ne rfl (n89.ne rfl n82.at_))))))))))))))))))))))))))))))))
    have e148 := n143.ne rfl (n142.ne rfl (n141.ne rfl (n138.ne rfl (n137.ne rfl (n136.ne rfl (n134.ne rfl (n133.ne rfl (n132.ne rfl (n131.ne rfl (n129.ne rfl (n128.ne rfl (n127.ne rfl (n126.ne rfl (n124.ne rfl (n123.ne rfl (n122.ne rfl (n118.ne rfl (n117.ne rfl (n116.ne rfl (n115.ne rfl (n114.ne rfl (n107.ne rfl (n106.ne rfl (n105.ne rfl e104))))))))))))))))))))))))
    have e149 := n143.ne rfl (n142.ne rfl (n141.ne rfl (n138.ne rfl (n137.ne rfl (n136.ne rfl (n134.ne rfl (n133.ne rfl (n132.ne rfl (n131.ne rfl (n129.ne rfl (n128.ne rfl (n127.ne rfl (n126.ne rfl (n124.ne rfl (n123.ne rfl (n122.ne rfl (n118.ne rfl (n117.ne rfl (n116.ne rfl (n115.ne rfl (n114.ne rfl (n107.ne rfl (n106.ne rfl (n105.ne rfl (n102.ne rfl (n101.ne rfl (n100.ne rfl (n99.ne rfl (n98.ne rfl (n91.ne rfl (n90.ne rfl (n89.ne rfl (n82.ne rfl (n71.ne rfl (n70.ne rfl (n69.ne rfl (n67.ne rfl (n62.ne rfl s35I55))))))))))))))))))))))))))))))))))))))
    have e150 := n143.ne rfl (n142.ne rfl (n141.ne rfl (n138.ne rfl (n137.ne rfl (n136.ne rfl (n134.ne rfl (n133.ne rfl (n132.ne rfl (n131.ne rfl (n129.ne rfl (n128.ne rfl (n127.ne rfl (n126.ne rfl (n124.ne rfl (n123.ne rfl (n122.ne rfl (n118.ne rfl (n117.ne rfl (n116.ne rfl (n115.ne rfl (n114.ne rfl (n107.ne rfl (n106.ne rfl (n105.ne rfl (n102.ne rfl (n101.ne rfl (n100.ne rfl (n99.ne rfl (n98.ne rfl (n91.ne rfl (n90.ne rfl (n89.ne rfl (n82.ne rfl (n71.ne rfl (n70.ne rfl (n69.ne rfl (n67.ne rfl (n62.ne rfl s36I55))))))))))))))))))))))))))))))))))))))
    have e151 := n143.ne rfl (n142.ne rfl (n141.ne rfl (n138.ne rfl (n137.ne rfl (n136.ne rfl (n134.ne rfl (n133.ne rfl (n132.ne rfl (n131.ne rfl (n129.ne rfl (n128.ne rfl (n127.ne rfl (n126.ne rfl (n124.ne rfl (n123.ne rfl (n122.ne rfl (n118.ne rfl (n117.ne rfl (n116.ne rfl (n115.ne rfl (n114.ne rfl (n107.ne rfl (n106.ne rfl (n105.ne rfl (n102.ne rfl (n101.ne rfl (n100.ne rfl (n99.ne rfl (n98.ne rfl (n91.ne rfl (n90.ne rfl (n89.ne rfl (n82.ne rfl (n71.ne rfl (n70.ne rfl (n69.ne rfl (n67.ne rfl (n62.ne rfl s37I55))))))))))))))))))))))))))))))))))))))
    refine lp (fun (nL : Nat) (aL : Act) (wL : World) => ∃ j : Nat, nL = Fj1.length - j ∧ Ok 110 aL ∧ Gr w wL ∧ (aL.eval (.tmp 4) = .bool false) ∧ (aL.eval (.tmp 5) = .slice qaj1 Fj1.length qcj1) ∧ (aL.eval (.tmp 7) = .int .i64 (i : Int)) ∧ (aL.eval (.tmp 8) = .pointer (some ⟨b72, 0, none⟩)) ∧ (aL.eval (.tmp 35) = .slice qaj1 Fj1.length qcj1) ∧ (aL.eval (.tmp 36) = .int .i64 ((Fj1.length : Nat) : Int)) ∧ (aL.eval (.tmp 37) = .int .i64 (i : Int)) ∧ (aL.eval (.tmp 68) = .slice qaj1 Fj1.length qcj1) ∧ (aL.eval (.tmp 69) = .int .i64 ((Fj1.length : Nat) : Int)) ∧ (aL.eval (.tmp 70) = .int .i64 (j : Int)) ∧ (Bk wL b72 #[.slice xh68.fa xh68.fn xh68.fc, .slice xh68.va xh68.vn xh68.vc, .slice xh68.ma xh68.mn xh68.mc] 38) ∧ (Gr w16 wL) ∧ (Gr w22 wL) ∧ (j ≤ Fj1.length)) _ ⟨0, rfl, n143.ok, G110, e145, e146, e147, e148, e149, e150, e151, (n143.ne rfl (n142.ne rfl n141.at_)), (n143.ne rfl n142.at_), n143.at_, B111, A112, A113, by omega⟩ ?_
    rintro m152 aI144 w154 ⟨j, hmI144, okI144, GI144, s4I144, s5I144, s7I144, s8I144, s35I144, s36I144, s37I144, s68I144, s69I144, s70I144, kb72I144, xanch19I144, xanch26I144, hjI144⟩ KI144 hKI144
    refine wp_seq_k (fun K155 hK155 => ?_)
    refine wp_region_lit ?_
    refine sv okI144 rfl (wn _ rfl) rfl (o_ltI s70I144 s69I144) (fun an156 n156 => ?_)
    refine wpList_nil ?_
    refine th_n (hK155 _ _ ?_)
    refine wp_seq_k (fun K157 hK157 => ?_)
    by_cases c158 : (j : Int) < ((Fj1.length : Nat) : Int)
    · refine wp_cond_true ((n156.at_).trans (congrArg Value.bool (decide_eq_true c158))) ?_
      refine wp_skip ?_
      refine th_n (hK157 _ _ ?_)
      refine wp_seq_k (fun K159 hK159 => ?_)
      refine wp_block ?_
      refine wp_seq_k (fun K160 hK160 => ?_)
      refine wp_region_lit ?_
      refine sv n156.ok rfl (wn _ rfl) rfl (o_mv (n156.ne rfl s70I144)) (fun an161 n161 => ?_)
      have h162l : j < List.length Fj1 := by omega
      obtain ⟨bh162, fh162, h162a, h162b, h162c⟩ := (hrj1.gr xanch26I144) (ne_nil_of_lt h162l)
      obtain ⟨xh162, h162x⟩ : ∃ x, (Fj1)[j]? = some x := ⟨_, List.getElem?_eq_getElem h162l⟩
      refine sv n161.ok rfl (wn _ rfl) rfl (o_iaV (i := j) (s := 3) h162a (n161.ne rfl (n156.ne rfl s68I144)) (n161.ne rfl (n156.ne rfl s70I144)) Try.underlying22 (by kernel_rfl) h162l) (fun an163 n163 => ?_)
      refine sv n163.ok rfl (wn _ rfl) rfl (o_ldA (k := fh162 + j * 3) n163.at_ (cs := [.slice xh162.fa xh162.fn xh162.fc, .slice xh162.va xh162.vn xh162.vc, .slice xh162.ma xh162.mn xh162.mc]) (fun j v hv => (Below.cell (Gr.refl _) h162b).trans (h162c _ _ h162x j v hv)) Try.underlying38 rfl (by kernel_rfl)) (fun an164 n164 => ?_)
      refine sal (cs := #[.slice none 0 0, .slice none 0 0, .slice none 0 0]) n164.ok rfl (wn _ rfl) rfl (o_al (z := .agg #[.slice none 0 0, .slice none 0 0, .slice none 0 0]) (by kernel_rfl)) (fun an165 w167 b166 W168 n165 => ?_)
      have l169 : b72 < b166 := by rw [W168.eq]; exact kb72I144.lt
      have l170 : w.heap.size ≤ b166 := by rw [W168.eq]; exact GI144.size
      have l171 : w16.heap.size ≤ b166 := by rw [W168.eq]; exact xanch19I144.size
      have l172 : w22.heap.size ≤ b166 := by rw [W168.eq]; exact xanch26I144.size
      have G173 := GI144.trans W168.gr
      have B174 := kb72I144.gr W168.gr
      have A175 := xanch19I144.trans W168.gr
      have A176 := xanch26I144.trans W168.gr
      have e177 := n165.ne rfl (n164.ne rfl (n163.ne rfl n161.at_))
      refine sv n165.ok rfl (wn _ rfl) rfl (o_as e177) (fun an178 n178 => ?_)
      refine ssR rfl (wn _ rfl) (o_stR (n178.ne rfl n165.at_) (n178.ne rfl (n165.ne rfl n164.at_)) W168.bk (by kernel_rfl) rfl (by simp [Value.oneCell'])) W168.bk (fun w179 u180 u180b => ?_)
      have G181 : Gr w w179 := Below.upd G173 l170 u180
      have B182 := B174.upd u180 (Nat.ne_of_lt l169)
      have A183 : Gr w16 w179 := Below.upd A175 l171 u180
      have A184 : Gr w22 w179 := Below.upd A176 l172 u180
      refine wpList_nil ?_
      refine th_n (hK160 _ _ ?_)
      refine wp_seq_k (fun K185 hK185 => ?_)
      refine wp_region_lit ?_
      have e186 := n178.ne rfl (n165.ne rfl (n164.ne rfl (n163.ne rfl (n161.ne rfl (n156.ne rfl s8I144)))))
      refine sv n178.ok rfl (wn _ rfl) rfl (o_fa (z := 1) e186 Try.underlying38 rfl (by kernel_rfl) rfl rfl) (fun an187 n187 => ?_)
      refine sv n187.ok rfl (wn _ rfl) rfl (o_ld n187.at_ (Try.isAgg36 _) (B182.cell _ rfl)) (fun an188 n188 => ?_)
      have e189 := n188.ne rfl (n187.ne rfl (n178.ne rfl n165.at_))
      refine sv n188.ok rfl (wn _ rfl) rfl (o_fa (z := 1) e189 Try.underlying38 rfl (by kernel_rfl) rfl rfl) (fun an190 n190 => ?_)
      refine sv n190.ok rfl (wn _ rfl) rfl (o_ld n190.at_ (Try.isAgg36 _) (u180b.cell _ rfl)) (fun an191 n191 => ?_)
      refine sc n191.ok rfl (wn _ rfl) rfl (o_f2 Try.func20 rfl rfl rfl (n191.ne rfl (n190.ne rfl n188.at_)) n191.at_) (fwithin_ok (T := xh68.T) (U := xh162.T) ((hmj1.gr A184) xh68 (List.mem_of_getElem? h68x)).fs ((hmj1.gr A184) xh162 (List.mem_of_getElem? h162x)).fs) ?_
      rintro _ w193 ⟨rfl, g194⟩
      refine ⟨_, rfl, fun an192 n192 => ?_⟩
      have G195 := G181.trans g194
      have B196 := B182.gr g194
      have B197 := u180b.gr g194
      have A198 := A183.trans g194
      have A199 := A184.trans g194
      refine sv n192.ok rfl (wn _ rfl) rfl (o_mv n192.at_) (fun an200 n200 => ?_)
      refine sv n200.ok rfl (wn _ rfl) rfl (o_ex n200.at_ rfl) (fun an201 n201 => ?_)
      refine sv n201.ok rfl (wn _ rfl) rfl (o_ex (n201.ne rfl n200.at_) rfl) (fun an202 n202 => ?_)
      refine sv n202.ok rfl (wn _ rfl) rfl (o_as (n202.ne rfl n201.at_)) (fun an203 n203 => ?_)
      refine sv n203.ok rfl (wn _ rfl) rfl (o_as (n203.ne rfl n202.at_)) (fun an204 n204 => ?_)
      refine wpList_nil ?_
      refine th_n (hK185 _ _ ?_)
      refine wp_seq_k (fun K205 hK205 => ?_)
      refine wp_region_lit ?_
      have e206 := n204.ne rfl (n203.ne rfl (n202.ne rfl (n201.ne rfl (n200.ne rfl (n192.ne rfl (n191.ne rfl (n190.ne rfl (n188.ne rfl (n187.ne rfl e186)))))))))
      refine sv n204.ok rfl (wn _ rfl) rfl (o_fa (z := 2) e206 Try.underlying38 rfl (by kernel_rfl) rfl rfl) (fun an207 n207 => ?_)
      refine sv n207.ok rfl (wn _ rfl) rfl (o_ldA (k := 1) (cs := [.slice xh68.va xh68.vn xh68.vc, .slice xh68.ma xh68.mn xh68.mc]) n207.at_ (bk_part B196 rfl) Try.underlying35 rfl (by kernel_rfl)) (fun an208 n208 => ?_)
      have e209 := n208.ne rfl (n207.ne rfl (n204.ne rfl (n203.ne rfl (n202.ne rfl (n201.ne rfl (n200.ne rfl (n192.ne rfl (n191.ne rfl (n190.ne rfl e189)))))))))
      refine sv n208.ok rfl (wn _ rfl) rfl (o_fa (z := 2) e209 Try.underlying38 rfl (by kernel_rfl) rfl rfl) (fun an210 n210 => ?_)
      refine sv n210.ok rfl (wn _ rfl) rfl (o_ldA (k := 1) (cs := [.slice xh162.va xh162.vn xh162.vc, .slice xh162.ma xh162.mn xh162.mc]) n210.at_ (bk_part B197 rfl) Try.underlying35 rfl (by kernel_rfl)) (fun an211 n211 => ?_)
      refine sc n211.ok rfl (wn _ rfl) rfl (o_f2 Try.func21 rfl rfl rfl (n211.ne rfl (n210.ne rfl n208.at_)) n211.at_) (kwithin _ _ xh68.D xh162.D w193 ((hmj1.gr A199) xh68 (List.mem_of_getElem? h68x)).kn ((hmj1.gr A199) xh162 (List.mem_of_getElem? h162x)).kn ((hmj1.gr A199) xh68 (List.mem_of_getElem? h68x)).few ((hmj1.gr A199) xh162 (List.mem_of_getElem? h162x)).few) ?_
      rintro _ w213 ⟨rfl, g214⟩
      refine ⟨_, rfl, fun an212 n212 => ?_⟩
      have G215 := G195.trans g214
      have B216 := B196.gr g214
      have B217 := B197.gr g214
      have A218 := A198.trans g214
      have A219 := A199.trans g214
      refine sv n212.ok rfl (wn _ rfl) rfl (o_mv n212.at_) (fun an220 n220 => ?_)
      refine sv n220.ok rfl (wn _ rfl) rfl (o_ex n220.at_ rfl) (fun an221 n221 => ?_)
      refine sv n221.ok rfl (wn _ rfl) rfl (o_ex (n221.ne rfl n220.at_) rfl) (fun an222 n222 => ?_)
      refine sv n222.ok rfl (wn _ rfl) rfl (o_as (n222.ne rfl n221.at_)) (fun an223 n223 => ?_)
      refine sv n223.ok rfl (wn _ rfl) rfl (o_as (n223.ne rfl n222.at_)) (fun an224 n224 => ?_)
      refine wpList_nil ?_
      refine th_n (hK205 _ _ ?_)
      refine wp_seq_k (fun K225 hK225 => ?_)
      refine wp_region_lit ?_
      have e226 := n224.ne rfl (n223.ne rfl (n222.ne rfl (n221.ne rfl (n220.ne rfl (n212.ne rfl (n211.ne rfl (n210.ne rfl (n208.ne rfl (n207.ne rfl n204.at_)))))))))
      refine sv n224.ok rfl (wn _ rfl) rfl (o_mv e226) (fun an227 n227 => ?_)
      refine sv n227.ok rfl (wn _ rfl) rfl (o_neq (b := false) n227.at_ ev_const (by decide)) (fun an228 n228 => ?_)
      refine sv n228.ok rfl (wn _ rfl) rfl (o_mv n228.at_) (fun an229 n229 => ?_)
      have e230 := n229.ne rfl (n228.ne rfl (n227.ne rfl n224.at_))
      refine sv n229.ok rfl (wgT rfl (yl 2 false rfl n229.at_) rfl) rfl (o_mv e230) (fun an231 n231 => ?_)
      refine sv n231.ok rfl (wgT rfl (yl 2 false rfl (n231.ne rfl n229.at_)) rfl) rfl (o_neq (b := false) n231.at_ ev_const (by decide)) (fun an232 n232 => ?_)
      refine sv n232.ok rfl (wn _ rfl) rfl (o_pkF (n232.ne rfl (n231.ne rfl n229.at_)) n232.at_) (fun an233 n233 => ?_)
      refine sv n233.ok rfl (wn _ rfl) rfl (o_mv n233.at_) (fun an234 n234 => ?_)
      have e235 := n234.ne rfl (n233.ne rfl (n232.ne rfl (n231.ne rfl (n229.ne rfl (n228.ne rfl (n227.ne rfl (n224.ne rfl (n223.ne rfl (n222.ne rfl (n221.ne rfl (n220.ne rfl (n212.ne rfl (n211.ne rfl (n210.ne rfl (n208.ne rfl (n207.ne rfl (n204.ne rfl (n203.ne rfl (n202.ne rfl (n201.ne rfl (n200.ne rfl (n192.ne rfl (n191.ne rfl (n190.ne rfl (n188.ne rfl (n187.ne rfl (n178.ne rfl (n165.ne rfl (n164.ne rfl (n163.ne rfl (n161.ne rfl (n156.ne rfl s7I144))))))))))))))))))))))))))))))))
      refine sv n234.ok rfl (wgT rfl (yl 6 false rfl n234.at_) rfl) rfl (o_mv e235) (fun an236 n236 => ?_)
      have e237 := n236.ne rfl (n234.ne rfl (n233.ne rfl (n232.ne rfl (n231.ne rfl (n229.ne rfl (n228.ne rfl (n227.ne rfl (n224.ne rfl (n223.ne rfl (n222.ne rfl (n221.ne rfl (n220.ne rfl (n212.ne rfl (n211.ne rfl (n210.ne rfl (n208.ne rfl (n207.ne rfl (n204.ne rfl (n203.ne rfl (n202.ne rfl (n201.ne rfl (n200.ne rfl (n192.ne rfl (n191.ne rfl (n190.ne rfl (n188.ne rfl (n187.ne rfl n178.at_)))))))))))))))))))))))))))
      refine sv n236.ok rfl (wgT rfl (yl 6 false rfl (n236.ne rfl n234.at_)) rfl) rfl (o_mv e237) (fun an238 n238 => ?_)
      refine sv n238.ok rfl (wgT rfl (yl 6 false rfl (n238.ne rfl (n236.ne rfl n234.at_))) rfl) rfl (o_neI (n238.ne rfl n236.at_) n238.at_) (fun an239 n239 => ?_)
      have e240 := n239.ne rfl (n238.ne rfl (n236.ne rfl n234.at_))
      refine sv n239.ok rfl (wgT rfl (yl 6 false rfl e240) rfl) rfl (o_mv n239.at_) (fun an241 n241 => ?_)
      by_cases c242 : ¬ (i : Int) = (j : Int)
      · have e243 := (n241.at_).trans (congrArg Value.bool (decide_eq_true c242))
        have e244 := ((n241.ne rfl n239.at_)).trans (congrArg Value.bool (decide_eq_true c242))
        have e245 := n241.ne rfl (n239.ne rfl (n238.ne rfl (n236.ne rfl (n234.ne rfl (n233.ne rfl (n232.ne rfl (n231.ne rfl (n229.ne rfl (n228.ne rfl (n227.ne rfl (n224.ne rfl (n223.ne rfl (n222.ne rfl (n221.ne rfl (n220.ne rfl (n212.ne rfl (n211.ne rfl (n210.ne rfl (n208.ne rfl (n207.ne rfl (n204.ne rfl n203.at_)))))))))))))))))))))
        refine sv n241.ok rfl (wgT rfl (yl 10 true rfl e243) rfl) rfl (o_mv e245) (fun an246 n246 => ?_)
        refine sv n246.ok rfl (wgT rfl (yl 6 false rfl (n246.ne rfl (n241.ne rfl e240))) rfl) rfl (o_pkT (n246.ne rfl e243) n246.at_) (fun an247 n247 => ?_)
        have e248 := n247.ne rfl (n246.ne rfl (n241.ne rfl e240))
        refine sv n247.ok rfl (wgT rfl (yl 6 false rfl e248) rfl) rfl (o_mv n247.at_) (fun an249 n249 => ?_)
        cases c250 : (withinT xh68.T xh162.T)
        · have e251 := (n249.at_).trans (congrArg Value.bool (c250))
          have e252 := n249.ne rfl (n247.ne rfl (n246.ne rfl (n241.ne rfl (n239.ne rfl (n238.ne rfl (n236.ne rfl (n234.ne rfl (n233.ne rfl (n232.ne rfl (n231.ne rfl (n229.ne rfl (n228.ne rfl (n227.ne rfl (n224.ne rfl (n223.ne rfl (n222.ne rfl (n221.ne rfl (n220.ne rfl (n212.ne rfl (n211.ne rfl (n210.ne rfl (n208.ne rfl (n207.ne rfl (n204.ne rfl (n203.ne rfl (n202.ne rfl n201.at_))))))))))))))))))))))))))
          have e253 := (e252).trans (congrArg Value.bool (c250))
          have e254 := n249.ne rfl (n247.ne rfl (n246.ne rfl e245))
          have e255 := (e254).trans (congrArg Value.bool (c250))
          have e256 := ((n249.ne rfl (n247.ne rfl n246.at_))).trans (congrArg Value.bool (c250))
          have e257 := ((n249.ne rfl n247.at_)).trans (congrArg Value.bool (c250))
          refine sn n249.ok rfl (wgF rfl (yl 13 false rfl e251) rfl) rfl (fun an258 n258 => ?_)
          refine sv n258.ok rfl (wgT rfl (yl 6 false rfl (n258.ne rfl (n249.ne rfl e248))) rfl) rfl (o_pkF (n258.ne rfl e251) ev_const) (fun an259 n259 => ?_)
          have e260 := n259.ne rfl (n258.ne rfl (n249.ne rfl e248))
          refine sv n259.ok rfl (wn _ rfl) rfl (o_pkF e260 n259.at_) (fun an261 n261 => ?_)
          refine wpList_nil ?_
          refine th_n (hK225 _ _ ?_)
          refine wp_cond_false (n261.at_) ?_
          refine wp_skip ?_
          refine ib_n ?_
          refine th_n (hK159 _ _ ?_)
          refine wp_region_lit ?_
          have e262 := n261.ne rfl (n259.ne rfl (n258.ne rfl (n249.ne rfl (n247.ne rfl (n246.ne rfl (n241.ne rfl (n239.ne rfl (n238.ne rfl (n236.ne rfl (n234.ne rfl (n233.ne rfl (n232.ne rfl (n231.ne rfl (n229.ne rfl (n228.ne rfl (n227.ne rfl (n224.ne rfl (n223.ne rfl (n222.ne rfl (n221.ne rfl (n220.ne rfl (n212.ne rfl (n211.ne rfl (n210.ne rfl (n208.ne rfl (n207.ne rfl (n204.ne rfl (n203.ne rfl (n202.ne rfl (n201.ne rfl (n200.ne rfl (n192.ne rfl (n191.ne rfl (n190.ne rfl (n188.ne rfl (n187.ne rfl (n178.ne rfl (n165.ne rfl (n164.ne rfl (n163.ne rfl (n161.ne rfl (n156.ne rfl s70I144))))))))))))))))))))))))))))))))))))))))))
          refine sv n261.ok rfl (wn _ rfl) rfl (o_add (r := ((j + 1 : Nat) : Int)) e262 ev_const (by omega) (by omega)) (fun an263 n263 => ?_)
          refine sv n263.ok rfl (wn _ rfl) rfl (o_mv n263.at_) (fun an264 n264 => ?_)
          refine wpList_nil ?_
          have e265 := n264.ne rfl (n263.ne rfl (n261.ne rfl (n259.ne rfl (n258.ne rfl (n249.ne rfl (n247.ne rfl (n246.ne rfl (n241.ne rfl (n239.ne rfl (n238.ne rfl (n236.ne rfl (n234.ne rfl (n233.ne rfl (n232.ne rfl (n231.ne rfl (n229.ne rfl (n228.ne rfl (n227.ne rfl (n224.ne rfl (n223.ne rfl (n222.ne rfl (n221.ne rfl (n220.ne rfl (n212.ne rfl (n211.ne rfl (n210.ne rfl (n208.ne rfl (n207.ne rfl (n204.ne rfl (n203.ne rfl (n202.ne rfl (n201.ne rfl (n200.ne rfl (n192.ne rfl (n191.ne rfl (n190.ne rfl (n188.ne rfl (n187.ne rfl (n178.ne rfl (n165.ne rfl (n164.ne rfl (n163.ne rfl (n161.ne rfl (n156.ne rfl s4I144))))))))))))))))))))))))))))))))))))))))))))
          have e266 := n264.ne rfl (n263.ne rfl (n261.ne rfl (n259.ne rfl (n258.ne rfl (n249.ne rfl (n247.ne rfl (n246.ne rfl (n241.ne rfl (n239.ne rfl (n238.ne rfl (n236.ne rfl (n234.ne rfl (n233.ne rfl (n232.ne rfl (n231.ne rfl (n229.ne rfl (n228.ne rfl (n227.ne rfl (n224.ne rfl (n223.ne rfl (n222.ne rfl (n221.ne rfl (n220.ne rfl (n212.ne rfl (n211.ne rfl (n210.ne rfl (n208.ne rfl (n207.ne rfl (n204.ne rfl (n203.ne rfl (n202.ne rfl (n201.ne rfl (n200.ne rfl (n192.ne rfl (n191.ne rfl (n190.ne rfl (n188.ne rfl (n187.ne rfl (n178.ne rfl (n165.ne rfl (n164.ne rfl (n163.ne rfl (n161.ne rfl (n156.ne rfl s5I144))))))))))))))))))))))))))))))))))))))))))))
          have e267 := n264.ne rfl (n263.ne rfl (n261.ne rfl (n259.ne rfl (n258.ne rfl (n249.ne rfl (n247.ne rfl (n246.ne rfl (n241.ne rfl (n239.ne rfl (n238.ne rfl (n236.ne rfl e235)))))))))))
          have e268 := n264.ne rfl (n263.ne rfl (n261.ne rfl (n259.ne rfl (n258.ne rfl (n249.ne rfl (n247.ne rfl (n246.ne rfl (n241.ne rfl (n239.ne rfl (n238.ne rfl (n236.ne rfl (n234.ne rfl (n233.ne rfl (n232.ne rfl (n231.ne rfl (n229.ne rfl (n228.ne rfl (n227.ne rfl (n224.ne rfl (n223.ne rfl (n222.ne rfl (n221.ne rfl (n220.ne rfl (n212.ne rfl (n211.ne rfl (n210.ne rfl (n208.ne rfl (n207.ne rfl e206))))))))))))))))))))))))))))
          have e269 := n264.ne rfl (n263.ne rfl (n261.ne rfl (n259.ne rfl (n258.ne rfl (n249.ne rfl (n247.ne rfl (n246.ne rfl (n241.ne rfl (n239.ne rfl (n238.ne rfl (n236.ne rfl (n234.ne rfl (n233.ne rfl (n232.ne rfl (n231.ne rfl (n229.ne rfl (n228.ne rfl (n227.ne rfl (n224.ne rfl (n223.ne rfl (n222.ne rfl (n221.ne rfl (n220.ne rfl (n212.ne rfl (n211.ne rfl (n210.ne rfl (n208.ne rfl (n207.ne rfl (n204.ne rfl (n203.ne rfl (n202.ne rfl (n201.ne rfl (n200.ne rfl (n192.ne rfl (n191.ne rfl (n190.ne rfl (n188.ne rfl (n187.ne rfl (n178.ne rfl (n165.ne rfl (n164.ne rfl (n163.ne rfl (n161.ne rfl (n156.ne rfl s35I144))))))))))))))))))))))))))))))))))))))))))))
          have e270 := n264.ne rfl (n263.ne rfl (n261.ne rfl (n259.ne rfl (n258.ne rfl (n249.ne rfl (n247.ne rfl (n246.ne rfl (n241.ne rfl (n239.ne rfl (n238.ne rfl (n236.ne rfl (n234.ne rfl (n233.ne rfl (n232.ne rfl (n231.ne rfl (n229.ne rfl (n228.ne rfl (n227.ne rfl (n224.ne rfl (n223.ne rfl (n222.ne rfl (n221.ne rfl (n220.ne rfl (n212.ne rfl (n211.ne rfl (n210.ne rfl (n208.ne rfl (n207.ne rfl (n204.ne rfl (n203.ne rfl (n202.ne rfl (n201.ne rfl (n200.ne rfl (n192.ne rfl (n191.ne rfl (n190.ne rfl (n188.ne rfl (n187.ne rfl (n178.ne rfl (n165.ne rfl (n164.ne rfl (n163.ne rfl (n161.ne rfl (n156.ne rfl s36I144))))))))))))))))))))))))))))))))))))))))))))
          have e271 := n264.ne rfl (n263.ne rfl (n261.ne rfl (n259.ne rfl (n258.ne rfl (n249.ne rfl (n247.ne rfl (n246.ne rfl (n241.ne rfl (n239.ne rfl (n238.ne rfl (n236.ne rfl (n234.ne rfl (n233.ne rfl (n232.ne rfl (n231.ne rfl (n229.ne rfl (n228.ne rfl (n227.ne rfl (n224.ne rfl (n223.ne rfl (n222.ne rfl (n221.ne rfl (n220.ne rfl (n212.ne rfl (n211.ne rfl (n210.ne rfl (n208.ne rfl (n207.ne rfl (n204.ne rfl (n203.ne rfl (n202.ne rfl (n201.ne rfl (n200.ne rfl (n192.ne rfl (n191.ne rfl (n190.ne rfl (n188.ne rfl (n187.ne rfl (n178.ne rfl (n165.ne rfl (n164.ne rfl (n163.ne rfl (n161.ne rfl (n156.ne rfl s37I144))))))))))))))))))))))))))))))))))))))))))))
          have e272 := n264.ne rfl (n263.ne rfl (n261.ne rfl (n259.ne rfl (n258.ne rfl (n249.ne rfl (n247.ne rfl (n246.ne rfl (n241.ne rfl (n239.ne rfl (n238.ne rfl (n236.ne rfl (n234.ne rfl (n233.ne rfl (n232.ne rfl (n231.ne rfl (n229.ne rfl (n228.ne rfl (n227.ne rfl (n224.ne rfl (n223.ne rfl (n222.ne rfl (n221.ne rfl (n220.ne rfl (n212.ne rfl (n211.ne rfl (n210.ne rfl (n208.ne rfl (n207.ne rfl (n204.ne rfl (n203.ne rfl (n202.ne rfl (n201.ne rfl (n200.ne rfl (n192.ne rfl (n191.ne rfl (n190.ne rfl (n188.ne rfl (n187.ne rfl (n178.ne rfl (n165.ne rfl (n164.ne rfl (n163.ne rfl (n161.ne rfl (n156.ne rfl s68I144))))))))))))))))))))))))))))))))))))))))))))
          have e273 := n264.ne rfl (n263.ne rfl (n261.ne rfl (n259.ne rfl (n258.ne rfl (n249.ne rfl (n247.ne rfl (n246.ne rfl (n241.ne rfl (n239.ne rfl (n238.ne rfl (n236.ne rfl (n234.ne rfl (n233.ne rfl (n232.ne rfl (n231.ne rfl (n229.ne rfl (n228.ne rfl (n227.ne rfl (n224.ne rfl (n223.ne rfl (n222.ne rfl (n221.ne rfl (n220.ne rfl (n212.ne rfl (n211.ne rfl (n210.ne rfl (n208.ne rfl (n207.ne rfl (n204.ne rfl (n203.ne rfl (n202.ne rfl (n201.ne rfl (n200.ne rfl (n192.ne rfl (n191.ne rfl (n190.ne rfl (n188.ne rfl (n187.ne rfl (n178.ne rfl (n165.ne rfl (n164.ne rfl (n163.ne rfl (n161.ne rfl (n156.ne rfl s69I144))))))))))))))))))))))))))))))))))))))))))))
          exact th_n (hKI144 _ _ _ (by omega) ⟨j + 1, rfl, n264.ok, G215, e265, e266, e267, e268, e269, e270, e271, e272, e273, n264.at_, B216, A218, A219, by omega⟩)
        · have e274 := (n249.at_).trans (congrArg Value.bool (c250))
          have e275 := n249.ne rfl (n247.ne rfl (n246.ne rfl (n241.ne rfl (n239.ne rfl (n238.ne rfl (n236.ne rfl (n234.ne rfl (n233.ne rfl (n232.ne rfl (n231.ne rfl (n229.ne rfl (n228.ne rfl (n227.ne rfl (n224.ne rfl (n223.ne rfl (n222.ne rfl (n221.ne rfl (n220.ne rfl (n212.ne rfl (n211.ne rfl (n210.ne rfl (n208.ne rfl (n207.ne rfl (n204.ne rfl (n203.ne rfl (n202.ne rfl n201.at_))))))))))))))))))))))))))
          have e276 := (e275).trans (congrArg Value.bool (c250))
          have e277 := n249.ne rfl (n247.ne rfl (n246.ne rfl e245))
          have e278 := (e277).trans (congrArg Value.bool (c250))
          have e279 := ((n249.ne rfl (n247.ne rfl n246.at_))).trans (congrArg Value.bool (c250))
          have e280 := ((n249.ne rfl n247.at_)).trans (congrArg Value.bool (c250))
          have e281 := n249.ne rfl (n247.ne rfl (n246.ne rfl (n241.ne rfl (n239.ne rfl (n238.ne rfl (n236.ne rfl (n234.ne rfl (n233.ne rfl (n232.ne rfl (n231.ne rfl (n229.ne rfl (n228.ne rfl (n227.ne rfl (n224.ne rfl n223.at_))))))))))))))
          refine sv n249.ok rfl (wgT rfl (yl 13 true rfl e274) rfl) rfl (o_mv e281) (fun an282 n282 => ?_)
          refine sv n282.ok rfl (wgT rfl (yl 6 false rfl (n282.ne rfl (n249.ne rfl e248))) rfl) rfl (o_pkT (n282.ne rfl e274) n282.at_) (fun an283 n283 => ?_)
          have e284 := n283.ne rfl (n282.ne rfl (n249.ne rfl e248))
          refine sv n283.ok rfl (wn _ rfl) rfl (o_pkF e284 n283.at_) (fun an285 n285 => ?_)
          refine wpList_nil ?_
          refine th_n (hK225 _ _ ?_)
          cases c286 : (wS xh68.D xh162.D)
          · refine wp_cond_false ((n285.at_).trans (congrArg Value.bool (c286))) ?_
            refine wp_skip ?_
            refine ib_n ?_
            refine th_n (hK159 _ _ ?_)
            refine wp_region_lit ?_
            have e287 := n285.ne rfl (n283.ne rfl (n282.ne rfl (n249.ne rfl (n247.ne rfl (n246.ne rfl (n241.ne rfl (n239.ne rfl (n238.ne rfl (n236.ne rfl (n234.ne rfl (n233.ne rfl (n232.ne rfl (n231.ne rfl (n229.ne rfl (n228.ne rfl (n227.ne rfl (n224.ne rfl (n223.ne rfl (n222.ne rfl (n221.ne rfl (n220.ne rfl (n212.ne rfl (n211.ne rfl (n210.ne rfl (n208.ne rfl (n207.ne rfl (n204.ne rfl (n203.ne rfl (n202.ne rfl (n201.ne rfl (n200.ne rfl (n192.ne rfl (n191.ne rfl (n190.ne rfl (n188.ne rfl (n187.ne rfl (n178.ne rfl (n165.ne rfl (n164.ne rfl (n163.ne rfl (n161.ne rfl (n156.ne rfl s70I144))))))))))))))))))))))))))))))))))))))))))
            refine sv n285.ok rfl (wn _ rfl) rfl (o_add (r := ((j + 1 : Nat) : Int)) e287 ev_const (by omega) (by omega)) (fun an288 n288 => ?_)
            refine sv n288.ok rfl (wn _ rfl) rfl (o_mv n288.at_) (fun an289 n289 => ?_)
            refine wpList_nil ?_
            have e290 := n289.ne rfl (n288.ne rfl (n285.ne rfl (n283.ne rfl (n282.ne rfl (n249.ne rfl (n247.ne rfl (n246.ne rfl (n241.ne rfl (n239.ne rfl (n238.ne rfl (n236.ne rfl (n234.ne rfl (n233.ne rfl (n232.ne rfl (n231.ne rfl (n229.ne rfl (n228.ne rfl (n227.ne rfl (n224.ne rfl (n223.ne rfl (n222.ne rfl (n221.ne rfl (n220.ne rfl (n212.ne rfl (n211.ne rfl (n210.ne rfl (n208.ne rfl (n207.ne rfl (n204.ne rfl (n203.ne rfl (n202.ne rfl (n201.ne rfl (n200.ne rfl (n192.ne rfl (n191.ne rfl (n190.ne rfl (n188.ne rfl (n187.ne rfl (n178.ne rfl (n165.ne rfl (n164.ne rfl (n163.ne rfl (n161.ne rfl (n156.ne rfl s4I144))))))))))))))))))))))))))))))))))))))))))))
            have e291 := n289.ne rfl (n288.ne rfl (n285.ne rfl (n283.ne rfl (n282.ne rfl (n249.ne rfl (n247.ne rfl (n246.ne rfl (n241.ne rfl (n239.ne rfl (n238.ne rfl (n236.ne rfl (n234.ne rfl (n233.ne rfl (n232.ne rfl (n231.ne rfl (n229.ne rfl (n228.ne rfl (n227.ne rfl (n224.ne rfl (n223.ne rfl (n222.ne rfl (n221.ne rfl (n220.ne rfl (n212.ne rfl (n211.ne rfl (n210.ne rfl (n208.ne rfl (n207.ne rfl (n204.ne rfl (n203.ne rfl (n202.ne rfl (n201.ne rfl (n200.ne rfl (n192.ne rfl (n191.ne rfl (n190.ne rfl (n188.ne rfl (n187.ne rfl (n178.ne rfl (n165.ne rfl (n164.ne rfl (n163.ne rfl (n161.ne rfl (n156.ne rfl s5I144))))))))))))))))))))))))))))))))))))))))))))
            have e292 := n289.ne rfl (n288.ne rfl (n285.ne rfl (n283.ne rfl (n282.ne rfl (n249.ne rfl (n247.ne rfl (n246.ne rfl (n241.ne rfl (n239.ne rfl (n238.ne rfl (n236.ne rfl e235)))))))))))
            have e293 := n289.ne rfl (n288.ne rfl (n285.ne rfl (n283.ne rfl (n282.ne rfl (n249.ne rfl (n247.ne rfl (n246.ne rfl (n241.ne rfl (n239.ne rfl (n238.ne rfl (n236.ne rfl (n234.ne rfl (n233.ne rfl (n232.ne rfl (n231.ne rfl (n229.ne rfl (n228.ne rfl (n227.ne rfl (n224.ne rfl (n223.ne rfl (n222.ne rfl (n221.ne rfl (n220.ne rfl (n212.ne rfl (n211.ne rfl (n210.ne rfl (n208.ne rfl (n207.ne rfl e206))))))))))))))))))))))))))))
            have e294 := n289.ne rfl (n288.ne rfl (n285.ne rfl (n283.ne rfl (n282.ne rfl (n249.ne rfl (n247.ne rfl (n246.ne rfl (n241.ne rfl (n239.ne rfl (n238.ne rfl (n236.ne rfl (n234.ne rfl (n233.ne rfl (n232.ne rfl (n231.ne rfl (n229.ne rfl (n228.ne rfl (n227.ne rfl (n224.ne rfl (n223.ne rfl (n222.ne rfl (n221.ne rfl (n220.ne rfl (n212.ne rfl (n211.ne rfl (n210.ne rfl (n208.ne rfl (n207.ne rfl (n204.ne rfl (n203.ne rfl (n202.ne rfl (n201.ne rfl (n200.ne rfl (n192.ne rfl (n191.ne rfl (n190.ne rfl (n188.ne rfl (n187.ne rfl (n178.ne rfl (n165.ne rfl (n164.ne rfl (n163.ne rfl (n161.ne rfl (n156.ne rfl s35I144))))))))))))))))))))))))))))))))))))))))))))
            have e295 := n289.ne rfl (n288.ne rfl (n285.ne rfl (n283.ne rfl (n282.ne rfl (n249.ne rfl (n247.ne rfl (n246.ne rfl (n241.ne rfl (n239.ne rfl (n238.ne rfl (n236.ne rfl (n234.ne rfl (n233.ne rfl (n232.ne rfl (n231.ne rfl (n229.ne rfl (n228.ne rfl (n227.ne rfl (n224.ne rfl (n223.ne rfl (n222.ne rfl (n221.ne rfl (n220.ne rfl (n212.ne rfl (n211.ne rfl (n210.ne rfl (n208.ne rfl (n207.ne rfl (n204.ne rfl (n203.ne rfl (n202.ne rfl (n201.ne rfl (n200.ne rfl (n192.ne rfl (n191.ne rfl (n190.ne rfl (n188.ne rfl (n187.ne rfl (n178.ne rfl (n165.ne rfl (n164.ne rfl (n163.ne rfl (n161.ne rfl (n156.ne rfl s36I144))))))))))))))))))))))))))))))))))))))))))))
            have e296 := n289.ne rfl (n288.ne rfl (n285.ne rfl (n283.ne rfl (n282.ne rfl (n249.ne rfl (n247.ne rfl (n246.ne rfl (n241.ne rfl (n239.ne rfl (n238.ne rfl (n236.ne rfl (n234.ne rfl (n233.ne rfl (n232.ne rfl (n231.ne rfl (n229.ne rfl (n228.ne rfl (n227.ne rfl (n224.ne rfl (n223.ne rfl (n222.ne rfl (n221.ne rfl (n220.ne rfl (n212.ne rfl (n211.ne rfl (n210.ne rfl (n208.ne rfl (n207.ne rfl (n204.ne rfl (n203.ne rfl (n202.ne rfl (n201.ne rfl (n200.ne rfl (n192.ne rfl (n191.ne rfl (n190.ne rfl (n188.ne rfl (n187.ne rfl (n178.ne rfl (n165.ne rfl (n164.ne rfl (n163.ne rfl (n161.ne rfl (n156.ne rfl s37I144))))))))))))))))))))))))))))))))))))))))))))
            have e297 := n289.ne rfl (n288.ne rfl (n285.ne rfl (n283.ne rfl (n282.ne rfl (n249.ne rfl (n247.ne rfl (n246.ne rfl (n241.ne rfl (n239.ne rfl (n238.ne rfl (n236.ne rfl (n234.ne rfl (n233.ne rfl (n232.ne rfl (n231.ne rfl (n229.ne rfl (n228.ne rfl (n227.ne rfl (n224.ne rfl (n223.ne rfl (n222.ne rfl (n221.ne rfl (n220.ne rfl (n212.ne rfl (n211.ne rfl (n210.ne rfl (n208.ne rfl (n207.ne rfl (n204.ne rfl (n203.ne rfl (n202.ne rfl (n201.ne rfl (n200.ne rfl (n192.ne rfl (n191.ne rfl (n190.ne rfl (n188.ne rfl (n187.ne rfl (n178.ne rfl (n165.ne rfl (n164.ne rfl (n163.ne rfl (n161.ne rfl (n156.ne rfl s68I144))))))))))))))))))))))))))))))))))))))))))))
            have e298 := n289.ne rfl (n288.ne rfl (n285.ne rfl (n283.ne rfl (n282.ne rfl (n249.ne rfl (n247.ne rfl (n246.ne rfl (n241.ne rfl (n239.ne rfl (n238.ne rfl (n236.ne rfl (n234.ne rfl (n233.ne rfl (n232.ne rfl (n231.ne rfl (n229.ne rfl (n228.ne rfl (n227.ne rfl (n224.ne rfl (n223.ne rfl (n222.ne rfl (n221.ne rfl (n220.ne rfl (n212.ne rfl (n211.ne rfl (n210.ne rfl (n208.ne rfl (n207.ne rfl (n204.ne rfl (n203.ne rfl (n202.ne rfl (n201.ne rfl (n200.ne rfl (n192.ne rfl (n191.ne rfl (n190.ne rfl (n188.ne rfl (n187.ne rfl (n178.ne rfl (n165.ne rfl (n164.ne rfl (n163.ne rfl (n161.ne rfl (n156.ne rfl s69I144))))))))))))))))))))))))))))))))))))))))))))
            exact th_n (hKI144 _ _ _ (by omega) ⟨j + 1, rfl, n289.ok, G215, e290, e291, e292, e293, e294, e295, e296, e297, e298, n289.at_, B216, A218, A219, by omega⟩)
          · refine wp_cond_true ((n285.at_).trans (congrArg Value.bool (c286))) ?_
            refine wp_seq_k (fun K299 hK299 => ?_)
            refine wp_region_lit ?_
            refine sv n285.ok rfl (wn _ rfl) rfl (o_as ev_const) (fun an300 n300 => ?_)
            refine wpList_nil ?_
            refine th_n (hK299 _ _ ?_)
            refine wp_ret ?_
            refine ib_r ?_
            refine th_r ?_
            refine th_r ?_
            refine ib_r ?_
            refine ib_r ?_
            refine th_r ?_
            refine th_r ?_
            refine ib_r ?_
            refine th_r ?_
            exact ret1 n300.ok rfl (n300.at_) (by
                exfalso
                have hu := hfj1.no i j xh68 xh162 h68x h162x (fun q => c242 (by rw [q]))
                unfold underP at hu
                rw [c286, c250] at hu
                cases hu)
      · have e301 := (n241.at_).trans (congrArg Value.bool (decide_eq_false c242))
        have e302 := ((n241.ne rfl n239.at_)).trans (congrArg Value.bool (decide_eq_false c242))
        refine sn n241.ok rfl (wgF rfl (yl 10 false rfl e301) rfl) rfl (fun an303 n303 => ?_)
        refine sv n303.ok rfl (wgT rfl (yl 6 false rfl (n303.ne rfl (n241.ne rfl e240))) rfl) rfl (o_pkF (n303.ne rfl e301) ev_const) (fun an304 n304 => ?_)
        have e305 := n304.ne rfl (n303.ne rfl (n241.ne rfl e240))
        refine sv n304.ok rfl (wgT rfl (yl 6 false rfl e305) rfl) rfl (o_mv n304.at_) (fun an306 n306 => ?_)
        refine sn n306.ok rfl (wgF rfl (yl 13 false rfl n306.at_) rfl) rfl (fun an307 n307 => ?_)
        refine sv n307.ok rfl (wgT rfl (yl 6 false rfl (n307.ne rfl (n306.ne rfl e305))) rfl) rfl (o_pkF (n307.ne rfl n306.at_) ev_const) (fun an308 n308 => ?_)
        have e309 := n308.ne rfl (n307.ne rfl (n306.ne rfl e305))
        refine sv n308.ok rfl (wn _ rfl) rfl (o_pkF e309 n308.at_) (fun an310 n310 => ?_)
        refine wpList_nil ?_
        refine th_n (hK225 _ _ ?_)
        refine wp_cond_false (n310.at_) ?_
        refine wp_skip ?_
        refine ib_n ?_
        refine th_n (hK159 _ _ ?_)
        refine wp_region_lit ?_
        have e311 := n310.ne rfl (n308.ne rfl (n307.ne rfl (n306.ne rfl (n304.ne rfl (n303.ne rfl (n241.ne rfl (n239.ne rfl (n238.ne rfl (n236.ne rfl (n234.ne rfl (n233.ne rfl (n232.ne rfl (n231.ne rfl (n229.ne rfl (n228.ne rfl (n227.ne rfl (n224.ne rfl (n223.ne rfl (n222.ne rfl (n221.ne rfl (n220.ne rfl (n212.ne rfl (n211.ne rfl (n210.ne rfl (n208.ne rfl (n207.ne rfl (n204.ne rfl (n203.ne rfl (n202.ne rfl (n201.ne rfl (n200.ne rfl (n192.ne rfl (n191.ne rfl (n190.ne rfl (n188.ne rfl (n187.ne rfl (n178.ne rfl (n165.ne rfl (n164.ne rfl (n163.ne rfl (n161.ne rfl (n156.ne rfl s70I144))))))))))))))))))))))))))))))))))))))))))
        refine sv n310.ok rfl (wn _ rfl) rfl (o_add (r := ((j + 1 : Nat) : Int)) e311 ev_const (by omega) (by omega)) (fun an312 n312 => ?_)
        refine sv n312.ok rfl (wn _ rfl) rfl (o_mv n312.at_) (fun an313 n313 => ?_)
        refine wpList_nil ?_
        have e314 := n313.ne rfl (n312.ne rfl (n310.ne rfl (n308.ne rfl (n307.ne rfl (n306.ne rfl (n304.ne rfl (n303.ne rfl (n241.ne rfl (n239.ne rfl (n238.ne rfl (n236.ne rfl (n234.ne rfl (n233.ne rfl (n232.ne rfl (n231.ne rfl (n229.ne rfl (n228.ne rfl (n227.ne rfl (n224.ne rfl (n223.ne rfl (n222.ne rfl (n221.ne rfl (n220.ne rfl (n212.ne rfl (n211.ne rfl (n210.ne rfl (n208.ne rfl (n207.ne rfl (n204.ne rfl (n203.ne rfl (n202.ne rfl (n201.ne rfl (n200.ne rfl (n192.ne rfl (n191.ne rfl (n190.ne rfl (n188.ne rfl (n187.ne rfl (n178.ne rfl (n165.ne rfl (n164.ne rfl (n163.ne rfl (n161.ne rfl (n156.ne rfl s4I144))))))))))))))))))))))))))))))))))))))))))))
        have e315 := n313.ne rfl (n312.ne rfl (n310.ne rfl (n308.ne rfl (n307.ne rfl (n306.ne rfl (n304.ne rfl (n303.ne rfl (n241.ne rfl (n239.ne rfl (n238.ne rfl (n236.ne rfl (n234.ne rfl (n233.ne rfl (n232.ne rfl (n231.ne rfl (n229.ne rfl (n228.ne rfl (n227.ne rfl (n224.ne rfl (n223.ne rfl (n222.ne rfl (n221.ne rfl (n220.ne rfl (n212.ne rfl (n211.ne rfl (n210.ne rfl (n208.ne rfl (n207.ne rfl (n204.ne rfl (n203.ne rfl (n202.ne rfl (n201.ne rfl (n200.ne rfl (n192.ne rfl (n191.ne rfl (n190.ne rfl (n188.ne rfl (n187.ne rfl (n178.ne rfl (n165.ne rfl (n164.ne rfl (n163.ne rfl (n161.ne rfl (n156.ne rfl s5I144))))))))))))))))))))))))))))))))))))))))))))
        have e316 := n313.ne rfl (n312.ne rfl (n310.ne rfl (n308.ne rfl (n307.ne rfl (n306.ne rfl (n304.ne rfl (n303.ne rfl (n241.ne rfl (n239.ne rfl (n238.ne rfl (n236.ne rfl e235)))))))))))
        have e317 := n313.ne rfl (n312.ne rfl (n310.ne rfl (n308.ne rfl (n307.ne rfl (n306.ne rfl (n304.ne rfl (n303.ne rfl (n241.ne rfl (n239.ne rfl (n238.ne rfl (n236.ne rfl (n234.ne rfl (n233.ne rfl (n232.ne rfl (n231.ne rfl (n229.ne rfl (n228.ne rfl (n227.ne rfl (n224.ne rfl (n223.ne rfl (n222.ne rfl (n221.ne rfl (n220.ne rfl (n212.ne rfl (n211.ne rfl (n210.ne rfl (n208.ne rfl (n207.ne rfl e206))))))))))))))))))))))))))))
        have e318 := n313.ne rfl (n312.ne rfl (n310.ne rfl (n308.ne rfl (n307.ne rfl (n306.ne rfl (n304.ne rfl (n303.ne rfl (n241.ne rfl (n239.ne rfl (n238.ne rfl (n236.ne rfl (n234.ne rfl (n233.ne rfl (n232.ne rfl (n231.ne rfl (n229.ne rfl (n228.ne rfl (n227.ne rfl (n224.ne rfl (n223.ne rfl (n222.ne rfl (n221.ne rfl (n220.ne rfl (n212.ne rfl (n211.ne rfl (n210.ne rfl (n208.ne rfl (n207.ne rfl (n204.ne rfl (n203.ne rfl (n202.ne rfl (n201.ne rfl (n200.ne rfl (n192.ne rfl (n191.ne rfl (n190.ne rfl (n188.ne rfl (n187.ne rfl (n178.ne rfl (n165.ne rfl (n164.ne rfl (n163.ne rfl (n161.ne rfl (n156.ne rfl s35I144))))))))))))))))))))))))))))))))))))))))))))
        have e319 := n313.ne rfl (n312.ne rfl (n310.ne rfl (n308.ne rfl (n307.ne rfl (n306.ne rfl (n304.ne rfl (n303.ne rfl (n241.ne rfl (n239.ne rfl (n238.ne rfl (n236.ne rfl (n234.ne rfl (n233.ne rfl (n232.ne rfl (n231.ne rfl (n229.ne rfl (n228.ne rfl (n227.ne rfl (n224.ne rfl (n223.ne rfl (n222.ne rfl (n221.ne rfl (n220.ne rfl (n212.ne rfl (n211.ne rfl (n210.ne rfl (n208.ne rfl (n207.ne rfl (n204.ne rfl (n203.ne rfl (n202.ne rfl (n201.ne rfl (n200.ne rfl (n192.ne rfl (n191.ne rfl (n190.ne rfl (n188.ne rfl (n187.ne rfl (n178.ne rfl (n165.ne rfl (n164.ne rfl (n163.ne rfl (n161.ne rfl (n156.ne rfl s36I144))))))))))))))))))))))))))))))))))))))))))))
        have e320 := n313.ne rfl (n312.ne rfl (n310.ne rfl (n308.ne rfl (n307.ne rfl (n306.ne rfl (n304.ne rfl (n303.ne rfl (n241.ne rfl (n239.ne rfl (n238.ne rfl (n236.ne rfl (n234.ne rfl (n233.ne rfl (n232.ne rfl (n231.ne rfl (n229.ne rfl (n228.ne rfl (n227.ne rfl (n224.ne rfl (n223.ne rfl (n222.ne rfl (n221.ne rfl (n220.ne rfl (n212.ne rfl (n211.ne rfl (n210.ne rfl (n208.ne rfl (n207.ne rfl (n204.ne rfl (n203.ne rfl (n202.ne rfl (n201.ne rfl (n200.ne rfl (n192.ne rfl (n191.ne rfl (n190.ne rfl (n188.ne rfl (n187.ne rfl (n178.ne rfl (n165.ne rfl (n164.ne rfl (n163.ne rfl (n161.ne rfl (n156.ne rfl s37I144))))))))))))))))))))))))))))))))))))))))))))
        have e321 := n313.ne rfl (n312.ne rfl (n310.ne rfl (n308.ne rfl (n307.ne rfl (n306.ne rfl (n304.ne rfl (n303.ne rfl (n241.ne rfl (n239.ne rfl (n238.ne rfl (n236.ne rfl (n234.ne rfl (n233.ne rfl (n232.ne rfl (n231.ne rfl (n229.ne rfl (n228.ne rfl (n227.ne rfl (n224.ne rfl (n223.ne rfl (n222.ne rfl (n221.ne rfl (n220.ne rfl (n212.ne rfl (n211.ne rfl (n210.ne rfl (n208.ne rfl (n207.ne rfl (n204.ne rfl (n203.ne rfl (n202.ne rfl (n201.ne rfl (n200.ne rfl (n192.ne rfl (n191.ne rfl (n190.ne rfl (n188.ne rfl (n187.ne rfl (n178.ne rfl (n165.ne rfl (n164.ne rfl (n163.ne rfl (n161.ne rfl (n156.ne rfl s68I144))))))))))))))))))))))))))))))))))))))))))))
        have e322 := n313.ne rfl (n312.ne rfl (n310.ne rfl (n308.ne rfl (n307.ne rfl (n306.ne rfl (n304.ne rfl (n303.ne rfl (n241.ne rfl (n239.ne rfl (n238.ne rfl (n236.ne rfl (n234.ne rfl (n233.ne rfl (n232.ne rfl (n231.ne rfl (n229.ne rfl (n228.ne rfl (n227.ne rfl (n224.ne rfl (n223.ne rfl (n222.ne rfl (n221.ne rfl (n220.ne rfl (n212.ne rfl (n211.ne rfl (n210.ne rfl (n208.ne rfl (n207.ne rfl (n204.ne rfl (n203.ne rfl (n202.ne rfl (n201.ne rfl (n200.ne rfl (n192.ne rfl (n191.ne rfl (n190.ne rfl (n188.ne rfl (n187.ne rfl (n178.ne rfl (n165.ne rfl (n164.ne rfl (n163.ne rfl (n161.ne rfl (n156.ne rfl s69I144))))))))))))))))))))))))))))))))))))))))))))
        exact th_n (hKI144 _ _ _ (by omega) ⟨j + 1, rfl, n313.ok, G215, e314, e315, e316, e317, e318, e319, e320, e321, e322, n313.at_, B216, A218, A219, by omega⟩)
    · refine wp_cond_false ((n156.at_).trans (congrArg Value.bool (decide_eq_false c158))) ?_
      refine wp_exit ?_
      refine th_x ?_
      refine th_x ?_
      refine ib_x ?_
      refine ib_n ?_
      refine th_n (hK65 _ _ ?_)
      refine wp_region_lit ?_
      refine sv n156.ok rfl (wn _ rfl) rfl (o_add (r := ((i + 1 : Nat) : Int)) (n156.ne rfl s37I144) ev_const (by omega) (by omega)) (fun an323 n323 => ?_)
      refine sv n323.ok rfl (wn _ rfl) rfl (o_mv n323.at_) (fun an324 n324 => ?_)
      refine wpList_nil ?_
      have e325 := n324.ne rfl (n323.ne rfl (n156.ne rfl s4I144))
      have e326 := n324.ne rfl (n323.ne rfl (n156.ne rfl s5I144))
      have e327 := n324.ne rfl (n323.ne rfl (n156.ne rfl s35I144))
      have e328 := n324.ne rfl (n323.ne rfl (n156.ne rfl s36I144))
      exact th_n (hKI55 _ _ _ (by omega) ⟨i + 1, rfl, n324.ok, GI144, e325, e326, e327, e328, n324.at_, xanch19I144, xanch26I144, by omega⟩)
  · refine wp_cond_false ((n62.at_).trans (congrArg Value.bool (decide_eq_false c64))) ?_
    refine wp_exit ?_
    refine th_x ?_
    refine th_x ?_
    refine ib_x ?_
    refine th_n (hK49 _ _ ?_)
    refine wp_seq_k (fun K329 hK329 => ?_)
    refine wp_region_lit ?_
    refine sv n62.ok rfl (wn _ rfl) rfl (o_as ev_const) (fun an330 n330 => ?_)
    refine wpList_nil ?_
    refine th_n (hK329 _ _ ?_)
    refine wp_ret ?_
    exact ret1 n330.ok rfl (n330.at_) ⟨rfl, GI55⟩
end Go.Proofs.Ytghjfakellaecaa
