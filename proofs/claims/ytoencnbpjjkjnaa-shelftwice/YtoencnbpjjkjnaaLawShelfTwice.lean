/- The walk of ShelfTwice. -/
import Derived.Test.YtoencnbpjjkjnaaSk5
set_option linter.unusedVariables false
set_option linter.unusedSimpArgs false
namespace Go.Proofs.Ytoencnbpjjkjnaa
open Go.RowKit Rm Gx
set_option maxHeartbeats 8000000 in
set_option maxRecDepth 100000 in
theorem shelfTwice_bad (K : List VerI) (y : VerI) (va : Option Addr) (vc : Nat) (i : Int) (hE : ¬ putE (K.map VerI.d) y.d = 0) (w : World) (hv : RdA encVr 8 w va K) (hm : MeansV w K) (hmy : MeanV w y) :
    Calls Try.prog 7 #[.slice va K.length vc, .agg #[.string (bs y.d.id), .int .i64 (y.d.s), .int .i64 (y.d.c), .int .i64 (y.d.t), .int .i64 (y.d.n), .int .i64 (y.d.b), .slice y.va y.d.V.length y.vc, .slice y.ma y.d.M.length y.mc], .int .i64 (i)] w fun e w' => e = .returned (.bool true) ∧ Gr w w' := by
  refine enter (N := 60) Try.func7 rfl rfl rfl (fun a0 ok0 h0 => ?_)
  have e0_0 : a0.eval (.tmp 0) = .slice va K.length vc := h0 0 _ rfl
  have e0_1 : a0.eval (.tmp 1) = .agg #[.string (bs y.d.id), .int .i64 (y.d.s), .int .i64 (y.d.c), .int .i64 (y.d.t), .int .i64 (y.d.n), .int .i64 (y.d.b), .slice y.va y.d.V.length y.vc, .slice y.ma y.d.M.length y.mc] := h0 1 _ rfl
  have e0_2 : a0.eval (.tmp 2) = .int .i64 (i) := h0 2 _ rfl
  clear h0
  have G0 := Gr.refl w
  refine wp_seq_k (fun K1 hK1 => ?_)
  refine wp_region_lit ?_
  refine sal (cs := #[.string (bs y.d.id), .int .i64 (y.d.s), .int .i64 (y.d.c), .int .i64 (y.d.t), .int .i64 (y.d.n), .int .i64 (y.d.b), .slice y.va y.d.V.length y.vc, .slice y.ma y.d.M.length y.mc]) ok0 rfl (wn _ rfl) rfl (o_box e0_1) (fun an2 w4 b3 W5 n2 => ?_)
  have l6 : w.heap.size ≤ b3 := by rw [W5.eq]; exact G0.size
  have G7 := G0.trans W5.gr
  refine sv n2.ok rfl (wn _ rfl) rfl (o_as ev_const) (fun an8 n8 => ?_)
  refine wpList_nil ?_
  refine th_n (hK1 _ _ ?_)
  refine wp_seq_k (fun K9 hK9 => ?_)
  refine wp_seq_k (fun K10 hK10 => ?_)
  refine wp_region_lit ?_
  refine sc n8.ok rfl (wn _ rfl) rfl (o_f0 Try.func22 rfl rfl rfl ) (begun_shelf w4) ?_
  rintro _ w12 ⟨rfl, g13⟩
  refine ⟨_, rfl, fun an11 n11 => ?_⟩
  have G14 := G7.trans g13
  have B15 := W5.bk.gr g13
  refine sv n11.ok rfl (wn _ rfl) rfl (o_not n11.at_ rfl) (fun an16 n16 => ?_)
  refine wpList_nil ?_
  refine th_n (hK10 _ _ ?_)
  refine wp_cond_false (n16.at_) ?_
  refine wp_skip ?_
  refine th_n (hK9 _ _ ?_)
  refine wp_seq_k (fun K17 hK17 => ?_)
  refine wp_region_lit ?_
  have e18 := n16.ne rfl (n11.ne rfl (n8.ne rfl (n2.ne rfl e0_0)))
  refine sv n16.ok rfl (wn _ rfl) rfl (o_mv e18) (fun an19 n19 => ?_)
  have e20 := n19.ne rfl (n16.ne rfl (n11.ne rfl (n8.ne rfl n2.at_)))
  refine sv n19.ok rfl (wn _ rfl) rfl (o_ldR e20 B15 Try.underlying32 rfl (by kernel_rfl)) (fun an21 n21 => ?_)
  refine sc n21.ok rfl (wn _ rfl) rfl (o_f2 Try.func34 rfl rfl rfl (n21.ne rfl n19.at_) n21.at_) (sput_r K y va vc w12 (hv.gr G14) (hm.gr G14) (hmy.gr G14) (K.map VerI.d) rfl) ?_
  rintro _ w23 ⟨R1, ra1, rc1, rfl, hR1, hr1, hm1, g24⟩
  refine ⟨_, rfl, fun an22 n22 => ?_⟩
  have G25 := G14.trans g24
  have B26 := B15.gr g24
  have A28 := Gr.refl w23
  refine sv n22.ok rfl (wn _ rfl) rfl (o_mv n22.at_) (fun an29 n29 => ?_)
  refine sv n29.ok rfl (wn _ rfl) rfl (o_ex n29.at_ rfl) (fun an30 n30 => ?_)
  refine sv n30.ok rfl (wn _ rfl) rfl (o_ex (n30.ne rfl n29.at_) rfl) (fun an31 n31 => ?_)
  refine sv n31.ok rfl (wn _ rfl) rfl (o_as (n31.ne rfl n30.at_)) (fun an32 n32 => ?_)
  refine sv n32.ok rfl (wn _ rfl) rfl (o_as (n32.ne rfl n31.at_)) (fun an33 n33 => ?_)
  refine wpList_nil ?_
  refine th_n (hK17 _ _ ?_)
  refine wp_seq_k (fun K34 hK34 => ?_)
  refine wp_seq_k (fun K35 hK35 => ?_)
  refine wp_region_lit ?_
  refine sv n33.ok rfl (wn _ rfl) rfl (o_mv n33.at_) (fun an36 n36 => ?_)
  refine sv n36.ok rfl (wn _ rfl) rfl (o_neq (b := true) n36.at_ ev_const (by simp [show ¬ (putE (K.map VerI.d) y.d) = 0 from hE])) (fun an37 n37 => ?_)
  refine wpList_nil ?_
  refine th_n (hK35 _ _ ?_)
  refine wp_cond_true (n37.at_) ?_
  refine wp_seq_k (fun K38 hK38 => ?_)
  refine wp_region_lit ?_
  have e39 := n37.ne rfl (n36.ne rfl (n33.ne rfl n32.at_))
  refine sv n37.ok rfl (wn _ rfl) rfl (o_mv e39) (fun an40 n40 => ?_)
  refine sv n40.ok rfl (wn _ rfl) rfl (o_len n40.at_ Try.underlying22) (fun an41 n41 => ?_)
  refine sv n41.ok rfl (wn _ rfl) rfl (o_eqI n41.at_ ev_const) (fun an42 n42 => ?_)
  refine sv n42.ok rfl (wn _ rfl) rfl (o_as n42.at_) (fun an43 n43 => ?_)
  refine wpList_nil ?_
  refine th_n (hK38 _ _ ?_)
  refine wp_ret ?_
  refine th_r ?_
  exact ret1 n43.ok rfl (n43.at_) ⟨congrArg (fun b => Ending.returned (Value.bool b)) (decide_eq_true (by have := congrArg List.length hR1; rw [List.length_map, putE_len hE] at this; simpa using this)), G25⟩
set_option maxHeartbeats 8000000 in
set_option maxRecDepth 100000 in
theorem shelfTwice_ok (K : List VerI) (y : VerI) (va : Option Addr) (vc : Nat) (i : Int) (hE : putE (K.map VerI.d) y.d = 0) (w : World) (hv : RdA encVr 8 w va K) (hm : MeansV w K) (hmy : MeanV w y) :
    Calls Try.prog 7 #[.slice va K.length vc, .agg #[.string (bs y.d.id), .int .i64 (y.d.s), .int .i64 (y.d.c), .int .i64 (y.d.t), .int .i64 (y.d.n), .int .i64 (y.d.b), .slice y.va y.d.V.length y.vc, .slice y.ma y.d.M.length y.mc], .int .i64 (i)] w fun e w' => e = .returned (.bool true) ∧ Gr w w' := by
  refine enter (N := 60) Try.func7 rfl rfl rfl (fun a0 ok0 h0 => ?_)
  have e0_0 : a0.eval (.tmp 0) = .slice va K.length vc := h0 0 _ rfl
  have e0_1 : a0.eval (.tmp 1) = .agg #[.string (bs y.d.id), .int .i64 (y.d.s), .int .i64 (y.d.c), .int .i64 (y.d.t), .int .i64 (y.d.n), .int .i64 (y.d.b), .slice y.va y.d.V.length y.vc, .slice y.ma y.d.M.length y.mc] := h0 1 _ rfl
  have e0_2 : a0.eval (.tmp 2) = .int .i64 (i) := h0 2 _ rfl
  clear h0
  have G0 := Gr.refl w
  have hOK := putE_ok hE
  have hlen : K.length ≤ 60 := by have := ((okS_iff _).1 hOK.1).len; simpa using this
  refine wp_seq_k (fun K1 hK1 => ?_)
  refine wp_region_lit ?_
  refine sal (cs := #[.string (bs y.d.id), .int .i64 (y.d.s), .int .i64 (y.d.c), .int .i64 (y.d.t), .int .i64 (y.d.n), .int .i64 (y.d.b), .slice y.va y.d.V.length y.vc, .slice y.ma y.d.M.length y.mc]) ok0 rfl (wn _ rfl) rfl (o_box e0_1) (fun an2 w4 b3 W5 n2 => ?_)
  have l6 : w.heap.size ≤ b3 := by rw [W5.eq]; exact G0.size
  have G7 := G0.trans W5.gr
  refine sv n2.ok rfl (wn _ rfl) rfl (o_as ev_const) (fun an8 n8 => ?_)
  refine wpList_nil ?_
  refine th_n (hK1 _ _ ?_)
  refine wp_seq_k (fun K9 hK9 => ?_)
  refine wp_seq_k (fun K10 hK10 => ?_)
  refine wp_region_lit ?_
  refine sc n8.ok rfl (wn _ rfl) rfl (o_f0 Try.func22 rfl rfl rfl ) (begun_shelf w4) ?_
  rintro _ w12 ⟨rfl, g13⟩
  refine ⟨_, rfl, fun an11 n11 => ?_⟩
  have G14 := G7.trans g13
  have B15 := W5.bk.gr g13
  refine sv n11.ok rfl (wn _ rfl) rfl (o_not n11.at_ rfl) (fun an16 n16 => ?_)
  refine wpList_nil ?_
  refine th_n (hK10 _ _ ?_)
  refine wp_cond_false (n16.at_) ?_
  refine wp_skip ?_
  refine th_n (hK9 _ _ ?_)
  refine wp_seq_k (fun K17 hK17 => ?_)
  refine wp_region_lit ?_
  have e18 := n16.ne rfl (n11.ne rfl (n8.ne rfl (n2.ne rfl e0_0)))
  refine sv n16.ok rfl (wn _ rfl) rfl (o_mv e18) (fun an19 n19 => ?_)
  have e20 := n19.ne rfl (n16.ne rfl (n11.ne rfl (n8.ne rfl n2.at_)))
  refine sv n19.ok rfl (wn _ rfl) rfl (o_ldR e20 B15 Try.underlying32 rfl (by kernel_rfl)) (fun an21 n21 => ?_)
  refine sc n21.ok rfl (wn _ rfl) rfl (o_f2 Try.func34 rfl rfl rfl (n21.ne rfl n19.at_) n21.at_) (by have h := sput_r K y va vc w12 (hv.gr G14) (hm.gr G14) (hmy.gr G14) (K.map VerI.d) rfl; rw [hE] at h; exact h) ?_
  rintro _ w23 ⟨R1, ra1, rc1, rfl, hR1, hr1, hm1, g24⟩
  refine ⟨_, rfl, fun an22 n22 => ?_⟩
  have G25 := G14.trans g24
  have B26 := B15.gr g24
  have A28 := Gr.refl w23
  refine sv n22.ok rfl (wn _ rfl) rfl (o_mv n22.at_) (fun an29 n29 => ?_)
  refine sv n29.ok rfl (wn _ rfl) rfl (o_ex n29.at_ rfl) (fun an30 n30 => ?_)
  refine sv n30.ok rfl (wn _ rfl) rfl (o_ex (n30.ne rfl n29.at_) rfl) (fun an31 n31 => ?_)
  refine sv n31.ok rfl (wn _ rfl) rfl (o_as (n31.ne rfl n30.at_)) (fun an32 n32 => ?_)
  refine sv n32.ok rfl (wn _ rfl) rfl (o_as (n32.ne rfl n31.at_)) (fun an33 n33 => ?_)
  refine wpList_nil ?_
  refine th_n (hK17 _ _ ?_)
  refine wp_seq_k (fun K34 hK34 => ?_)
  refine wp_seq_k (fun K35 hK35 => ?_)
  refine wp_region_lit ?_
  refine sv n33.ok rfl (wn _ rfl) rfl (o_mv n33.at_) (fun an36 n36 => ?_)
  refine sv n36.ok rfl (wn _ rfl) rfl (o_neq (b := false) n36.at_ ev_const (by decide)) (fun an37 n37 => ?_)
  refine wpList_nil ?_
  refine th_n (hK35 _ _ ?_)
  refine wp_cond_false (n37.at_) ?_
  refine wp_skip ?_
  refine th_n (hK34 _ _ ?_)
  refine wp_seq_k (fun K38 hK38 => ?_)
  refine wp_region_lit ?_
  have e39 := n37.ne rfl (n36.ne rfl (n33.ne rfl n32.at_))
  refine sv n37.ok rfl (wn _ rfl) rfl (o_mv e39) (fun an40 n40 => ?_)
  have e41 := n40.ne rfl (n37.ne rfl (n36.ne rfl (n33.ne rfl (n32.ne rfl (n31.ne rfl (n30.ne rfl (n29.ne rfl (n22.ne rfl (n21.ne rfl e20)))))))))
  refine sv n40.ok rfl (wn _ rfl) rfl (o_ldR e41 B26 Try.underlying32 rfl (by kernel_rfl)) (fun an42 n42 => ?_)
  refine sc n42.ok rfl (wn _ rfl) rfl (o_f2 Try.func34 rfl rfl rfl (n42.ne rfl n40.at_) n42.at_) (by have h := sput_r R1 y ra1 rc1 w23 (hr1.gr A28) (hm1.gr A28) (hmy.gr G25) (putL (K.map VerI.d) y.d) hR1; rw [(put_again hE).1, (put_again hE).2] at h; exact h) ?_
  rintro _ w44 ⟨R2, ra2, rc2, rfl, hR2, hr2, hm2, g45⟩
  refine ⟨_, rfl, fun an43 n43 => ?_⟩
  have G46 := G25.trans g45
  have B47 := B26.gr g45
  have A48 := A28.trans g45
  have A50 := Gr.refl w44
  refine sv n43.ok rfl (wn _ rfl) rfl (o_mv n43.at_) (fun an51 n51 => ?_)
  refine sv n51.ok rfl (wn _ rfl) rfl (o_ex n51.at_ rfl) (fun an52 n52 => ?_)
  refine sv n52.ok rfl (wn _ rfl) rfl (o_ex (n52.ne rfl n51.at_) rfl) (fun an53 n53 => ?_)
  refine sv n53.ok rfl (wn _ rfl) rfl (o_as (n53.ne rfl n52.at_)) (fun an54 n54 => ?_)
  refine sv n54.ok rfl (wn _ rfl) rfl (o_as (n54.ne rfl n53.at_)) (fun an55 n55 => ?_)
  refine wpList_nil ?_
  refine th_n (hK38 _ _ ?_)
  refine wp_seq_k (fun K56 hK56 => ?_)
  refine wp_seq_k (fun K57 hK57 => ?_)
  refine wp_region_lit ?_
  refine sv n55.ok rfl (wn _ rfl) rfl (o_mv n55.at_) (fun an58 n58 => ?_)
  refine sv n58.ok rfl (wn _ rfl) rfl (o_neq (b := false) n58.at_ ev_const (by decide)) (fun an59 n59 => ?_)
  refine sv n59.ok rfl (wn _ rfl) rfl (o_mv n59.at_) (fun an60 n60 => ?_)
  have e61 := n60.ne rfl (n59.ne rfl (n58.ne rfl (n55.ne rfl (n54.ne rfl (n53.ne rfl (n52.ne rfl (n51.ne rfl (n43.ne rfl (n42.ne rfl (n40.ne rfl e39))))))))))
  refine sv n60.ok rfl (wgT rfl (yl 2 false rfl n60.at_) rfl) rfl (o_mv e61) (fun an62 n62 => ?_)
  have e63 := n62.ne rfl (n60.ne rfl (n59.ne rfl (n58.ne rfl (n55.ne rfl n54.at_))))
  refine sv n62.ok rfl (wgT rfl (yl 2 false rfl (n62.ne rfl n60.at_)) rfl) rfl (o_mv e63) (fun an64 n64 => ?_)
  refine sc n64.ok rfl (wgT rfl (yl 2 false rfl (n64.ne rfl (n62.ne rfl n60.at_))) rfl) rfl (o_f2 Try.func21 rfl rfl rfl (n64.ne rfl n62.at_) n64.at_) (same_eq R1 R2 ra1 ra2 rc1 rc2 (putL (K.map VerI.d) y.d) ((okS_iff _).1 (putL_ok hOK.1)) hR1 hR2 w44 (hr1.gr A48) (hm1.gr A48) (hr2.gr A50) (hm2.gr A50)) ?_
  rintro _ w66 ⟨rfl, g67⟩
  refine ⟨_, rfl, fun an65 n65 => ?_⟩
  have G68 := G46.trans g67
  have B69 := B47.gr g67
  have A70 := A48.trans g67
  have A71 := A50.trans g67
  have e72 := n65.ne rfl (n64.ne rfl (n62.ne rfl n60.at_))
  refine sv n65.ok rfl (wgT rfl (yl 2 false rfl e72) rfl) rfl (o_not n65.at_ rfl) (fun an73 n73 => ?_)
  refine sv n73.ok rfl (wn _ rfl) rfl (o_pkF (n73.ne rfl e72) n73.at_) (fun an74 n74 => ?_)
  refine wpList_nil ?_
  refine th_n (hK57 _ _ ?_)
  refine wp_cond_false (n74.at_) ?_
  refine wp_skip ?_
  refine th_n (hK56 _ _ ?_)
  refine wp_seq_k (fun K75 hK75 => ?_)
  refine wp_seq_k (fun K76 hK76 => ?_)
  refine wp_region_lit ?_
  have e77 := n74.ne rfl (n73.ne rfl (n65.ne rfl (n64.ne rfl (n62.ne rfl (n60.ne rfl (n59.ne rfl (n58.ne rfl (n55.ne rfl (n54.ne rfl (n53.ne rfl (n52.ne rfl (n51.ne rfl (n43.ne rfl (n42.ne rfl (n40.ne rfl (n37.ne rfl (n36.ne rfl (n33.ne rfl (n32.ne rfl (n31.ne rfl (n30.ne rfl (n29.ne rfl (n22.ne rfl (n21.ne rfl (n19.ne rfl e18)))))))))))))))))))))))))
  refine sv n74.ok rfl (wn _ rfl) rfl (o_mv e77) (fun an78 n78 => ?_)
  refine sv n78.ok rfl (wn _ rfl) rfl (o_len n78.at_ Try.underlying22) (fun an79 n79 => ?_)
  refine sv n79.ok rfl (wn _ rfl) rfl (o_eqI n79.at_ ev_const) (fun an80 n80 => ?_)
  refine wpList_nil ?_
  refine th_n (hK76 _ _ ?_)
  by_cases c81 : ((K.length : Nat) : Int) = 0
  · refine wp_cond_true ((n80.at_).trans (congrArg Value.bool (decide_eq_true c81))) ?_
    refine wp_seq_k (fun K82 hK82 => ?_)
    refine wp_region_lit ?_
    refine sv n80.ok rfl (wn _ rfl) rfl (o_as ev_const) (fun an83 n83 => ?_)
    refine wpList_nil ?_
    refine th_n (hK82 _ _ ?_)
    refine wp_ret ?_
    refine th_r ?_
    exact ret1 n83.ok rfl (n83.at_) ⟨rfl, G68⟩
  · refine wp_cond_false ((n80.at_).trans (congrArg Value.bool (decide_eq_false c81))) ?_
    have hpos : 0 < K.length := by omega
    have hwi := wi_lt i K.length hpos
    refine wp_skip ?_
    refine th_n (hK75 _ _ ?_)
    refine wp_seq_k (fun K84 hK84 => ?_)
    refine wp_region_lit ?_
    have e85 := n80.ne rfl (n79.ne rfl (n78.ne rfl e77))
    refine sv n80.ok rfl (wn _ rfl) rfl (o_mv e85) (fun an86 n86 => ?_)
    refine sv n86.ok rfl (wn _ rfl) rfl (o_mv (n86.ne rfl e85)) (fun an87 n87 => ?_)
    have e88 := n87.ne rfl (n86.ne rfl (n80.ne rfl (n79.ne rfl (n78.ne rfl (n74.ne rfl (n73.ne rfl (n65.ne rfl (n64.ne rfl (n62.ne rfl (n60.ne rfl (n59.ne rfl (n58.ne rfl (n55.ne rfl (n54.ne rfl (n53.ne rfl (n52.ne rfl (n51.ne rfl (n43.ne rfl (n42.ne rfl (n40.ne rfl (n37.ne rfl (n36.ne rfl (n33.ne rfl (n32.ne rfl (n31.ne rfl (n30.ne rfl (n29.ne rfl (n22.ne rfl (n21.ne rfl (n19.ne rfl (n16.ne rfl (n11.ne rfl (n8.ne rfl (n2.ne rfl e0_2))))))))))))))))))))))))))))))))))
    refine sv n87.ok rfl (wn _ rfl) rfl (o_mv e88) (fun an89 n89 => ?_)
    have e90 := n89.ne rfl (n87.ne rfl (n86.ne rfl e85))
    refine sv n89.ok rfl (wn _ rfl) rfl (o_mv e90) (fun an91 n91 => ?_)
    refine sv n91.ok rfl (wn _ rfl) rfl (o_len n91.at_ Try.underlying22) (fun an92 n92 => ?_)
    refine sc n92.ok rfl (wn _ rfl) rfl (o_f2 Try.func24 rfl rfl rfl (n92.ne rfl (n91.ne rfl n89.at_)) n92.at_) (kwithin_any i K.length (by omega) (by omega) w66) ?_
    rintro _ w94 ⟨rfl, g95⟩
    refine ⟨_, rfl, fun an93 n93 => ?_⟩
    have G96 := G68.trans g95
    have B97 := B69.gr g95
    have A98 := A70.trans g95
    have A99 := A71.trans g95
    have e100 := n93.ne rfl (n92.ne rfl (n91.ne rfl (n89.ne rfl n87.at_)))
    have h101l : wi i K.length < List.length K := by omega
    obtain ⟨bh101, fh101, h101a, h101b, h101c⟩ := hv (ne_nil_of_lt h101l)
    obtain ⟨xh101, h101x⟩ : ∃ x, (K)[wi i K.length]? = some x := ⟨_, List.getElem?_eq_getElem h101l⟩
    refine sv n93.ok rfl (wn _ rfl) rfl (o_iaV (i := wi i K.length) (s := 8) h101a e100 n93.at_ Try.underlying22 (by kernel_rfl) h101l) (fun an102 n102 => ?_)
    refine sv n102.ok rfl (wn _ rfl) rfl (o_ldA (k := fh101 + (wi i K.length) * 8) n102.at_ (cs := [.string (bs xh101.d.id), .int .i64 (xh101.d.s), .int .i64 (xh101.d.c), .int .i64 (xh101.d.t), .int .i64 (xh101.d.n), .int .i64 (xh101.d.b), .slice xh101.va xh101.d.V.length xh101.vc, .slice xh101.ma xh101.d.M.length xh101.mc]) (fun j v hv => (Below.cell G96 h101b).trans (h101c _ _ h101x j v hv)) Try.underlying32 rfl (by kernel_rfl)) (fun an103 n103 => ?_)
    have hin := put_held hOK.1 (((okS_iff _).1 hOK.1).one _ (List.mem_map_of_mem (List.mem_of_getElem? h101x))) (held_of (List.mem_map_of_mem (f := VerI.d) (List.mem_of_getElem? h101x)))
    have e104 := n103.ne rfl (n102.ne rfl (n93.ne rfl (n92.ne rfl (n91.ne rfl (n89.ne rfl (n87.ne rfl n86.at_))))))
    refine sc n103.ok rfl (wn _ rfl) rfl (o_f2 Try.func34 rfl rfl rfl e104 n103.at_) (by have h := sput_r K xh101 va vc w94 (hv.gr G96) (hm.gr G96) ((hm _ (List.mem_of_getElem? h101x)).gr G96) (K.map VerI.d) rfl; rw [hin.1, hin.2] at h; exact h) ?_
    rintro _ w106 ⟨R3, ra3, rc3, rfl, hR3, hr3, hm3, g107⟩
    refine ⟨_, rfl, fun an105 n105 => ?_⟩
    have G108 := G96.trans g107
    have B109 := B97.gr g107
    have A110 := A98.trans g107
    have A111 := A99.trans g107
    have A113 := Gr.refl w106
    refine sv n105.ok rfl (wn _ rfl) rfl (o_mv n105.at_) (fun an114 n114 => ?_)
    refine sv n114.ok rfl (wn _ rfl) rfl (o_ex n114.at_ rfl) (fun an115 n115 => ?_)
    refine sv n115.ok rfl (wn _ rfl) rfl (o_ex (n115.ne rfl n114.at_) rfl) (fun an116 n116 => ?_)
    refine sv n116.ok rfl (wn _ rfl) rfl (o_as (n116.ne rfl n115.at_)) (fun an117 n117 => ?_)
    refine sv n117.ok rfl (wn _ rfl) rfl (o_as (n117.ne rfl n116.at_)) (fun an118 n118 => ?_)
    refine wpList_nil ?_
    refine th_n (hK84 _ _ ?_)
    refine wp_seq_k (fun K119 hK119 => ?_)
    refine wp_region_lit ?_
    refine sv n118.ok rfl (wn _ rfl) rfl (o_mv n118.at_) (fun an120 n120 => ?_)
    refine sv n120.ok rfl (wn _ rfl) rfl (o_eq (b := true) n120.at_ ev_const (by decide)) (fun an121 n121 => ?_)
    refine sv n121.ok rfl (wn _ rfl) rfl (o_mv n121.at_) (fun an122 n122 => ?_)
    have e123 := n122.ne rfl (n121.ne rfl (n120.ne rfl (n118.ne rfl n117.at_)))
    refine sv n122.ok rfl (wgT rfl (yl 2 true rfl n122.at_) rfl) rfl (o_mv e123) (fun an124 n124 => ?_)
    have e125 := n124.ne rfl (n122.ne rfl (n121.ne rfl (n120.ne rfl (n118.ne rfl (n117.ne rfl (n116.ne rfl (n115.ne rfl (n114.ne rfl (n105.ne rfl (n103.ne rfl (n102.ne rfl (n93.ne rfl (n92.ne rfl (n91.ne rfl e90))))))))))))))
    refine sv n124.ok rfl (wgT rfl (yl 2 true rfl (n124.ne rfl n122.at_)) rfl) rfl (o_mv e125) (fun an126 n126 => ?_)
    refine sc n126.ok rfl (wgT rfl (yl 2 true rfl (n126.ne rfl (n124.ne rfl n122.at_))) rfl) rfl (o_f2 Try.func21 rfl rfl rfl (n126.ne rfl n124.at_) n126.at_) (same_eq R3 K ra3 va rc3 vc (K.map VerI.d) ((okS_iff _).1 hOK.1) hR3 rfl w106 (hr3.gr A113) (hm3.gr A113) (hv.gr G108) (hm.gr G108)) ?_
    rintro _ w128 ⟨rfl, g129⟩
    refine ⟨_, rfl, fun an127 n127 => ?_⟩
    have G130 := G108.trans g129
    have B131 := B109.gr g129
    have A132 := A110.trans g129
    have A133 := A111.trans g129
    have A134 := A113.trans g129
    have e135 := n127.ne rfl (n126.ne rfl (n124.ne rfl n122.at_))
    refine sv n127.ok rfl (wn _ rfl) rfl (o_pkT e135 n127.at_) (fun an136 n136 => ?_)
    refine sv n136.ok rfl (wn _ rfl) rfl (o_as n136.at_) (fun an137 n137 => ?_)
    refine wpList_nil ?_
    refine th_n (hK119 _ _ ?_)
    refine wp_ret ?_
    exact ret1 n137.ok rfl (n137.at_) ⟨rfl, G130⟩
theorem shelfTwice_walk (K : List VerI) (y : VerI) (va : Option Addr) (vc : Nat) (i : Int) (w : World) (hv : RdA encVr 8 w va K) (hm : MeansV w K) (hmy : MeanV w y) : Calls Try.prog 7 #[.slice va K.length vc, .agg (encVr y).toArray, .int .i64 i] w fun e w' => e = .returned (.bool true) ∧ Gr w w' := by
  by_cases hE : putE (K.map VerI.d) y.d = 0
  · exact shelfTwice_ok K y va vc i hE w hv hm hmy
  · exact shelfTwice_bad K y va vc i hE w hv hm hmy
end Go.Proofs.Ytoencnbpjjkjnaa
