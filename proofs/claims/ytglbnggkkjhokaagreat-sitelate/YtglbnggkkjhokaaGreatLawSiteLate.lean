/- The walk of SiteLate. -/
import Derived.Test.YtglbnggkkjhokaaGreatSb6
set_option maxHeartbeats 8000000
set_option maxRecDepth 100000
set_option linter.unusedVariables false
set_option linter.unusedSimpArgs false
namespace Go.Proofs.YtglbnggkkjhokaaGreat
open Go.RowKit Rm Gx
theorem siteLate_bad0 (fv gv mv : Value) (lf : List BoxI) (hbad : ¬ chkF lf = 0) (w : World) (hf : RdF w fv lf) :
  Calls Tryz.prog 7 #[fv, gv, mv] w fun e w' => e = .returned (.bool true) ∧ Gr w w' := by
 refine enter (N := 68) Tryz.func7 rfl rfl rfl (fun A ok0 l => ?_)
 have B : A.eval (.tmp 0) = fv := l 0 _ rfl
 clear l
 have C := Gr.refl w
 refine wp_seq_k (fun S D => (wp_region_lit (sw ok0 (o_as ev_const) (fun T n => ?_))))
 refine wpList_nil (th_n (D _ _ (wp_seq_k (fun U E => (wp_seq_k (fun V F => (wp_region_lit (sc n.ok rfl (wn _ rfl) rfl (o_f0 Tryz.func49 rfl rfl rfl ) (siteBegun_any w) ?_))))))))
 rintro _ G ⟨rfl, H⟩
 refine ⟨_, rfl, fun W g => ?_⟩
 have o := C.trans H
 refine sw g.ok (o_not g.at_ rfl) (fun X h => ?_)
 refine wpList_nil (th_n (F _ _ (wp_cond_false (h.at_) ?_)))
 refine wp_skip (th_n (E _ _ (wp_seq_k (fun Y Z => (wp_seq_k (fun aa I => (wp_region_lit ?_)))))))
 have J := h.n (g.n (n.n B))
 refine sw h.ok (o_mv J) (fun ab q => ?_)
 refine sc q.ok rfl (wn _ rfl) rfl (o_f1 Tryz.func50 rfl rfl rfl q.at_) (fcheck_any fv lf G (hf.gr o)) ?_
 rintro _ ac ⟨rfl, K⟩
 refine ⟨_, rfl, fun ad r => ?_⟩
 have L := o.trans K
 refine sw r.ok (o_neq (b := true) r.at_ ev_const (by simp [show ¬ (chkF lf) = 0 from hbad])) (fun af t => ?_)
 refine sw t.ok (o_mv t.at_) (fun ag a => ?_)
 refine sn a.ok rfl (wgF rfl (yl 3 true rfl a.at_) rfl) rfl (fun ah c => ?_)
 refine sn c.ok rfl (wgF rfl (yl 3 true rfl (c.n a.at_)) rfl) rfl (fun ai j => ?_)
 refine sn j.ok rfl (wgF rfl (yl 3 true rfl (j.n (c.n a.at_))) rfl) rfl (fun aj u => ?_)
 have M := u.n (j.n (c.n a.at_))
 refine sw u.ok (o_pkT M ev_const) (fun ak y => ?_)
 refine wpList_nil (th_n (I _ _ (wp_cond_true (y.at_) ?_)))
 refine wp_seq_k (fun al O => (wp_region_lit (sw y.ok (o_as ev_const) (fun am z => ?_))))
 refine wpList_nil (th_n (O _ _ (wp_ret (th_r (ret1 z.ok rfl (z.at_) ⟨rfl, L⟩)))))
theorem siteLate_bad1 (fv gv mv : Value) (U : Nat → Nat) (lg : List BoxI) (hbad : ¬ chkF lg = 0) (w : World) (hf : FS w fv U) (hg : RdF w gv lg) :
  Calls Tryz.prog 7 #[fv, gv, mv] w fun e w' => e = .returned (.bool true) ∧ Gr w w' := by
 refine enter (N := 68) Tryz.func7 rfl rfl rfl (fun u ok0 l => ?_)
 have C : u.eval (.tmp 0) = fv := l 0 _ rfl
 have D : u.eval (.tmp 1) = gv := l 1 _ rfl
 clear l
 have E := Gr.refl w
 refine wp_seq_k (fun X F => (wp_region_lit (sw ok0 (o_as ev_const) (fun Y n => ?_))))
 refine wpList_nil (th_n (F _ _ (wp_seq_k (fun Z G => (wp_seq_k (fun K4 H => (wp_region_lit (sc n.ok rfl (wn _ rfl) rfl (o_f0 Tryz.func49 rfl rfl rfl ) (siteBegun_any w) ?_))))))))
 rintro _ w6 ⟨rfl, I⟩
 refine ⟨_, rfl, fun ac g => ?_⟩
 have y := E.trans I
 refine sw g.ok (o_not g.at_ rfl) (fun ad h => ?_)
 refine wpList_nil (th_n (H _ _ (wp_cond_false (h.at_) ?_)))
 refine wp_skip (th_n (G _ _ (wp_seq_k (fun af ag => (wp_seq_k (fun ah J => (wp_region_lit ?_)))))))
 have K := h.n (g.n (n.n C))
 refine sw h.ok (o_mv K) (fun ai o => ?_)
 refine sc o.ok rfl (wn _ rfl) rfl (o_f1 Tryz.func50 rfl rfl rfl o.at_) (fcheck_ok (hf.gr y)) ?_
 rintro _ L ⟨rfl, M⟩
 refine ⟨_, rfl, fun aj q => ?_⟩
 have z := y.trans M
 refine sw q.ok (o_neq (b := false) q.at_ ev_const (by decide)) (fun ak r => ?_)
 refine sw r.ok (o_mv r.at_) (fun al a => ?_)
 have O := a.n (r.n (q.n (o.n (h.n (g.n (n.n D))))))
 refine sv a.ok rfl (wgT rfl (yl 3 false rfl a.at_) rfl) rfl (o_mv O) (fun am c => ?_)
 refine sc c.ok rfl (wgT rfl (yl 3 false rfl (c.n a.at_)) rfl) rfl (o_f1 Tryz.func50 rfl rfl rfl c.at_) (fcheck_any gv lg L (hg.gr z)) ?_
 rintro _ an ⟨rfl, S⟩
 refine ⟨_, rfl, fun ao j => ?_⟩
 have T := z.trans S
 refine sv j.ok rfl (wgT rfl (yl 3 false rfl (j.n (c.n a.at_))) rfl) rfl (o_neq (b := true) j.at_ ev_const (by simp [show ¬ (chkF lg) = 0 from hbad])) (fun ap t => ?_)
 have V := t.n (j.n (c.n a.at_))
 refine sw t.ok (o_pkF V t.at_) (fun aq A => ?_)
 refine wpList_nil (th_n (J _ _ (wp_cond_true (A.at_) ?_)))
 refine wp_seq_k (fun ar W => (wp_region_lit (sw A.ok (o_as ev_const) (fun au B => ?_))))
 refine wpList_nil (th_n (W _ _ (wp_ret (th_r (ret1 B.ok rfl (B.at_) ⟨rfl, T⟩)))))
theorem siteLate_ok (fv gv mv : Value) (U V : Nat → Nat) (L : List (List Int)) (w : World) (hf : FS w fv U) (hg : FS w gv V) (hL : RdLL w mv L) :
  Calls Tryz.prog 7 #[fv, gv, mv] w fun e w' => e = .returned (.bool true) ∧ Gr w w' := by
 refine enter (N := 68) Tryz.func7 rfl rfl rfl (fun a0 ok0 h0 => ?_)
 have bD : a0.eval (.tmp 0) = fv := h0 0 _ rfl
 have bE : a0.eval (.tmp 1) = gv := h0 1 _ rfl
 have bF : a0.eval (.tmp 2) = mv := h0 2 _ rfl
 clear h0
 have G0 := Gr.refl w
 refine wp_seq_k (fun K1 bH => (wp_region_lit (sw ok0 (o_as ev_const) (fun cY n2 => ?_))))
 refine wpList_nil (th_n (bH _ _ (wp_seq_k (fun K3 bI => (wp_seq_k (fun K4 bJ => (wp_region_lit (sc n2.ok rfl (wn _ rfl) rfl (o_f0 Tryz.func49 rfl rfl rfl ) (siteBegun_any w) ?_))))))))
 rintro _ w6 ⟨rfl, g7⟩
 refine ⟨_, rfl, fun c2 n5 => ?_⟩
 have G8 := G0.trans g7
 refine sw n5.ok (o_not n5.at_ rfl) (fun c3 n9 => ?_)
 refine wpList_nil (th_n (bJ _ _ (wp_cond_false (n9.at_) ?_)))
 refine wp_skip (th_n (bI _ _ (wp_seq_k (fun c4 bL => (wp_seq_k (fun c5 bM => (wp_region_lit ?_)))))))
 have a4 := n9.n (n5.n (n2.n bD))
 refine sw n9.ok (o_mv a4) (fun c6 av => ?_)
 refine sc av.ok rfl (wn _ rfl) rfl (o_f1 Tryz.func50 rfl rfl rfl av.at_) (fcheck_ok (hf.gr G8)) ?_
 rintro _ c7 ⟨rfl, bO⟩
 refine ⟨_, rfl, fun c8 ax => ?_⟩
 have a6 := G8.trans bO
 refine sw ax.ok (o_neq (b := false) ax.at_ ev_const (by decide)) (fun c9 ay => ?_)
 refine sw ay.ok (o_mv ay.at_) (fun da j => ?_)
 have a7 := j.n (ay.n (ax.n (av.n (n9.n (n5.n (n2.n bE))))))
 refine sv j.ok rfl (wgT rfl (yl 3 false rfl j.at_) rfl) rfl (o_mv a7) (fun db l => ?_)
 refine sc l.ok rfl (wgT rfl (yl 3 false rfl (l.n j.at_)) rfl) rfl (o_f1 Tryz.func50 rfl rfl rfl l.at_) (fcheck_ok (hg.gr a6)) ?_
 rintro _ bS ⟨rfl, bT⟩
 refine ⟨_, rfl, fun dc A => ?_⟩
 have bU := a6.trans bT
 refine sv A.ok rfl (wgT rfl (yl 3 false rfl (A.n (l.n j.at_))) rfl) rfl (o_neq (b := false) A.at_ ev_const (by decide)) (fun dd D => ?_)
 have bV := D.n (A.n (l.n j.at_))
 refine sw D.ok (o_pkF bV D.at_) (fun df az => ?_)
 refine wpList_nil (th_n (bM _ _ (wp_cond_false (az.at_) ?_)))
 refine wp_skip (th_n (bL _ _ (wp_seq_k (fun dg bW => (wp_region_lit ?_)))))
 have bX := az.n (D.n (A.n (l.n (j.n (ay.n (ax.n (av.n a4)))))))
 refine sw az.ok (o_mv bX) (fun dh aM => ?_)
 refine sc aM.ok rfl (wn _ rfl) rfl (o_f0 Tryz.func52 rfl rfl rfl ) (fevery_own bS) ?_
 rintro _ bY ⟨v, rfl, hv, bZ⟩
 refine ⟨_, rfl, fun di aA => ?_⟩
 have aU := bU.trans bZ
 refine sc aA.ok rfl (wn _ rfl) rfl (o_f2 Tryz.func51 rfl rfl rfl (aA.n aM.at_) aA.at_) (two_any fv v U fullT bY (hf.gr aU) ((FO.fs hv).le (by decide))) ?_
 rintro _ b2 ⟨G, b1, rfl, hge0, hlt01, hs0, hs1, b3⟩
 have hB0 : w.heap.size ≤ G := Nat.le_trans aU.size hge0
 have hB1 : w.heap.size ≤ b1 := Nat.le_of_lt (Nat.lt_of_le_of_lt hB0 hlt01)
 have hne01 : G ≠ b1 := Nat.ne_of_lt hlt01
 have hI0 : MkI (⟨0, 0, 0, U, [], []⟩ : SiD) := MkI.new (by omega)
 refine ⟨_, rfl, fun dj aO => ?_⟩
 have a8 := aU.trans b3
 refine sw aO.ok (o_mv aO.at_) (fun dk H => ?_)
 refine sw H.ok (o_ex H.at_ rfl) (fun dl I => ?_)
 refine sw I.ok (o_ex (I.n H.at_) rfl) (fun dm J => ?_)
 refine sw J.ok (o_ex (J.n (I.n H.at_)) rfl) (fun dn K => ?_)
 refine sw K.ok (o_as (K.n (J.n I.at_))) (fun dp M => ?_)
 refine sw M.ok (o_as (M.n (K.n J.at_))) (fun dq O => ?_)
 refine sw O.ok (o_as (O.n (M.n K.at_))) (fun dr S => ?_)
 refine wpList_nil (th_n (bW _ _ (wp_seq_k (fun ds b4 => (wp_seq_k (fun dt b5 => (wp_region_lit (sw S.ok (o_mv S.at_) (fun du T => ?_)))))))))
 refine sw T.ok (o_not T.at_ rfl) (fun dv W => ?_)
 refine sw W.ok (o_mv W.at_) (fun dx a => ?_)
 have a9 := a.n (W.n (T.n (S.n O.at_)))
 refine sv a.ok rfl (wgT rfl (yl 2 false rfl a.at_) rfl) rfl (o_mv a9) (fun dy c => ?_)
 have b6 := c.n (a.n (W.n (T.n (S.n (O.n (M.n (K.n (J.n (I.n (H.n (aO.n (aA.n (aM.n (az.n (D.n (A.n (l.n (j.n (ay.n (ax.n (av.n (n9.n (n5.n (n2.n bF))))))))))))))))))))))))
 refine sv c.ok rfl (wgT rfl (yl 2 false rfl (c.n a.at_)) rfl) rfl (o_mv b6) (fun dz n => ?_)
 refine sc n.ok rfl (wgT rfl (yl 2 false rfl (n.n (c.n a.at_))) rfl) rfl (o_f2 Tryz.func53 rfl rfl rfl (n.n c.at_) n.at_) (makes_ok b1 (⟨1, 0, 0, fullT, [], []⟩ : SiD) mv L w b2 a8 hB1 hs1 (MkI.new (by omega)) (Nat.zero_le _) hL) ?_
 rintro _ b7 ⟨rfl, S1, hS1, hI1, dA, hE1, ba⟩
 refine ⟨_, rfl, fun dB X => ?_⟩
 have b8 := gr_site a8 ba hB1
 have bb := hs0.other hs1 hne01 ba
 have bc := X.n (n.n (c.n a.at_))
 refine sv X.ok rfl (wgT rfl (yl 2 false rfl bc) rfl) rfl (o_not X.at_ rfl) (fun dC Y => ?_)
 refine sw Y.ok (o_pkF (Y.n bc) Y.at_) (fun dD aC => ?_)
 refine wpList_nil (th_n (b5 _ _ (wp_cond_false (aC.at_) ?_)))
 refine wp_skip (th_n (b4 _ _ (wp_seq_k (fun dE b9 => (wp_region_lit ?_)))))
 have bd := aC.n (Y.n (X.n (n.n (c.n a9))))
 refine sw aC.ok (o_mv bd) (fun dF aD => ?_)
 have bf := aD.n (aC.n (Y.n (X.n (n.n (c.n (a.n (W.n (T.n (S.n (O.n M.at_))))))))))
 refine sw aD.ok (o_mv bf) (fun dG Z => ?_)
 refine sc Z.ok rfl (wn _ rfl) rfl (o_f1 Tryz.func16 rfl rfl rfl Z.at_) (sask_any G (⟨0, 0, 0, U, [], []⟩ : SiD) hI0.ok b7 bb) ?_
 rintro _ ca ⟨ga, gn, gc, F, ja, jc, rfl, hU, hFp, hFl, hFs, hFf, aV⟩
 refine ⟨_, rfl, fun dH aa => ?_⟩
 have cb := b8.trans aV
 have cc := bb.gr aV
 have bg := hS1.gr aV
 refine sc aa.ok rfl (wn _ rfl) rfl (o_f2 Tryz.func30 rfl rfl rfl (aa.n (Z.n aD.at_)) aa.at_) (sgive_ok b1 S1 hI1.ok 0 0 ga ja gn gc jc F U (by omega) (Nat.le_trans hFl (show (0 : Nat) + 1 ≤ 30 by omega)) ca bg hU hFp) ?_
 rintro _ aW ⟨Ka, Kb, E, ra, rc, xa, xc, na, nc, rfl, hKa, hKb, hEl, hEn, hk1, hk2, hEp, aX⟩
 have hE3 : E.length ≤ 30 := by rw [hE1.P] at hEl; exact Nat.le_trans hEl (show (0 : Nat) + 1 ≤ 30 by omega)
 have hbat : BatOk Ka Kb := BatOk.of hI1.ok.ok hKa hKb
 have hne1 : ¬ 0 = S1.me := by rw [hE1.me]; decide
 refine ⟨_, rfl, fun dI aE => ?_⟩
 have bh := cb.trans aX
 have cd := cc.gr aX
 have cf := bg.gr aX
 refine sw aE.ok (o_mv aE.at_) (fun dJ ab => ?_)
 refine sw ab.ok (o_ex ab.at_ rfl) (fun dK ac => ?_)
 refine sw ac.ok (o_ex (ac.n ab.at_) rfl) (fun dL ad => ?_)
 refine sal (cs := #[.int .i64 0, .int .i64 0, .slice none 0 0, .slice none 0 0, .slice none 0 0]) ad.ok rfl (wn _ rfl) rfl (o_al (z := .agg #[.int .i64 0, .int .i64 0, .slice none 0 0, .slice none 0 0, .slice none 0 0]) (by kernel_rfl)) (fun dM dO bi af o => ?_)
 have bj := Gr.refl aW
 have cg : w.heap.size ≤ bi := by rw [af.eq]; exact bh.size
 have ch : aW.heap.size ≤ bi := by rw [af.eq]; exact bj.size
 have ci := bh.trans af.gr
 have cj := bj.trans af.gr
 refine ssR rfl (wn _ rfl) (o_stR o.at_ (o.n (ad.n ac.at_)) af.bk (by kernel_rfl) rfl (by first | (simp [Value.oneCell']; done) | (rw [← Array.all_toList]; simp [Value.oneCell']))) af.bk (fun aY bl ck => ?_)
 have aZ : Gr w aY := Below.upd ci cg bl
 have aF : Gr aW aY := Below.upd cj ch bl
 have ag := cd.gr aF
 have cl := cf.gr aF
 have cm := hk1.tkw (tkw_gr aF)
 have cn := hk2.tkw (tkw_gr aF)
 have co := hEp.tkw (tkw_gr aF)
 refine sw o.ok (o_as (o.n ad.at_)) (fun dS ah => ?_)
 refine wpList_nil (th_n (b9 _ _ (wp_seq_k (fun dT cp => (wp_seq_k (fun dU cq => (wp_region_lit (sw ah.ok (o_mv ah.at_) (fun dV ai => ?_)))))))))
 refine sw ai.ok (o_neq (b := false) ai.at_ ev_const (by decide)) (fun dW aj => ?_)
 refine sw aj.ok (o_mv aj.at_) (fun dX g => ?_)
 have bm := g.n (aj.n (ai.n (ah.n (o.n (ad.n (ac.n (ab.n (aE.n (aa.n (Z.n bf))))))))))
 refine sv g.ok rfl (wgT rfl (yl 2 false rfl g.at_) rfl) rfl (o_mv bm) (fun dY h => ?_)
 have cr := h.n (g.n (aj.n (ai.n (ah.n (o.n (ad.n (ac.n (ab.n (aE.n (aa.n (Z.n (aD.n (aC.n (Y.n (X.n (n.n (c.n (a.n (W.n (T.n (S.n (O.n (M.n (K.n (J.n (I.n (H.n (aO.n (aA.n (aM.n (az.n (D.n (A.n (l.n a7))))))))))))))))))))))))))))))))))
 refine sv h.ok rfl (wgT rfl (yl 2 false rfl (h.n g.at_)) rfl) rfl (o_mv cr) (fun dZ q => ?_)
 refine sc q.ok rfl (wgT rfl (yl 2 false rfl (q.n (h.n g.at_))) rfl) rfl (o_f2 Tryz.func17 rfl rfl rfl (q.n h.at_) q.at_) (swant_ok G (⟨0, 0, 0, U, [], []⟩ : SiD) gv V w aY aZ hB0 ag hI0.ok (hg.gr aZ)) ?_
 rintro _ ct ⟨rfl, F2, hF2l, hF2n, hS2, ak⟩
 refine ⟨_, rfl, fun d0 al => ?_⟩
 have cu := gr_site aZ ak hB0
 have bo := bk_site ck ag ak (by decide)
 have cx := cl.other ag hne01.symm ak
 have bp := cm.tkw (ag.tk ak)
 have bq := cn.tkw (ag.tk ak)
 have br := co.tkw (ag.tk ak)
 have bt := al.n (q.n (h.n g.at_))
 refine sv al.ok rfl (wgT rfl (yl 2 false rfl bt) rfl) rfl (o_neq (b := false) al.at_ ev_const (by decide)) (fun d1 am => ?_)
 refine sw am.ok (o_pkF (am.n bt) am.at_) (fun d2 aG => ?_)
 refine sw aG.ok (o_mv aG.at_) (fun d3 r => ?_)
 have bu := r.n (aG.n (am.n (al.n (q.n (h.n bm)))))
 refine sv r.ok rfl (wgT rfl (yl 8 false rfl r.at_) rfl) rfl (o_mv bu) (fun d4 t => ?_)
 have bv := t.n (r.n (aG.n (am.n (al.n (q.n (h.n (g.n (aj.n (ai.n (ah.n o.at_))))))))))
 refine sv t.ok rfl (wgT rfl (yl 8 false rfl (t.n r.at_)) rfl) rfl (o_ldR bv bo Tryz.underlying63 rfl (by kernel_rfl)) (fun d5 u => ?_)
 refine sc u.ok rfl (wgT rfl (yl 8 false rfl (u.n (t.n r.at_))) rfl) rfl (o_f2 Tryz.func39 rfl rfl rfl (u.n t.at_) u.at_) (stake_old G (⟨0, 0, 0 + 1, V, List.filter (wantB (⟨0, 0, 0, U, [], []⟩ : SiD) V) [], F2⟩ : SiD) 0 0 Ka Kb E ra xa na rc xc nc (by omega) hE3 hbat rfl (by simp) ct hS2 bp bq br) ?_
 rintro _ cy ⟨rfl, B⟩
 refine ⟨_, rfl, fun d6 an => ?_⟩
 have cz := cu.trans B
 have cA := bo.gr B
 have cB := cx.gr B
 have cC := bp.tkw (tkw_gr B)
 have cD := bq.tkw (tkw_gr B)
 have cE := br.tkw (tkw_gr B)
 have cF := hS2.gr B
 have bx := an.n (u.n (t.n r.at_))
 refine sv an.ok rfl (wgT rfl (yl 8 false rfl bx) rfl) rfl (o_neq (b := false) an.at_ ev_const (by decide)) (fun d7 ao => ?_)
 refine sw ao.ok (o_pkF (ao.n bx) ao.at_) (fun d8 aH => ?_)
 refine sw aH.ok (o_mv aH.at_) (fun d9 y => ?_)
 have cG := y.n (aH.n (ao.n (an.n (u.n (t.n bu)))))
 refine sv y.ok rfl (wgT rfl (yl 14 false rfl y.at_) rfl) rfl (o_mv cG) (fun fa C => ?_)
 refine sc C.ok rfl (wgT rfl (yl 14 false rfl (C.n y.at_)) rfl) rfl (o_f1 Tryz.func45 rfl rfl rfl C.at_) (sshelf_any G (⟨0, 0, 0 + 1, V, List.filter (wantB (⟨0, 0, 0, U, [], []⟩ : SiD) V) [], F2⟩ : SiD) (svKeep_ok hI0.ok.ok (wantB (⟨0, 0, 0, U, [], []⟩ : SiD) V)) cy cF) ?_
 rintro _ cH ⟨ua, un, uc, rfl, hu, hul, ap⟩
 have hun : ((un : Nat) : Int) = 0 := by rw [hul]; rfl
 refine ⟨_, rfl, fun fb aq => ?_⟩
 have cI := cz.trans ap
 have cJ := cA.gr ap
 have cK := cB.gr ap
 have cL := cC.tkw (tkw_gr ap)
 have cM := cD.tkw (tkw_gr ap)
 have cO := cE.tkw (tkw_gr ap)
 refine sv aq.ok rfl (wgT rfl (yl 14 false rfl (aq.n (C.n y.at_))) rfl) rfl (o_len aq.at_ Tryz.underlying41) (fun fc aI => ?_)
 have bz := aI.n (aq.n (C.n y.at_))
 refine sv aI.ok rfl (wgT rfl (yl 14 false rfl bz) rfl) rfl (o_neq (b := false) aI.at_ ev_const (by simp [show (un : Int) = 0 from hun])) (fun ff aJ => ?_)
 refine sw aJ.ok (o_pkF (aJ.n bz) aJ.at_) (fun fg aS => ?_)
 refine wpList_nil (th_n (cq _ _ (wp_cond_false (aS.at_) ?_)))
 refine wp_skip (th_n (cp _ _ (wp_seq_k (fun fh cS => (wp_region_lit ?_)))))
 have cT := aS.n (aJ.n (aI.n (aq.n (C.n (y.n (aH.n (ao.n (an.n (u.n (t.n (r.n (aG.n (am.n (al.n (q.n (h.n (g.n (aj.n (ai.n (ah.n (o.n (ad.n (ac.n (ab.n (aE.n (aa.n (Z.n (aD.n bd))))))))))))))))))))))))))))
 refine sw aS.ok (o_mv cT) (fun fi a1 => ?_)
 have cU := a1.n (aS.n (aJ.n (aI.n (aq.n (C.n (y.n (aH.n (ao.n (an.n (u.n bv))))))))))
 refine sw a1.ok (o_ldR cU cJ Tryz.underlying63 rfl (by kernel_rfl)) (fun fj a2 => ?_)
 refine sc a2.ok rfl (wn _ rfl) rfl (o_f2 Tryz.func39 rfl rfl rfl (a2.n a1.at_) a2.at_) (stake_arg b1 S1 0 0 Ka Kb E ra xa na rc xc nc (by omega) hE3 hbat hne1 cH cK cL cM cO) ?_
 rintro _ fk ⟨rfl, cV⟩
 refine ⟨_, rfl, fun fl bA => ?_⟩
 have cW := cI.trans cV
 refine sw bA.ok (o_eq (b := true) bA.at_ ev_const (by decide)) (fun fm bB => ?_)
 refine sw bB.ok (o_as bB.at_) (fun fn bC => ?_)
 refine wpList_nil (th_n (cS _ _ (wp_ret (ret1 bC.ok rfl (bC.at_) ⟨rfl, cW⟩))))
theorem siteLate_walk (fv gv mv : Value) (lf lg : List BoxI) (L : List (List Int)) (w : World) (hf : RdF w fv lf) (hg : RdF w gv lg) (hL : RdLL w mv L) :
  Calls Tryz.prog 7 #[fv, gv, mv] w fun e w' => e = .returned (.bool true) ∧ Gr w w' := by
 by_cases h0 : chkF lf = 0
 ·obtain ⟨U, h1, -⟩ := fs_of hf (by simpa using h0)
  by_cases h2 : chkF lg = 0
  ·obtain ⟨V, h3, -⟩ := fs_of hg (by simpa using h2)
   exact siteLate_ok fv gv mv U V L w h1 h3 hL
  ·exact siteLate_bad1 fv gv mv U lg h2 w h1 hg
 ·exact siteLate_bad0 fv gv mv lf h0 w hf
end Go.Proofs.YtglbnggkkjhokaaGreat
