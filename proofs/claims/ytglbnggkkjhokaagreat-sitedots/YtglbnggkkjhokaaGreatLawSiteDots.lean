/- The walk of SiteDots. -/
import Derived.Test.YtglbnggkkjhokaaGreatSd5
set_option maxHeartbeats 8000000
set_option maxRecDepth 100000
set_option linter.unusedVariables false
set_option linter.unusedSimpArgs false
namespace Go.Proofs.YtglbnggkkjhokaaGreat
open Go.RowKit Rm Gx
theorem id3_at (b j : Nat) (w : World) (t : TypeId) (hb : Bk w b #[.string (bs [97]), .string (bs [98]), .string (bs [99])] t) (hj : j < 3) : w.cell? ⟨b, 0 + j * 1, none⟩ = some (.string (bs (id4 j))) := by
 have : j = 0 ∨ j = 1 ∨ j = 2 := by omega
 rcases this with rfl | rfl | rfl
 ·exact hb.cell 0 rfl
 ·exact hb.cell 1 rfl
 ·exact hb.cell 2 rfl
theorem o_neA {ev : Operand → Value} {w : World} {d : Option Tmp} {ty : TypeId} {p : String} {af : Array Edge} {g : Option (Nat × Bool)} {t t' : TypeId} {x y : Operand} {xs ys : Array Value} {b : Bool} (hx : ev x = .agg xs) (hy : ev y = .agg ys) (hm : Tryz.prog.eqGuardType Tryz.prog.depth t = false) (he : (Op.equalIn 10000 t (.agg xs) (.agg ys)).run Tryz.prog w = .ok b w) : (execOp ev (Oper.mk d (.binOp .neq t x y t') ty p af g)).run Tryz.prog w = .ok (.value (.bool (!b))) w := by
 have h1 := run_eqGuard_agg w .neq t x y xs ys hm
 unfold execOp
 simp only [hx, hy, Sem.run_bind, h1, Result.andThen_ok, run_neq_struct, he]
 rfl
theorem smade_mk (b : Nat) (S : SiD) (l : List UInt8) (t n d : Int) (w : World) (hS : SiteAt w b (mkS S l t n d)) :
  Calls Tryz.prog 44 #[.pointer (some ⟨b, 0, none⟩)] w fun e w' => e = .returned (.tuple #[.int .i64 ((S.made + 1 : Nat) : Int), .int .i64 (S.stamp : Int)]) ∧ Gr w w' := smade_any b (mkS S l t n d) w hS
theorem phas_site (F : List PtX) (ja : Option Addr) (jc : Nat) (S : SiD) (t n : Int) (m c : Nat) (w : World) (hm : S.me = m) (hF : PL 0 w (.slice ja F.length jc) F) (hl : F.length ≤ S.P.length + 1) (hs : Sees F S) (hP : S.P = []) (hp : pointB t n = true) (hme : S.me < 5) (hc : 1 ≤ c ∧ c ≤ 1000) :
  Calls Tryz.prog 61 #[.slice ja F.length jc, .agg #[.int .i64 (t), .int .i64 (n)], .agg #[.int .i64 ((m : Nat) : Int), .int .i64 ((c : Nat) : Int)]] w fun e w' => e = .returned (.tuple #[.bool (decide (((c : Nat) : Int) ≤ ((S.made : Nat) : Int))), .int .i64 0]) ∧ Gr w w' := by
 subst hm
 obtain ⟨a, c', e, -, -, hv, hk⟩ := hF.rd
 injection e with e1 e2 e3
 subst e1
 rw [hP] at hl
 have h := phas F ja jc t n (S.me : Int) (c : Int) w (by have : F.length ≤ 0 + 1 := hl; omega) hv hk
 have hi : inR S.me c := ⟨hme, hc.1, hc.2⟩
 have hd : dotB ((S.me : Int), (c : Int)) = true := (dotB_iff _).2 ⟨by simp, by simp only; omega, by simp only; omega, by simp only; omega⟩
 obtain ⟨t', n', rfl, rfl, ht, hn⟩ : ∃ t' n' : Nat, t = t' ∧ n = n' ∧ t' < 16 ∧ n' < 32 := by
  unfold pointB at hp
  simp only [Bool.and_eq_true, decide_eq_true_eq] at hp
  exact ⟨t.toNat, n.toNat, by omega, by omega, by omega, by omega⟩
 have h1 : hasV F (t' : Int) (n' : Int) (S.me : Int) (c : Int) = decide (((c : Nat) : Int) ≤ ((S.made : Nat) : Int)) := by
  rw [hasV_in ht hn hi, hs t' n' S.me c ht hn hi]
  unfold sees ownD
  rw [hP]
  simp [hasP, hc.1]
 have h2 : hasE (t' : Int) (n' : Int) (S.me : Int) (c : Int) = 0 := by
  unfold hasE
  rw [hp, hd]
  rfl
 rw [h1, h2] at h
 exact h
theorem siteDots_k (k : Int) (va : Option Addr) (vc : Nat) (t n : Int) (pp : Bool) (hpp : pointB t n = pp) (L : List (List Int)) (hvc : L.length ≤ vc) (w : World) (hL : L ≠ [] → ∃ b off, va = some ⟨b, off, none⟩ ∧ b < w.heap.size ∧ ∀ i x, L[i]? = some x → ∃ ua uc, w.cell? ⟨b, off + i * 1, none⟩ = some (.slice ua x.length uc) ∧ RdI1 w ua x) :
  Calls Tryz.prog 9 #[.int .i64 (k), .slice va L.length vc, .agg #[.int .i64 (t), .int .i64 (n)]] w fun e w' => e = .returned (.bool true) ∧ Gr w w' := by
 refine enter (N := 110) Tryz.func9 rfl rfl rfl (fun a0 ok0 h0 => ?_)
 have cH : a0.eval (.tmp 0) = .int .i64 (k) := h0 0 _ rfl
 have cI : a0.eval (.tmp 1) = .slice va L.length vc := h0 1 _ rfl
 have cJ : a0.eval (.tmp 2) = .agg #[.int .i64 (t), .int .i64 (n)] := h0 2 _ rfl
 clear h0
 have G0 := Gr.refl w
 refine wp_seq_k (fun K1 cL => (wp_region_lit (sal (cs := #[.int .i64 (t), .int .i64 (n)]) ok0 rfl (wn _ rfl) rfl (o_box cJ) (fun gT w4 b3 W5 n2 => ?_))))
 have G9 := G0.trans W5.gr
 refine sw n2.ok (o_as ev_const) (fun gU br => ?_)
 refine wpList_nil (th_n (cL _ _ (wp_seq_k (fun gV cS => (wp_seq_k (fun gW cT => (wp_region_lit (sc br.ok rfl (wn _ rfl) rfl (o_f0 Tryz.func49 rfl rfl rfl ) (siteBegun_any w4) ?_))))))))
 rintro _ cU ⟨rfl, b7⟩
 refine ⟨_, rfl, fun gX bl => ?_⟩
 have cV := G9.trans b7
 have cW := W5.bk.gr b7
 refine sw bl.ok (o_not bl.at_ rfl) (fun gY bm => ?_)
 refine wpList_nil (th_n (cT _ _ (wp_cond_false (bm.at_) ?_)))
 refine wp_skip (th_n (cS _ _ (wp_seq_k (fun gZ cX => (wp_region_lit ?_)))))
 have cY := bm.n (bl.n (br.n (n2.n cH)))
 refine sw bm.ok (o_mv cY) (fun g0 bt => ?_)
 have hk5 := wi_lt k 5 (by omega)
 refine sc bt.ok rfl (wn _ rfl) rfl (o_f2 Tryz.func60 rfl rfl rfl bt.at_ ev_const) (kwithin_any k 5 (by omega) (by omega) cU) ?_
 rintro _ cZ ⟨rfl, b8⟩
 refine ⟨_, rfl, fun g1 bu => ?_⟩
 have b9 := cV.trans b8
 have c0 := cW.gr b8
 refine sw bu.ok (o_as bu.at_) (fun g3 bn => ?_)
 refine wpList_nil (th_n (cX _ _ (wp_seq_k (fun g4 c1 => (wp_region_lit (sw bn.ok (o_mv bn.at_) (fun g5 bo => ?_)))))))
 refine sc bo.ok rfl (wn _ rfl) rfl (o_f2 Tryz.func15 rfl rfl rfl bo.at_ ev_const) (snew_ok (wi k 5) hk5 (.slice none 0 0) (fun _ => 0) cZ (fs_zero _)) ?_
 rintro _ g6 ⟨b, rfl, hge, hS0, ca⟩
 have hB : w.heap.size ≤ b := Nat.le_trans b9.size hge
 have hI0 : MkI (⟨wi k 5, 0, 0, fun _ => 0, [], []⟩ : SiD) := MkI.new hk5
 refine ⟨_, rfl, fun g7 bp => ?_⟩
 have c2 := b9.trans ca
 have c3 := c0.gr ca
 refine sw bp.ok (o_mv bp.at_) (fun g8 a4 => ?_)
 refine sw a4.ok (o_ex a4.at_ rfl) (fun g9 a6 => ?_)
 refine sw a6.ok (o_ex (a6.n a4.at_) rfl) (fun ha a7 => ?_)
 refine sw a7.ok (o_as (a7.n a6.at_)) (fun hb a8 => ?_)
 refine sw a8.ok (o_as (a8.n a7.at_)) (fun hc a9 => ?_)
 refine wpList_nil (th_n (c1 _ _ (wp_seq_k (fun hf c4 => (wp_seq_k (fun hg c5 => (wp_region_lit (sw a9.ok (o_mv a9.at_) (fun hh ba => ?_)))))))))
 refine sw ba.ok (o_neq (b := false) ba.at_ ev_const (by decide)) (fun hi bb => ?_)
 refine wpList_nil (th_n (c5 _ _ (wp_cond_false (bb.at_) ?_)))
 refine wp_skip (th_n (c4 _ _ (wp_seq_k (fun hj c6 => (wp_region_lit (sw bb.ok (o_as ev_const) (fun hk bc => ?_)))))))
 refine wpList_nil (th_n (c6 _ _ (wp_seq_k (fun hl c7 => (wp_seq_k (fun hm c8 => (wp_region_lit ?_)))))))
 have cb := bc.n (bb.n (ba.n (a9.n (a8.n (a7.n (a6.n (a4.n (bp.n (bo.n (bn.n (bu.n (bt.n (bm.n (bl.n (br.n (n2.n cI))))))))))))))))
 refine sw bc.ok (o_mv cb) (fun hn aU => ?_)
 refine sw aU.ok (o_mv (aU.n cb)) (fun hp aV => ?_)
 refine sw aV.ok (o_len aV.at_ Tryz.underlying23) (fun hq aW => ?_)
 refine sw aW.ok (o_min aW.at_ ev_const (nmin_int _ _)) (fun hr aX => ?_)
 have c9 := aX.n (aW.n (aV.n aU.at_))
 refine sw aX.ok (o_cut (k := min (L.length) (15)) (s := 1) c9 aX.at_ Tryz.underlying23 (by kernel_rfl) (by omega)) (fun hs aY => ?_)
 refine sw aY.ok (o_len aY.at_ Tryz.underlying23) (fun ht aZ => ?_)
 refine sw aZ.ok (o_mv ev_const) (fun hu aC => ?_)
 refine wpList_nil (th_n (c8 _ _ (wp_block ?_)))
 have da := aC.n (aZ.n (aY.n (aX.n (aW.n (aV.n (aU.n (bc.n (bb.n (ba.n (a9.n (a8.n (a7.n (a6.n (a4.n (bp.n (bo.n bn.at_))))))))))))))))
 have db := aC.n (aZ.n (aY.n (aX.n (aW.n (aV.n (aU.n (bc.n (bb.n (ba.n (a9.n (a8.n (a7.n (a6.n (a4.n (bp.n (bo.n (bn.n (bu.n (bt.n (bm.n (bl.n (br.n n2.at_))))))))))))))))))))))
 have dc := aC.n (aZ.n (aY.n (aX.n (aW.n (aV.n (aU.n (bc.n (bb.n (ba.n (a9.n (a8.n (a7.n (a6.n (a4.n (bp.n (bo.n (bn.n (bu.n (bt.n (bm.n (bl.n br.at_)))))))))))))))))))))
 have dd := aC.n (aZ.n (aY.n (aX.n (aW.n (aV.n (aU.n (bc.n (bb.n (ba.n (a9.n a8.at_))))))))))
 have dg := aC.n (aZ.n (aY.n (aX.n (aW.n (aV.n (aU.n bc.at_))))))
 refine lp (fun (nL : Nat) (aL : Act) (wL : World) => ∃ i : Nat, ∃ S : SiD, nL = min L.length 15 - i ∧ Ok 110 aL ∧ Gr w wL ∧ (aL.eval (.tmp 0) = .int .i64 ((wi k 5 : Nat) : Int)) ∧ (aL.eval (.tmp 5) = .pointer (some ⟨b3, 0, none⟩)) ∧ (aL.eval (.tmp 6) = .bool false) ∧ (aL.eval (.tmp 7) = .pointer (some ⟨b, 0, none⟩)) ∧ (aL.eval (.tmp 9) = .int .i64 ((S.made : Nat) : Int)) ∧ (aL.eval (.tmp 34) = .slice va (min (L.length) (15)) vc) ∧ (aL.eval (.tmp 35) = .int .i64 ((min (L.length) (15) : Nat) : Int)) ∧ (aL.eval (.tmp 36) = .int .i64 (i : Int)) ∧ (Bk wL b3 #[.int .i64 (t), .int .i64 (n)] 49) ∧ (SiteAt wL b S) ∧ (i ≤ min L.length 15) ∧ (MkI S) ∧ (S.made ≤ i) ∧ (SameE (⟨wi k 5, 0, 0, fun _ => 0, [], []⟩ : SiD) S)) _ ⟨0, (⟨wi k 5, 0, 0, fun _ => 0, [], []⟩ : SiD), rfl, aC.ok, c2, da, db, dc, dd, dg, (aC.n (aZ.n aY.at_)), (aC.n aZ.at_), aC.at_, c3, hS0, by omega, hI0, (Nat.le_refl _), SameE.refl _⟩ ?_
 rintro hv hx bv ⟨i, S, hmI61, okI61, GI61, bG, bB, bH, bI, bJ, bK, bL, bC, kb3I61, fSbI61, hiI61, hII61, hmI61, hEI61⟩ KI61 hKI61
 refine wp_seq_k (fun hy dh => (wp_region_lit (sw okI61 (o_ltI bC bL) (fun hz l => ?_))))
 refine wpList_nil (th_n (dh _ _ (wp_seq_k (fun hA di => ?_))))
 by_cases cc : (i : Int) < ((min (L.length) (15) : Nat) : Int)
 ·refine wp_cond_true ((l.at_).trans (congrArg Value.bool (decide_eq_true cc))) ?_
  refine wp_skip (th_n (di _ _ (wp_seq_k (fun hC cd => (wp_block (wp_seq_k (fun hD dj => (wp_region_lit ?_))))))))
  have cf : i < List.length L := by omega
  obtain ⟨bh76, fh76, dk, dl, dm⟩ := hL (ne_nil_of_lt cf)
  obtain ⟨xh76, dn⟩ : ∃ x, L[i]? = some x := ⟨_, List.getElem?_eq_getElem cf⟩
  obtain ⟨uh76, vh76, dp, cg⟩ := dm _ _ dn
  refine sw l.ok (o_iaV (i := i) (s := 1) dk (l.n bK) (l.n bC) Tryz.underlying23 (by kernel_rfl) (by omega)) (fun hE E => ?_)
  refine sw E.ok (o_ld E.at_ (Tryz.isAgg45 _) ((Below.cell GI61 dl).trans dp)) (fun hF F => ?_)
  refine sw F.ok (o_as F.at_) (fun hG B => ?_)
  refine wpList_nil (th_n (dj _ _ (wp_seq_k (fun hH dq => (wp_seq_k (fun hI dr => (wp_region_lit (sw B.ok (o_mv B.at_) (fun hJ C => ?_)))))))))
  refine sw C.ok (o_len C.at_ Tryz.underlying45) (fun hK D => ?_)
  refine sw D.ok (o_ltI D.at_ ev_const) (fun hM A => ?_)
  refine wpList_nil (th_n (dr _ _ ?_))
  by_cases ch : ((xh76.length : Nat) : Int) < 3
  ·refine wp_cond_true ((A.at_).trans (congrArg Value.bool (decide_eq_true ch))) ?_
   refine wp_exit (th_x (ib_x (th_n (cd _ _ (wp_region_lit ?_)))))
   have ds := A.n (D.n (C.n (B.n (F.n (E.n (l.n bC))))))
   refine sw A.ok (o_add (r := ((i + 1 : Nat) : Int)) ds ev_const (by omega) (by omega)) (fun hO aD => ?_)
   refine sw aD.ok (o_mv aD.at_) (fun hS aE => ?_)
   refine wpList_nil ?_
   have dt := aE.n (aD.n (A.n (D.n (C.n (B.n (F.n (E.n (l.n bG))))))))
   have du := aE.n (aD.n (A.n (D.n (C.n (B.n (F.n (E.n (l.n bB))))))))
   have dv := aE.n (aD.n (A.n (D.n (C.n (B.n (F.n (E.n (l.n bH))))))))
   have dx := aE.n (aD.n (A.n (D.n (C.n (B.n (F.n (E.n (l.n bI))))))))
   have dy := aE.n (aD.n (A.n (D.n (C.n (B.n (F.n (E.n (l.n bJ))))))))
   have dz := aE.n (aD.n (A.n (D.n (C.n (B.n (F.n (E.n (l.n bK))))))))
   have dA := aE.n (aD.n (A.n (D.n (C.n (B.n (F.n (E.n (l.n bL))))))))
   exact th_n (hKI61 _ _ _ (by omega) ⟨i + 1, S, rfl, aE.ok, GI61, dt, du, dv, dx, dy, dz, dA, aE.at_, kb3I61, fSbI61, by omega, hII61, (by have := hmI61; omega), hEI61⟩)
  ·refine wp_cond_false ((A.at_).trans (congrArg Value.bool (decide_eq_false ch))) ?_
   refine wp_skip (th_n (dq _ _ (wp_seq_k (fun hT dB => (wp_region_lit ?_)))))
   have dC := A.n (D.n (C.n (B.n (F.n (E.n (l.n bJ))))))
   refine sw A.ok (o_mv dC) (fun hU ax => ?_)
   refine sw ax.ok (o_add (r := ((S.made + 1 : Nat) : Int)) ax.at_ ev_const (by omega) (by omega)) (fun hV ay => ?_)
   refine sw ay.ok (o_as ay.at_) (fun hW az => ?_)
   refine wpList_nil (th_n (dB _ _ (wp_seq_k (fun hX dD => ?_))))
   have ltMR102 := fSbI61.lt
   have ci := az.n (ay.n (ax.n (A.n (D.n (C.n (B.n (F.n (E.n (l.n bI)))))))))
   have cj := az.n (ay.n (ax.n (A.n (D.n (C.n B.at_)))))
   have bM : 0 < List.length xh76 := by omega
   obtain ⟨bh107, fh107, dE, dF, dG⟩ := cg (ne_nil_of_lt bM)
   obtain ⟨xh107, dH⟩ : ∃ x, xh76[0]? = some x := ⟨_, List.getElem?_eq_getElem bM⟩
   have hw108 := wi_lt xh107 3 (by omega)
   have bO : 1 < List.length xh76 := by omega
   obtain ⟨bh109, fh109, dI, dJ, dK⟩ := cg (ne_nil_of_lt bO)
   obtain ⟨xh109, dL⟩ : ∃ x, xh76[1]? = some x := ⟨_, List.getElem?_eq_getElem bO⟩
   have hw110 := wi_lt xh109 16 (by omega)
   refine regn_start (N := 110) [17, 0, 1, 2, 3, 4, 5, 6, 7, 8, 9, 10, 11, 12, 13, 14] (some b) 13 (ZS b (mkS S ((id4 (wi xh107 3))) ((wi xh109 16 : Nat) : Int) ((0 : Nat) : Int) ((1 : Nat) : Int))) (by kernel_rfl) (fun dM => ?_)
   have dO := dM.snoc (n' := 1) rfl rfl (fun vJ _ => vJ = .pointer (some ⟨b, 0, none⟩)) rfl (fun _ _ _ _ h => h) (fun aS wS pS => by
     exact Does.val (wn _ rfl) (o_mv ((pS.old 7 rfl).trans ci)) (Gr.refl _) rfl rfl)
   have dS := dO.snoc (n' := 2) rfl rfl (fun vJ wJ => ∃ ac : Nat, vJ = .slice (some ⟨ac, 0, none⟩) 3 3 ∧ bv.heap.size ≤ ac ∧ Bk wJ ac #[.string (bs [97]), .string (bs [98]), .string (bs [99])] 9) rfl (fun _ _ _ g ⟨b, h1, h2, h3⟩ => ⟨b, h1, h2, h3.grown_ne g (fun k e => by cases e; exact Nat.lt_of_lt_of_le ltMR102 h2)⟩) (fun aS wS pS => by
     obtain ⟨hY, dT, dU, bU⟩ := info3_of (show (Tryz.prog.info? 9).map (fun i => (i.zero, i.size)) = some (some (.string (bs [])), 1) by kernel_rfl)
     exact Does.val (wn _ rfl) (o_bs (vs := [(0, .string (bs [97])), (1, .string (bs [98])), (2, .string (bs [99]))]) (by simp [ev_const, bs]) Tryz.underlying24 dT dU (by rw [bU]; rfl) (by rw [bU]; rfl) (by rw [bU]; kernel_rfl)) ((Gr.refl _).alloc _) ⟨_, rfl, pS.gr.size, (New.mk' _ _ _).bk⟩ rfl)
   have dV := dS.snoc (n' := 3) rfl rfl (fun vJ _ => vJ = .slice uh76 xh76.length vh76) rfl (fun _ _ _ _ h => h) (fun aS wS pS => by
     exact Does.val (wn _ rfl) (o_mv ((pS.old 11 rfl).trans cj)) (Gr.refl _) rfl rfl)
   have dW := dV.snoc (n' := 4) rfl rfl (fun vJ _ => vJ = .pointer (some ⟨bh107, fh107 + 0 * 1, none⟩)) rfl (fun _ _ _ _ h => h) (fun aS wS pS => by
     have eR102_2 : aS.eval (.tmp 48) = .slice uh76 xh76.length vh76 := pS.pre 2 rfl
     exact Does.val (wn _ rfl) (o_iaV (i := 0) (s := 1) dE (eR102_2) ev_const Tryz.underlying45 (by kernel_rfl) bM) (Gr.refl _) rfl rfl)
   have dX := dW.snoc (n' := 5) rfl rfl (fun vJ _ => vJ = .int .i64 (xh107)) rfl (fun _ _ _ _ h => h) (fun aS wS pS => by
     have eR102_3 : aS.eval (.tmp 49) = .pointer (some ⟨bh107, fh107 + 0 * 1, none⟩) := pS.pre 3 rfl
     exact Does.val (wn _ rfl) (o_ld (eR102_3) (Tryz.isAgg3 _) ((Below.cell (gr_site GI61 (gb_drew pS.gr) hB) dF).trans (dG _ _ dH))) (Gr.refl _) rfl rfl)
   have dY := dX.snoc (n' := 6) rfl rfl (fun vJ _ => vJ = .int .i64 ((wi xh107 3 : Nat) : Int)) rfl (fun _ _ _ _ h => h) (fun aS wS pS => by
     have eR102_4 : aS.eval (.tmp 50) = .int .i64 (xh107) := pS.pre 4 rfl
     exact Does.call (wn _ rfl) (o_f2 Tryz.func60 rfl rfl rfl (eR102_4) ev_const) (kwithin_any xh107 3 (by omega) (by omega) wS) (by rintro _ w2 ⟨rfl, g⟩; exact ⟨_, rfl, g, rfl⟩) rfl)
   have dZ := dY.snoc (n' := 7) rfl rfl (fun vJ wJ => ∃ ac : Nat, vJ = .pointer (some ⟨ac, 0 + (wi xh107 3) * 1, none⟩) ∧ bv.heap.size ≤ ac ∧ Bk wJ ac #[.string (bs [97]), .string (bs [98]), .string (bs [99])] 9) rfl (fun _ _ _ g ⟨b, h1, h2, h3⟩ => ⟨b, h1, h2, h3.grown_ne g (fun k e => by cases e; exact Nat.lt_of_lt_of_le ltMR102 h2)⟩) (fun aS wS pS => by
     obtain ⟨ac, eR102_1, geb105, bkb105⟩ := pS.pre 1 rfl
     have eR102_1 : aS.eval (.tmp 47) = .slice (some ⟨ac, 0, none⟩) 3 3 := eR102_1
     have eR102_5 : aS.eval (.tmp 51) = .int .i64 ((wi xh107 3 : Nat) : Int) := pS.pre 5 rfl
     exact Does.val (wn _ rfl) (o_ia (i := wi xh107 3) (s := 1) (eR102_1) (eR102_5) Tryz.underlying24 (by kernel_rfl) (by omega)) (Gr.refl _) ⟨ac, rfl, geb105, bkb105⟩ rfl)
   have d2 := dZ.snoc (n' := 8) rfl rfl (fun vJ _ => vJ = .string (bs (id4 (wi xh107 3)))) rfl (fun _ _ _ _ h => h) (fun aS wS pS => by
     obtain ⟨ac, eR102_6, geb105, bkb105⟩ := pS.pre 6 rfl
     have eR102_6 : aS.eval (.tmp 52) = .pointer (some ⟨ac, 0 + (wi xh107 3) * 1, none⟩) := eR102_6
     exact Does.val (wn _ rfl) (o_ld (eR102_6) (Tryz.isAgg9 _) (id3_at _ _ _ _ bkb105 (by omega))) (Gr.refl _) rfl rfl)
   have d3 := d2.snoc (n' := 9) rfl rfl (fun vJ _ => vJ = .slice uh76 xh76.length vh76) rfl (fun _ _ _ _ h => h) (fun aS wS pS => by
     exact Does.val (wn _ rfl) (o_mv ((pS.old 11 rfl).trans cj)) (Gr.refl _) rfl rfl)
   have d4 := d3.snoc (n' := 10) rfl rfl (fun vJ _ => vJ = .pointer (some ⟨bh109, fh109 + 1 * 1, none⟩)) rfl (fun _ _ _ _ h => h) (fun aS wS pS => by
     have eR102_8 : aS.eval (.tmp 54) = .slice uh76 xh76.length vh76 := pS.pre 8 rfl
     exact Does.val (wn _ rfl) (o_iaV (i := 1) (s := 1) dI (eR102_8) ev_const Tryz.underlying45 (by kernel_rfl) bO) (Gr.refl _) rfl rfl)
   have d5 := d4.snoc (n' := 11) rfl rfl (fun vJ _ => vJ = .int .i64 (xh109)) rfl (fun _ _ _ _ h => h) (fun aS wS pS => by
     have eR102_9 : aS.eval (.tmp 55) = .pointer (some ⟨bh109, fh109 + 1 * 1, none⟩) := pS.pre 9 rfl
     exact Does.val (wn _ rfl) (o_ld (eR102_9) (Tryz.isAgg3 _) ((Below.cell (gr_site GI61 (gb_drew pS.gr) hB) dJ).trans (dK _ _ dL))) (Gr.refl _) rfl rfl)
   have d6 := d5.snoc (n' := 12) rfl rfl (fun vJ _ => vJ = .int .i64 ((wi xh109 16 : Nat) : Int)) rfl (fun _ _ _ _ h => h) (fun aS wS pS => by
     have eR102_10 : aS.eval (.tmp 56) = .int .i64 (xh109) := pS.pre 10 rfl
     exact Does.call (wn _ rfl) (o_f2 Tryz.func60 rfl rfl rfl (eR102_10) ev_const) (kwithin_any xh109 16 (by omega) (by omega) wS) (by rintro _ w2 ⟨rfl, g⟩; exact ⟨_, rfl, g, rfl⟩) rfl)
   have d7 := d6.snoc (n' := 13) rfl rfl (fun vJ _ => vJ = .agg #[.int .i64 ((wi xh109 16 : Nat) : Int), .int .i64 0]) rfl (fun _ _ _ _ h => h) (fun aS wS pS => by
     have eR102_11 : aS.eval (.tmp 57) = .int .i64 ((wi xh109 16 : Nat) : Int) := pS.pre 11 rfl
     exact Does.val (wn _ rfl) (o_bd (cells := #[.int .i64 ((wi xh109 16 : Nat) : Int), .int .i64 0]) (vs := [(0, .int .i64 ((wi xh109 16 : Nat) : Int))]) (by simp [(eR102_11), ev_const]) (by kernel_rfl)) (Gr.refl _) rfl rfl)
   have d8 := d7.snocC (n' := 14) rfl rfl (fun vJ wJ => vJ = .tuple #[.agg #[.int .i64 ((S.me : Nat) : Int), .int .i64 ((S.made + 1 : Nat) : Int)], .int .i64 0] ∧ (SiteAt wJ b (mkS S ((id4 (wi xh107 3))) ((wi xh109 16 : Nat) : Int) ((0 : Nat) : Int) ((1 : Nat) : Int))) ∧ (MkI (mkS S ((id4 (wi xh107 3))) ((wi xh109 16 : Nat) : Int) ((0 : Nat) : Int) ((1 : Nat) : Int)))) rfl (fun _ _ _ g ⟨h, q0, q1⟩ => ⟨h, q0.gr g, q1⟩) (fun aS wS pS => by
     have eR102_0 : aS.eval (.tmp 46) = .pointer (some ⟨b, 0, none⟩) := pS.pre 0 rfl
     have eR102_7 : aS.eval (.tmp 53) = .string (bs (id4 (wi xh107 3))) := pS.pre 7 rfl
     have eR102_12 : aS.eval (.tmp 58) = .agg #[.int .i64 ((wi xh109 16 : Nat) : Int), .int .i64 0] := pS.pre 12 rfl
     exact DoesC.call (wn _ rfl) (o_f4 Tryz.func22 rfl rfl rfl (eR102_0) (eR102_7) (eR102_12) ev_const) (smake_i b S ((id4 (wi xh107 3))) (wi xh109 16) (0) (1) w bv wS (GI61.trans (gr_drew (pS.gr0 rfl))) hB (gr_drew (pS.gr0 rfl)) fSbI61 hII61 (by have := hmI61; omega) (id4_ok _) (by omega) (by omega) (by omega)) (by rintro _ w2 ⟨rfl, hS2, hI2, hz2, g⟩; exact ⟨_, rfl, g, ⟨⟨rfl, hS2, hI2⟩, hz2⟩⟩) rfl)
   have d9 := d8.snoc (n' := 15) rfl rfl (fun vJ _ => vJ = .tuple #[.agg #[.int .i64 ((S.me : Nat) : Int), .int .i64 ((S.made + 1 : Nat) : Int)], .int .i64 0]) rfl (fun _ _ _ _ h => h) (fun aS wS pS => by
     obtain ⟨eR102_13, hS2, hI2⟩ := pS.pre 13 rfl
     have eR102_13 : aS.eval (.tmp 59) = .tuple #[.agg #[.int .i64 ((S.me : Nat) : Int), .int .i64 ((S.made + 1 : Nat) : Int)], .int .i64 0] := eR102_13
     exact Does.val (wn _ rfl) (o_mv (eR102_13)) (Gr.refl _) rfl rfl)
   have fa := d9.skip (n' := 16) rfl rfl (by kernel_rfl)
   have fb := fa.skip (n' := 17) rfl rfl (by kernel_rfl)
   have fc := fb.snoc (n' := 18) rfl rfl (fun vJ wJ => True) rfl (fun _ _ _ _ h => h) (fun aS wS pS => by
     exact Does.alloc (wn _ rfl) (o_al (z := .agg #[.int .i64 0, .int .i64 0]) (by kernel_rfl)) trivial)
   have ff := fc.skip (n' := 19) rfl rfl (by kernel_rfl)
   have fg := ff.skip (n' := 20) rfl rfl (by kernel_rfl)
   refine fg.runN (k := 4) (z := #[.int .i64 0, .int .i64 0]) (ty := 51) (fun k e => by cases e; exact ltMR102) rfl (by kernel_rfl) (fun c w w' g h wm w2 g2 u => h wm w2 (g.trans g2) u) (fun v w h wm w2 g u => ((show _ ∧ SiteAt _ _ _ ∧ _ from h).2.1).gr (Below.upd ((New.mk' w _ _).gr.trans g) (Nat.le_refl _) u)) (by kernel_rfl) (by kernel_rfl) rfl rfl (by kernel_rfl) az.ok (by kernel_rfl) (by kernel_rfl) (fun o a w ho => by obtain rfl := Option.some.inj ho; exact o_al (z := .agg #[.int .i64 0, .int .i64 0]) (by kernel_rfl)) (fun ap112 ck H => ?_)
   have cl := gb_drew H.gr
   obtain ⟨ep112_13, hS2, hI2⟩ := H.js 13 rfl
   have ep112_13 : ap112.eval (.tmp 59) = .tuple #[.agg #[.int .i64 ((S.me : Nat) : Int), .int .i64 ((S.made + 1 : Nat) : Int)], .int .i64 0] := ep112_13
   have ep112_14 : ap112.eval (.tmp 45) = .tuple #[.agg #[.int .i64 ((S.me : Nat) : Int), .int .i64 ((S.made + 1 : Nat) : Int)], .int .i64 0] := H.js 14 rfl
   refine (fun T => ⟨T.2 _ _ ⟨H.ok, fun _ _ _ _ => rfl, fun q => (by cases q), fun q => (by cases q), fun _ => rfl, fun q => (by cases q)⟩, fun b x1 x2 x3 x4 => T.1 _ _ ⟨H.ok, fun _ _ _ _ => rfl, fun q => (by cases q), fun q => (by cases q), fun q => (by cases q), fun _ => ⟨Gr.refl _, b, x1, ⟨x2, x4⟩, x3⟩⟩⟩) (tailN (Y := fun c => ZS b (mkS S ((id4 (wi xh107 3))) ((wi xh109 16 : Nat) : Int) ((0 : Nat) : Int) ((1 : Nat) : Int)) c ck) (N := 110) (e0 := 15) (e1 := 16) (f := 17) (j := 18) (fuel := 1) (LL := fun x y z => #[true, true, true, true, true, true, true, true, true, true, true, true, true, true, true, x, y, z, false, false]) (LJ := fun x => #[true, true, true, true, true, true, true, true, true, true, true, true, true, true, true, true, x, true, true, false]) (ap := ap112) (wp := ck) (w₀ := bv.drew) (df := 12) (d0 := 60) (d1 := 61) (v0 := (.agg #[.int .i64 ((S.me : Nat) : Int), .int .i64 ((S.made + 1 : Nat) : Int)])) (v1 := (.int .i64 0)) (z := #[.int .i64 0, .int .i64 0]) (cs' := #[.int .i64 ((S.me : Nat) : Int), .int .i64 ((S.made + 1 : Nat) : Int)]) (ty := 51) (by kernel_rfl) (by kernel_rfl) (by kernel_rfl) (by kernel_rfl) (by kernel_rfl) (by kernel_rfl) (by kernel_rfl) (by kernel_rfl) (by kernel_rfl) (by intro x y; cases x <;> cases y <;> kernel_rfl) (by intro x y; cases x <;> cases y <;> kernel_rfl) (by intro x y; cases x <;> cases y <;> kernel_rfl) (by intro x; cases x <;> kernel_rfl) (by kernel_rfl) rfl rfl rfl rfl rfl rfl rfl rfl (fun _ => wn _ rfl) (fun _ => wn _ rfl) (fun _ => wn _ rfl) (fun _ => wn _ rfl) rfl rfl rfl rfl rfl rfl rfl rfl rfl (fun a w k => o_ex ((k 45 rfl rfl rfl).trans ep112_14) rfl) (fun a w k => o_ex ((k 45 rfl rfl rfl).trans ep112_14) rfl) (fun a w => o_al (z := .agg #[.int .i64 0, .int .i64 0]) (by kernel_rfl)) (fun a w b k0 kf kb => o_stR kf k0 kb (by kernel_rfl) rfl (by simp [Value.oneCell'])) H.gr.size (fun wm w2 g u => hS2.gr (Below.upd g (Nat.le_refl _) u)) (fun aa115 fn bX cm fo a2 h7 fp fq bD bY h8 bZ fr => ?_))
   obtain ⟨bD, hzhb124⟩ := bD
   have ft := gr_site GI61 cl hB
   have fu := bk_site kb3I61 fSbI61 cl (by decide)
   have fv := ft.trans bY
   have fx := fu.gr bY
   have fy : b3 < cm := Nat.lt_of_lt_of_le kb3I61.lt bD
   have fz : w.heap.size ≤ cm := Nat.le_trans GI61.size bD
   have fA : Gr w bX := Below.upd fv fz bZ
   have fB := fx.upd bZ (Nat.ne_of_lt fy)
   have cn := hzhb124 fn bX bY bZ
   refine t_val (i := 19) (by kernel_rfl) rfl fo rfl (wn _ rfl) rfl (o_as fp) (fun h9 al => ?_)
   refine wpAny_done (by kernel_rfl) ?_ _
   refine th_n (dD _ _ (wp_seq_k (fun ia fC => (wp_region_lit ?_))))
   have co := al.n ((a2 7 rfl rfl rfl).trans ((H.old 7 rfl).trans ci))
   refine sw al.ok (o_mv co) (fun ib ad => ?_)
   refine sc ad.ok rfl (wn _ rfl) rfl (o_f1 Tryz.func44 rfl rfl rfl ad.at_) (smade_mk b S _ _ _ _ bX cn) ?_
   rintro _ ic ⟨rfl, bE⟩
   refine ⟨_, rfl, fun id af => ?_⟩
   have fD := fA.trans bE
   have fE := fB.gr bE
   have fF := fr.gr bE
   have fG := cn.gr bE
   refine sw af.ok (o_mv af.at_) (fun ig V => ?_)
   refine sw V.ok (o_ex V.at_ rfl) (fun ih W => ?_)
   refine sw W.ok (o_ex (W.n V.at_) rfl) (fun ii X => ?_)
   refine sw X.ok (o_as (X.n W.at_)) (fun ij Z => ?_)
   refine sw Z.ok (o_as (Z.n X.at_)) (fun ik ag => ?_)
   refine wpList_nil (th_n (fC _ _ (wp_seq_k (fun il fH => (wp_region_lit ?_)))))
   have fI := ag.n (Z.n (X.n (W.n (V.n (af.n (ad.n al.at_))))))
   refine sw ag.ok (o_mv fI) (fun im ah => ?_)
   refine sw ah.ok (o_neq (b := false) ah.at_ ev_const (by decide)) (fun io ai => ?_)
   refine sw ai.ok (o_mv ai.at_) (fun ip G => ?_)
   have fJ := G.n (ai.n (ah.n (ag.n (Z.n (X.n (W.n (V.n (af.n (ad.n (al.n fq))))))))))
   refine sv G.ok rfl (wgT rfl (yl 2 false rfl G.at_) rfl) rfl (o_ldR fJ fF Tryz.underlying51 rfl (by kernel_rfl)) (fun iq I => ?_)
   have cp := I.n (G.n (ai.n (ah.n (ag.n (Z.n (X.n (W.n (V.n (af.n (ad.n (al.n ((a2 0 rfl rfl rfl).trans ((H.old 0 rfl).trans (az.n (ay.n (ax.n (A.n (D.n (C.n (B.n (F.n (E.n (l.n bG)))))))))))))))))))))))
   refine sv I.ok rfl (wgT rfl (yl 2 false rfl (I.n G.at_)) rfl) rfl (o_mv cp) (fun ir J => ?_)
   have cq := J.n (I.n (G.n (ai.n (ah.n (ag.n (Z.n (X.n (W.n (V.n (af.n (ad.n (al.n ((a2 9 rfl rfl rfl).trans ((H.old 9 rfl).trans az.at_))))))))))))))
   refine sv J.ok rfl (wgT rfl (yl 2 false rfl (J.n (I.n G.at_))) rfl) rfl (o_mv cq) (fun it K => ?_)
   have b0 := K.n (J.n (I.n G.at_))
   refine sv K.ok rfl (wgT rfl (yl 2 false rfl b0) rfl) rfl (o_bd (cells := #[.int .i64 ((wi k 5 : Nat) : Int), .int .i64 ((S.made + 1 : Nat) : Int)]) (vs := [(0, .int .i64 ((wi k 5 : Nat) : Int)), (1, .int .i64 ((S.made + 1 : Nat) : Int))]) (by simp [(K.n J.at_), K.at_, ev_const]) (by kernel_rfl)) (fun iu M => ?_)
   have fK := M.n (K.n (J.n I.at_))
   refine sv M.ok rfl (wgT rfl (yl 2 false rfl (M.n b0)) rfl) rfl (o_neA (b := true) fK M.at_ (by kernel_rfl) ((eq_dot _ _ _ _ _).trans (by rw [hEI61.me]; exact congrArg (fun b => Result.ok b _) (decide_eq_true ⟨rfl, rfl⟩)))) (fun iv aj => ?_)
   refine sw aj.ok (o_pkF (aj.n (M.n b0)) aj.at_) (fun ix am => ?_)
   refine sw am.ok (o_mv am.at_) (fun iy O => ?_)
   have fL := O.n (am.n (aj.n (M.n (K.n (J.n (I.n (G.n (ai.n (ah.n (ag.n Z.at_))))))))))
   refine sv O.ok rfl (wgT rfl (yl 9 false rfl O.at_) rfl) rfl (o_mv fL) (fun iz aa => ?_)
   have cr := aa.n (O.n (am.n (aj.n (M.n (K.n cq)))))
   refine sv aa.ok rfl (wgT rfl (yl 9 false rfl (aa.n O.at_)) rfl) rfl (o_mv cr) (fun iA ab => ?_)
   refine sv ab.ok rfl (wgT rfl (yl 9 false rfl (ab.n (aa.n O.at_))) rfl) rfl (o_neq (b := false) (ab.n aa.at_) ab.at_ (by simp [show ((S.made + 1 : Nat) : Int) = ((S.made + 1 : Nat) : Int) from rfl])) (fun iB an => ?_)
   have fM := an.n (ab.n (aa.n O.at_))
   refine sw an.ok (o_pkF fM an.at_) (fun iC aA => ?_)
   refine wpList_nil (th_n (fH _ _ (wp_cond_false (aA.at_) ?_)))
   refine wp_skip (ib_n (th_n (cd _ _ (wp_region_lit ?_))))
   have fO := aA.n (an.n (ab.n (aa.n (O.n (am.n (aj.n (M.n (K.n (J.n (I.n (G.n (ai.n (ah.n (ag.n (Z.n (X.n (W.n (V.n (af.n (ad.n (al.n ((a2 36 rfl rfl rfl).trans ((H.old 36 rfl).trans (az.n (ay.n (ax.n (A.n (D.n (C.n (B.n (F.n (E.n (l.n bC)))))))))))))))))))))))))))))))))
   refine sw aA.ok (o_add (r := ((i + 1 : Nat) : Int)) fO ev_const (by omega) (by omega)) (fun iD aF => ?_)
   refine sw aF.ok (o_mv aF.at_) (fun iE aG => ?_)
   refine wpList_nil ?_
   have fS := aG.n (aF.n (aA.n (an.n (ab.n (aa.n (O.n (am.n (aj.n (M.n (K.n (J.n cp)))))))))))
   have fT := aG.n (aF.n (aA.n (an.n (ab.n (aa.n (O.n (am.n (aj.n (M.n (K.n (J.n (I.n (G.n (ai.n (ah.n (ag.n (Z.n (X.n (W.n (V.n (af.n (ad.n (al.n ((a2 5 rfl rfl rfl).trans ((H.old 5 rfl).trans (az.n (ay.n (ax.n (A.n (D.n (C.n (B.n (F.n (E.n (l.n bB)))))))))))))))))))))))))))))))))))
   have fU := aG.n (aF.n (aA.n (an.n (ab.n (aa.n (O.n (am.n (aj.n (M.n (K.n (J.n (I.n (G.n (ai.n (ah.n (ag.n (Z.n (X.n (W.n (V.n (af.n (ad.n (al.n ((a2 6 rfl rfl rfl).trans ((H.old 6 rfl).trans (az.n (ay.n (ax.n (A.n (D.n (C.n (B.n (F.n (E.n (l.n bH)))))))))))))))))))))))))))))))))))
   have fV := aG.n (aF.n (aA.n (an.n (ab.n (aa.n (O.n (am.n (aj.n (M.n (K.n (J.n (I.n (G.n (ai.n (ah.n (ag.n (Z.n (X.n (W.n (V.n (af.n (ad.n co))))))))))))))))))))))
   have fW := aG.n (aF.n (aA.n (an.n (ab.n cr))))
   have fX := aG.n (aF.n (aA.n (an.n (ab.n (aa.n (O.n (am.n (aj.n (M.n (K.n (J.n (I.n (G.n (ai.n (ah.n (ag.n (Z.n (X.n (W.n (V.n (af.n (ad.n (al.n ((a2 34 rfl rfl rfl).trans ((H.old 34 rfl).trans (az.n (ay.n (ax.n (A.n (D.n (C.n (B.n (F.n (E.n (l.n bK)))))))))))))))))))))))))))))))))))
   have fY := aG.n (aF.n (aA.n (an.n (ab.n (aa.n (O.n (am.n (aj.n (M.n (K.n (J.n (I.n (G.n (ai.n (ah.n (ag.n (Z.n (X.n (W.n (V.n (af.n (ad.n (al.n ((a2 35 rfl rfl rfl).trans ((H.old 35 rfl).trans (az.n (ay.n (ax.n (A.n (D.n (C.n (B.n (F.n (E.n (l.n bL)))))))))))))))))))))))))))))))))))
   exact th_n (hKI61 _ _ _ (by omega) ⟨i + 1, mkS S ((id4 (wi xh107 3))) ((wi xh109 16 : Nat) : Int) ((0 : Nat) : Int) ((1 : Nat) : Int), rfl, aG.ok, fD, fS, fT, fU, fV, fW, fX, fY, aG.at_, fE, fG, by omega, hI2, (show S.made + 1 ≤ _ by have := hmI61; omega), hEI61.step _ _ _ _⟩)
 ·refine wp_cond_false ((l.at_).trans (congrArg Value.bool (decide_eq_false cc))) ?_
  refine wp_exit (th_x (th_x (ib_x (th_n (c7 _ _ (wp_seq_k (fun iF fZ => (wp_seq_k (fun iG f0 => (wp_region_lit (sw l.ok (o_ldR (l.n bB) kb3I61 Tryz.underlying49 rfl (by kernel_rfl)) (fun iH bd => ?_))))))))))))
  refine sc bd.ok rfl (wn _ rfl) rfl (o_f1 Tryz.func56 rfl rfl rfl bd.at_) ((by have h := point_any t n bv; rw [hpp] at h; exact h)) ?_
  rintro _ iI ⟨rfl, b1⟩
  refine ⟨_, rfl, fun iJ bf => ?_⟩
  have ct := GI61.trans b1
  have f1 := kb3I61.gr b1
  have f2 := fSbI61.gr b1
  refine sw bf.ok (o_notI bf.at_) (fun iK aH => ?_)
  refine wpList_nil (th_n (f0 _ _ ?_))
  cases b2 : (!pp)
  ·refine wp_cond_false ((aH.at_).trans (congrArg Value.bool (b2))) ?_
   have hpt : pointB t n = true := by rw [hpp]; simpa using b2
   refine wp_skip (th_n (fZ _ _ (wp_seq_k (fun iL f3 => (wp_seq_k (fun iM f4 => (wp_region_lit (sw aH.ok (o_as ev_const) (fun iO bg => ?_)))))))))
   refine wpList_nil (th_n (f4 _ _ (wp_block ?_)))
   have iS : S.made ≤ 15 := by have := hmI61; omega
   have f5 := bg.n (aH.n (bf.n (bd.n (l.n bG))))
   have f6 := bg.n (aH.n (bf.n (bd.n (l.n bB))))
   have f7 := bg.n (aH.n (bf.n (bd.n (l.n bH))))
   have f8 := bg.n (aH.n (bf.n (bd.n (l.n bI))))
   have f9 := bg.n (aH.n (bf.n (bd.n (l.n bJ))))
   refine lp (fun (nL : Nat) (aL : Act) (wL : World) => ∃ c : Nat, nL = S.made + 2 - c ∧ Ok 110 aL ∧ Gr w wL ∧ (aL.eval (.tmp 0) = .int .i64 ((wi k 5 : Nat) : Int)) ∧ (aL.eval (.tmp 5) = .pointer (some ⟨b3, 0, none⟩)) ∧ (aL.eval (.tmp 6) = .bool false) ∧ (aL.eval (.tmp 7) = .pointer (some ⟨b, 0, none⟩)) ∧ (aL.eval (.tmp 9) = .int .i64 ((S.made : Nat) : Int)) ∧ (aL.eval (.tmp 16) = .int .i64 (c : Int)) ∧ (Bk wL b3 #[.int .i64 (t), .int .i64 (n)] 49) ∧ (SiteAt wL b S) ∧ (1 ≤ c ∧ c ≤ S.made + 2)) _ ⟨1, rfl, bg.ok, ct, f5, f6, f7, f8, f9, bg.at_, f1, f2, by omega⟩ ?_
   rintro iT iU iV ⟨c, hmI202, okI202, GI202, ga, gb, gc, gd, cu, cx, kb3I202, fSbI202, hcI202⟩ KI202 hKI202
   refine wp_seq_k (fun iW gf => (wp_seq_k (fun iX gg => (wp_region_lit (sw okI202 (o_mv cx) (fun iY aI => ?_))))))
   refine sw aI.ok (o_mv (aI.n cu)) (fun iZ aJ => ?_)
   refine sw aJ.ok (o_add (r := ((S.made + 1 : Nat) : Int)) aJ.at_ ev_const (by omega) (by omega)) (fun i0 aK => ?_)
   refine sw aK.ok (o_leI (aK.n (aJ.n aI.at_)) aK.at_) (fun i1 aB => ?_)
   refine wpList_nil (th_n (gg _ _ ?_))
   by_cases cy : (c : Int) ≤ ((S.made + 1 : Nat) : Int)
   ·refine wp_cond_true ((aB.at_).trans (congrArg Value.bool (decide_eq_true cy))) ?_
    refine wp_skip (th_n (gf _ _ (wp_seq_k (fun i2 gh => (wp_block (wp_seq_k (fun i3 gi => (reg_start (N := 110) (m := 12) (by kernel_rfl) (fun gj => ?_)))))))))
    have cz := aB.n (aK.n (aJ.n (aI.n gd)))
    have gk := gj.snoc (n' := 1) rfl (fun vJ _ => vJ = .pointer (some ⟨b, 0, none⟩)) rfl (fun _ _ _ _ h => h) (fun aS wS pS => by
      exact Does.val (wn _ rfl) (o_mv ((pS.old 7 rfl).trans cz)) (Gr.refl _) rfl rfl)
    have gl := gk.snoc (n' := 2) rfl (fun vJ wJ => ∃ (U : List PtX) (ja2 : Option Addr) (jc2 : Nat), vJ = .slice ja2 (List.length U) jc2 ∧ (U.length ≤ S.P.length + 1) ∧ (Sees U S) ∧ (PL 0 wJ (.slice ja2 (List.length U) jc2) U)) rfl (fun _ _ _ g ⟨U, ja2, jc2, h, q0, q1, q2⟩ => ⟨U, ja2, jc2, h, q0, q1, q2.gr g⟩) (fun aS wS pS => by
      have eR220_0 : aS.eval (.tmp 92) = .pointer (some ⟨b, 0, none⟩) := pS.pre 0 rfl
      exact Does.call (wn _ rfl) (o_f1 Tryz.func47 rfl rfl rfl (eR220_0)) (sparts_any b S hII61.ok wS (fSbI202.gr (gr_drew pS.gr))) (by rintro _ w2 ⟨U, ja2, jc2, rfl, hF2l, hF2s, hF2f, hF2p, g⟩; exact ⟨_, rfl, g, ⟨U, ja2, jc2, rfl, hF2l, hF2s, hF2p⟩⟩) rfl)
    have cA := aB.n (aK.n (aJ.n (aI.n gb)))
    have gn := gl.snoc (n' := 3) rfl (fun vJ _ => vJ = .agg #[.int .i64 (t), .int .i64 (n)]) rfl (fun _ _ _ _ h => h) (fun aS wS pS => by
      exact Does.val (wn _ rfl) (o_ldR ((pS.old 5 rfl).trans cA) (Bk.gr kb3I202 (gr_drew pS.gr)) Tryz.underlying49 rfl (by kernel_rfl)) (Gr.refl _) rfl rfl)
    have cB := aB.n (aK.n (aJ.n (aI.n ga)))
    have go := gn.snoc (n' := 4) rfl (fun vJ _ => vJ = .int .i64 ((wi k 5 : Nat) : Int)) rfl (fun _ _ _ _ h => h) (fun aS wS pS => by
      exact Does.val (wn _ rfl) (o_mv ((pS.old 0 rfl).trans cB)) (Gr.refl _) rfl rfl)
    have cC := aB.n (aK.n (aJ.n (aI.n cx)))
    have gp := go.snoc (n' := 5) rfl (fun vJ _ => vJ = .int .i64 (c : Int)) rfl (fun _ _ _ _ h => h) (fun aS wS pS => by
      exact Does.val (wn _ rfl) (o_mv ((pS.old 16 rfl).trans cC)) (Gr.refl _) rfl rfl)
    have gq := gp.snoc (n' := 6) rfl (fun vJ _ => vJ = .agg #[.int .i64 ((wi k 5 : Nat) : Int), .int .i64 (c : Int)]) rfl (fun _ _ _ _ h => h) (fun aS wS pS => by
      have eR220_3 : aS.eval (.tmp 95) = .int .i64 ((wi k 5 : Nat) : Int) := pS.pre 3 rfl
      have eR220_4 : aS.eval (.tmp 96) = .int .i64 (c : Int) := pS.pre 4 rfl
      exact Does.val (wn _ rfl) (o_bd (cells := #[.int .i64 ((wi k 5 : Nat) : Int), .int .i64 (c : Int)]) (vs := [(0, .int .i64 ((wi k 5 : Nat) : Int)), (1, .int .i64 (c : Int))]) (by simp [(eR220_3), (eR220_4), ev_const]) (by kernel_rfl)) (Gr.refl _) rfl rfl)
    have gs := gq.snoc (n' := 7) rfl (fun vJ _ => vJ = .tuple #[.bool (decide ((c : Int) ≤ ((S.made : Nat) : Int))), .int .i64 0]) rfl (fun _ _ _ _ h => h) (fun aS wS pS => by
      obtain ⟨U, ja2, jc2, eR220_1, hF2l, hF2s, hF2p⟩ := pS.pre 1 rfl
      have eR220_1 : aS.eval (.tmp 93) = .slice ja2 (List.length U) jc2 := eR220_1
      have eR220_2 : aS.eval (.tmp 94) = .agg #[.int .i64 (t), .int .i64 (n)] := pS.pre 2 rfl
      have eR220_5 : aS.eval (.tmp 97) = .agg #[.int .i64 ((wi k 5 : Nat) : Int), .int .i64 (c : Int)] := pS.pre 5 rfl
      exact Does.call (wn _ rfl) (o_f3 Tryz.func61 rfl rfl rfl (eR220_1) (eR220_2) (eR220_5)) (phas_site U ja2 jc2 S t n (wi k 5) c wS hEI61.me hF2p hF2l hF2s hEI61.P hpt hII61.ok.me (by omega)) (by rintro _ w2 ⟨rfl, g⟩; exact ⟨_, rfl, g, rfl⟩) rfl)
    have gt := gs.snoc (n' := 8) rfl (fun vJ _ => vJ = .tuple #[.bool (decide ((c : Int) ≤ ((S.made : Nat) : Int))), .int .i64 0]) rfl (fun _ _ _ _ h => h) (fun aS wS pS => by
      have eR220_6 : aS.eval (.tmp 98) = .tuple #[.bool (decide ((c : Int) ≤ ((S.made : Nat) : Int))), .int .i64 0] := pS.pre 6 rfl
      exact Does.val (wn _ rfl) (o_mv (eR220_6)) (Gr.refl _) rfl rfl)
    have gu := gt.snoc (n' := 9) rfl (fun vJ _ => vJ = .bool (decide ((c : Int) ≤ ((S.made : Nat) : Int)))) rfl (fun _ _ _ _ h => h) (fun aS wS pS => by
      have eR220_7 : aS.eval (.tmp 91) = .tuple #[.bool (decide ((c : Int) ≤ ((S.made : Nat) : Int))), .int .i64 0] := pS.pre 7 rfl
      exact Does.val (wn _ rfl) (o_ex (eR220_7) rfl) (Gr.refl _) rfl rfl)
    have gx := gu.snoc (n' := 10) rfl (fun vJ _ => vJ = .int .i64 0) rfl (fun _ _ _ _ h => h) (fun aS wS pS => by
      have eR220_7 : aS.eval (.tmp 91) = .tuple #[.bool (decide ((c : Int) ≤ ((S.made : Nat) : Int))), .int .i64 0] := pS.pre 7 rfl
      exact Does.val (wn _ rfl) (o_ex (eR220_7) rfl) (Gr.refl _) rfl rfl)
    have gy := gx.snoc (n' := 11) rfl (fun vJ _ => vJ = .bool (decide ((c : Int) ≤ ((S.made : Nat) : Int)))) rfl (fun _ _ _ _ h => h) (fun aS wS pS => by
      have eR220_8 : aS.eval (.tmp 99) = .bool (decide ((c : Int) ≤ ((S.made : Nat) : Int))) := pS.pre 8 rfl
      exact Does.val (wn _ rfl) (o_as (eR220_8)) (Gr.refl _) rfl rfl)
    have gz := gy.snoc (n' := 12) rfl (fun vJ _ => vJ = .int .i64 0) rfl (fun _ _ _ _ h => h) (fun aS wS pS => by
      have eR220_9 : aS.eval (.tmp 100) = .int .i64 0 := pS.pre 9 rfl
      exact Does.val (wn _ rfl) (o_as (eR220_9)) (Gr.refl _) rfl rfl)
    refine gz.run (k := 0) (L := #[true, true, true, true, true, true, true, true, true, true, true, true]) (by kernel_rfl) (by kernel_rfl) (by kernel_rfl) aB.ok (by kernel_rfl) (by kernel_rfl) (fun ap226 i4 ao => ?_)
    have b4 := gr_drew ao.gr
    have gA := GI202.trans b4
    have gB := kb3I202.gr b4
    have gC := fSbI202.gr b4
    obtain ⟨U, ja2, jc2, ep226_1, hF2l, hF2s, hF2p⟩ := ao.js 1 rfl
    have ep226_1 : ap226.eval (.tmp 93) = .slice ja2 (List.length U) jc2 := ep226_1
    refine wpAny_done (by kernel_rfl) ?_ _
    refine th_n (gi _ _ (wp_seq_k (fun i5 gD => (wp_region_lit ?_))))
    have ep226_11 : ap226.eval (.tmp 18) = .int .i64 0 := ao.js 11 rfl
    refine sw ao.ok (o_mv ep226_11) (fun i6 aM => ?_)
    refine sw aM.ok (o_neq (b := false) aM.at_ ev_const (by decide)) (fun i7 aO => ?_)
    refine sw aO.ok (o_mv aO.at_) (fun i8 ak => ?_)
    have ep226_10 : ap226.eval (.tmp 17) = .bool (decide ((c : Int) ≤ ((S.made : Nat) : Int))) := ao.js 10 rfl
    have gE := ak.n (aO.n (aM.n ep226_10))
    refine sv ak.ok rfl (wgT rfl (yl 2 false rfl ak.at_) rfl) rfl (o_mv gE) (fun i9 aq => ?_)
    have cD := aq.n (ak.n (aO.n (aM.n ((ao.old 16 rfl).trans cC))))
    refine sv aq.ok rfl (wgT rfl (yl 2 false rfl (aq.n ak.at_)) rfl) rfl (o_mv cD) (fun ja ar => ?_)
    have cE := ar.n (aq.n (ak.n (aO.n (aM.n ((ao.old 9 rfl).trans (aB.n (aK.n (aJ.n (aI.n cu)))))))))
    refine sv ar.ok rfl (wgT rfl (yl 2 false rfl (ar.n (aq.n ak.at_))) rfl) rfl (o_mv cE) (fun jb au => ?_)
    have b5 := au.n (ar.n (aq.n ak.at_))
    refine sv au.ok rfl (wgT rfl (yl 2 false rfl b5) rfl) rfl (o_leI (au.n ar.at_) au.at_) (fun jc av => ?_)
    have gF := av.n (au.n (ar.n aq.at_))
    refine sv av.ok rfl (wgT rfl (yl 2 false rfl (av.n b5)) rfl) rfl (o_neqB (b := false) gF av.at_ (by simp) Tryz.underlying4) (fun jd aT => ?_)
    refine sw aT.ok (o_pkF (aT.n (av.n b5)) aT.at_) (fun jf a3 => ?_)
    refine wpList_nil (th_n (gD _ _ (wp_cond_false (a3.at_) ?_)))
    refine wp_skip (ib_n (th_n (gh _ _ (wp_region_lit ?_))))
    have gG := a3.n (aT.n (av.n (au.n (ar.n cD))))
    refine sw a3.ok (o_mv gG) (fun jg bh => ?_)
    refine sw bh.ok (o_add (r := ((c + 1 : Nat) : Int)) bh.at_ ev_const (by omega) (by omega)) (fun jh bi => ?_)
    refine sw bi.ok (o_as bi.at_) (fun ji bj => ?_)
    refine wpList_nil ?_
    have gH := bj.n (bi.n (bh.n (a3.n (aT.n (av.n (au.n (ar.n (aq.n (ak.n (aO.n (aM.n ((ao.old 0 rfl).trans cB))))))))))))
    have gI := bj.n (bi.n (bh.n (a3.n (aT.n (av.n (au.n (ar.n (aq.n (ak.n (aO.n (aM.n ((ao.old 5 rfl).trans cA))))))))))))
    have gJ := bj.n (bi.n (bh.n (a3.n (aT.n (av.n (au.n (ar.n (aq.n (ak.n (aO.n (aM.n ((ao.old 6 rfl).trans (aB.n (aK.n (aJ.n (aI.n gc))))))))))))))))
    have gK := bj.n (bi.n (bh.n (a3.n (aT.n (av.n (au.n (ar.n (aq.n (ak.n (aO.n (aM.n ((ao.old 7 rfl).trans cz))))))))))))
    have gL := bj.n (bi.n (bh.n (a3.n (aT.n (av.n (au.n cE))))))
    exact th_n (hKI202 _ _ _ (by omega) ⟨c + 1, rfl, bj.ok, gA, gH, gI, gJ, gK, gL, bj.at_, gB, gC, by omega⟩)
   ·refine wp_cond_false ((aB.at_).trans (congrArg Value.bool (decide_eq_false cy))) ?_
    refine wp_exit (th_x (th_x (ib_x (th_n (f3 _ _ (wp_seq_k (fun jj gM => (wp_region_lit (sw aB.ok (o_as ev_const) (fun jk cF => ?_))))))))))
    refine wpList_nil (th_n (gM _ _ (wp_ret (ret1 cF.ok rfl (cF.at_) ⟨rfl, GI202⟩))))
  ·refine wp_cond_true ((aH.at_).trans (congrArg Value.bool (b2))) ?_
   refine wp_seq_k (fun jl gO => (wp_region_lit (sw aH.ok (o_as ev_const) (fun jm cG => ?_))))
   refine wpList_nil (th_n (gO _ _ (wp_ret (th_r (ret1 cG.ok rfl (cG.at_) ⟨rfl, ct⟩)))))
theorem siteDots_walk (k : Int) (v : Value) (t n : Int) (L : List (List Int)) (w : World) (hL : RdLL w v L) :
  Calls Tryz.prog 9 #[.int .i64 k, v, .agg #[.int .i64 t, .int .i64 n]] w fun e w' => e = .returned (.bool true) ∧ Gr w w' := by
 obtain ⟨a, c, rfl, hc, h⟩ := hL
 exact siteDots_k k a c t n _ rfl L hc w h
end Go.Proofs.YtglbnggkkjhokaaGreat
