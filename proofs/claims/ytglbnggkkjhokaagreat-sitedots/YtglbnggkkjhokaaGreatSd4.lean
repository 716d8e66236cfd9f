/- Joined: ShB, ShC, ShD, GxH, GxC, ShE, ShF, ShG, ShH, ShI, ShK, GxF, KmV, ShL, ShM, ShSort, ShComp. -/
import Derived.Test.YtglbnggkkjhokaaGreatSd3
import Derived.Laws.IdiomCopy
import Derived.Lib.AppendZerosOnto
import Derived.Lib.Overlaps
import Derived.Lib.AppendZeros
import Derived.Laws.AppendOwnNone
import Derived.SizedLaws
set_option linter.unusedVariables false
set_option linter.unusedSimpArgs false
set_option maxHeartbeats 8000000
set_option maxRecDepth 100000
/- shelf.Id, has, One; filter.Point. -/
namespace Rm
open Go Go.RowKit Gx
def outB (r : Int) : Bool := decide (r < 97) || decide (122 < r)
end Rm
namespace Go.Proofs.YtglbnggkkjhokaaGreat
open Go.RowKit Rm Gx
theorem point2_any (t n : Int) (w : World) :
  Calls Tryz.prog 56 #[.agg #[.int .i64 (t), .int .i64 (n)]] w fun e w' => e = .returned (.bool (ptB t n)) ∧ Gr w w' := by
 refine enter (N := 21) Tryz.func56 rfl rfl rfl (fun a0 ok0 h0 => ?_)
 have aL : a0.eval (.tmp 0) = .agg #[.int .i64 (t), .int .i64 (n)] := h0 0 _ rfl
 clear h0
 have G0 := Gr.refl w
 refine wp_seq_k (fun K1 aO => (wp_region_lit (sal (cs := #[.int .i64 (t), .int .i64 (n)]) ok0 rfl (wn _ rfl) rfl (o_box aL) (fun a4 w4 b3 c V => ?_))))
 have A := G0.trans c.gr
 refine sw V.ok (o_as ev_const) (fun a8 W => ?_)
 refine wpList_nil (th_n (aO _ _ (wp_seq_k (fun K9 B => (wp_region_lit (sw W.ok (o_fa (z := 1) (W.n V.at_) Tryz.underlying49 rfl (by kernel_rfl) rfl rfl) (fun ba X => ?_)))))))
 refine sw X.ok (o_ld X.at_ (Tryz.isAgg3 _) (c.bk.cell _ rfl)) (fun bb Y => ?_)
 refine sw Y.ok (o_geI Y.at_ ev_const) (fun bc Z => ?_)
 refine sw Z.ok (o_mv Z.at_) (fun bd g => ?_)
 by_cases al : (0 : Int) ≤ t
 ·have C := (g.at_).trans (congrArg Value.bool (decide_eq_true al))
  have am := g.n (Z.n (Y.n (X.n (W.n V.at_))))
  refine sv g.ok rfl (wgT rfl (yl 3 true rfl C) rfl) rfl (o_fa (z := 1) am Tryz.underlying49 rfl (by kernel_rfl) rfl rfl) (fun bf a => ?_)
  refine sv a.ok rfl (wgT rfl (yl 3 true rfl (a.n C)) rfl) rfl (o_ld a.at_ (Tryz.isAgg3 _) (c.bk.cell _ rfl)) (fun bg h => ?_)
  refine sv h.ok rfl (wgT rfl (yl 3 true rfl (h.n (a.n C))) rfl) rfl (o_ltI h.at_ ev_const) (fun bh D => ?_)
  have aS := D.n (h.n (a.n C))
  refine sw D.ok (o_pkT aS D.at_) (fun bi aa => ?_)
  refine sw aa.ok (o_mv aa.at_) (fun bj j => ?_)
  by_cases an : t < 16
  ·have E := (j.at_).trans (congrArg Value.bool (decide_eq_true an))
   have ao := j.n (aa.n (D.n (h.n (a.n am))))
   refine sv j.ok rfl (wgT rfl (yl 8 true rfl E) rfl) rfl (o_fa (z := 1) ao Tryz.underlying49 rfl (by kernel_rfl) rfl rfl) (fun bl b => ?_)
   refine sv b.ok rfl (wgT rfl (yl 8 true rfl (b.n E)) rfl) rfl (o_ld b.at_ (Tryz.isAgg3 _) (c.bk.cell _ rfl)) (fun bm l => ?_)
   refine sv l.ok rfl (wgT rfl (yl 8 true rfl (l.n (b.n E))) rfl) rfl (o_geI l.at_ ev_const) (fun bn F => ?_)
   have aT := F.n (l.n (b.n E))
   refine sw F.ok (o_pkT aT F.at_) (fun bo ab => ?_)
   refine sw ab.ok (o_mv ab.at_) (fun bp o => ?_)
   by_cases ap : (0 : Int) ≤ n
   ·have G := (o.at_).trans (congrArg Value.bool (decide_eq_true ap))
    have aU := o.n (ab.n (F.n (l.n (b.n ao))))
    refine sv o.ok rfl (wgT rfl (yl 13 true rfl G) rfl) rfl (o_fa (z := 1) aU Tryz.underlying49 rfl (by kernel_rfl) rfl rfl) (fun bq q => ?_)
    refine sv q.ok rfl (wgT rfl (yl 13 true rfl (q.n G)) rfl) rfl (o_ld q.at_ (Tryz.isAgg3 _) (c.bk.cell _ rfl)) (fun br H => ?_)
    refine sv H.ok rfl (wgT rfl (yl 13 true rfl (H.n (q.n G))) rfl) rfl (o_ltI H.at_ ev_const) (fun bt ac => ?_)
    have aV := ac.n (H.n (q.n G))
    refine sw ac.ok (o_pkT aV ac.at_) (fun bu aq => ?_)
    refine sw aq.ok (o_as aq.at_) (fun bv ar => ?_)
    refine wpList_nil (th_n (B _ _ (wp_ret (ret1 ar.ok rfl (ar.at_) ⟨by unfold ptB; rw [decide_eq_true (show 0 ≤ t by omega), decide_eq_true (show t < 16 by omega), decide_eq_true (show 0 ≤ n by omega)]; simp, A⟩))))
   ·have I := (o.at_).trans (congrArg Value.bool (decide_eq_false ap))
    refine sn o.ok rfl (wgF rfl (yl 13 false rfl I) rfl) rfl (fun bx J => ?_)
    refine sn J.ok rfl (wgF rfl (yl 13 false rfl (J.n I)) rfl) rfl (fun bz ad => ?_)
    refine sn ad.ok rfl (wgF rfl (yl 13 false rfl (ad.n (J.n I))) rfl) rfl (fun bA au => ?_)
    have aW := au.n (ad.n (J.n I))
    refine sw au.ok (o_pkF aW ev_const) (fun bB av => ?_)
    refine sw av.ok (o_as av.at_) (fun bC ax => ?_)
    refine wpList_nil (th_n (B _ _ (wp_ret (ret1 ax.ok rfl (ax.at_) ⟨by unfold ptB; rw [decide_eq_false (show ¬ 0 ≤ n by omega)]; simp, A⟩))))
  ·have K := (j.at_).trans (congrArg Value.bool (decide_eq_false an))
   refine sn j.ok rfl (wgF rfl (yl 8 false rfl K) rfl) rfl (fun bD L => ?_)
   refine sn L.ok rfl (wgF rfl (yl 8 false rfl (L.n K)) rfl) rfl (fun bE af => ?_)
   refine sn af.ok rfl (wgF rfl (yl 8 false rfl (af.n (L.n K))) rfl) rfl (fun bF ay => ?_)
   have aX := ay.n (af.n (L.n K))
   refine sw ay.ok (o_pkF aX ev_const) (fun bG az => ?_)
   refine sw az.ok (o_mv az.at_) (fun bH r => ?_)
   refine sn r.ok rfl (wgF rfl (yl 13 false rfl r.at_) rfl) rfl (fun bI M => ?_)
   refine sn M.ok rfl (wgF rfl (yl 13 false rfl (M.n r.at_)) rfl) rfl (fun bJ ag => ?_)
   refine sn ag.ok rfl (wgF rfl (yl 13 false rfl (ag.n (M.n r.at_))) rfl) rfl (fun bK aA => ?_)
   have aY := aA.n (ag.n (M.n r.at_))
   refine sw aA.ok (o_pkF aY ev_const) (fun bL aB => ?_)
   refine sw aB.ok (o_as aB.at_) (fun bM aC => ?_)
   refine wpList_nil (th_n (B _ _ (wp_ret (ret1 aC.ok rfl (aC.at_) ⟨by unfold ptB; rw [decide_eq_false (show ¬ t < 16 by omega)]; simp, A⟩))))
 ·have O := (g.at_).trans (congrArg Value.bool (decide_eq_false al))
  refine sn g.ok rfl (wgF rfl (yl 3 false rfl O) rfl) rfl (fun bO S => ?_)
  refine sn S.ok rfl (wgF rfl (yl 3 false rfl (S.n O)) rfl) rfl (fun bS ah => ?_)
  refine sn ah.ok rfl (wgF rfl (yl 3 false rfl (ah.n (S.n O))) rfl) rfl (fun bT aD => ?_)
  have aZ := aD.n (ah.n (S.n O))
  refine sw aD.ok (o_pkF aZ ev_const) (fun bU aE => ?_)
  refine sw aE.ok (o_mv aE.at_) (fun bV u => ?_)
  refine sn u.ok rfl (wgF rfl (yl 8 false rfl u.at_) rfl) rfl (fun bW T => ?_)
  refine sn T.ok rfl (wgF rfl (yl 8 false rfl (T.n u.at_)) rfl) rfl (fun bX ai => ?_)
  refine sn ai.ok rfl (wgF rfl (yl 8 false rfl (ai.n (T.n u.at_))) rfl) rfl (fun bY aF => ?_)
  have a1 := aF.n (ai.n (T.n u.at_))
  refine sw aF.ok (o_pkF a1 ev_const) (fun bZ aG => ?_)
  refine sw aG.ok (o_mv aG.at_) (fun b0 y => ?_)
  refine sn y.ok rfl (wgF rfl (yl 13 false rfl y.at_) rfl) rfl (fun b1 U => ?_)
  refine sn U.ok rfl (wgF rfl (yl 13 false rfl (U.n y.at_)) rfl) rfl (fun b2 aj => ?_)
  refine sn aj.ok rfl (wgF rfl (yl 13 false rfl (aj.n (U.n y.at_))) rfl) rfl (fun b4 aH => ?_)
  have a2 := aH.n (aj.n (U.n y.at_))
  refine sw aH.ok (o_pkF a2 ev_const) (fun b5 aI => ?_)
  refine sw aI.ok (o_as aI.at_) (fun b6 aJ => ?_)
  refine wpList_nil (th_n (B _ _ (wp_ret (ret1 aJ.ok rfl (aJ.at_) ⟨by unfold ptB; rw [decide_eq_false (show ¬ 0 ≤ t by omega)]; simp, A⟩))))
theorem out_any (r : Int) (w : World) :
  Calls Tryz.prog 180 #[.int .i32 (r)] w fun e w' => e = .returned (.bool (outB r)) ∧ Gr w w' := by
 refine enter (N := 9) Tryz.func180 rfl rfl rfl (fun F ok0 q => ?_)
 have t : F.eval (.tmp 0) = .int .i32 (r) := q 0 _ rfl
 clear q
 have u := Gr.refl w
 refine wp_seq_k (fun I G => (wp_region_lit (sw ok0 (o_as ev_const) (fun J c => ?_))))
 refine wpList_nil (th_n (G _ _ (wp_seq_k (fun K y => (wp_region_lit (sw c.ok (o_mv (c.n t)) (fun L g => ?_)))))))
 refine sw g.ok (o_ltI g.at_ ev_const) (fun M h => ?_)
 refine sw h.ok (o_mv h.at_) (fun O a => ?_)
 by_cases z : r < 97
 ·have j := (a.at_).trans (congrArg Value.bool (decide_eq_true z))
  refine sn a.ok rfl (wgF rfl (yl 2 true rfl j) rfl) rfl (fun S l => ?_)
  refine sn l.ok rfl (wgF rfl (yl 2 true rfl (l.n j)) rfl) rfl (fun T A => ?_)
  refine sw A.ok (o_pkT (A.n (l.n j)) ev_const) (fun U B => ?_)
  refine sw B.ok (o_as B.at_) (fun V C => ?_)
  refine wpList_nil (th_n (y _ _ (wp_ret (ret1 C.ok rfl (C.at_) ⟨by unfold outB; rw [decide_eq_true (show r < 97 by omega)]; simp, u⟩))))
 ·have n := (a.at_).trans (congrArg Value.bool (decide_eq_false z))
  have H := a.n (h.n (g.n (c.n t)))
  refine sv a.ok rfl (wgT rfl (yl 2 false rfl n) rfl) rfl (o_mv H) (fun W b => ?_)
  refine sv b.ok rfl (wgT rfl (yl 2 false rfl (b.n n)) rfl) rfl (o_gtI b.at_ ev_const) (fun X o => ?_)
  refine sw o.ok (o_pkF (o.n (b.n n)) o.at_) (fun Y D => ?_)
  refine sw D.ok (o_as D.at_) (fun Z E => ?_)
  refine wpList_nil (th_n (y _ _ (wp_ret (ret1 E.ok rfl (E.at_) ⟨by unfold outB; rw [decide_eq_false (show ¬ r < 97 by omega)]; simp, u⟩))))
theorem indexId_any (l : List UInt8) (w : World) :
  Calls Tryz.prog 244 #[.string (bs l), .func (.func 180) #[] #[], .bool true] w fun e w' => ∃ r : Int, e = .returned (.int .i64 r) ∧ (0 ≤ r ↔ l.all ltrB = false) ∧ Gr w w' := by
 refine enter (N := 21) Tryz.func244 rfl rfl rfl (fun H ok0 F => ?_)
 have Y : H.eval (.tmp 0) = .string (bs l) := F 0 _ rfl
 have Z : H.eval (.tmp 1) = .func (.func 180) #[] #[] := F 1 _ rfl
 have aa : H.eval (.tmp 2) = .bool true := F 2 _ rfl
 clear F
 have G0 := Gr.refl w
 refine wp_seq_k (fun K1 ac => (wp_region_lit (sw ok0 (o_as ev_const) (fun aD C => ?_))))
 refine wpList_nil (th_n (ac _ _ (wp_seq_k (fun K3 ad => (wp_seq_k (fun K4 af => (wp_region_lit (sw C.ok (o_mv (C.n Y)) (fun aG D => ?_)))))))))
 refine s_rg D.ok (wn _ rfl) rfl D.at_ Tryz.underlying9 (fun aH w7 IT g8 hIT hit E => ?_)
 have G9 := G0.trans g8
 have hITb : w.heap.size ≤ IT := by rw [hIT]; exact Nat.le_refl _
 refine wpList_nil (th_n (af _ _ (wp_block ?_)))
 have ai := E.n (D.n (C.n Z))
 have aj := E.n (D.n (C.n aa))
 refine lp (fun (nL : Nat) (aL : Act) (wL : World) => ∃ pos : Nat, nL = l.length - pos ∧ Ok 21 aL ∧ Gr w wL ∧ (aL.eval (.tmp 1) = .func (.func 180) #[] #[]) ∧ (aL.eval (.tmp 2) = .bool true) ∧ (aL.eval (.tmp 6) = .int .i64 0) ∧ (aL.eval (.tmp 10) = .pointer (some ⟨IT, 0, none⟩)) ∧ (wL.heap[IT]? = some (.stringIter (bs l) pos)) ∧ (pos ≤ l.length) ∧ (∀ j y, j < pos → l[j]? = some y → ltrB y = true)) _ ⟨0, rfl, E.ok, G9, ai, aj, (E.n (D.n C.at_)), E.at_, hit, by omega, fun j y hj => by omega⟩ ?_
 rintro aJ aK aM ⟨pos, hmI10, okI10, GI10, ak, al, am, I, fitI10, hiI10, hbI10⟩ KI10 hKI10
 refine wp_seq_k (fun aO J => (wp_region_lit ?_))
 by_cases hp : pos < l.length
 ·have hps : pos < (bs l).size := by rw [bs_size]; exact hp
  refine s_nxT okI10 (wn _ rfl) rfl I fitI10 hps (fun aS K an hit2 b => ?_)
  have ao : Gr w K := Below.trans GI10 (Below.mono an hITb)
  refine sw b.ok (o_ex b.at_ rfl) (fun aT c => ?_)
  refine wpList_nil (th_n (J _ _ (wp_seq_k (fun aU ap => (wp_cond_true (c.at_) ?_)))))
  refine wp_skip (th_n (ap _ _ (wp_block (wp_seq_k (fun aV aq => (wp_region_lit (sw c.ok (o_ex (c.n b.at_) rfl) (fun aW t => ?_))))))))
  refine sw t.ok (o_ex (t.n (c.n b.at_)) rfl) (fun aX u => ?_)
  refine sw u.ok (o_as (u.n t.at_)) (fun aY z => ?_)
  refine sw z.ok (o_as (z.n u.at_)) (fun aZ A => ?_)
  refine wpList_nil (th_n (aq _ _ (wp_seq_k (fun a1 ar => (wp_region_lit ?_)))))
  have L := A.n (z.n (u.n (t.n (c.n (b.n ak)))))
  refine sw A.ok (o_mv L) (fun a2 g => ?_)
  refine sw g.ok (o_mv (g.n A.at_)) (fun a3 n => ?_)
  refine sc n.ok rfl (wn _ rfl) rfl (o_fv1 (caps := []) ⟨_, Tryz.func180, rfl, rfl⟩ (n.n g.at_) n.at_) (out_any (((Utf8.decode (bs l) pos).1 : Nat) : Int) K) ?_
  rintro _ a4 ⟨rfl, M⟩
  refine ⟨_, rfl, fun a6 B => ?_⟩
  have O := ao.trans M
  have au := it_gr hit2 M
  have S := B.n (n.n (g.n (A.n (z.n (u.n (t.n (c.n (b.n al))))))))
  refine sw B.ok (o_mv S) (fun a7 o => ?_)
  refine sw o.ok (o_eqB (o.n B.at_) o.at_ rfl Tryz.underlying4) (fun a8 a => ?_)
  refine wpList_nil (th_n (ar _ _ ?_))
  cases G : ((outB (((Utf8.decode (bs l) pos).1 : Nat) : Int)) == true)
  ·refine wp_cond_false ((a.at_).trans (congrArg Value.bool (G))) ?_
   refine wp_skip (ib_n ?_)
   obtain ⟨x, hx⟩ : ∃ x, l[pos]? = some x := ⟨_, List.getElem?_eq_getElem hp⟩
   have ho : outB (((Utf8.decode (bs l) pos).1 : Nat) : Int) = false := by simpa using G
   unfold outB at ho
   simp only [Bool.or_eq_false_iff, decide_eq_false_iff_not] at ho
   obtain ⟨hx1, hx2, hx3⟩ := dec_letter hx (by omega) (by omega)
   have av := a.n (o.n (B.n (n.n (g.n L))))
   have ax := a.n (o.n (B.n (n.n (g.n (A.n (z.n (u.n (t.n (c.n (b.n am))))))))))
   have ay := a.n (o.n (B.n (n.n (g.n (A.n (z.n (u.n (t.n (c.n (b.n I))))))))))
   exact th_n (hKI10 _ _ _ (by omega) ⟨pos + 1, rfl, a.ok, O, av, (a.n (o.n S)), ax, ay, by have h := au; rw [hx3] at h; exact h, by omega, fun j y hj hy => by
     rcases Nat.lt_or_ge j pos with q | q
     ·exact hbI10 j y q hy
     ·obtain rfl : j = pos := by omega
      rw [hx] at hy
      cases hy
      unfold ltrB; rw [decide_eq_true hx1, decide_eq_true hx2]; rfl⟩)
  ·refine wp_cond_true ((a.at_).trans (congrArg Value.bool (G))) ?_
   refine wp_seq_k (fun a9 az => (wp_region_lit ?_))
   have aA := a.n (o.n (B.n (n.n (g.n (A.n z.at_)))))
   refine sw a.ok (o_mv aA) (fun ba T => ?_)
   refine sw T.ok (o_as T.at_) (fun bb U => ?_)
   refine wpList_nil (th_n (az _ _ (wp_ret (ib_r (th_r (ib_r (th_r ?_)))))))
   obtain ⟨x, hx⟩ : ∃ x, l[pos]? = some x := ⟨_, List.getElem?_eq_getElem hp⟩
   have ho : outB (((Utf8.decode (bs l) pos).1 : Nat) : Int) = true := by simpa using G
   unfold outB at ho
   simp only [Bool.or_eq_true, decide_eq_true_eq] at ho
   have hx1 := dec_other hx (by omega)
   exact ret1 U.ok rfl (U.at_) ⟨_, rfl, ⟨fun _ => by
     rw [List.all_eq_false]
     refine ⟨x, List.mem_of_getElem? hx, ?_⟩
     unfold ltrB
     simp only [Bool.and_eq_true, decide_eq_true_eq]
     omega, fun _ => by omega⟩, O⟩
 ·have hps : ¬ pos < (bs l).size := by rw [bs_size]; exact hp
  refine s_nxF okI10 (wn _ rfl) rfl I fitI10 hps (fun bc V => ?_)
  refine sw V.ok (o_ex V.at_ rfl) (fun bd W => ?_)
  refine wpList_nil (th_n (J _ _ (wp_seq_k (fun bf bg => (wp_cond_false (W.at_) ?_)))))
  refine wp_exit (th_x (th_x (ib_x (th_n (ad _ _ (wp_seq_k (fun bh aB => (wp_region_lit (sw W.ok (o_as ev_const) (fun bi X => ?_))))))))))
  refine wpList_nil (th_n (aB _ _ (wp_ret ?_)))
  exact ret1 X.ok rfl (X.at_) ⟨-1, rfl, ⟨fun h => by omega, fun h => by
    rw [List.all_eq_false] at h
    obtain ⟨y, hy, hn⟩ := h
    obtain ⟨j, hj⟩ := List.getElem?_of_mem hy
    have hjl := (List.getElem?_eq_some_iff.1 hj).1
    exact absurd (hbI10 j y (by omega) hj) hn⟩, GI10⟩
theorem indexId (l : List UInt8) (w : World) :
  Calls Tryz.prog 215 #[.string (bs l), .func (.func 180) #[] #[]] w fun e w' => ∃ r : Int, e = .returned (.int .i64 r) ∧ (0 ≤ r ↔ l.all ltrB = false) ∧ Gr w w' := by
 refine enter (N := 8) Tryz.func215 rfl rfl rfl (fun h ok0 a => ?_)
 have o : h.eval (.tmp 0) = .string (bs l) := a 0 _ rfl
 have q : h.eval (.tmp 1) = .func (.func 180) #[] #[] := a 1 _ rfl
 clear a
 have t := Gr.refl w
 refine wp_seq_k (fun B u => (wp_region_lit (sw ok0 (o_as ev_const) (fun C b => ?_))))
 refine wpList_nil (th_n (u _ _ (wp_seq_k (fun D y => (wp_region_lit (sw b.ok (o_mv (b.n o)) (fun E c => ?_)))))))
 refine sw c.ok (o_mv (c.n (b.n q))) (fun F g => ?_)
 refine sc g.ok rfl (wn _ rfl) rfl (o_f3 Tryz.func244 rfl rfl rfl (g.n c.at_) g.at_ ev_const) (indexId_any l w) ?_
 rintro _ G ⟨r, rfl, hr, z⟩
 refine ⟨_, rfl, fun H j => ?_⟩
 have A := t.trans z
 refine sw j.ok (o_as j.at_) (fun I n => ?_)
 refine wpList_nil (th_n (y _ _ (wp_ret (ret1 n.ok rfl (n.at_) ⟨r, rfl, hr, A⟩))))
theorem containsId (l : List UInt8) (w : World) :
  Calls Tryz.prog 179 #[.string (bs l), .func (.func 180) #[] #[]] w fun e w' => e = .returned (.bool (!l.all ltrB)) ∧ Gr w w' := by
 refine enter (N := 9) Tryz.func179 rfl rfl rfl (fun j ok0 a => ?_)
 have t : j.eval (.tmp 0) = .string (bs l) := a 0 _ rfl
 have u : j.eval (.tmp 1) = .func (.func 180) #[] #[] := a 1 _ rfl
 clear a
 have y := Gr.refl w
 refine wp_seq_k (fun D z => (wp_region_lit (sw ok0 (o_as ev_const) (fun E c => ?_))))
 refine wpList_nil (th_n (z _ _ (wp_seq_k (fun F A => (wp_region_lit (sw c.ok (o_mv (c.n t)) (fun G g => ?_)))))))
 refine sw g.ok (o_mv (g.n (c.n u))) (fun H h => ?_)
 refine sc h.ok rfl (wn _ rfl) rfl (o_f2 Tryz.func215 rfl rfl rfl (h.n g.at_) h.at_) (indexId l w) ?_
 rintro _ I ⟨r, rfl, hr, B⟩
 refine ⟨_, rfl, fun J n => ?_⟩
 have C := y.trans B
 refine sw n.ok (o_geI n.at_ ev_const) (fun K o => ?_)
 refine sw o.ok (o_as o.at_) (fun L q => ?_)
 refine wpList_nil (th_n (A _ _ (wp_ret (ret1 q.ok rfl (q.at_) ⟨congrArg (fun b => Ending.returned (Value.bool b)) (by rw [Bool.eq_iff_iff, decide_eq_true_eq, hr]; simp), C⟩))))
theorem id_any (l : List UInt8) (w : World) :
  Calls Tryz.prog 130 #[.string (bs l)] w fun e w' => e = .returned (.bool (idB l)) ∧ Gr w w' := by
 refine enter (N := 16) Tryz.func130 rfl rfl rfl (fun a0 ok0 M => ?_)
 have O : a0.eval (.tmp 0) = .string (bs l) := M 0 _ rfl
 clear M
 have B := Gr.refl w
 refine wp_seq_k (fun K1 ah => (wp_region_lit (sw ok0 (o_as ev_const) (fun ar C => ?_))))
 refine wpList_nil (th_n (ah _ _ (wp_seq_k (fun K3 D => (wp_region_lit (sw C.ok (o_mv (C.n O)) (fun av E => ?_)))))))
 refine sw E.ok (o_lenS E.at_ Tryz.underlying9) (fun ax F => ?_)
 refine sw F.ok (o_gtI F.at_ ev_const) (fun ay G => ?_)
 refine sw G.ok (o_mv G.at_) (fun az b => ?_)
 by_cases S : (0 : Int) < ((l.length : Nat) : Int)
 ·have n := (b.at_).trans (congrArg Value.bool (decide_eq_true S))
  have T := b.n (G.n (F.n (E.n (C.n O))))
  refine sv b.ok rfl (wgT rfl (yl 3 true rfl n) rfl) rfl (o_mv T) (fun aA a => ?_)
  refine sv a.ok rfl (wgT rfl (yl 3 true rfl (a.n n)) rfl) rfl (o_lenS a.at_ Tryz.underlying9) (fun aB c => ?_)
  refine sv c.ok rfl (wgT rfl (yl 3 true rfl (c.n (a.n n))) rfl) rfl (o_leI c.at_ ev_const) (fun aC o => ?_)
  have ai := o.n (c.n (a.n n))
  refine sw o.ok (o_pkT ai o.at_) (fun aD H => ?_)
  refine sw H.ok (o_mv H.at_) (fun aE g => ?_)
  by_cases U : ((l.length : Nat) : Int) ≤ 8
  ·have q := (g.at_).trans (congrArg Value.bool (decide_eq_true U))
   have aj := g.n (H.n (o.n (c.n (a.n T))))
   refine sv g.ok rfl (wgT rfl (yl 8 true rfl q) rfl) rfl (o_mv aj) (fun aF h => ?_)
   refine sc h.ok rfl (wgT rfl (yl 8 true rfl (h.n q)) rfl) rfl (o_f2 Tryz.func179 rfl rfl rfl h.at_ ev_func) (containsId l w) ?_
   rintro _ aG ⟨rfl, ak⟩
   refine ⟨_, rfl, fun aH r => ?_⟩
   have al := B.trans ak
   refine sv r.ok rfl (wgT rfl (yl 8 true rfl (r.n (h.n q))) rfl) rfl (o_notI r.at_) (fun aI I => ?_)
   have am := I.n (r.n (h.n q))
   refine sw I.ok (o_pkT am I.at_) (fun aJ V => ?_)
   refine sw V.ok (o_as V.at_) (fun aK W => ?_)
   refine wpList_nil (th_n (D _ _ (wp_ret (ret1 W.ok rfl (W.at_) ⟨by unfold idB; rw [decide_eq_true (show 0 < l.length by omega), decide_eq_true (show l.length ≤ 8 by omega)]; simp, al⟩))))
  ·have t := (g.at_).trans (congrArg Value.bool (decide_eq_false U))
   refine sn g.ok rfl (wgF rfl (yl 8 false rfl t) rfl) rfl (fun aL u => ?_)
   refine sn u.ok rfl (wgF rfl (yl 8 false rfl (u.n t)) rfl) rfl (fun aM J => ?_)
   refine sn J.ok rfl (wgF rfl (yl 8 false rfl (J.n (u.n t))) rfl) rfl (fun aO X => ?_)
   have an := X.n (J.n (u.n t))
   refine sw X.ok (o_pkF an ev_const) (fun aS Y => ?_)
   refine sw Y.ok (o_as Y.at_) (fun aT Z => ?_)
   refine wpList_nil (th_n (D _ _ (wp_ret (ret1 Z.ok rfl (Z.at_) ⟨by unfold idB; rw [decide_eq_false (show ¬ l.length ≤ 8 by omega)]; simp, B⟩))))
 ·have y := (b.at_).trans (congrArg Value.bool (decide_eq_false S))
  refine sn b.ok rfl (wgF rfl (yl 3 false rfl y) rfl) rfl (fun aU z => ?_)
  refine sn z.ok rfl (wgF rfl (yl 3 false rfl (z.n y)) rfl) rfl (fun aV K => ?_)
  refine sn K.ok rfl (wgF rfl (yl 3 false rfl (K.n (z.n y))) rfl) rfl (fun aW aa => ?_)
  have ao := aa.n (K.n (z.n y))
  refine sw aa.ok (o_pkF ao ev_const) (fun aX ab => ?_)
  refine sw ab.ok (o_mv ab.at_) (fun aY j => ?_)
  refine sn j.ok rfl (wgF rfl (yl 8 false rfl j.at_) rfl) rfl (fun aZ A => ?_)
  refine sn A.ok rfl (wgF rfl (yl 8 false rfl (A.n j.at_)) rfl) rfl (fun a1 L => ?_)
  refine sn L.ok rfl (wgF rfl (yl 8 false rfl (L.n (A.n j.at_))) rfl) rfl (fun a2 ac => ?_)
  have ap := ac.n (L.n (A.n j.at_))
  refine sw ac.ok (o_pkF ap ev_const) (fun a3 ad => ?_)
  refine sw ad.ok (o_as ad.at_) (fun a4 af => ?_)
  refine wpList_nil (th_n (D _ _ (wp_ret (ret1 af.ok rfl (af.at_) ⟨by unfold idB; rw [decide_eq_false (show ¬ 0 < l.length by omega)]; rfl, B⟩))))
theorem vhas_any (va ma : Option Addr) (vc mc : Nat) (V : List Int) (M : List (Int × Int)) (s c : Int) (hc : chkK V M = 0) (hd : dotB (s, c) = true) (w : World) (hk : KnR w (.agg #[.slice va V.length vc, .slice ma M.length mc]) V M) :
  Calls Tryz.prog 132 #[.agg #[.slice va V.length vc, .slice ma M.length mc], .agg #[.int .i64 (s), .int .i64 (c)]] w fun e w' => e = .returned (.bool (memI V M s c)) ∧ Gr w w' := by
 refine enter (N := 14) Tryz.func132 rfl rfl rfl (fun u ok0 a => ?_)
 have E : u.eval (.tmp 0) = .agg #[.slice va V.length vc, .slice ma M.length mc] := a 0 _ rfl
 have F : u.eval (.tmp 1) = .agg #[.int .i64 (s), .int .i64 (c)] := a 1 _ rfl
 clear a
 have G := Gr.refl w
 refine wp_seq_k (fun U H => (wp_region_lit (sal (cs := #[.slice va V.length vc, .slice ma M.length mc]) ok0 rfl (wn _ rfl) rfl (o_box E) (fun W X Y y b => ?_))))
 have I := G.trans y.gr
 refine sal (cs := #[.int .i64 (s), .int .i64 (c)]) b.ok rfl (wn _ rfl) rfl (o_box (b.n F)) (fun Z J b9 g h => ?_)
 have z := I.trans g.gr
 have K := y.bk.gr g.gr
 refine sw h.ok (o_as ev_const) (fun ab j => ?_)
 refine wpList_nil (th_n (H _ _ (wp_seq_k (fun ac L => (wp_region_lit (sw j.ok (o_ldR (j.n (h.n b.at_)) K Tryz.underlying75 rfl (by kernel_rfl)) (fun ad l => ?_)))))))
 refine sw l.ok (o_ldR (l.n (j.n h.at_)) g.bk Tryz.underlying51 rfl (by kernel_rfl)) (fun af n => ?_)
 refine sc n.ok rfl (wn _ rfl) rfl (o_f2 Tryz.func167 rfl rfl rfl (n.n l.at_) n.at_) (khasI _ V M s c J (hk.gr z) hc hd) ?_
 rintro _ ag ⟨rfl, O⟩
 refine ⟨_, rfl, fun ah A => ?_⟩
 have S := z.trans O
 refine sw A.ok (o_mv A.at_) (fun ai o => ?_)
 refine sw o.ok (o_ex o.at_ rfl) (fun aj q => ?_)
 refine sw q.ok (o_ex (q.n o.at_) rfl) (fun ak r => ?_)
 refine sw r.ok (o_as (r.n q.at_)) (fun al t => ?_)
 refine sw t.ok (o_as (t.n r.at_)) (fun am B => ?_)
 refine wpList_nil (th_n (L _ _ (wp_seq_k (fun an T => (wp_region_lit (sw B.ok (o_mv (B.n t.at_)) (fun ao C => ?_)))))))
 refine sw C.ok (o_as C.at_) (fun ap D => ?_)
 refine wpList_nil (th_n (T _ _ (wp_ret (ret1 D.ok rfl (D.at_) ⟨rfl, S⟩))))
theorem vone_any (x : VerI) (w : World) (hm : MeanV w x) :
  Calls Tryz.prog 77 #[.agg #[.string (bs x.d.id), .int .i64 (x.d.s), .int .i64 (x.d.c), .int .i64 (x.d.t), .int .i64 (x.d.n), .int .i64 (x.d.b), .slice x.va x.d.V.length x.vc, .slice x.ma x.d.M.length x.mc]] w fun e w' => e = .returned (.int .i64 (chkOne x.d)) ∧ Gr w w' := by
 refine enter (N := 39) Tryz.func77 rfl rfl rfl (fun a0 ok0 h0 => ?_)
 have bJ : a0.eval (.tmp 0) = .agg #[.string (bs x.d.id), .int .i64 (x.d.s), .int .i64 (x.d.c), .int .i64 (x.d.t), .int .i64 (x.d.n), .int .i64 (x.d.b), .slice x.va x.d.V.length x.vc, .slice x.ma x.d.M.length x.mc] := h0 0 _ rfl
 clear h0
 have G0 := Gr.refl w
 refine wp_seq_k (fun K1 bL => (wp_region_lit (sal (cs := #[.string (bs x.d.id), .int .i64 (x.d.s), .int .i64 (x.d.c), .int .i64 (x.d.t), .int .i64 (x.d.n), .int .i64 (x.d.b), .slice x.va x.d.V.length x.vc, .slice x.ma x.d.M.length x.mc]) ok0 rfl (wn _ rfl) rfl (o_box bJ) (fun cn w4 b3 W5 n2 => ?_))))
 have G7 := G0.trans W5.gr
 refine sw n2.ok (o_as ev_const) (fun cp n8 => ?_)
 refine wpList_nil (th_n (bL _ _ (wp_seq_k (fun K9 bS => (wp_seq_k (fun cr bT => (wp_region_lit (sw n8.ok (o_fa (z := 1) (n8.n n2.at_) Tryz.underlying106 rfl (by kernel_rfl) rfl rfl) (fun ct aq => ?_)))))))))
 refine sw aq.ok (o_ld aq.at_ (Tryz.isAgg9 _) (W5.bk.cell _ rfl)) (fun cu ar => ?_)
 refine sc ar.ok rfl (wn _ rfl) rfl (o_f1 Tryz.func130 rfl rfl rfl ar.at_) (id_any x.d.id w4) ?_
 rintro _ bU ⟨rfl, aV⟩
 refine ⟨_, rfl, fun cx au => ?_⟩
 have aW := G7.trans aV
 have aX := W5.bk.gr aV
 refine sw au.ok (o_notI au.at_) (fun cy o => ?_)
 refine wpList_nil (th_n (bT _ _ ?_))
 cases H : (!(idB x.d.id))
 ·refine wp_cond_false ((o.at_).trans (congrArg Value.bool (H))) ?_
  have hI : idB x.d.id = true := by simpa using H
  refine wp_skip (th_n (bS _ _ (wp_seq_k (fun cz bV => (wp_seq_k (fun cA I => (wp_region_lit ?_)))))))
  have aY := o.n (au.n (ar.n (aq.n (n8.n n2.at_))))
  refine sw o.ok (o_fa (z := 2) aY Tryz.underlying106 rfl (by kernel_rfl) rfl rfl) (fun cB av => ?_)
  refine sw av.ok (o_ldA (k := 1) (cs := [.int .i64 (x.d.s), .int .i64 (x.d.c)]) av.at_ (bk_part aX rfl) Tryz.underlying51 rfl (by kernel_rfl)) (fun cC ax => ?_)
  refine sc ax.ok rfl (wn _ rfl) rfl (o_f1 Tryz.func117 rfl rfl rfl ax.at_) (dot_any (x.d.s, x.d.c) bU) ?_
  rintro _ bW ⟨rfl, aZ⟩
  refine ⟨_, rfl, fun cD ay => ?_⟩
  have a1 := aW.trans aZ
  have a2 := aX.gr aZ
  refine sw ay.ok (o_notI ay.at_) (fun cE az => ?_)
  refine sw az.ok (o_mv az.at_) (fun cF q => ?_)
  cases J : (!(dotB (x.d.s, x.d.c)))
  ·have K := (q.at_).trans (congrArg Value.bool (J))
   have a3 := q.n (az.n (ay.n (ax.n (av.n aY))))
   refine sv q.ok rfl (wgT rfl (yl 4 false rfl K) rfl) rfl (o_fa (z := 2) a3 Tryz.underlying106 rfl (by kernel_rfl) rfl rfl) (fun cG a => ?_)
   refine sv a.ok rfl (wgT rfl (yl 4 false rfl (a.n K)) rfl) rfl (o_ldA (k := 3) (cs := [.int .i64 (x.d.t), .int .i64 (x.d.n)]) a.at_ (bk_part a2 rfl) Tryz.underlying49 rfl (by kernel_rfl)) (fun cH r => ?_)
   refine sc r.ok rfl (wgT rfl (yl 4 false rfl (r.n (a.n K))) rfl) rfl (o_f1 Tryz.func56 rfl rfl rfl r.at_) (point2_any x.d.t x.d.n bW) ?_
   rintro _ bX ⟨rfl, a4⟩
   refine ⟨_, rfl, fun cI L => ?_⟩
   have u := a1.trans a4
   have O := a2.gr a4
   have a6 := L.n (r.n (a.n K))
   refine sv L.ok rfl (wgT rfl (yl 4 false rfl a6) rfl) rfl (o_notI L.at_) (fun cJ S => ?_)
   refine sw S.ok (o_pkF (S.n a6) S.at_) (fun cK aA => ?_)
   refine sw aA.ok (o_mv aA.at_) (fun cL y => ?_)
   cases T : (!(ptB x.d.t x.d.n))
   ·have U := (y.at_).trans (congrArg Value.bool (T))
    have a7 := y.n (aA.n (S.n (L.n (r.n (a.n a3)))))
    refine sv y.ok rfl (wgT rfl (yl 10 false rfl U) rfl) rfl (o_fa (z := 1) a7 Tryz.underlying106 rfl (by kernel_rfl) rfl rfl) (fun cM g => ?_)
    refine sv g.ok rfl (wgT rfl (yl 10 false rfl (g.n U)) rfl) rfl (o_ld g.at_ (Tryz.isAgg3 _) (O.cell _ rfl)) (fun cO A => ?_)
    refine sv A.ok rfl (wgT rfl (yl 10 false rfl (A.n (g.n U))) rfl) rfl (o_ltI A.at_ ev_const) (fun cS W => ?_)
    have bY := W.n (A.n (g.n U))
    refine sw W.ok (o_pkF bY W.at_) (fun cT aB => ?_)
    refine sw aB.ok (o_mv aB.at_) (fun cU B => ?_)
    by_cases a8 : x.d.b < 0
    ·have X := (B.at_).trans (congrArg Value.bool (decide_eq_true a8))
     refine sn B.ok rfl (wgF rfl (yl 15 true rfl X) rfl) rfl (fun cV Y => ?_)
     refine sn Y.ok rfl (wgF rfl (yl 15 true rfl (Y.n X)) rfl) rfl (fun cW aC => ?_)
     refine sn aC.ok rfl (wgF rfl (yl 15 true rfl (aC.n (Y.n X))) rfl) rfl (fun cX a9 => ?_)
     have bZ := a9.n (aC.n (Y.n X))
     refine sw a9.ok (o_pkT bZ ev_const) (fun cY ba => ?_)
     refine wpList_nil (th_n (I _ _ (wp_cond_true (ba.at_) ?_)))
     refine wp_seq_k (fun cZ b0 => (wp_region_lit (sw ba.ok (o_as ev_const) (fun c0 bb => ?_))))
     refine wpList_nil (th_n (b0 _ _ (wp_ret (th_r (ret1 bb.ok rfl (bb.at_) ⟨congrArg (fun n => Ending.returned (Value.int .i64 n)) (Eq.symm (by unfold chkOne; rw [if_neg (by rw [hI]; simp), if_pos (show argB x.d = false by unfold argB; rw [decide_eq_false (show ¬ 0 ≤ x.d.b by omega)]; simp)])), u⟩)))))
    ·have Z := (B.at_).trans (congrArg Value.bool (decide_eq_false a8))
     have bc := B.n (aB.n (W.n (A.n (g.n a7))))
     refine sv B.ok rfl (wgT rfl (yl 15 false rfl Z) rfl) rfl (o_fa (z := 1) bc Tryz.underlying106 rfl (by kernel_rfl) rfl rfl) (fun c1 h => ?_)
     refine sv h.ok rfl (wgT rfl (yl 15 false rfl (h.n Z)) rfl) rfl (o_ld h.at_ (Tryz.isAgg3 _) (O.cell _ rfl)) (fun c2 C => ?_)
     refine sv C.ok rfl (wgT rfl (yl 15 false rfl (C.n (h.n Z))) rfl) rfl (o_gtI C.at_ ev_const) (fun c3 aa => ?_)
     have b1 := aa.n (C.n (h.n Z))
     refine sw aa.ok (o_pkF b1 aa.at_) (fun c4 D => ?_)
     refine wpList_nil (th_n (I _ _ ?_))
     by_cases bd : (1000000 : Int) < x.d.b
     ·refine wp_cond_true ((D.at_).trans (congrArg Value.bool (decide_eq_true bd))) ?_
      refine wp_seq_k (fun c5 b2 => (wp_region_lit (sw D.ok (o_as ev_const) (fun c6 bf => ?_))))
      refine wpList_nil (th_n (b2 _ _ (wp_ret (th_r (ret1 bf.ok rfl (bf.at_) ⟨congrArg (fun n => Ending.returned (Value.int .i64 n)) (Eq.symm (by unfold chkOne; rw [if_neg (by rw [hI]; simp), if_pos (show argB x.d = false by unfold argB; rw [decide_eq_false (show ¬ x.d.b ≤ 1000000 by omega)]; simp)])), u⟩)))))
     ·refine wp_cond_false ((D.at_).trans (congrArg Value.bool (decide_eq_false bd))) ?_
      have hA : argB x.d = true := by unfold argB; rw [show dotB (x.d.s, x.d.c) = true by simpa using J, show ptB x.d.t x.d.n = true by simpa using T, decide_eq_true (show 0 ≤ x.d.b by omega), decide_eq_true (show x.d.b ≤ 1000000 by omega)]; rfl
      refine wp_skip (th_n (bV _ _ (wp_seq_k (fun c7 b4 => (wp_seq_k (fun c8 b5 => (wp_region_lit ?_)))))))
      have bg := D.n (aa.n (C.n (h.n bc)))
      refine sw D.ok (o_fa (z := 2) bg Tryz.underlying106 rfl (by kernel_rfl) rfl rfl) (fun c9 aD => ?_)
      refine sw aD.ok (o_ldA (k := 6) (cs := [.slice x.va x.d.V.length x.vc, .slice x.ma x.d.M.length x.mc]) aD.at_ (bk_part O rfl) Tryz.underlying75 rfl (by kernel_rfl)) (fun da aE => ?_)
      refine sc aE.ok rfl (wn _ rfl) rfl (o_f1 Tryz.func131 rfl rfl rfl aE.at_) (kcheck_any _ _ _ bX (MeanV.gr hm u)) ?_
      rintro _ b6 ⟨rfl, bh⟩
      refine ⟨_, rfl, fun db aF => ?_⟩
      have aG := u.trans bh
      have bi := O.gr bh
      refine sw aF.ok (o_as aF.at_) (fun dc ab => ?_)
      refine wpList_nil (th_n (b5 _ _ (wp_seq_k (fun dd b7 => (wp_region_lit (sw ab.ok (o_mv ab.at_) (fun df ac => ?_)))))))
      refine sw ac.ok (o_neI ac.at_ ev_const) (fun dg j => ?_)
      refine wpList_nil (th_n (b7 _ _ ?_))
      by_cases l : ¬ (chkK x.d.V x.d.M) = 0
      ·refine wp_cond_true ((j.at_).trans (congrArg Value.bool (decide_eq_true l))) ?_
       refine wp_seq_k (fun dh b8 => (wp_region_lit (sw j.ok (o_mv (j.n (ac.n ab.at_))) (fun di bj => ?_))))
       refine sw bj.ok (o_as bj.at_) (fun dj bl => ?_)
       refine wpList_nil (th_n (b8 _ _ (wp_ret (th_r (ret1 bl.ok rfl (bl.at_) ⟨congrArg (fun n => Ending.returned (Value.int .i64 n)) (Eq.symm (by unfold chkOne; rw [if_neg (by rw [hI]; simp), if_neg (by rw [hA]; simp), if_pos l])), aG⟩)))))
      ·refine wp_cond_false ((j.at_).trans (congrArg Value.bool (decide_eq_false l))) ?_
       refine wp_skip (th_n (b4 _ _ (wp_seq_k (fun dk b9 => (wp_seq_k (fun dl ca => (wp_region_lit ?_)))))))
       have bm := j.n (ac.n (ab.n (aF.n (aE.n (aD.n bg)))))
       refine sw j.ok (o_fa (z := 2) bm Tryz.underlying106 rfl (by kernel_rfl) rfl rfl) (fun dm aH => ?_)
       refine sw aH.ok (o_ldA (k := 6) (cs := [.slice x.va x.d.V.length x.vc, .slice x.ma x.d.M.length x.mc]) aH.at_ (bk_part bi rfl) Tryz.underlying75 rfl (by kernel_rfl)) (fun dn aI => ?_)
       refine sw aI.ok (o_fa (z := 2) (aI.n (aH.n bm)) Tryz.underlying106 rfl (by kernel_rfl) rfl rfl) (fun dp aJ => ?_)
       refine sw aJ.ok (o_ldA (k := 1) (cs := [.int .i64 (x.d.s), .int .i64 (x.d.c)]) aJ.at_ (bk_part bi rfl) Tryz.underlying51 rfl (by kernel_rfl)) (fun dq aK => ?_)
       refine sc aK.ok rfl (wn _ rfl) rfl (o_f2 Tryz.func132 rfl rfl rfl (aK.n (aJ.n aI.at_)) aK.at_) (vhas_any x.va x.ma x.vc x.mc x.d.V x.d.M x.d.s x.d.c (Decidable.of_not_not l) (argB_dot hA) b6 (MeanV.gr hm aG)) ?_
       rintro _ dr ⟨rfl, cb⟩
       refine ⟨_, rfl, fun ds ad => ?_⟩
       have bn := aG.trans cb
       refine wpList_nil (th_n (ca _ _ ?_))
       cases af : (memI x.d.V x.d.M x.d.s x.d.c)
       ·refine wp_cond_false ((ad.at_).trans (congrArg Value.bool (af))) ?_
        refine wp_skip (th_n (b9 _ _ (wp_seq_k (fun dt cc => (wp_region_lit (sw ad.ok (o_as ev_const) (fun du bo => ?_)))))))
        refine wpList_nil (th_n (cc _ _ (wp_ret (ret1 bo.ok rfl (bo.at_) ⟨congrArg (fun n => Ending.returned (Value.int .i64 n)) (Eq.symm (by unfold chkOne; rw [if_neg (by rw [hI]; simp), if_neg (by rw [hA]; simp), if_neg l, if_neg (by rw [af]; simp)])), bn⟩))))
       ·refine wp_cond_true ((ad.at_).trans (congrArg Value.bool (af))) ?_
        refine wp_seq_k (fun dv cd => (wp_region_lit (sw ad.ok (o_as ev_const) (fun dx bp => ?_))))
        refine wpList_nil (th_n (cd _ _ (wp_ret (th_r (ret1 bp.ok rfl (bp.at_) ⟨congrArg (fun n => Ending.returned (Value.int .i64 n)) (Eq.symm (by unfold chkOne; rw [if_neg (by rw [hI]; simp), if_neg (by rw [hA]; simp), if_neg l, if_pos af])), bn⟩)))))
   ·have ag := (y.at_).trans (congrArg Value.bool (T))
    refine sn y.ok rfl (wgF rfl (yl 10 true rfl ag) rfl) rfl (fun dy ah => ?_)
    refine sn ah.ok rfl (wgF rfl (yl 10 true rfl (ah.n ag)) rfl) rfl (fun dz aL => ?_)
    refine sn aL.ok rfl (wgF rfl (yl 10 true rfl (aL.n (ah.n ag))) rfl) rfl (fun dA bq => ?_)
    have cf := bq.n (aL.n (ah.n ag))
    refine sw bq.ok (o_pkT cf ev_const) (fun dB br => ?_)
    refine sw br.ok (o_mv br.at_) (fun dC E => ?_)
    refine sn E.ok rfl (wgF rfl (yl 15 true rfl E.at_) rfl) rfl (fun dD ai => ?_)
    refine sn ai.ok rfl (wgF rfl (yl 15 true rfl (ai.n E.at_)) rfl) rfl (fun dE aM => ?_)
    refine sn aM.ok rfl (wgF rfl (yl 15 true rfl (aM.n (ai.n E.at_))) rfl) rfl (fun dF bt => ?_)
    have cg := bt.n (aM.n (ai.n E.at_))
    refine sw bt.ok (o_pkT cg ev_const) (fun dG bu => ?_)
    refine wpList_nil (th_n (I _ _ (wp_cond_true (bu.at_) ?_)))
    refine wp_seq_k (fun dH ch => (wp_region_lit (sw bu.ok (o_as ev_const) (fun dI bv => ?_))))
    refine wpList_nil (th_n (ch _ _ (wp_ret (th_r (ret1 bv.ok rfl (bv.at_) ⟨congrArg (fun n => Ending.returned (Value.int .i64 n)) (Eq.symm (by unfold chkOne; rw [if_neg (by rw [hI]; simp), if_pos (show argB x.d = false by unfold argB; rw [show ptB x.d.t x.d.n = false by simpa using T]; simp)])), u⟩)))))
  ·have aj := (q.at_).trans (congrArg Value.bool (J))
   refine sn q.ok rfl (wgF rfl (yl 4 true rfl aj) rfl) rfl (fun dJ ak => ?_)
   refine sn ak.ok rfl (wgF rfl (yl 4 true rfl (ak.n aj)) rfl) rfl (fun dK aO => ?_)
   refine sn aO.ok rfl (wgF rfl (yl 4 true rfl (aO.n (ak.n aj))) rfl) rfl (fun dL bx => ?_)
   have bz := bx.n (aO.n (ak.n aj))
   refine sn bx.ok rfl (wgF rfl (yl 4 true rfl bz) rfl) rfl (fun dM bA => ?_)
   refine sw bA.ok (o_pkT (bA.n bz) ev_const) (fun dO bB => ?_)
   refine sw bB.ok (o_mv bB.at_) (fun dS F => ?_)
   refine sn F.ok rfl (wgF rfl (yl 10 true rfl F.at_) rfl) rfl (fun dT al => ?_)
   refine sn al.ok rfl (wgF rfl (yl 10 true rfl (al.n F.at_)) rfl) rfl (fun dU aS => ?_)
   refine sn aS.ok rfl (wgF rfl (yl 10 true rfl (aS.n (al.n F.at_))) rfl) rfl (fun dV bC => ?_)
   have ci := bC.n (aS.n (al.n F.at_))
   refine sw bC.ok (o_pkT ci ev_const) (fun dW bD => ?_)
   refine sw bD.ok (o_mv bD.at_) (fun dX G => ?_)
   refine sn G.ok rfl (wgF rfl (yl 15 true rfl G.at_) rfl) rfl (fun dY am => ?_)
   refine sn am.ok rfl (wgF rfl (yl 15 true rfl (am.n G.at_)) rfl) rfl (fun dZ aT => ?_)
   refine sn aT.ok rfl (wgF rfl (yl 15 true rfl (aT.n (am.n G.at_))) rfl) rfl (fun d0 bE => ?_)
   have cj := bE.n (aT.n (am.n G.at_))
   refine sw bE.ok (o_pkT cj ev_const) (fun d1 bF => ?_)
   refine wpList_nil (th_n (I _ _ (wp_cond_true (bF.at_) ?_)))
   refine wp_seq_k (fun d2 ck => (wp_region_lit (sw bF.ok (o_as ev_const) (fun d3 bG => ?_))))
   refine wpList_nil (th_n (ck _ _ (wp_ret (th_r (ret1 bG.ok rfl (bG.at_) ⟨congrArg (fun n => Ending.returned (Value.int .i64 n)) (Eq.symm (by unfold chkOne; rw [if_neg (by rw [hI]; simp), if_pos (show argB x.d = false by unfold argB; rw [show dotB (x.d.s, x.d.c) = false by simpa using J]; rfl)])), a1⟩)))))
 ·refine wp_cond_true ((o.at_).trans (congrArg Value.bool (H))) ?_
  refine wp_seq_k (fun d4 cl => (wp_region_lit (sw o.ok (o_as ev_const) (fun d5 bH => ?_))))
  refine wpList_nil (th_n (cl _ _ (wp_ret (th_r (ret1 bH.ok rfl (bH.at_) ⟨congrArg (fun n => Ending.returned (Value.int .i64 n)) (Eq.symm (by unfold chkOne; rw [if_pos (show idB x.d.id = false by simpa using H)])), aW⟩)))))
end Go.Proofs.YtglbnggkkjhokaaGreat
/- The order of versions; what a version supersedes; shelf.Check. -/
namespace Rm
open Go Go.RowKit Gx
def cmpP (a b c d : Int) : Int := orC (Lib.compareInt a c) (Lib.compareInt b d)
theorem chkRow_at {K : List VerI} {p : Option VerD} {i : Nat} {x : VerI} (h : K[i]? = some x) : chkRow p ((K.map VerI.d).drop i) = if chkOne x.d = 0 then (if (p.any fun y => decide (0 ≤ cmpV y x.d)) = true then 3 else chkRow (some x.d) ((K.map VerI.d).drop (i + 1))) else chkOne x.d := by
 obtain ⟨hi, e⟩ := List.getElem?_eq_some_iff.1 h
 rw [List.drop_eq_getElem_cons (by simpa using hi), List.getElem_map, e]
 rfl
def prevV (K : List VerI) (i : Nat) : Option VerD := if i = 0 then none else (K[i - 1]?).map VerI.d
theorem prevV_succ {K : List VerI} {i : Nat} {x : VerI} (h : K[i]? = some x) : prevV K (i + 1) = some x.d := by
 unfold prevV
 rw [if_neg (by omega), Nat.add_sub_cancel, h]
 rfl
theorem chkRow_all {K : List VerI} : ∀ {p : Option VerD}, chkRow p (K.map VerI.d) = 0 → ∀ x ∈ K, okVr x := by
 induction K with
 | nil => intro p _ x hx; cases hx
 | cons a K ih =>
  intro p h x hx
  rw [List.map_cons] at h
  unfold chkRow at h
  by_cases h1 : chkOne a.d = 0
  ·rw [if_pos h1] at h
   split at h
   ·cases h
   ·rcases List.mem_cons.1 hx with rfl | hx
    ·exact h1
    ·exact ih h x hx
  ·rw [if_neg h1] at h
   exact absurd h h1
end Rm
namespace Go.Proofs.YtglbnggkkjhokaaGreat
open Go.RowKit Rm Gx
theorem nanS (l : List UInt8) (w : World) :
  Calls Tryz.prog 219 #[.string (bs l)] w fun e w' => e = .returned (.bool false) ∧ Gr w w' := by
 refine enter (N := 6) Tryz.func219 rfl rfl rfl (fun o ok0 g => ?_)
 have h : o.eval (.tmp 0) = .string (bs l) := g 0 _ rfl
 clear g
 have q := Gr.refl w
 refine wp_seq_k (fun u r => (wp_region_lit (sw ok0 (o_as ev_const) (fun y a => ?_))))
 refine wpList_nil (th_n (r _ _ (wp_seq_k (fun z t => (wp_region_lit (sw a.ok (o_mv (a.n h)) (fun A b => ?_)))))))
 refine sw b.ok (o_mv (b.n (a.n h))) (fun B c => ?_)
 refine sw c.ok (o_neSs (c.n b.at_) c.at_) (fun C j => ?_)
 refine sw j.ok (o_as j.at_) (fun D n => ?_)
 refine wpList_nil (th_n (t _ _ (wp_ret (ret1 n.ok rfl (n.at_) ⟨rfl, q⟩))))
theorem cmpStr (l m : List UInt8) (w : World) :
  Calls Tryz.prog 188 #[.string (bs l), .string (bs m)] w fun e w' => e = .returned (.int .i64 (cmpS l m)) ∧ Gr w w' := by
 refine enter (N := 20) Tryz.func188 rfl rfl rfl (fun G ok0 C => ?_)
 have H : G.eval (.tmp 0) = .string (bs l) := C 0 _ rfl
 have S : G.eval (.tmp 1) = .string (bs m) := C 1 _ rfl
 clear C
 have T := Gr.refl w
 refine wp_seq_k (fun K1 U => (wp_region_lit (sw ok0 (o_as ev_const) (fun ar q => ?_))))
 refine wpList_nil (th_n (U _ _ (wp_seq_k (fun K3 V => (wp_region_lit (sw q.ok (o_mv (q.n H)) (fun av r => ?_)))))))
 refine sc r.ok rfl (wn _ rfl) rfl (o_f1 Tryz.func219 rfl rfl rfl r.at_) (nanS l w) ?_
 rintro _ W ⟨rfl, X⟩
 refine ⟨_, rfl, fun ax t => ?_⟩
 have Y := T.trans X
 refine sw t.ok (o_as t.at_) (fun ay u => ?_)
 refine wpList_nil (th_n (V _ _ (wp_seq_k (fun az Z => (wp_region_lit ?_)))))
 have I := u.n (t.n (r.n (q.n S)))
 refine sw u.ok (o_mv I) (fun aA b => ?_)
 refine sc b.ok rfl (wn _ rfl) rfl (o_f1 Tryz.func219 rfl rfl rfl b.at_) (nanS m W) ?_
 rintro _ aB ⟨rfl, aa⟩
 refine ⟨_, rfl, fun aC c => ?_⟩
 have D := Y.trans aa
 refine sw c.ok (o_as c.at_) (fun aD g => ?_)
 refine wpList_nil (th_n (Z _ _ (wp_seq_k (fun aE ab => (wp_seq_k (fun aF ac => (wp_region_lit ?_)))))))
 have ad := g.n (c.n (b.n u.at_))
 refine sw g.ok (o_mv ad) (fun aG h => ?_)
 refine wpList_nil (th_n (ac _ _ (wp_cond_false (h.at_) ?_)))
 refine wp_skip (th_n (ab _ _ (wp_seq_k (fun aH af => (wp_seq_k (fun aI ag => (wp_region_lit (sw h.ok (o_mv (h.n g.at_)) (fun aJ y => ?_)))))))))
 refine wpList_nil (th_n (ag _ _ (wp_cond_false (y.at_) ?_)))
 refine wp_skip (th_n (af _ _ (wp_seq_k (fun aK ah => (wp_seq_k (fun aL ai => (wp_region_lit ?_)))))))
 have J := y.n (h.n (g.n (c.n (b.n (u.n (t.n (r.n (q.n H))))))))
 refine sw y.ok (o_mv J) (fun aM z => ?_)
 have K := z.n (y.n (h.n (g.n (c.n (b.n I)))))
 refine sw z.ok (o_mv K) (fun aO j => ?_)
 refine sw j.ok (o_ltS (j.n z.at_) j.at_) (fun aS a => ?_)
 refine wpList_nil (th_n (ai _ _ ?_))
 cases o : (Op.bytesLess l m)
 ·refine wp_cond_false ((a.at_).trans (congrArg Value.bool (o))) ?_
  refine wp_skip (th_n (ah _ _ (wp_seq_k (fun aT aj => (wp_seq_k (fun aU ak => (wp_region_lit ?_)))))))
  have al := a.n (j.n (z.n J))
  refine sw a.ok (o_mv al) (fun aV E => ?_)
  have am := E.n (a.n (j.n K))
  refine sw E.ok (o_mv am) (fun aW F => ?_)
  refine sw F.ok (o_gtS (F.n E.at_) F.at_) (fun aX A => ?_)
  refine wpList_nil (th_n (ak _ _ ?_))
  cases B : (!(Op.bytesLess l m || decide (l = m)))
  ·refine wp_cond_false ((A.at_).trans (congrArg Value.bool (B))) ?_
   refine wp_skip (th_n (aj _ _ (wp_seq_k (fun aY an => (wp_region_lit (sw A.ok (o_as ev_const) (fun aZ L => ?_)))))))
   refine wpList_nil (th_n (an _ _ (wp_ret (ret1 L.ok rfl (L.at_) ⟨congrArg (fun n => Ending.returned (Value.int .i64 n)) (Eq.symm (by unfold cmpS; rw [if_neg (by rw [o]; simp), if_neg (by rw [B]; simp)])), D⟩))))
  ·refine wp_cond_true ((A.at_).trans (congrArg Value.bool (B))) ?_
   refine wp_seq_k (fun a1 ao => (wp_region_lit (sw A.ok (o_as ev_const) (fun a2 M => ?_))))
   refine wpList_nil (th_n (ao _ _ (wp_ret (th_r (ret1 M.ok rfl (M.at_) ⟨congrArg (fun n => Ending.returned (Value.int .i64 n)) (Eq.symm (by unfold cmpS; rw [if_neg (by rw [o]; simp), if_pos B])), D⟩)))))
 ·refine wp_cond_true ((a.at_).trans (congrArg Value.bool (o))) ?_
  refine wp_seq_k (fun a3 ap => (wp_region_lit (sw a.ok (o_as ev_const) (fun a4 O => ?_))))
  refine wpList_nil (th_n (ap _ _ (wp_ret (th_r (ret1 O.ok rfl (O.at_) ⟨congrArg (fun n => Ending.returned (Value.int .i64 n)) (Eq.symm (by unfold cmpS; rw [if_pos o])), D⟩)))))
theorem cmpDots_any (a b c d : Int) (w : World) :
  Calls Tryz.prog 184 #[.agg #[.int .i64 (a), .int .i64 (b)], .agg #[.int .i64 (c), .int .i64 (d)]] w fun e w' => e = .returned (.int .i64 (cmpP a b c d)) ∧ Gr w w' := by
 refine enter (N := 17) Tryz.func184 rfl rfl rfl (fun B ok0 y => ?_)
 have F : B.eval (.tmp 0) = .agg #[.int .i64 (a), .int .i64 (b)] := y 0 _ rfl
 have G : B.eval (.tmp 1) = .agg #[.int .i64 (c), .int .i64 (d)] := y 1 _ rfl
 clear y
 have H := Gr.refl w
 refine wp_seq_k (fun K1 I => (wp_region_lit (sal (cs := #[.int .i64 (a), .int .i64 (b)]) ok0 rfl (wn _ rfl) rfl (o_box F) (fun ap w4 o C q => ?_))))
 have J := H.trans C.gr
 refine sal (cs := #[.int .i64 (c), .int .i64 (d)]) q.ok rfl (wn _ rfl) rfl (o_box (q.n G)) (fun ar K r t l => ?_)
 have M := J.trans t.gr
 have D := C.bk.gr t.gr
 refine sw l.ok (o_as ev_const) (fun au n => ?_)
 refine wpList_nil (th_n (I _ _ (wp_seq_k (fun av O => (reg_start (N := 17) (m := 13) (by kernel_rfl) (fun S => ?_))))))
 have T := S.snoc (n' := 1) rfl (fun vJ _ => vJ = .pointer (some ⟨o, 0, none⟩)) rfl (fun _ _ _ _ h => h) (fun aS wS pS => by
   exact Does.val (wn _ rfl) (o_fa (z := 1) ((pS.old 2 rfl).trans (n.n (l.n q.at_))) Tryz.underlying51 rfl (by kernel_rfl) rfl rfl) (Gr.refl _) rfl rfl)
 have U := T.snoc (n' := 2) rfl (fun vJ _ => vJ = .int .i64 (a)) rfl (fun _ _ _ _ h => h) (fun aS wS pS => by
   have eR18_0 : aS.eval (.tmp 5) = .pointer (some ⟨o, 0, none⟩) := pS.pre 0 rfl
   exact Does.val (wn _ rfl) (o_ld (eR18_0) (Tryz.isAgg3 _) ((Bk.gr D (gr_drew pS.gr)).cell _ rfl)) (Gr.refl _) rfl rfl)
 have V := U.snoc (n' := 3) rfl (fun vJ _ => vJ = .pointer (some ⟨r, 0, none⟩)) rfl (fun _ _ _ _ h => h) (fun aS wS pS => by
   exact Does.val (wn _ rfl) (o_fa (z := 1) ((pS.old 3 rfl).trans (n.n l.at_)) Tryz.underlying51 rfl (by kernel_rfl) rfl rfl) (Gr.refl _) rfl rfl)
 have W := V.snoc (n' := 4) rfl (fun vJ _ => vJ = .int .i64 (c)) rfl (fun _ _ _ _ h => h) (fun aS wS pS => by
   have eR18_2 : aS.eval (.tmp 7) = .pointer (some ⟨r, 0, none⟩) := pS.pre 2 rfl
   exact Does.val (wn _ rfl) (o_ld (eR18_2) (Tryz.isAgg3 _) ((Bk.gr t.bk (gr_drew pS.gr)).cell _ rfl)) (Gr.refl _) rfl rfl)
 have X := W.snoc (n' := 5) rfl (fun vJ _ => vJ = .int .i64 (Lib.compareInt a c)) rfl (fun _ _ _ _ h => h) (fun aS wS pS => by
   have eR18_1 : aS.eval (.tmp 6) = .int .i64 (a) := pS.pre 1 rfl
   have eR18_3 : aS.eval (.tmp 8) = .int .i64 (c) := pS.pre 3 rfl
   exact Does.call (wn _ rfl) (o_f2 Tryz.func218 rfl rfl rfl (eR18_1) (eR18_3)) (cmpG a c wS) (by rintro _ E ⟨rfl, g⟩; exact ⟨_, rfl, g, rfl⟩) rfl)
 have Y := X.snoc (n' := 6) rfl (fun vJ _ => vJ = .pointer (some ⟨o, 1, none⟩)) rfl (fun _ _ _ _ h => h) (fun aS wS pS => by
   exact Does.val (wn _ rfl) (o_fa (z := 1) ((pS.old 2 rfl).trans (n.n (l.n q.at_))) Tryz.underlying51 rfl (by kernel_rfl) rfl rfl) (Gr.refl _) rfl rfl)
 have Z := Y.snoc (n' := 7) rfl (fun vJ _ => vJ = .int .i64 (b)) rfl (fun _ _ _ _ h => h) (fun aS wS pS => by
   have eR18_5 : aS.eval (.tmp 10) = .pointer (some ⟨o, 1, none⟩) := pS.pre 5 rfl
   exact Does.val (wn _ rfl) (o_ld (eR18_5) (Tryz.isAgg3 _) ((Bk.gr D (gr_drew pS.gr)).cell _ rfl)) (Gr.refl _) rfl rfl)
 have aa := Z.snoc (n' := 8) rfl (fun vJ _ => vJ = .pointer (some ⟨r, 1, none⟩)) rfl (fun _ _ _ _ h => h) (fun aS wS pS => by
   exact Does.val (wn _ rfl) (o_fa (z := 1) ((pS.old 3 rfl).trans (n.n l.at_)) Tryz.underlying51 rfl (by kernel_rfl) rfl rfl) (Gr.refl _) rfl rfl)
 have ab := aa.snoc (n' := 9) rfl (fun vJ _ => vJ = .int .i64 (d)) rfl (fun _ _ _ _ h => h) (fun aS wS pS => by
   have eR18_7 : aS.eval (.tmp 12) = .pointer (some ⟨r, 1, none⟩) := pS.pre 7 rfl
   exact Does.val (wn _ rfl) (o_ld (eR18_7) (Tryz.isAgg3 _) ((Bk.gr t.bk (gr_drew pS.gr)).cell _ rfl)) (Gr.refl _) rfl rfl)
 have ac := ab.snoc (n' := 10) rfl (fun vJ _ => vJ = .int .i64 (Lib.compareInt b d)) rfl (fun _ _ _ _ h => h) (fun aS wS pS => by
   have eR18_6 : aS.eval (.tmp 11) = .int .i64 (b) := pS.pre 6 rfl
   have eR18_8 : aS.eval (.tmp 13) = .int .i64 (d) := pS.pre 8 rfl
   exact Does.call (wn _ rfl) (o_f2 Tryz.func218 rfl rfl rfl (eR18_6) (eR18_8)) (cmpG b d wS) (by rintro _ E ⟨rfl, g⟩; exact ⟨_, rfl, g, rfl⟩) rfl)
 have ad := ac.snoc (n' := 11) rfl (fun vJ wJ => ∃ j : Nat, vJ = .slice (some ⟨j, 0, none⟩) 2 2 ∧ K.heap.size ≤ j ∧ Bk wJ j #[.int .i64 (Lib.compareInt a c), .int .i64 (Lib.compareInt b d)] 3) rfl (fun _ _ _ g ⟨b, h1, h2, h3⟩ => ⟨b, h1, h2, h3.gr g⟩) (fun aS wS pS => by
   have eR18_4 : aS.eval (.tmp 9) = .int .i64 (Lib.compareInt a c) := pS.pre 4 rfl
   have eR18_9 : aS.eval (.tmp 14) = .int .i64 (Lib.compareInt b d) := pS.pre 9 rfl
   obtain ⟨ax, ai, aj, A⟩ := info3_of (show (Tryz.prog.info? 3).map (fun i => (i.zero, i.size)) = some (some (.int .i64 0), 1) by kernel_rfl)
   exact Does.val (wn _ rfl) (o_bs (vs := [(0, .int .i64 (Lib.compareInt a c)), (1, .int .i64 (Lib.compareInt b d))]) (by simp [(eR18_4), (eR18_9), ev_const]) Tryz.underlying45 ai aj (by rw [A]; rfl) (by rw [A]; rfl) (by rw [A]; kernel_rfl)) ((Gr.refl _).alloc _) ⟨_, rfl, pS.gr.size, (New.mk' _ _ _).bk⟩ rfl)
 have ak := ad.snoc (n' := 12) rfl (fun vJ _ => vJ = .int .i64 (orC (Lib.compareInt a c) (Lib.compareInt b d))) rfl (fun _ _ _ _ h => h) (fun aS wS pS => by
   obtain ⟨j, eR18_10, geb20, bkb20⟩ := pS.pre 10 rfl
   have eR18_10 : aS.eval (.tmp 15) = .slice (some ⟨j, 0, none⟩) 2 2 := eR18_10
   exact Does.call (wn _ rfl) (o_f1 Tryz.func187 rfl rfl rfl (eR18_10)) (orG (Lib.compareInt a c) (Lib.compareInt b d) _ _ wS bkb20) (by rintro _ E ⟨rfl, g⟩; exact ⟨_, rfl, g, rfl⟩) rfl)
 have al := ak.snoc (n' := 13) rfl (fun vJ _ => vJ = .int .i64 (orC (Lib.compareInt a c) (Lib.compareInt b d))) rfl (fun _ _ _ _ h => h) (fun aS wS pS => by
   have eR18_11 : aS.eval (.tmp 16) = .int .i64 (orC (Lib.compareInt a c) (Lib.compareInt b d)) := pS.pre 11 rfl
   exact Does.val (wn _ rfl) (o_as (eR18_11)) (Gr.refl _) rfl rfl)
 refine al.run (k := 0) (L := #[true, true, true, true, true, true, true, true, true, true, true, true, true]) (by kernel_rfl) (by kernel_rfl) (by kernel_rfl) n.ok (by kernel_rfl) (by kernel_rfl) (fun ap22 ay u => ?_)
 have am := gr_drew u.gr
 have an := M.trans am
 obtain ⟨j, ep22_10, geb20, bkb20⟩ := u.js 10 rfl
 have ep22_10 : ap22.eval (.tmp 15) = .slice (some ⟨j, 0, none⟩) 2 2 := ep22_10
 refine wpAny_done (by kernel_rfl) ?_ _
 refine th_n (O _ _ (wp_ret ?_))
 have ep22_12 : ap22.eval (.tmp 4) = .int .i64 (orC (Lib.compareInt a c) (Lib.compareInt b d)) := u.js 12 rfl
 exact ret1 u.ok rfl (ep22_12) ⟨rfl, an⟩
theorem cmpVr_any (x y : VerI) (w : World) :
  Calls Tryz.prog 136 #[.agg #[.string (bs x.d.id), .int .i64 (x.d.s), .int .i64 (x.d.c), .int .i64 (x.d.t), .int .i64 (x.d.n), .int .i64 (x.d.b), .slice x.va x.d.V.length x.vc, .slice x.ma x.d.M.length x.mc], .agg #[.string (bs y.d.id), .int .i64 (y.d.s), .int .i64 (y.d.c), .int .i64 (y.d.t), .int .i64 (y.d.n), .int .i64 (y.d.b), .slice y.va y.d.V.length y.vc, .slice y.ma y.d.M.length y.mc]] w fun e w' => e = .returned (.int .i64 (cmpV x.d y.d)) ∧ Gr w w' := by
 refine enter (N := 17) Tryz.func136 rfl rfl rfl (fun D ok0 B => ?_)
 have H : D.eval (.tmp 0) = .agg #[.string (bs x.d.id), .int .i64 (x.d.s), .int .i64 (x.d.c), .int .i64 (x.d.t), .int .i64 (x.d.n), .int .i64 (x.d.b), .slice x.va x.d.V.length x.vc, .slice x.ma x.d.M.length x.mc] := B 0 _ rfl
 have I : D.eval (.tmp 1) = .agg #[.string (bs y.d.id), .int .i64 (y.d.s), .int .i64 (y.d.c), .int .i64 (y.d.t), .int .i64 (y.d.n), .int .i64 (y.d.b), .slice y.va y.d.V.length y.vc, .slice y.ma y.d.M.length y.mc] := B 1 _ rfl
 clear B
 have J := Gr.refl w
 refine wp_seq_k (fun K1 K => (wp_region_lit (sal (cs := #[.string (bs x.d.id), .int .i64 (x.d.s), .int .i64 (x.d.c), .int .i64 (x.d.t), .int .i64 (x.d.n), .int .i64 (x.d.b), .slice x.va x.d.V.length x.vc, .slice x.ma x.d.M.length x.mc]) ok0 rfl (wn _ rfl) rfl (o_box H) (fun av w4 o E q => ?_))))
 have O := J.trans E.gr
 refine sal (cs := #[.string (bs y.d.id), .int .i64 (y.d.s), .int .i64 (y.d.c), .int .i64 (y.d.t), .int .i64 (y.d.n), .int .i64 (y.d.b), .slice y.va y.d.V.length y.vc, .slice y.ma y.d.M.length y.mc]) q.ok rfl (wn _ rfl) rfl (o_box (q.n I)) (fun ay S r u j => ?_)
 have T := O.trans u.gr
 have F := E.bk.gr u.gr
 refine sw j.ok (o_as ev_const) (fun az l => ?_)
 refine wpList_nil (th_n (K _ _ (wp_seq_k (fun aA U => (reg_start (N := 17) (m := 13) (by kernel_rfl) (fun W => ?_))))))
 have X := W.snoc (n' := 1) rfl (fun vJ _ => vJ = .pointer (some ⟨o, 0, none⟩)) rfl (fun _ _ _ _ h => h) (fun aS wS pS => by
   exact Does.val (wn _ rfl) (o_fa (z := 1) ((pS.old 2 rfl).trans (l.n (j.n q.at_))) Tryz.underlying106 rfl (by kernel_rfl) rfl rfl) (Gr.refl _) rfl rfl)
 have Y := X.snoc (n' := 2) rfl (fun vJ _ => vJ = .string (bs x.d.id)) rfl (fun _ _ _ _ h => h) (fun aS wS pS => by
   have eR18_0 : aS.eval (.tmp 5) = .pointer (some ⟨o, 0, none⟩) := pS.pre 0 rfl
   exact Does.val (wn _ rfl) (o_ld (eR18_0) (Tryz.isAgg9 _) ((Bk.gr F (gr_drew pS.gr)).cell _ rfl)) (Gr.refl _) rfl rfl)
 have Z := Y.snoc (n' := 3) rfl (fun vJ _ => vJ = .pointer (some ⟨r, 0, none⟩)) rfl (fun _ _ _ _ h => h) (fun aS wS pS => by
   exact Does.val (wn _ rfl) (o_fa (z := 1) ((pS.old 3 rfl).trans (l.n j.at_)) Tryz.underlying106 rfl (by kernel_rfl) rfl rfl) (Gr.refl _) rfl rfl)
 have aa := Z.snoc (n' := 4) rfl (fun vJ _ => vJ = .string (bs y.d.id)) rfl (fun _ _ _ _ h => h) (fun aS wS pS => by
   have eR18_2 : aS.eval (.tmp 7) = .pointer (some ⟨r, 0, none⟩) := pS.pre 2 rfl
   exact Does.val (wn _ rfl) (o_ld (eR18_2) (Tryz.isAgg9 _) ((Bk.gr u.bk (gr_drew pS.gr)).cell _ rfl)) (Gr.refl _) rfl rfl)
 have ab := aa.snoc (n' := 5) rfl (fun vJ _ => vJ = .int .i64 (cmpS x.d.id y.d.id)) rfl (fun _ _ _ _ h => h) (fun aS wS pS => by
   have eR18_1 : aS.eval (.tmp 6) = .string (bs x.d.id) := pS.pre 1 rfl
   have eR18_3 : aS.eval (.tmp 8) = .string (bs y.d.id) := pS.pre 3 rfl
   exact Does.call (wn _ rfl) (o_f2 Tryz.func188 rfl rfl rfl (eR18_1) (eR18_3)) (cmpStr x.d.id y.d.id wS) (by rintro _ G ⟨rfl, g⟩; exact ⟨_, rfl, g, rfl⟩) rfl)
 have ac := ab.snoc (n' := 6) rfl (fun vJ _ => vJ = .pointer (some ⟨o, 1, none⟩)) rfl (fun _ _ _ _ h => h) (fun aS wS pS => by
   exact Does.val (wn _ rfl) (o_fa (z := 2) ((pS.old 2 rfl).trans (l.n (j.n q.at_))) Tryz.underlying106 rfl (by kernel_rfl) rfl rfl) (Gr.refl _) rfl rfl)
 have ad := ac.snoc (n' := 7) rfl (fun vJ _ => vJ = .agg #[.int .i64 (x.d.s), .int .i64 (x.d.c)]) rfl (fun _ _ _ _ h => h) (fun aS wS pS => by
   have eR18_5 : aS.eval (.tmp 10) = .pointer (some ⟨o, 1, none⟩) := pS.pre 5 rfl
   exact Does.val (wn _ rfl) (o_ldA (k := 1) (cs := [.int .i64 (x.d.s), .int .i64 (x.d.c)]) (eR18_5) (bk_part (Bk.gr F (gr_drew pS.gr)) rfl) Tryz.underlying51 rfl (by kernel_rfl)) (Gr.refl _) rfl rfl)
 have af := ad.snoc (n' := 8) rfl (fun vJ _ => vJ = .pointer (some ⟨r, 1, none⟩)) rfl (fun _ _ _ _ h => h) (fun aS wS pS => by
   exact Does.val (wn _ rfl) (o_fa (z := 2) ((pS.old 3 rfl).trans (l.n j.at_)) Tryz.underlying106 rfl (by kernel_rfl) rfl rfl) (Gr.refl _) rfl rfl)
 have ag := af.snoc (n' := 9) rfl (fun vJ _ => vJ = .agg #[.int .i64 (y.d.s), .int .i64 (y.d.c)]) rfl (fun _ _ _ _ h => h) (fun aS wS pS => by
   have eR18_7 : aS.eval (.tmp 12) = .pointer (some ⟨r, 1, none⟩) := pS.pre 7 rfl
   exact Does.val (wn _ rfl) (o_ldA (k := 1) (cs := [.int .i64 (y.d.s), .int .i64 (y.d.c)]) (eR18_7) (bk_part (Bk.gr u.bk (gr_drew pS.gr)) rfl) Tryz.underlying51 rfl (by kernel_rfl)) (Gr.refl _) rfl rfl)
 have ah := ag.snoc (n' := 10) rfl (fun vJ _ => vJ = .int .i64 (cmpP x.d.s x.d.c y.d.s y.d.c)) rfl (fun _ _ _ _ h => h) (fun aS wS pS => by
   have eR18_6 : aS.eval (.tmp 11) = .agg #[.int .i64 (x.d.s), .int .i64 (x.d.c)] := pS.pre 6 rfl
   have eR18_8 : aS.eval (.tmp 13) = .agg #[.int .i64 (y.d.s), .int .i64 (y.d.c)] := pS.pre 8 rfl
   exact Does.call (wn _ rfl) (o_f2 Tryz.func184 rfl rfl rfl (eR18_6) (eR18_8)) (cmpDots_any x.d.s x.d.c y.d.s y.d.c wS) (by rintro _ G ⟨rfl, g⟩; exact ⟨_, rfl, g, rfl⟩) rfl)
 have ai := ah.snoc (n' := 11) rfl (fun vJ wJ => ∃ a : Nat, vJ = .slice (some ⟨a, 0, none⟩) 2 2 ∧ S.heap.size ≤ a ∧ Bk wJ a #[.int .i64 (cmpS x.d.id y.d.id), .int .i64 (cmpP x.d.s x.d.c y.d.s y.d.c)] 3) rfl (fun _ _ _ g ⟨b, h1, h2, h3⟩ => ⟨b, h1, h2, h3.gr g⟩) (fun aS wS pS => by
   have eR18_4 : aS.eval (.tmp 9) = .int .i64 (cmpS x.d.id y.d.id) := pS.pre 4 rfl
   have eR18_9 : aS.eval (.tmp 14) = .int .i64 (cmpP x.d.s x.d.c y.d.s y.d.c) := pS.pre 9 rfl
   obtain ⟨aB, am, an, C⟩ := info3_of (show (Tryz.prog.info? 3).map (fun i => (i.zero, i.size)) = some (some (.int .i64 0), 1) by kernel_rfl)
   exact Does.val (wn _ rfl) (o_bs (vs := [(0, .int .i64 (cmpS x.d.id y.d.id)), (1, .int .i64 (cmpP x.d.s x.d.c y.d.s y.d.c))]) (by simp [(eR18_4), (eR18_9), ev_const]) Tryz.underlying45 am an (by rw [C]; rfl) (by rw [C]; rfl) (by rw [C]; kernel_rfl)) ((Gr.refl _).alloc _) ⟨_, rfl, pS.gr.size, (New.mk' _ _ _).bk⟩ rfl)
 have ao := ai.snoc (n' := 12) rfl (fun vJ _ => vJ = .int .i64 (orC (cmpS x.d.id y.d.id) (cmpP x.d.s x.d.c y.d.s y.d.c))) rfl (fun _ _ _ _ h => h) (fun aS wS pS => by
   obtain ⟨a, eR18_10, geb20, bkb20⟩ := pS.pre 10 rfl
   have eR18_10 : aS.eval (.tmp 15) = .slice (some ⟨a, 0, none⟩) 2 2 := eR18_10
   exact Does.call (wn _ rfl) (o_f1 Tryz.func187 rfl rfl rfl (eR18_10)) (orG (cmpS x.d.id y.d.id) (cmpP x.d.s x.d.c y.d.s y.d.c) _ _ wS bkb20) (by rintro _ G ⟨rfl, g⟩; exact ⟨_, rfl, g, rfl⟩) rfl)
 have ap := ao.snoc (n' := 13) rfl (fun vJ _ => vJ = .int .i64 (orC (cmpS x.d.id y.d.id) (cmpP x.d.s x.d.c y.d.s y.d.c))) rfl (fun _ _ _ _ h => h) (fun aS wS pS => by
   have eR18_11 : aS.eval (.tmp 16) = .int .i64 (orC (cmpS x.d.id y.d.id) (cmpP x.d.s x.d.c y.d.s y.d.c)) := pS.pre 11 rfl
   exact Does.val (wn _ rfl) (o_as (eR18_11)) (Gr.refl _) rfl rfl)
 refine ap.run (k := 0) (L := #[true, true, true, true, true, true, true, true, true, true, true, true, true]) (by kernel_rfl) (by kernel_rfl) (by kernel_rfl) l.ok (by kernel_rfl) (by kernel_rfl) (fun ap22 aC A => ?_)
 have aq := gr_drew A.gr
 have ar := T.trans aq
 obtain ⟨a, ep22_10, geb20, bkb20⟩ := A.js 10 rfl
 have ep22_10 : ap22.eval (.tmp 15) = .slice (some ⟨a, 0, none⟩) 2 2 := ep22_10
 refine wpAny_done (by kernel_rfl) ?_ _
 refine th_n (U _ _ (wp_ret ?_))
 have ep22_12 : ap22.eval (.tmp 4) = .int .i64 (orC (cmpS x.d.id y.d.id) (cmpP x.d.s x.d.c y.d.s y.d.c)) := A.js 12 rfl
 exact ret1 A.ok rfl (ep22_12) ⟨rfl, ar⟩
theorem supBy_any (y : VerI) (w : World) :
  Calls Tryz.prog 138 #[.agg #[.string (bs y.d.id), .int .i64 (y.d.s), .int .i64 (y.d.c), .int .i64 (y.d.t), .int .i64 (y.d.n), .int .i64 (y.d.b), .slice y.va y.d.V.length y.vc, .slice y.ma y.d.M.length y.mc]] w fun e w' => ∃ b, e = .returned (.func (.func 189) #[] #[.pointer (some ⟨b, 0, none⟩)]) ∧ w.heap.size ≤ b ∧ Bk w' b #[.string (bs y.d.id), .int .i64 (y.d.s), .int .i64 (y.d.c), .int .i64 (y.d.t), .int .i64 (y.d.n), .int .i64 (y.d.b), .slice y.va y.d.V.length y.vc, .slice y.ma y.d.M.length y.mc] 106 ∧ Gr w w' := by
 refine enter (N := 4) Tryz.func138 rfl rfl rfl (fun u ok0 h => ?_)
 have z : u.eval (.tmp 0) = .agg #[.string (bs y.d.id), .int .i64 (y.d.s), .int .i64 (y.d.c), .int .i64 (y.d.t), .int .i64 (y.d.n), .int .i64 (y.d.b), .slice y.va y.d.V.length y.vc, .slice y.ma y.d.M.length y.mc] := h 0 _ rfl
 clear h
 have j := Gr.refl w
 refine wp_seq_k (fun E A => (wp_region_lit (sal (cs := #[.string (bs y.d.id), .int .i64 (y.d.s), .int .i64 (y.d.c), .int .i64 (y.d.t), .int .i64 (y.d.n), .int .i64 (y.d.b), .slice y.va y.d.V.length y.vc, .slice y.ma y.d.M.length y.mc]) ok0 rfl (wn _ rfl) rfl (o_box z) (fun F G a g l => ?_))))
 have B : w.heap.size ≤ a := by rw [g.eq]; exact j.size
 have C := j.trans g.gr
 refine sw l.ok (o_as ev_const) (fun H o => ?_)
 refine wpList_nil (th_n (A _ _ (wp_seq_k (fun I D => (wp_region_lit (sw o.ok (o_mf (fs := []) (cs := [.pointer (some ⟨a, 0, none⟩)]) (by simp) (by simp [(o.n l.at_)])) (fun J q => ?_)))))))
 refine sw q.ok (o_as q.at_) (fun K r => ?_)
 refine wpList_nil (th_n (D _ _ (wp_ret (ret1 r.ok rfl (r.at_) ⟨a, rfl, B, g.bk, C⟩))))
theorem supBy1_any (x y : VerI) (b : Nat) (hx : okVr x) (hy : chkK y.d.V y.d.M = 0) (w : World) (hm : MeanV w y) (hb : Bk w b #[.string (bs y.d.id), .int .i64 (y.d.s), .int .i64 (y.d.c), .int .i64 (y.d.t), .int .i64 (y.d.n), .int .i64 (y.d.b), .slice y.va y.d.V.length y.vc, .slice y.ma y.d.M.length y.mc] 106) :
  Calls Tryz.prog 189 #[.agg #[.string (bs x.d.id), .int .i64 (x.d.s), .int .i64 (x.d.c), .int .i64 (x.d.t), .int .i64 (x.d.n), .int .i64 (x.d.b), .slice x.va x.d.V.length x.vc, .slice x.ma x.d.M.length x.mc], .pointer (some ⟨b, 0, none⟩)] w fun e w' => e = .returned (.bool (ovB y.d x.d)) ∧ Gr w w' := by
 refine enter (N := 16) Tryz.func189 rfl rfl rfl (fun U ok0 I => ?_)
 have ag : U.eval (.tmp 0) = .agg #[.string (bs x.d.id), .int .i64 (x.d.s), .int .i64 (x.d.c), .int .i64 (x.d.t), .int .i64 (x.d.n), .int .i64 (x.d.b), .slice x.va x.d.V.length x.vc, .slice x.ma x.d.M.length x.mc] := I 0 _ rfl
 have ah : U.eval (.tmp 1) = .pointer (some ⟨b, 0, none⟩) := I 1 _ rfl
 clear I
 have G0 := Gr.refl w
 refine wp_seq_k (fun K1 aj => (wp_region_lit (sal (cs := #[.string (bs x.d.id), .int .i64 (x.d.s), .int .i64 (x.d.c), .int .i64 (x.d.t), .int .i64 (x.d.n), .int .i64 (x.d.b), .slice x.va x.d.V.length x.vc, .slice x.ma x.d.M.length x.mc]) ok0 rfl (wn _ rfl) rfl (o_box ag) (fun aq w4 b3 q r => ?_))))
 have J := G0.trans q.gr
 have W := hb.gr q.gr
 refine sw r.ok (o_as ev_const) (fun au u => ?_)
 refine wpList_nil (th_n (aj _ _ (wp_seq_k (fun av X => (wp_region_lit (sw u.ok (o_fa (z := 1) (u.n r.at_) Tryz.underlying106 rfl (by kernel_rfl) rfl rfl) (fun ax A => ?_)))))))
 refine sw A.ok (o_ld A.at_ (Tryz.isAgg9 _) (q.bk.cell _ rfl)) (fun ay B => ?_)
 have Y := B.n (A.n (u.n (r.n ah)))
 refine sw B.ok (o_fa (z := 1) Y Tryz.underlying106 rfl (by kernel_rfl) rfl rfl) (fun az h => ?_)
 refine sw h.ok (o_ld h.at_ (Tryz.isAgg9 _) (W.cell _ rfl)) (fun aA j => ?_)
 refine sw j.ok (o_eqS (j.n (h.n B.at_)) j.at_) (fun aB C => ?_)
 refine sw C.ok (o_mv C.at_) (fun aC a => ?_)
 by_cases D : x.d.id = y.d.id
 ·have E := (a.at_).trans (congrArg Value.bool (decide_eq_true D))
  have al := a.n (C.n (j.n (h.n Y)))
  refine sv a.ok rfl (wgT rfl (yl 5 true rfl E) rfl) rfl (o_fa (z := 2) al Tryz.underlying106 rfl (by kernel_rfl) rfl rfl) (fun aD g => ?_)
  refine sv g.ok rfl (wgT rfl (yl 5 true rfl (g.n E)) rfl) rfl (o_ldA (k := 6) (cs := [.slice y.va y.d.V.length y.vc, .slice y.ma y.d.M.length y.mc]) g.at_ (bk_part W rfl) Tryz.underlying75 rfl (by kernel_rfl)) (fun aE l => ?_)
  have am := l.n (g.n (a.n (C.n (j.n (h.n (B.n (A.n (u.n r.at_))))))))
  refine sv l.ok rfl (wgT rfl (yl 5 true rfl (l.n (g.n E))) rfl) rfl (o_fa (z := 2) am Tryz.underlying106 rfl (by kernel_rfl) rfl rfl) (fun aF F => ?_)
  have K := F.n (l.n (g.n E))
  refine sv F.ok rfl (wgT rfl (yl 5 true rfl K) rfl) rfl (o_ldA (k := 1) (cs := [.int .i64 (x.d.s), .int .i64 (x.d.c)]) F.at_ (bk_part q.bk rfl) Tryz.underlying51 rfl (by kernel_rfl)) (fun aG o => ?_)
  refine sc o.ok rfl (wgT rfl (yl 5 true rfl (o.n K)) rfl) rfl (o_f2 Tryz.func132 rfl rfl rfl (o.n (F.n l.at_)) o.at_) (vhas_any y.va y.ma y.vc y.mc y.d.V y.d.M x.d.s x.d.c hy (argB_dot (chkOne_zero hx).2.1) w4 (MeanV.gr hm J)) ?_
  rintro _ aH ⟨rfl, an⟩
  refine ⟨_, rfl, fun aI L => ?_⟩
  have ao := J.trans an
  refine sw L.ok (o_pkT (L.n (o.n K)) L.at_) (fun aJ Z => ?_)
  refine sw Z.ok (o_as Z.at_) (fun aK aa => ?_)
  refine wpList_nil (th_n (X _ _ (wp_ret (ret1 aa.ok rfl (aa.at_) ⟨by unfold ovB; rw [decide_eq_true D]; rfl, ao⟩))))
 ·have G := (a.at_).trans (congrArg Value.bool (decide_eq_false D))
  refine sn a.ok rfl (wgF rfl (yl 5 false rfl G) rfl) rfl (fun aL H => ?_)
  refine sn H.ok rfl (wgF rfl (yl 5 false rfl (H.n G)) rfl) rfl (fun aM O => ?_)
  refine sn O.ok rfl (wgF rfl (yl 5 false rfl (O.n (H.n G))) rfl) rfl (fun aO ab => ?_)
  have S := ab.n (O.n (H.n G))
  refine sn ab.ok rfl (wgF rfl (yl 5 false rfl S) rfl) rfl (fun aS T => ?_)
  refine sn T.ok rfl (wgF rfl (yl 5 false rfl (T.n S)) rfl) rfl (fun aT ac => ?_)
  refine sw ac.ok (o_pkF (ac.n (T.n S)) ev_const) (fun aU ad => ?_)
  refine sw ad.ok (o_as ad.at_) (fun aV af => ?_)
  refine wpList_nil (th_n (X _ _ (wp_ret (ret1 af.ok rfl (af.at_) ⟨by unfold ovB; rw [decide_eq_false D]; rfl, J⟩))))
theorem indexV (K : List VerI) (va : Option Addr) (vc : Nat) (f : FuncId) (caps : List Value) (p : VerI → Bool) (hf : FnOk Tryz.prog f) (hl : K.length ≤ 100000) (w : World) (hv : RdA encVr 8 w va K) (hc : ∀ x ∈ K, ∀ w1, Gr w w1 → Calls Tryz.prog f (.agg #[.string (bs x.d.id), .int .i64 (x.d.s), .int .i64 (x.d.c), .int .i64 (x.d.t), .int .i64 (x.d.n), .int .i64 (x.d.b), .slice x.va x.d.V.length x.vc, .slice x.ma x.d.M.length x.mc] :: caps).toArray w1 fun e w2 => e = .returned (.bool (p x)) ∧ Gr w1 w2) :
  Calls Tryz.prog 122 #[.slice va K.length vc, .func (.func f) #[] caps.toArray] w fun e w' => e = .returned (.int .i64 (ixF p K 0)) ∧ Gr w w' := by
 refine enter (N := 19) Tryz.func122 rfl rfl rfl (fun T ok0 L => ?_)
 have U : T.eval (.tmp 0) = .slice va K.length vc := L 0 _ rfl
 have af : T.eval (.tmp 1) = .func (.func f) #[] caps.toArray := L 1 _ rfl
 clear L
 have G0 := Gr.refl w
 refine wp_seq_k (fun K1 ah => (wp_region_lit (sw ok0 (o_as ev_const) (fun aS F => ?_))))
 refine wpList_nil (th_n (ah _ _ (wp_seq_k (fun K3 ai => (wp_seq_k (fun K4 aj => (wp_region_lit (sw F.ok (o_mv (F.n U)) (fun aV G => ?_)))))))))
 refine sw G.ok (o_len G.at_ Tryz.underlying41) (fun aW H => ?_)
 refine sw H.ok (o_mv ev_const) (fun aX C => ?_)
 refine wpList_nil (th_n (aj _ _ (wp_block ?_)))
 have e9 := C.n (H.n (G.n (F.n U)))
 have al := C.n (H.n (G.n (F.n af)))
 have am := C.n (H.n (G.n F.at_))
 refine lp (fun (nL : Nat) (aL : Act) (wL : World) => ∃ i : Nat, nL = K.length - i ∧ Ok 19 aL ∧ Gr w wL ∧ (aL.eval (.tmp 0) = .slice va K.length vc) ∧ (aL.eval (.tmp 1) = .func (.func f) #[] caps.toArray) ∧ (aL.eval (.tmp 4) = .int .i64 0) ∧ (aL.eval (.tmp 7) = .int .i64 ((K.length : Nat) : Int)) ∧ (aL.eval (.tmp 8) = .int .i64 (i : Int)) ∧ (i ≤ K.length) ∧ (∀ k y, k < i → K[k]? = some y → p y = false)) _ ⟨0, rfl, C.ok, G0, e9, al, am, (C.n H.at_), C.at_, by omega, fun k y hk => by omega⟩ ?_
 rintro aY aZ an ⟨i, hmI8, okI8, GI8, ao, ap, aq, W, O, hiI8, hbI8⟩ KI8 hKI8
 refine wp_seq_k (fun a1 ar => (wp_region_lit (sw okI8 (o_ltI O W) (fun a2 a => ?_))))
 refine wpList_nil (th_n (ar _ _ (wp_seq_k (fun a3 au => ?_))))
 by_cases X : (i : Int) < ((K.length : Nat) : Int)
 ·refine wp_cond_true ((a.at_).trans (congrArg Value.bool (decide_eq_true X))) ?_
  refine wp_skip (th_n (au _ _ (wp_seq_k (fun a4 av => (wp_block (wp_seq_k (fun a6 ax => (wp_region_lit (sw a.ok (o_mv (a.n O)) (fun a7 B => ?_))))))))))
  refine sw B.ok (o_as B.at_) (fun a8 A => ?_)
  refine wpList_nil (th_n (ax _ _ (wp_seq_k (fun a9 ay => (wp_region_lit ?_)))))
  have Y := A.n (B.n (a.n ap))
  refine sw A.ok (o_mv Y) (fun ba o => ?_)
  have Z := o.n (A.n (B.n (a.n ao)))
  refine sw o.ok (o_mv Z) (fun bb g => ?_)
  refine sw g.ok (o_mv (g.n (o.n A.at_))) (fun bc h => ?_)
  have S : i < List.length K := by omega
  obtain ⟨bh29, fh29, az, aA, aB⟩ := hv (ne_nil_of_lt S)
  obtain ⟨xh29, I⟩ : ∃ x, (K)[i]? = some x := ⟨_, List.getElem?_eq_getElem S⟩
  refine sw h.ok (o_iaV (i := i) (s := 8) az (h.n g.at_) h.at_ Tryz.underlying41 (by kernel_rfl) S) (fun bd u => ?_)
  refine sw u.ok (o_ldA (k := fh29 + i * 8) u.at_ (cs := [.string (bs xh29.d.id), .int .i64 (xh29.d.s), .int .i64 (xh29.d.c), .int .i64 (xh29.d.t), .int .i64 (xh29.d.n), .int .i64 (xh29.d.b), .slice xh29.va xh29.d.V.length xh29.vc, .slice xh29.ma xh29.d.M.length xh29.mc]) (fun j v hv => (Below.cell GI8 aA).trans (aB _ _ I j v hv)) Tryz.underlying106 rfl (by kernel_rfl)) (fun bf z => ?_)
  have aC := z.n (u.n (h.n (g.n o.at_)))
  refine sc z.ok rfl (wn _ rfl) rfl (o_fv1 (caps := caps) hf aC z.at_) (hc _ (List.mem_of_getElem? I) an GI8) ?_
  rintro _ bg ⟨rfl, aD⟩
  refine ⟨_, rfl, fun bh l => ?_⟩
  have aa := GI8.trans aD
  refine wpList_nil (th_n (ay _ _ ?_))
  cases J : (p xh29)
  ·refine wp_cond_false ((l.at_).trans (congrArg Value.bool (J))) ?_
   refine wp_skip (ib_n (th_n (av _ _ (wp_region_lit ?_))))
   have aE := l.n (z.n (u.n (h.n (g.n (o.n (A.n (B.n (a.n O))))))))
   refine sw l.ok (o_add (r := ((i + 1 : Nat) : Int)) aE ev_const (by omega) (by omega)) (fun bi D => ?_)
   refine sw D.ok (o_mv D.at_) (fun bj E => ?_)
   refine wpList_nil ?_
   have aF := E.n (D.n (l.n (z.n (u.n (h.n (g.n Z))))))
   have aG := E.n (D.n (l.n (z.n (u.n (h.n (g.n (o.n Y)))))))
   have aH := E.n (D.n (l.n (z.n (u.n (h.n (g.n (o.n (A.n (B.n (a.n aq))))))))))
   have aI := E.n (D.n (l.n (z.n (u.n (h.n (g.n (o.n (A.n (B.n (a.n W))))))))))
   exact th_n (hKI8 _ _ _ (by omega) ⟨i + 1, rfl, E.ok, aa, aF, aG, aH, aI, E.at_, by omega, fun k y hk hy => by
     rcases Nat.lt_or_ge k i with q | q
     ·exact hbI8 k y q hy
     ·obtain rfl : k = i := by omega
      rw [I] at hy
      cases hy
      exact J⟩)
  ·refine wp_cond_true ((l.at_).trans (congrArg Value.bool (J))) ?_
   refine wp_seq_k (fun bl aJ => (wp_region_lit ?_))
   have aK := l.n (z.n (u.n (h.n (g.n (o.n A.at_)))))
   refine sw l.ok (o_mv aK) (fun bm ab => ?_)
   refine sw ab.ok (o_as ab.at_) (fun bn ac => ?_)
   refine wpList_nil (th_n (aJ _ _ (wp_ret (ib_r (th_r (th_r (ib_r (th_r (ret1 ac.ok rfl (ac.at_) ⟨congrArg (fun n => Ending.returned (Value.int .i64 n)) ((ixF_some K 0 i _ I J hbI8).trans (congrArg Int.ofNat (Nat.zero_add _))).symm, aa⟩)))))))))
 ·refine wp_cond_false ((a.at_).trans (congrArg Value.bool (decide_eq_false X))) ?_
  refine wp_exit (th_x (th_x (ib_x (th_n (ai _ _ (wp_seq_k (fun bo aM => (wp_region_lit (sw a.ok (o_as ev_const) (fun bp ad => ?_))))))))))
  refine wpList_nil (th_n (aM _ _ (wp_ret ?_)))
  exact ret1 ad.ok rfl (ad.at_) ⟨congrArg (fun n => Ending.returned (Value.int .i64 n)) (ixF_none K 0 (fun x hx => by
    obtain ⟨k, hk⟩ := List.getElem?_of_mem hx
    have hlt := (List.getElem?_eq_some_iff.1 hk).1
    exact hbI8 k x (by omega) hk)).symm, GI8⟩
theorem containsV (K : List VerI) (va : Option Addr) (vc : Nat) (f : FuncId) (caps : List Value) (p : VerI → Bool) (hf : FnOk Tryz.prog f) (hl : K.length ≤ 100000) (w : World) (hv : RdA encVr 8 w va K) (hc : ∀ x ∈ K, ∀ w1, Gr w w1 → Calls Tryz.prog f (.agg #[.string (bs x.d.id), .int .i64 (x.d.s), .int .i64 (x.d.c), .int .i64 (x.d.t), .int .i64 (x.d.n), .int .i64 (x.d.b), .slice x.va x.d.V.length x.vc, .slice x.ma x.d.M.length x.mc] :: caps).toArray w1 fun e w2 => e = .returned (.bool (p x)) ∧ Gr w1 w2) :
  Calls Tryz.prog 62 #[.slice va K.length vc, .func (.func f) #[] caps.toArray] w fun e w' => e = .returned (.bool (K.any p)) ∧ Gr w w' := by
 refine enter (N := 9) Tryz.func62 rfl rfl rfl (fun o ok0 a => ?_)
 have y : o.eval (.tmp 0) = .slice va K.length vc := a 0 _ rfl
 have z : o.eval (.tmp 1) = .func (.func f) #[] caps.toArray := a 1 _ rfl
 clear a
 have g := Gr.refl w
 refine wp_seq_k (fun F A => (wp_region_lit (sw ok0 (o_as ev_const) (fun G h => ?_))))
 refine wpList_nil (th_n (A _ _ (wp_seq_k (fun H B => (wp_region_lit (sw h.ok (o_mv (h.n y)) (fun I j => ?_)))))))
 refine sw j.ok (o_mv (j.n (h.n z))) (fun J l => ?_)
 refine sc l.ok rfl (wn _ rfl) rfl (o_f2 Tryz.func122 rfl rfl rfl (l.n j.at_) l.at_) (indexV K va vc f caps p hf hl w (hv.gr g) (fun x hx w1 C => hc x hx w1 (g.trans C))) ?_
 rintro _ L ⟨rfl, D⟩
 refine ⟨_, rfl, fun O q => ?_⟩
 have E := g.trans D
 refine sw q.ok (o_geI q.at_ ev_const) (fun S r => ?_)
 refine sw r.ok (o_as r.at_) (fun T u => ?_)
 refine wpList_nil (th_n (B _ _ (wp_ret (ret1 u.ok rfl (u.at_) ⟨congrArg (fun b => Ending.returned (Value.bool b)) (ixF_any p K 0), E⟩))))
theorem vchk_any (K : List VerI) (va : Option Addr) (vc : Nat) (w : World) (hv : RdA encVr 8 w va K) (hm : MeansV w K) :
  Calls Tryz.prog 133 #[.slice va K.length vc] w fun e w' => e = .returned (.int .i64 (chkShf (K.map VerI.d))) ∧ Gr w w' := by
 refine enter (N := 47) Tryz.func133 rfl rfl rfl (fun a0 ok0 h0 => ?_)
 have aT : a0.eval (.tmp 0) = .slice va K.length vc := h0 0 _ rfl
 clear h0
 have G0 := Gr.refl w
 refine wp_seq_k (fun K1 bu => (wp_region_lit (sw ok0 (o_as ev_const) (fun dp n2 => ?_))))
 refine wpList_nil (th_n (bu _ _ (wp_seq_k (fun K3 bv => (wp_seq_k (fun K4 bx => (wp_region_lit (sw n2.ok (o_mv (n2.n aT)) (fun ds n5 => ?_)))))))))
 refine sw n5.ok (o_len n5.at_ Tryz.underlying41) (fun dt n6 => ?_)
 refine sw n6.ok (o_gtI n6.at_ ev_const) (fun du n7 => ?_)
 refine wpList_nil (th_n (bx _ _ ?_))
 by_cases c8 : (60 : Int) < ((K.length : Nat) : Int)
 ·refine wp_cond_true ((n7.at_).trans (congrArg Value.bool (decide_eq_true c8))) ?_
  refine wp_seq_k (fun K9 bz => (wp_region_lit (sw n7.ok (o_as ev_const) (fun dx aW => ?_))))
  refine wpList_nil (th_n (bz _ _ (wp_ret (th_r (ret1 aW.ok rfl (aW.at_) ⟨congrArg (fun n => Ending.returned (Value.int .i64 n)) (Eq.symm (by unfold chkShf; rw [if_pos (by rw [List.length_map]; omega)])), G0⟩)))))
 ·refine wp_cond_false ((n7.at_).trans (congrArg Value.bool (decide_eq_false c8))) ?_
  refine wp_skip (th_n (bv _ _ (wp_seq_k (fun dy bA => (wp_seq_k (fun dz bB => (wp_region_lit ?_)))))))
  have aX := n7.n (n6.n (n5.n (n2.n aT)))
  refine sw n7.ok (o_mv aX) (fun dA al => ?_)
  refine sw al.ok (o_len al.at_ Tryz.underlying41) (fun dB am => ?_)
  refine sw am.ok (o_mv ev_const) (fun dC ac => ?_)
  refine wpList_nil (th_n (bB _ _ (wp_block ?_)))
  have bC := ac.n (am.n (al.n aX))
  have bD := ac.n (am.n (al.n (n7.n (n6.n (n5.n n2.at_)))))
  refine lp (fun (nL : Nat) (aL : Act) (wL : World) => ∃ i : Nat, nL = K.length - i ∧ Ok 47 aL ∧ Gr w wL ∧ (aL.eval (.tmp 0) = .slice va K.length vc) ∧ (aL.eval (.tmp 2) = .int .i64 0) ∧ (aL.eval (.tmp 11) = .slice va K.length vc) ∧ (aL.eval (.tmp 12) = .int .i64 ((K.length : Nat) : Int)) ∧ (aL.eval (.tmp 13) = .int .i64 (i : Int)) ∧ (i ≤ K.length) ∧ (chkRow none (K.map VerI.d) = chkRow (prevV K i) ((K.map VerI.d).drop i))) _ ⟨0, rfl, ac.ok, G0, bC, bD, (ac.n (am.n al.at_)), (ac.n am.at_), ac.at_, by omega, rfl⟩ ?_
  rintro dD dE dF ⟨i, hmI17, okI17, GI17, ax, aD, aE, aF, an, hiI17, hgI17⟩ KI17 hKI17
  refine wp_seq_k (fun dG bE => (wp_region_lit (sw okI17 (o_ltI an aF) (fun dH a => ?_))))
  refine wpList_nil (th_n (bE _ _ (wp_seq_k (fun dI bF => ?_))))
  by_cases aY : (i : Int) < ((K.length : Nat) : Int)
  ·refine wp_cond_true ((a.at_).trans (congrArg Value.bool (decide_eq_true aY))) ?_
   refine wp_skip (th_n (bF _ _ (wp_seq_k (fun dJ aZ => (wp_block (wp_seq_k (fun dK bG => (wp_region_lit (sw a.ok (o_mv (a.n an)) (fun dL E => ?_))))))))))
   have aG : i < List.length K := by omega
   obtain ⟨bh30, fh30, bH, bI, bJ⟩ := hv (ne_nil_of_lt aG)
   obtain ⟨xh30, S⟩ : ∃ x, (K)[i]? = some x := ⟨_, List.getElem?_eq_getElem aG⟩
   refine sw E.ok (o_iaV (i := i) (s := 8) bH (E.n (a.n aE)) (E.n (a.n an)) Tryz.underlying41 (by kernel_rfl) aG) (fun dM F => ?_)
   refine sw F.ok (o_ldA (k := fh30 + i * 8) F.at_ (cs := [.string (bs xh30.d.id), .int .i64 (xh30.d.s), .int .i64 (xh30.d.c), .int .i64 (xh30.d.t), .int .i64 (xh30.d.n), .int .i64 (xh30.d.b), .slice xh30.va xh30.d.V.length xh30.vc, .slice xh30.ma xh30.d.M.length xh30.mc]) (fun j v hv => (Below.cell GI17 bI).trans (bJ _ _ S j v hv)) Tryz.underlying106 rfl (by kernel_rfl)) (fun dO G => ?_)
   refine sal (cs := #[.string (bs []), .int .i64 0, .int .i64 0, .int .i64 0, .int .i64 0, .int .i64 0, .slice none 0 0, .slice none 0 0]) G.ok rfl (wn _ rfl) rfl (o_al (z := .agg #[.string (bs []), .int .i64 0, .int .i64 0, .int .i64 0, .int .i64 0, .int .i64 0, .slice none 0 0, .slice none 0 0]) (by kernel_rfl)) (fun dS dT bK ay u => ?_)
   have bL : w.heap.size ≤ bK := by rw [ay.eq]; exact GI17.size
   have bM := GI17.trans ay.gr
   have bO := u.n (G.n (F.n E.at_))
   refine sw u.ok (o_as bO) (fun dU o => ?_)
   refine ssR rfl (wn _ rfl) (o_stR (o.n u.at_) (o.n (u.n G.at_)) ay.bk (by kernel_rfl) rfl (by simp [Value.oneCell'])) ay.bk (fun a1 bS a2 => ?_)
   have a3 : Gr w a1 := Below.upd bM bL bS
   refine wpList_nil (th_n (bG _ _ (wp_seq_k (fun dV bT => (wp_seq_k (fun dW bU => (wp_region_lit (sw o.ok (o_ldR (o.n u.at_) a2 Tryz.underlying106 rfl (by kernel_rfl)) (fun dX C => ?_)))))))))
   refine sc C.ok rfl (wn _ rfl) rfl (o_f1 Tryz.func77 rfl rfl rfl C.at_) (vone_any xh30 a1 ((hm _ (List.mem_of_getElem? S)).gr a3)) ?_
   rintro _ dY ⟨rfl, a4⟩
   refine ⟨_, rfl, fun dZ D => ?_⟩
   have az := a3.trans a4
   have bV := a2.gr a4
   refine sw D.ok (o_as D.at_) (fun d0 A => ?_)
   refine wpList_nil (th_n (bU _ _ (wp_seq_k (fun d1 bW => (wp_region_lit (sw A.ok (o_mv A.at_) (fun d2 B => ?_)))))))
   refine sw B.ok (o_neI B.at_ ev_const) (fun d3 l => ?_)
   refine wpList_nil (th_n (bW _ _ ?_))
   by_cases Y : ¬ (chkOne xh30.d) = 0
   ·refine wp_cond_true ((l.at_).trans (congrArg Value.bool (decide_eq_true Y))) ?_
    refine wp_seq_k (fun d4 bX => (wp_region_lit (sw l.ok (o_mv (l.n (B.n A.at_))) (fun d5 a6 => ?_))))
    refine sw a6.ok (o_as a6.at_) (fun d6 a7 => ?_)
    refine wpList_nil (th_n (bX _ _ (wp_ret (th_r (ib_r (th_r (th_r (ib_r (th_r (ret1 a7.ok rfl (a7.at_) ⟨congrArg (fun n => Ending.returned (Value.int .i64 n)) (Eq.symm (by unfold chkShf; have e4 : chkRow none (K.map VerI.d) = chkOne xh30.d := (by rw [hgI17, chkRow_at S, if_neg Y]); rw [if_neg (by rw [List.length_map]; omega), if_neg (by rw [e4]; exact Y), e4])), az⟩))))))))))
   ·refine wp_cond_false ((l.at_).trans (congrArg Value.bool (decide_eq_false Y))) ?_
    refine wp_skip (th_n (bT _ _ (wp_seq_k (fun d7 a9 => ?_))))
    rcases Nat.eq_zero_or_pos i with hi0 | hi0
    ·have hi1 := hi0
     refine reg_start (N := 47) (m := 12) (by kernel_rfl) (fun bY => ?_)
     have bZ := l.n (B.n (A.n (D.n (C.n o.at_))))
     have b0 := bY.snoc (n' := 1) rfl (fun vJ _ => vJ = .int .i64 (i : Int)) rfl (fun _ _ _ _ h => h) (fun aS wS pS => by
       exact Does.val (wn _ rfl) (o_mv ((pS.old 3 rfl).trans bZ)) (Gr.refl _) rfl rfl)
     have b1 := b0.snoc (n' := 2) rfl (fun vJ _ => vJ = .bool false) rfl (fun _ _ _ _ h => h) (fun aS wS pS => by
       have eR61_0 : aS.eval (.tmp 23) = .int .i64 (i : Int) := pS.pre 0 rfl
       exact Does.val (wn _ rfl) (o_gtr (eR61_0) ev_const (decide_eq_false (show ¬ (i : Int) > 0 by omega))) (Gr.refl _) rfl rfl)
     have b2 := b1.snoc (n' := 3) rfl (fun vJ _ => vJ = .bool false) rfl (fun _ _ _ _ h => h) (fun aS wS pS => by
       have eR61_1 : aS.eval (.tmp 24) = .bool false := pS.pre 1 rfl
       exact Does.val (wn _ rfl) (o_mv (eR61_1)) (Gr.refl _) rfl rfl)
     have b3 := b2.snoc (n' := 4) rfl (fun vJ _ => vJ = undef) rfl (fun _ _ _ _ h => h) (fun aS wS pS => by
       have eR61_2 : aS.eval (.tmp 25) = .bool false := pS.pre 2 rfl
       exact Does.not (wgF rfl (yl 2 false rfl eR61_2) rfl) rfl rfl)
     have b4 := b3.snoc (n' := 5) rfl (fun vJ _ => vJ = undef) rfl (fun _ _ _ _ h => h) (fun aS wS pS => by
       have eR61_2 : aS.eval (.tmp 25) = .bool false := pS.pre 2 rfl
       exact Does.not (wgF rfl (yl 2 false rfl eR61_2) rfl) rfl rfl)
     have b5 := b4.snoc (n' := 6) rfl (fun vJ _ => vJ = undef) rfl (fun _ _ _ _ h => h) (fun aS wS pS => by
       have eR61_2 : aS.eval (.tmp 25) = .bool false := pS.pre 2 rfl
       exact Does.not (wgF rfl (yl 2 false rfl eR61_2) rfl) rfl rfl)
     have b6 := b5.snoc (n' := 7) rfl (fun vJ _ => vJ = undef) rfl (fun _ _ _ _ h => h) (fun aS wS pS => by
       have eR61_2 : aS.eval (.tmp 25) = .bool false := pS.pre 2 rfl
       exact Does.not (wgF rfl (yl 2 false rfl eR61_2) rfl) rfl rfl)
     have b7 := b6.snoc (n' := 8) rfl (fun vJ _ => vJ = undef) rfl (fun _ _ _ _ h => h) (fun aS wS pS => by
       have eR61_2 : aS.eval (.tmp 25) = .bool false := pS.pre 2 rfl
       exact Does.not (wgF rfl (yl 2 false rfl eR61_2) rfl) rfl rfl)
     have b8 := b7.snoc (n' := 9) rfl (fun vJ _ => vJ = undef) rfl (fun _ _ _ _ h => h) (fun aS wS pS => by
       have eR61_2 : aS.eval (.tmp 25) = .bool false := pS.pre 2 rfl
       exact Does.not (wgF rfl (yl 2 false rfl eR61_2) rfl) rfl rfl)
     have b9 := b8.snoc (n' := 10) rfl (fun vJ _ => vJ = undef) rfl (fun _ _ _ _ h => h) (fun aS wS pS => by
       have eR61_2 : aS.eval (.tmp 25) = .bool false := pS.pre 2 rfl
       exact Does.not (wgF rfl (yl 2 false rfl eR61_2) rfl) rfl rfl)
     have ca := b9.snoc (n' := 11) rfl (fun vJ _ => vJ = undef) rfl (fun _ _ _ _ h => h) (fun aS wS pS => by
       have eR61_2 : aS.eval (.tmp 25) = .bool false := pS.pre 2 rfl
       exact Does.not (wgF rfl (yl 2 false rfl eR61_2) rfl) rfl rfl)
     have cb := ca.snoc (n' := 12) rfl (fun vJ _ => vJ = .bool false) rfl (fun _ _ _ _ h => h) (fun aS wS pS => by
       have eR61_2 : aS.eval (.tmp 25) = .bool false := pS.pre 2 rfl
       exact Does.val (wn _ rfl) (o_pkF (eR61_2) ev_const) (Gr.refl _) rfl rfl)
     refine cb.run (k := 0) (L := #[true, true, true, true, true, true, true, true, true, true, true, true]) (by kernel_rfl) (by kernel_rfl) (by kernel_rfl) l.ok (by kernel_rfl) (by kernel_rfl) (fun ap64 d8 T => ?_)
     have cc := gr_drew T.gr
     have cd := az.trans cc
     refine wpAny_done (by kernel_rfl) ?_ _
     refine th_n (a9 _ _ ?_)
     have ep64_11 : ap64.eval (.tmp 34) = .bool false := T.js 11 rfl
     refine wp_cond_false (ep64_11) ?_
     refine wp_skip (ib_n (th_n (aZ _ _ (wp_region_lit ?_))))
     have cf := (T.old 13 rfl).trans (l.n (B.n (A.n (D.n (C.n (o.n (u.n (G.n (F.n (E.n (a.n an)))))))))))
     refine sw T.ok (o_add (r := ((i + 1 : Nat) : Int)) cf ev_const (by omega) (by omega)) (fun d9 ad => ?_)
     refine sw ad.ok (o_mv ad.at_) (fun fa af => ?_)
     refine wpList_nil ?_
     have cg := af.n (ad.n ((T.old 0 rfl).trans (l.n (B.n (A.n (D.n (C.n (o.n (u.n (G.n (F.n (E.n (a.n ax)))))))))))))
     have ch := af.n (ad.n ((T.old 2 rfl).trans (l.n (B.n (A.n (D.n (C.n (o.n (u.n (G.n (F.n (E.n (a.n aD)))))))))))))
     have ci := af.n (ad.n ((T.old 11 rfl).trans (l.n (B.n (A.n (D.n (C.n (o.n (u.n (G.n (F.n (E.n (a.n aE)))))))))))))
     have cj := af.n (ad.n ((T.old 12 rfl).trans (l.n (B.n (A.n (D.n (C.n (o.n (u.n (G.n (F.n (E.n (a.n aF)))))))))))))
     exact th_n (hKI17 _ _ _ (by omega) ⟨i + 1, rfl, af.ok, cd, cg, ch, ci, cj, af.at_, by omega, by rw [hgI17, chkRow_at S, if_pos (Decidable.of_not_not Y), if_neg (by rw [show prevV K i = none from by unfold prevV; rw [if_pos (by omega)]]; simp), prevV_succ S]⟩)
    ·have hi1 := hi0
     obtain ⟨p1, ba⟩ : ∃ p1, p1 = i - 1 := ⟨_, rfl⟩
     refine reg_start (N := 47) (m := 12) (by kernel_rfl) (fun ck => ?_)
     have bb := l.n (B.n (A.n (D.n (C.n o.at_))))
     have cl := ck.snoc (n' := 1) rfl (fun vJ _ => vJ = .int .i64 (i : Int)) rfl (fun _ _ _ _ h => h) (fun aS wS pS => by
       exact Does.val (wn _ rfl) (o_mv ((pS.old 3 rfl).trans bb)) (Gr.refl _) rfl rfl)
     have cm := cl.snoc (n' := 2) rfl (fun vJ _ => vJ = .bool true) rfl (fun _ _ _ _ h => h) (fun aS wS pS => by
       have eR76_0 : aS.eval (.tmp 23) = .int .i64 (i : Int) := pS.pre 0 rfl
       exact Does.val (wn _ rfl) (o_gtr (eR76_0) ev_const (decide_eq_true (show (i : Int) > 0 by omega))) (Gr.refl _) rfl rfl)
     have cn := cm.snoc (n' := 3) rfl (fun vJ _ => vJ = .bool true) rfl (fun _ _ _ _ h => h) (fun aS wS pS => by
       have eR76_1 : aS.eval (.tmp 24) = .bool true := pS.pre 1 rfl
       exact Does.val (wn _ rfl) (o_mv (eR76_1)) (Gr.refl _) rfl rfl)
     have bc := l.n (B.n (A.n (D.n (C.n (o.n (u.n (G.n (F.n (E.n (a.n ax))))))))))
     have co := cn.snoc (n' := 4) rfl (fun vJ _ => vJ = .slice va K.length vc) rfl (fun _ _ _ _ h => h) (fun aS wS pS => by
       have eR76_2 : aS.eval (.tmp 25) = .bool true := pS.pre 2 rfl
       exact Does.val (wgT rfl (yl 2 true rfl eR76_2) rfl) (o_mv ((pS.old 0 rfl).trans bc)) (Gr.refl _) rfl rfl)
     have cp := co.snoc (n' := 5) rfl (fun vJ _ => vJ = .int .i64 (i : Int)) rfl (fun _ _ _ _ h => h) (fun aS wS pS => by
       have eR76_2 : aS.eval (.tmp 25) = .bool true := pS.pre 2 rfl
       exact Does.val (wgT rfl (yl 2 true rfl eR76_2) rfl) (o_mv ((pS.old 3 rfl).trans bb)) (Gr.refl _) rfl rfl)
     have cq := cp.snoc (n' := 6) rfl (fun vJ _ => vJ = .int .i64 (p1 : Int)) rfl (fun _ _ _ _ h => h) (fun aS wS pS => by
       have eR76_2 : aS.eval (.tmp 25) = .bool true := pS.pre 2 rfl
       have eR76_4 : aS.eval (.tmp 27) = .int .i64 (i : Int) := pS.pre 4 rfl
       exact Does.val (wgT rfl (yl 2 true rfl eR76_2) rfl) (o_sub (r := ((p1 : Nat) : Int)) (eR76_4) ev_const (by omega) (by omega)) (Gr.refl _) rfl rfl)
     have aH : p1 < List.length K := by omega
     obtain ⟨bh79, fh79, cr, ct, cu⟩ := hv (ne_nil_of_lt aH)
     obtain ⟨xh79, aI⟩ : ∃ x, (K)[p1]? = some x := ⟨_, List.getElem?_eq_getElem aH⟩
     have cx := cq.snoc (n' := 7) rfl (fun vJ _ => vJ = .pointer (some ⟨bh79, fh79 + p1 * 8, none⟩)) rfl (fun _ _ _ _ h => h) (fun aS wS pS => by
       have eR76_2 : aS.eval (.tmp 25) = .bool true := pS.pre 2 rfl
       have eR76_3 : aS.eval (.tmp 26) = .slice va K.length vc := pS.pre 3 rfl
       have eR76_5 : aS.eval (.tmp 28) = .int .i64 (p1 : Int) := pS.pre 5 rfl
       exact Does.val (wgT rfl (yl 2 true rfl eR76_2) rfl) (o_iaV (i := p1) (s := 8) cr (eR76_3) (eR76_5) Tryz.underlying41 (by kernel_rfl) aH) (Gr.refl _) rfl rfl)
     have cy := cx.snoc (n' := 8) rfl (fun vJ _ => vJ = .agg #[.string (bs xh79.d.id), .int .i64 (xh79.d.s), .int .i64 (xh79.d.c), .int .i64 (xh79.d.t), .int .i64 (xh79.d.n), .int .i64 (xh79.d.b), .slice xh79.va xh79.d.V.length xh79.vc, .slice xh79.ma xh79.d.M.length xh79.mc]) rfl (fun _ _ _ _ h => h) (fun aS wS pS => by
       have eR76_2 : aS.eval (.tmp 25) = .bool true := pS.pre 2 rfl
       have eR76_6 : aS.eval (.tmp 29) = .pointer (some ⟨bh79, fh79 + p1 * 8, none⟩) := pS.pre 6 rfl
       exact Does.val (wgT rfl (yl 2 true rfl eR76_2) rfl) (o_ldA (k := fh79 + p1 * 8) (eR76_6) (cs := [.string (bs xh79.d.id), .int .i64 (xh79.d.s), .int .i64 (xh79.d.c), .int .i64 (xh79.d.t), .int .i64 (xh79.d.n), .int .i64 (xh79.d.b), .slice xh79.va xh79.d.V.length xh79.vc, .slice xh79.ma xh79.d.M.length xh79.mc]) (fun j v hv => (Below.cell (az.trans (gr_drew pS.gr)) ct).trans (cu _ _ aI j v hv)) Tryz.underlying106 rfl (by kernel_rfl)) (Gr.refl _) rfl rfl)
     have cz := l.n (B.n (A.n (D.n (C.n (o.n u.at_)))))
     have cA := cy.snoc (n' := 9) rfl (fun vJ _ => vJ = .agg #[.string (bs xh30.d.id), .int .i64 (xh30.d.s), .int .i64 (xh30.d.c), .int .i64 (xh30.d.t), .int .i64 (xh30.d.n), .int .i64 (xh30.d.b), .slice xh30.va xh30.d.V.length xh30.vc, .slice xh30.ma xh30.d.M.length xh30.mc]) rfl (fun _ _ _ _ h => h) (fun aS wS pS => by
       have eR76_2 : aS.eval (.tmp 25) = .bool true := pS.pre 2 rfl
       exact Does.val (wgT rfl (yl 2 true rfl eR76_2) rfl) (o_ldR ((pS.old 4 rfl).trans cz) (Bk.gr bV (gr_drew pS.gr)) Tryz.underlying106 rfl (by kernel_rfl)) (Gr.refl _) rfl rfl)
     have cB := cA.snoc (n' := 10) rfl (fun vJ _ => vJ = .int .i64 (cmpV xh79.d xh30.d)) rfl (fun _ _ _ _ h => h) (fun aS wS pS => by
       have eR76_2 : aS.eval (.tmp 25) = .bool true := pS.pre 2 rfl
       have eR76_7 : aS.eval (.tmp 30) = .agg #[.string (bs xh79.d.id), .int .i64 (xh79.d.s), .int .i64 (xh79.d.c), .int .i64 (xh79.d.t), .int .i64 (xh79.d.n), .int .i64 (xh79.d.b), .slice xh79.va xh79.d.V.length xh79.vc, .slice xh79.ma xh79.d.M.length xh79.mc] := pS.pre 7 rfl
       have eR76_8 : aS.eval (.tmp 31) = .agg #[.string (bs xh30.d.id), .int .i64 (xh30.d.s), .int .i64 (xh30.d.c), .int .i64 (xh30.d.t), .int .i64 (xh30.d.n), .int .i64 (xh30.d.b), .slice xh30.va xh30.d.V.length xh30.vc, .slice xh30.ma xh30.d.M.length xh30.mc] := pS.pre 8 rfl
       exact Does.call (wgT rfl (yl 2 true rfl eR76_2) rfl) (o_f2 Tryz.func136 rfl rfl rfl (eR76_7) (eR76_8)) (cmpVr_any xh79 xh30 wS) (by rintro _ w2 ⟨rfl, g⟩; exact ⟨_, rfl, g, rfl⟩) rfl)
     have cC := cB.snoc (n' := 11) rfl (fun vJ _ => vJ = .bool (decide ((0 : Int) ≤ (cmpV xh79.d xh30.d)))) rfl (fun _ _ _ _ h => h) (fun aS wS pS => by
       have eR76_2 : aS.eval (.tmp 25) = .bool true := pS.pre 2 rfl
       have eR76_9 : aS.eval (.tmp 32) = .int .i64 (cmpV xh79.d xh30.d) := pS.pre 9 rfl
       exact Does.val (wgT rfl (yl 2 true rfl eR76_2) rfl) (o_geI (eR76_9) ev_const) (Gr.refl _) rfl rfl)
     have cD := cC.snoc (n' := 12) rfl (fun vJ _ => vJ = .bool (decide ((0 : Int) ≤ (cmpV xh79.d xh30.d)))) rfl (fun _ _ _ _ h => h) (fun aS wS pS => by
       have eR76_2 : aS.eval (.tmp 25) = .bool true := pS.pre 2 rfl
       have eR76_10 : aS.eval (.tmp 33) = .bool (decide ((0 : Int) ≤ (cmpV xh79.d xh30.d))) := pS.pre 10 rfl
       exact Does.val (wn _ rfl) (o_pkT (eR76_2) (eR76_10)) (Gr.refl _) rfl rfl)
     refine cD.run (k := 0) (L := #[true, true, true, true, true, true, true, true, true, true, true, true]) (by kernel_rfl) (by kernel_rfl) (by kernel_rfl) l.ok (by kernel_rfl) (by kernel_rfl) (fun ap82 fc I => ?_)
     have cE := gr_drew I.gr
     have bd := az.trans cE
     refine wpAny_done (by kernel_rfl) ?_ _
     refine th_n (a9 _ _ ?_)
     have ep82_11 : ap82.eval (.tmp 34) = .bool (decide ((0 : Int) ≤ (cmpV xh79.d xh30.d))) := I.js 11 rfl
     by_cases aA : (0 : Int) ≤ (cmpV xh79.d xh30.d)
     ·refine wp_cond_true ((ep82_11).trans (congrArg Value.bool (decide_eq_true aA))) ?_
      refine wp_seq_k (fun ff cF => (wp_region_lit (sw I.ok (o_as ev_const) (fun fg bf => ?_))))
      refine wpList_nil (th_n (cF _ _ (wp_ret (ib_r (th_r (th_r (ib_r (th_r (ret1 bf.ok rfl (bf.at_) ⟨congrArg (fun n => Ending.returned (Value.int .i64 n)) (Eq.symm (by unfold chkShf; have e3 : chkRow none (K.map VerI.d) = 3 := (by rw [hgI17, chkRow_at S, if_pos (Decidable.of_not_not Y), if_pos (by rw [show prevV K i = some xh79.d from by unfold prevV; rw [if_neg (by omega), ← ba, aI]; rfl]; simp only [Option.any_some, decide_eq_true_eq]; exact aA)]); rw [if_neg (by rw [List.length_map]; omega), if_neg (by rw [e3]; decide), e3])), bd⟩)))))))))
     ·refine wp_cond_false ((ep82_11).trans (congrArg Value.bool (decide_eq_false aA))) ?_
      refine wp_skip (ib_n (th_n (aZ _ _ (wp_region_lit ?_))))
      have cG := (I.old 13 rfl).trans (l.n (B.n (A.n (D.n (C.n (o.n (u.n (G.n (F.n (E.n (a.n an)))))))))))
      refine sw I.ok (o_add (r := ((i + 1 : Nat) : Int)) cG ev_const (by omega) (by omega)) (fun fh ag => ?_)
      refine sw ag.ok (o_mv ag.at_) (fun fi ah => ?_)
      refine wpList_nil ?_
      have cH := ah.n (ag.n ((I.old 0 rfl).trans bc))
      have cI := ah.n (ag.n ((I.old 2 rfl).trans (l.n (B.n (A.n (D.n (C.n (o.n (u.n (G.n (F.n (E.n (a.n aD)))))))))))))
      have cJ := ah.n (ag.n ((I.old 11 rfl).trans (l.n (B.n (A.n (D.n (C.n (o.n (u.n (G.n (F.n (E.n (a.n aE)))))))))))))
      have cK := ah.n (ag.n ((I.old 12 rfl).trans (l.n (B.n (A.n (D.n (C.n (o.n (u.n (G.n (F.n (E.n (a.n aF)))))))))))))
      exact th_n (hKI17 _ _ _ (by omega) ⟨i + 1, rfl, ah.ok, bd, cH, cI, cJ, cK, ah.at_, by omega, by rw [hgI17, chkRow_at S, if_pos (Decidable.of_not_not Y), if_neg (by rw [show prevV K i = some xh79.d from by unfold prevV; rw [if_neg (by omega), ← ba, aI]; rfl]; simp only [Option.any_some, decide_eq_true_eq]; exact aA), prevV_succ S]⟩)
  ·refine wp_cond_false ((a.at_).trans (congrArg Value.bool (decide_eq_false aY))) ?_
   refine wp_exit (th_x (th_x (ib_x (th_n (bA _ _ (wp_seq_k (fun fj cL => (wp_seq_k (fun fk cM => (wp_region_lit (sw a.ok (o_mv (a.n ax)) (fun fl ao => ?_))))))))))))
   refine sw ao.ok (o_len ao.at_ Tryz.underlying41) (fun fm ap => ?_)
   refine sw ap.ok (o_mv ev_const) (fun fn ai => ?_)
   refine wpList_nil (th_n (cM _ _ (wp_block ?_)))
   have hz : chkRow none (K.map VerI.d) = 0 := by rw [hgI17, List.drop_eq_nil_of_le (by simp; omega)]; cases prevV K i <;> rfl
   have hok := chkRow_all hz
   have cO := ai.n (ap.n (ao.n (a.n ax)))
   have cT := ai.n (ap.n (ao.n (a.n aD)))
   refine lp (fun (nL : Nat) (aL : Act) (wL : World) => ∃ k : Nat, nL = K.length - k ∧ Ok 47 aL ∧ Gr w wL ∧ (aL.eval (.tmp 0) = .slice va K.length vc) ∧ (aL.eval (.tmp 2) = .int .i64 0) ∧ (aL.eval (.tmp 36) = .slice va K.length vc) ∧ (aL.eval (.tmp 37) = .int .i64 ((K.length : Nat) : Int)) ∧ (aL.eval (.tmp 38) = .int .i64 (k : Int)) ∧ (k ≤ K.length) ∧ (∀ j y, j < k → K[j]? = some y → (K.any fun z => ovB y.d z.d) = false)) _ ⟨0, rfl, ai.ok, GI17, cO, cT, (ai.n (ap.n ao.at_)), (ai.n ap.at_), ai.at_, by omega, fun j y hj => by omega⟩ ?_
   rintro fo fp fq ⟨k, hmI102, okI102, GI102, cU, cV, bh, bi, aJ, hkI102, hnI102⟩ KI102 hKI102
   refine wp_seq_k (fun fr cW => (wp_region_lit (sw okI102 (o_ltI aJ bi) (fun ft H => ?_))))
   refine wpList_nil (th_n (cW _ _ (wp_seq_k (fun fu cX => ?_))))
   by_cases bj : (k : Int) < ((K.length : Nat) : Int)
   ·refine wp_cond_true ((H.at_).trans (congrArg Value.bool (decide_eq_true bj))) ?_
    refine wp_skip (th_n (cX _ _ (wp_seq_k (fun fv cY => (wp_block (wp_seq_k (fun fx cZ => (wp_region_lit ?_))))))))
    have aK : k < List.length K := by omega
    obtain ⟨bh114, fh114, c0, c1, c2⟩ := hv (ne_nil_of_lt aK)
    obtain ⟨xh114, aq⟩ : ∃ x, (K)[k]? = some x := ⟨_, List.getElem?_eq_getElem aK⟩
    refine sw H.ok (o_iaV (i := k) (s := 8) c0 (H.n bh) (H.n aJ) Tryz.underlying41 (by kernel_rfl) aK) (fun fy Z => ?_)
    refine sw Z.ok (o_ldA (k := fh114 + k * 8) Z.at_ (cs := [.string (bs xh114.d.id), .int .i64 (xh114.d.s), .int .i64 (xh114.d.c), .int .i64 (xh114.d.t), .int .i64 (xh114.d.n), .int .i64 (xh114.d.b), .slice xh114.va xh114.d.V.length xh114.vc, .slice xh114.ma xh114.d.M.length xh114.mc]) (fun j v hv => (Below.cell GI102 c1).trans (c2 _ _ aq j v hv)) Tryz.underlying106 rfl (by kernel_rfl)) (fun fz aa => ?_)
    refine sal (cs := #[.string (bs []), .int .i64 0, .int .i64 0, .int .i64 0, .int .i64 0, .int .i64 0, .slice none 0 0, .slice none 0 0]) aa.ok rfl (wn _ rfl) rfl (o_al (z := .agg #[.string (bs []), .int .i64 0, .int .i64 0, .int .i64 0, .int .i64 0, .int .i64 0, .slice none 0 0, .slice none 0 0]) (by kernel_rfl)) (fun fA fB c3 aB J => ?_)
    have c4 : w.heap.size ≤ c3 := by rw [aB.eq]; exact GI102.size
    have c5 := GI102.trans aB.gr
    refine ssR rfl (wn _ rfl) (o_stR J.at_ (J.n aa.at_) aB.bk (by kernel_rfl) rfl (by simp [Value.oneCell'])) aB.bk (fun bl c6 c7 => ?_)
    have c9 : Gr w bl := Below.upd c5 c4 c6
    refine wpList_nil (th_n (cZ _ _ (wp_seq_k (fun fC da => (wp_region_lit ?_)))))
    have bm := J.n (aa.n (Z.n (H.n cU)))
    refine sw J.ok (o_mv bm) (fun fD U => ?_)
    refine sw U.ok (o_ldR (U.n J.at_) c7 Tryz.underlying106 rfl (by kernel_rfl)) (fun fE W => ?_)
    refine sc W.ok rfl (wn _ rfl) rfl (o_f1 Tryz.func138 rfl rfl rfl W.at_) (supBy_any xh114 bl) ?_
    rintro _ bn ⟨cS, rfl, -, hbS, db⟩
    refine ⟨_, rfl, fun fF X => ?_⟩
    have aM := c9.trans db
    have dc := Gr.refl bn
    refine sc X.ok rfl (wn _ rfl) rfl (o_f2 Tryz.func62 rfl rfl rfl (X.n (W.n U.at_)) X.at_) (containsV K va vc _ [.pointer (some ⟨cS, 0, none⟩)] (fun y => ovB xh114.d y.d) ⟨_, Tryz.func189, rfl, rfl⟩ (by omega) bn (hv.gr aM) (fun y hy w1 g1 => supBy1_any y xh114 cS (hok y hy) (chkOne_zero (hok _ (List.mem_of_getElem? aq))).2.2.1 w1 ((hm _ (List.mem_of_getElem? aq)).gr (aM.trans g1)) (((hbS.gr dc)).gr g1))) ?_
    rintro _ fG ⟨rfl, df⟩
    refine ⟨_, rfl, fun fH O => ?_⟩
    have bp := aM.trans df
    refine wpList_nil (th_n (da _ _ ?_))
    cases aC : (K.any fun y => ovB xh114.d y.d)
    ·refine wp_cond_false ((O.at_).trans (congrArg Value.bool (aC))) ?_
     refine wp_skip (ib_n (th_n (cY _ _ (wp_region_lit ?_))))
     have dg := O.n (X.n (W.n (U.n (J.n (aa.n (Z.n (H.n aJ)))))))
     refine sw O.ok (o_add (r := ((k + 1 : Nat) : Int)) dg ev_const (by omega) (by omega)) (fun fI aj => ?_)
     refine sw aj.ok (o_mv aj.at_) (fun fJ ak => ?_)
     refine wpList_nil ?_
     have dh := ak.n (aj.n (O.n (X.n (W.n (U.n bm)))))
     have di := ak.n (aj.n (O.n (X.n (W.n (U.n (J.n (aa.n (Z.n (H.n cV)))))))))
     have dj := ak.n (aj.n (O.n (X.n (W.n (U.n (J.n (aa.n (Z.n (H.n bh)))))))))
     have dk := ak.n (aj.n (O.n (X.n (W.n (U.n (J.n (aa.n (Z.n (H.n bi)))))))))
     exact th_n (hKI102 _ _ _ (by omega) ⟨k + 1, rfl, ak.ok, bp, dh, di, dj, dk, ak.at_, by omega, fun j y hj hy => by
       rcases Nat.lt_or_ge j k with q | q
       ·exact hnI102 j y q hy
       ·obtain rfl : j = k := by omega
        rw [aq] at hy
        cases hy
        exact aC⟩)
    ·refine wp_cond_true ((O.at_).trans (congrArg Value.bool (aC))) ?_
     refine wp_seq_k (fun fK dl => (wp_region_lit (sw O.ok (o_as ev_const) (fun fL bq => ?_))))
     refine wpList_nil (th_n (dl _ _ (wp_ret (ib_r (th_r (th_r (ib_r (th_r (ret1 bq.ok rfl (bq.at_) ⟨congrArg (fun n => Ending.returned (Value.int .i64 n)) (Eq.symm (by unfold chkShf; rw [if_neg (by rw [List.length_map]; omega), if_pos hz, if_pos]; rw [List.any_map, List.any_eq_true]; exact ⟨_, List.mem_of_getElem? aq, by show ((K.map VerI.d).any _) = true; rw [List.any_map]; exact aC⟩)), bp⟩)))))))))
   ·refine wp_cond_false ((H.at_).trans (congrArg Value.bool (decide_eq_false bj))) ?_
    refine wp_exit (th_x (th_x (ib_x (th_n (cL _ _ (wp_seq_k (fun fM dm => (wp_region_lit (sw H.ok (o_as ev_const) (fun fO br => ?_))))))))))
    refine wpList_nil (th_n (dm _ _ (wp_ret (ret1 br.ok rfl (br.at_) ⟨congrArg (fun n => Ending.returned (Value.int .i64 n)) (Eq.symm (by unfold chkShf; rw [if_neg (by rw [List.length_map]; omega), if_pos hz, if_neg]; rw [List.any_map, Bool.not_eq_true, List.any_eq_false]; intro y hy; obtain ⟨j, hj⟩ := List.getElem?_of_mem hy; have hjl := (List.getElem?_eq_some_iff.1 hj).1; have q := hnI102 j y (by omega) hj; show ¬ ((K.map VerI.d).any _) = true; rw [List.any_map]; rw [Bool.not_eq_true]; exact q)), GI102⟩))))
end Go.Proofs.YtglbnggkkjhokaaGreat
/- What a version owns; clone, without. -/
namespace Go.Proofs.YtglbnggkkjhokaaGreat
open Go.RowKit Rm Gx
def shT : List TypeId := [3, 51]
def TkS (w w' : World) : Prop := ∀ (k : Nat) (cs : Array Value) (t : TypeId) (fr : Nat × Nat), w.heap[k]? = some (.cells cs t fr) → shT.contains t = true → w'.heap[k]? = w.heap[k]?
theorem tks_gr {w w' : World} (g : Gr w w') : TkS w w' := fun k cs t fr h _ => Below.block g k (Array.getElem?_eq_some_iff.1 h).1
theorem tks_upd {w w' : World} {b : Nat} {cs : Array Value} {t : TypeId} (u : Upd w w' b) (h : Bk w b cs t) (ht : shT.contains t = false) : TkS w w' := fun k cs' t' fr h' ht' => u.oth k (fun e => by
 subst e
 unfold Bk at h
 rw [h] at h'
 injection h' with h'
 injection h' with _ h2
 subst h2
 rw [ht] at ht'
 cases ht')
theorem tks_grown {w w' : World} {base s n : Nat} {t : TypeId} {v : Value} {xs : List Value} (h : w.ownsRow base t s v n xs) (g : w.grownBy w' v.ownBlock) (ht : shT.contains t = false) : TkS w w' := fun k cs t' fr h' ht' => g.block k (Array.getElem?_eq_some_iff.1 h').1 (fun e => by
 obtain ⟨-, ⟨rfl, -⟩ | ⟨b, cap, cur, rfl, -, hg, -⟩⟩ := h
 ·cases e
 ·obtain rfl : k = b := by simpa [Value.ownBlock] using e
  rw [hg] at h'
  injection h' with h'
  injection h' with _ h2
  subst h2
  rw [ht] at ht'
  cases ht')
theorem ow_tks {w w' : World} {base s n : Nat} {t : TypeId} {v : Value} {xs : List Value} (h : w.ownsRow base t s v n xs) (k : TkS w w') (ht : shT.contains t = true) : w'.ownsRow base t s v n xs := by
 obtain ⟨h1, h2 | ⟨b, cap, cur, rfl, h3, hg, h4⟩⟩ := h
 ·exact ⟨h1, .inl h2⟩
 ·exact ⟨h1, .inr ⟨b, cap, cur, rfl, h3, (k b cur t (0, 0) hg ht).trans hg, h4⟩⟩
theorem KnO.tks {base : Nat} {w w' : World} {k : Value} {v : List Nat} {m : List (Nat × Nat)} (h : KnO base w k v m) (q : TkS w w') : KnO base w' k v m := by
 obtain ⟨vv, mv, e, h1, h2⟩ := h
 exact ⟨vv, mv, e, ow_tks h1 q (by decide), ow_tks h2 q (by decide)⟩
def OwnVr (base : Nat) (w : World) (x : VerI) : Prop := ∃ v m, x.d.V = ints v ∧ x.d.M = pairs m ∧ KnO base w x.k v m
theorem OwnVr.tk {base : Nat} {w w' : World} {x : VerI} (h : OwnVr base w x) (k : TkS w w') : OwnVr base w' x := by
 obtain ⟨v, m, h1, h2, h3⟩ := h
 exact ⟨v, m, h1, h2, h3.tks k⟩
theorem OwnVr.mean {base : Nat} {w : World} {x : VerI} (h : OwnVr base w x) : MeanV w x := by
 obtain ⟨v, m, h1, h2, h3⟩ := h
 unfold MeanV
 rw [h1, h2]
 exact h3.rd
theorem OwnVr.base {base base' : Nat} {w : World} {x : VerI} (h : OwnVr base w x) (hb : base' ≤ base) : OwnVr base' w x := by
 obtain ⟨v, m, h1, h2, h3⟩ := h
 exact ⟨v, m, h1, h2, h3.less hb⟩
def OwnsVr (base : Nat) (w : World) (K : List VerI) : Prop := ∀ x ∈ K, OwnVr base w x
theorem OwnsVr.tk {base : Nat} {w w' : World} {K : List VerI} (h : OwnsVr base w K) (k : TkS w w') : OwnsVr base w' K := fun x hx => (h x hx).tk k
theorem OwnsVr.mean {base : Nat} {w : World} {K : List VerI} (h : OwnsVr base w K) : MeansV w K := fun x hx => (h x hx).mean
theorem OwnsVr.base {base base' : Nat} {w : World} {K : List VerI} (h : OwnsVr base w K) (hb : base' ≤ base) : OwnsVr base' w K := fun x hx => (h x hx).base hb
theorem OwnsVr.snoc {base : Nat} {w : World} {K : List VerI} {x : VerI} (h : OwnsVr base w K) (hx : OwnVr base w x) : OwnsVr base w (K ++ [x]) := fun y hy => by
 rcases List.mem_append.1 hy with hy | hy
 ·exact h y hy
 ·rw [List.mem_singleton.1 hy]; exact hx
theorem mem0 (s c : Nat) (i : inR s c) : memB [] [] s c = false := by
 cases q : memB [] [] s c
 ·rfl
 ·rw [memB_iff] at q
  simp [cv] at q
  have := i.2.1
  omega
theorem kclone (k : Value) (V : List Int) (M : List (Int × Int)) (w : World) (hk : KnR w k V M) (hc : chkK V M = 0) :
  Calls Tryz.prog 127 #[k, .agg #[.slice none 0 0, .slice none 0 0]] w fun e w' => ∃ va vc ma mc, e = .returned (.tuple #[.agg #[.slice va V.length vc, .slice ma M.length mc], .int .i64 0]) ∧ (∃ v m, V = ints v ∧ M = pairs m ∧ KnO w.heap.size w' (.agg #[.slice va V.length vc, .slice ma M.length mc]) v m) ∧ Gr w w' := by
 obtain ⟨v, m, rfl, rfl, ok, hl⟩ := chkK_zero hc
 have ok0 : OkV [] [] := ⟨by simp, by simp, by simp, by simp, by simp⟩
 refine (join_ok k _ v [] m [] w hk (knR_nil w) ok ok0 hl (by simp)).mono ?_
 rintro e w' ⟨h, g⟩
 have he : EqD (orD (memB v m) (memB [] [])) (memB v m) := fun s c i => by simp only [orD, mem0 s c i, Bool.or_false]
 obtain ⟨k2, h1, h2⟩ := frmK.one (h.congr he)
 obtain ⟨q1, q2⟩ := form_self ok
 unfold frE at h1
 unfold frV frM at h2
 rw [q2, if_pos hl] at h1
 rw [q2, if_pos hl, if_pos hl, q1] at h2
 obtain ⟨va, vc, ma, mc, rfl⟩ := h2.form
 exact ⟨va, vc, ma, mc, h1, ⟨v, m, rfl, rfl, h2⟩, g⟩
theorem wo_step {K R : List VerI} {p : VerI → Bool} {i : Nat} {x y : VerI} (h : R.map VerI.d = ((K.take i).filter fun x => !p x).map VerI.d) (hx : K[i]? = some x) (hp : p x = false) (hy : y.d = x.d) : (R ++ [y]).map VerI.d = ((K.take (i + 1)).filter fun x => !p x).map VerI.d := by
 rw [List.map_append, h, List.take_add_one, hx, List.filter_append, List.map_append]
 simp [hp, hy]
theorem wo_skip {K R : List VerI} {p : VerI → Bool} {i : Nat} {x : VerI} (h : R.map VerI.d = ((K.take i).filter fun x => !p x).map VerI.d) (hx : K[i]? = some x) (hp : p x = true) : R.map VerI.d = ((K.take (i + 1)).filter fun x => !p x).map VerI.d := by
 rw [h, List.take_add_one, hx, List.filter_append]
 simp [hp]
theorem ow1_tk {base : Nat} {w w' : World} {V : List Int} {M : List (Int × Int)} {k : Value} (h : ∃ v m, V = ints v ∧ M = pairs m ∧ KnO base w k v m) (q : TkS w w') : ∃ v m, V = ints v ∧ M = pairs m ∧ KnO base w' k v m := by
 obtain ⟨v, m, h1, h2, h3⟩ := h
 exact ⟨v, m, h1, h2, h3.tks q⟩
theorem ow1_le {base base' : Nat} {w : World} {V : List Int} {M : List (Int × Int)} {k : Value} (h : ∃ v m, V = ints v ∧ M = pairs m ∧ KnO base w k v m) (q : base' ≤ base) : ∃ v m, V = ints v ∧ M = pairs m ∧ KnO base' w k v m := by
 obtain ⟨v, m, h1, h2, h3⟩ := h
 exact ⟨v, m, h1, h2, h3.less q⟩
theorem clone_any (x : VerI) (hx : okVr x) (w : World) (hm : MeanV w x) :
  Calls Tryz.prog 142 #[.agg #[.string (bs x.d.id), .int .i64 (x.d.s), .int .i64 (x.d.c), .int .i64 (x.d.t), .int .i64 (x.d.n), .int .i64 (x.d.b), .slice x.va x.d.V.length x.vc, .slice x.ma x.d.M.length x.mc]] w fun e w' => ∃ y : VerI, y.d = x.d ∧ e = .returned (.agg #[.string (bs y.d.id), .int .i64 (y.d.s), .int .i64 (y.d.c), .int .i64 (y.d.t), .int .i64 (y.d.n), .int .i64 (y.d.b), .slice y.va y.d.V.length y.vc, .slice y.ma y.d.M.length y.mc]) ∧ OwnVr w.heap.size w' y ∧ Gr w w' := by
 refine enter (N := 12) Tryz.func142 rfl rfl rfl (fun Y ok0 I => ?_)
 have Z : Y.eval (.tmp 0) = .agg #[.string (bs x.d.id), .int .i64 (x.d.s), .int .i64 (x.d.c), .int .i64 (x.d.t), .int .i64 (x.d.n), .int .i64 (x.d.b), .slice x.va x.d.V.length x.vc, .slice x.ma x.d.M.length x.mc] := I 0 _ rfl
 clear I
 have J := Gr.refl w
 refine wp_seq_k (fun K1 aa => (wp_region_lit (sal (cs := #[.string (bs x.d.id), .int .i64 (x.d.s), .int .i64 (x.d.c), .int .i64 (x.d.t), .int .i64 (x.d.n), .int .i64 (x.d.b), .slice x.va x.d.V.length x.vc, .slice x.ma x.d.M.length x.mc]) ok0 rfl (wn _ rfl) rfl (o_box Z) (fun av w4 K o C => ?_))))
 have l6 : w.heap.size ≤ K := by rw [o.eq]; exact J.size
 have L := J.trans o.gr
 refine sal (cs := #[.string (bs []), .int .i64 0, .int .i64 0, .int .i64 0, .int .i64 0, .int .i64 0, .slice none 0 0, .slice none 0 0]) C.ok rfl (wn _ rfl) rfl (o_al (z := .agg #[.string (bs []), .int .i64 0, .int .i64 0, .int .i64 0, .int .i64 0, .int .i64 0, .slice none 0 0, .slice none 0 0]) (by kernel_rfl)) (fun ay ac O a q => ?_)
 have ad : K < O := by rw [a.eq]; exact o.bk.lt
 have af : w.heap.size ≤ O := by rw [a.eq]; exact L.size
 have D := L.trans a.gr
 have S := o.bk.gr a.gr
 refine wpList_nil (th_n (aa _ _ (wp_seq_k (fun az ag => (wp_region_lit (sw q.ok (o_fa (z := 2) (q.n C.at_) Tryz.underlying106 rfl (by kernel_rfl) rfl rfl) (fun aA r => ?_)))))))
 refine sw r.ok (o_ldA (k := 6) (cs := [.slice x.va x.d.V.length x.vc, .slice x.ma x.d.M.length x.mc]) r.at_ (bk_part S rfl) Tryz.underlying75 rfl (by kernel_rfl)) (fun aB u => ?_)
 refine sw u.ok (o_b0 (cs := #[.slice none 0 0, .slice none 0 0]) Tryz.underlying75 (by kernel_rfl) (by kernel_rfl)) (fun aC g => ?_)
 refine sc g.ok rfl (wn _ rfl) rfl (o_f2 Tryz.func127 rfl rfl rfl (g.n u.at_) g.at_) (kclone _ x.d.V x.d.M ac (MeanV.gr hm D) (chkOne_zero hx).2.2.1) ?_
 rintro _ aD ⟨va1, vc1, ma1, mc1, rfl, hk1, E⟩
 have hk2 := ow1_le hk1 D.size
 refine ⟨_, rfl, fun aE A => ?_⟩
 have ah := D.trans E
 have T := S.gr E
 have ai := a.bk.gr E
 refine sw A.ok (o_mv A.at_) (fun aF h => ?_)
 refine sw h.ok (o_ex h.at_ rfl) (fun aG j => ?_)
 refine sw j.ok (o_ex (j.n h.at_) rfl) (fun aH B => ?_)
 have U := B.n (j.n (h.n (A.n (g.n (u.n (r.n (q.n C.at_)))))))
 refine sw B.ok (o_fa (z := 2) U Tryz.underlying106 rfl (by kernel_rfl) rfl rfl) (fun aI l => ?_)
 refine ssP (vs := [.slice va1 x.d.V.length vc1, .slice ma1 x.d.M.length mc1]) (cs' := #[.string (bs x.d.id), .int .i64 (x.d.s), .int .i64 (x.d.c), .int .i64 (x.d.t), .int .i64 (x.d.n), .int .i64 (x.d.b), .slice va1 x.d.V.length vc1, .slice ma1 x.d.M.length mc1]) (wn _ rfl) l.at_ (l.n (B.n j.at_)) (by kernel_rfl) T rfl (by simp [Value.oneCell']) rfl (fun aj F ak => ?_)
 have al : Gr w aj := Below.upd ah l6 F
 have G := ai.upd F (Nat.ne_of_gt ad)
 have am := ow1_tk hk2 (tks_upd F T (by decide))
 refine wpList_nil (th_n (ag _ _ (wp_seq_k (fun aJ an => (wp_region_lit (sw l.ok (o_ldR (l.n U) ak Tryz.underlying106 rfl (by kernel_rfl)) (fun aK H => ?_)))))))
 have W := H.n (l.n (B.n (j.n (h.n (A.n (g.n (u.n (r.n q.at_))))))))
 refine ssR rfl (wn _ rfl) (o_stR W H.at_ G (by kernel_rfl) rfl (by simp [Value.oneCell'])) G (fun ao X ap => ?_)
 have aq : Gr w ao := Below.upd al af X
 have ar := ow1_tk am (tks_upd X G (by decide))
 refine wpList_nil (th_n (an _ _ (wp_ret (ret1 H.ok rfl (⟨_, _, W, ld_row ap Tryz.underlying106 rfl (by kernel_rfl)⟩) ⟨⟨x.d, va1, vc1, ma1, mc1⟩, rfl, rfl, ar, aq⟩))))
theorem without_any (K : List VerI) (va : Option Addr) (vc : Nat) (f : FuncId) (caps : List Value) (p : VerI → Bool) (hf : FnOk Tryz.prog f) (hl : K.length ≤ 1000) (hok : ∀ x ∈ K, okVr x) (w : World) (hv : RdA encVr 8 w va K) (hm : MeansV w K) (hc : ∀ x ∈ K, ∀ w1, Gr w w1 → Calls Tryz.prog f (.agg #[.string (bs x.d.id), .int .i64 (x.d.s), .int .i64 (x.d.c), .int .i64 (x.d.t), .int .i64 (x.d.n), .int .i64 (x.d.b), .slice x.va x.d.V.length x.vc, .slice x.ma x.d.M.length x.mc] :: caps).toArray w1 fun e w2 => e = .returned (.bool (p x)) ∧ Gr w1 w2) :
  Calls Tryz.prog 139 #[.slice va K.length vc, .func (.func f) #[] caps.toArray] w fun e w' => ∃ (R : List VerI) (v : Value), e = .returned v ∧ R.map VerI.d = (K.filter fun x => !p x).map VerI.d ∧ w'.ownsRow w.heap.size 106 8 v R.length (flatE encVr R) ∧ OwnsVr w.heap.size w' R ∧ Gr w w' := by
 refine enter (N := 25) Tryz.func139 rfl rfl rfl (fun a0 ok0 h0 => ?_)
 have aO : a0.eval (.tmp 0) = .slice va K.length vc := h0 0 _ rfl
 have aS : a0.eval (.tmp 1) = .func (.func f) #[] caps.toArray := h0 1 _ rfl
 clear h0
 have G0 := Gr.refl w
 obtain ⟨base, z1⟩ : ∃ n, n = w.heap.size := ⟨_, rfl⟩
 have l2 : w.heap.size ≤ base := by rw [z1]; exact G0.size
 have z3 : base ≤ w.heap.size := Nat.le_of_eq z1
 have O4 := World.ownsRow_nil w base 106 8
 have hps : OwnsVr base w ([] : List VerI) := fun x hx => by cases hx
 refine wp_seq_k (fun K5 aW => (wp_region_lit (sw ok0 (o_as ev_const) (fun b8 n6 => ?_))))
 refine wpList_nil (th_n (aW _ _ (wp_seq_k (fun K7 aX => (wp_region_lit (sw n6.ok (o_as ev_const) (fun ca Z => ?_)))))))
 refine wpList_nil (th_n (aX _ _ (wp_seq_k (fun K9 aY => (wp_seq_k (fun cc aZ => (wp_region_lit (sw Z.ok (o_mv (Z.n (n6.n aO))) (fun cd U => ?_)))))))))
 refine sw U.ok (o_len U.at_ Tryz.underlying41) (fun cf W => ?_)
 refine sw W.ok (o_mv ev_const) (fun cg H => ?_)
 refine wpList_nil (th_n (aZ _ _ (wp_block ?_)))
 have a1 := H.n (W.n (U.n (Z.n (n6.n aS))))
 have a2 := H.n (W.n (U.n (Z.n n6.at_)))
 have a3 := H.n (W.n (U.n Z.at_))
 refine lp (fun (nL : Nat) (aL : Act) (wL : World) => ∃ i : Nat, ∃ R : List VerI, ∃ ra : Option Addr, ∃ rc : Nat, nL = K.length - i ∧ Ok 25 aL ∧ Gr w wL ∧ (aL.eval (.tmp 1) = .func (.func f) #[] caps.toArray) ∧ (aL.eval (.tmp 4) = .slice none 0 0) ∧ (aL.eval (.tmp 5) = .slice ra (R.length) rc) ∧ (aL.eval (.tmp 8) = .slice va K.length vc) ∧ (aL.eval (.tmp 9) = .int .i64 ((K.length : Nat) : Int)) ∧ (aL.eval (.tmp 10) = .int .i64 (i : Int)) ∧ (OwnsVr base wL R) ∧ (World.ownsRow wL base 106 8 (.slice ra (R.length) rc) (R.length) ((flatE encVr R))) ∧ (base ≤ wL.heap.size) ∧ (i ≤ K.length) ∧ (R.map VerI.d = ((K.take i).filter fun x => !p x).map VerI.d)) _ ⟨0, [], none, 0, rfl, H.ok, G0, a1, a2, a3, (H.n (W.n U.at_)), (H.n W.at_), H.at_, hps, O4, z3, by omega, rfl⟩ ?_
 rintro ch ci cj ⟨i, R, ra, rc, hmI14, okI14, GI14, a4, ay, ak, al, am, ad, fpsI14, orI14, zbaseI14, hiI14, hRI14⟩ KI14 hKI14
 have hRlI14 : R.length ≤ i := by
  have h1 := congrArg List.length hRI14
  rw [List.length_map, List.length_map] at h1
  have h2 := List.length_filter_le (fun x => !p x) (K.take i)
  rw [List.length_take] at h2
  omega
 refine wp_seq_k (fun ck a8 => (wp_region_lit (sw okI14 (o_ltI ad am) (fun cl a => ?_))))
 refine wpList_nil (th_n (a8 _ _ (wp_seq_k (fun cm a9 => ?_))))
 by_cases az : (i : Int) < ((K.length : Nat) : Int)
 ·refine wp_cond_true ((a.at_).trans (congrArg Value.bool (decide_eq_true az))) ?_
  refine wp_skip (th_n (a9 _ _ (wp_seq_k (fun cn aA => (wp_block (wp_seq_k (fun co ba => (wp_region_lit ?_))))))))
  have an : i < List.length K := by omega
  obtain ⟨bh27, fh27, bb, bc, bd⟩ := hv (ne_nil_of_lt an)
  obtain ⟨xh27, X⟩ : ∃ x, (K)[i]? = some x := ⟨_, List.getElem?_eq_getElem an⟩
  refine sw a.ok (o_iaV (i := i) (s := 8) bb (a.n al) (a.n ad) Tryz.underlying41 (by kernel_rfl) an) (fun cp A => ?_)
  refine sw A.ok (o_ldA (k := fh27 + i * 8) A.at_ (cs := [.string (bs xh27.d.id), .int .i64 (xh27.d.s), .int .i64 (xh27.d.c), .int .i64 (xh27.d.t), .int .i64 (xh27.d.n), .int .i64 (xh27.d.b), .slice xh27.va xh27.d.V.length xh27.vc, .slice xh27.ma xh27.d.M.length xh27.mc]) (fun j v hv => (Below.cell GI14 bc).trans (bd _ _ X j v hv)) Tryz.underlying106 rfl (by kernel_rfl)) (fun cq B => ?_)
  refine sal (cs := #[.string (bs []), .int .i64 0, .int .i64 0, .int .i64 0, .int .i64 0, .int .i64 0, .slice none 0 0, .slice none 0 0]) B.ok rfl (wn _ rfl) rfl (o_al (z := .agg #[.string (bs []), .int .i64 0, .int .i64 0, .int .i64 0, .int .i64 0, .int .i64 0, .slice none 0 0, .slice none 0 0]) (by kernel_rfl)) (fun cr ct aB C l => ?_)
  have bf : w.heap.size ≤ aB := by rw [C.eq]; exact GI14.size
  have bg : ∀ k, Value.ownBlock (.slice ra (R.length) rc) = some k → k < aB := fun k e => by rw [C.eq]; exact ow_in orI14 k e
  have bh := GI14.trans C.gr
  have bi := Nat.le_trans zbaseI14 C.gr.size
  have bj := ow_gr orI14 C.gr
  have bl := fpsI14.tk (tks_gr C.gr)
  refine ssR rfl (wn _ rfl) (o_stR l.at_ (l.n B.at_) C.bk (by kernel_rfl) rfl (by simp [Value.oneCell'])) C.bk (fun ao af aC => ?_)
  have aD : Gr w ao := Below.upd bh bf af
  have bm : base ≤ ao.heap.size := by rw [af.size]; exact bi
  have bn := ow_upd_ne bj af bg
  have bo := bl.tk (tks_upd af C.bk (by decide))
  refine wpList_nil (th_n (ba _ _ (wp_seq_k (fun cu bp => (wp_region_lit ?_)))))
  have ap := l.n (B.n (A.n (a.n a4)))
  refine sw l.ok (o_mv ap) (fun cx o => ?_)
  refine sw o.ok (o_ldR (o.n l.at_) aC Tryz.underlying106 rfl (by kernel_rfl)) (fun cy q => ?_)
  refine sc q.ok rfl (wn _ rfl) rfl (o_fv1 (caps := caps) hf (q.n o.at_) q.at_) (hc _ (List.mem_of_getElem? X) ao aD) ?_
  rintro _ bq ⟨rfl, aa⟩
  refine ⟨_, rfl, fun cz y => ?_⟩
  have aq := aD.trans aa
  have br := aC.gr aa
  have ar := Nat.le_trans bm aa.size
  have aE := ow_gr bn aa
  have aF := bo.tk (tks_gr aa)
  refine sw y.ok (o_notI y.at_) (fun cA g => ?_)
  refine wpList_nil (th_n (bp _ _ ?_))
  cases ag : (!(p xh27))
  ·refine wp_cond_false ((g.at_).trans (congrArg Value.bool (ag))) ?_
   refine wp_skip (ib_n (th_n (aA _ _ (wp_region_lit ?_))))
   have bt := g.n (y.n (q.n (o.n (l.n (B.n (A.n (a.n ad)))))))
   refine sw g.ok (o_add (r := ((i + 1 : Nat) : Int)) bt ev_const (by omega) (by omega)) (fun cB I => ?_)
   refine sw I.ok (o_mv I.at_) (fun cC J => ?_)
   refine wpList_nil ?_
   have bu := J.n (I.n (g.n (y.n (q.n (o.n ap)))))
   have bv := J.n (I.n (g.n (y.n (q.n (o.n (l.n (B.n (A.n (a.n ay)))))))))
   have bx := J.n (I.n (g.n (y.n (q.n (o.n (l.n (B.n (A.n (a.n ak)))))))))
   have bz := J.n (I.n (g.n (y.n (q.n (o.n (l.n (B.n (A.n (a.n al)))))))))
   have bA := J.n (I.n (g.n (y.n (q.n (o.n (l.n (B.n (A.n (a.n am)))))))))
   exact th_n (hKI14 _ _ _ (by omega) ⟨i + 1, R, ra, rc, rfl, J.ok, aq, bu, bv, bx, bz, bA, J.at_, aF, aE, ar, by omega, wo_skip hRI14 X (by simpa using ag)⟩)
  ·refine wp_cond_true ((g.at_).trans (congrArg Value.bool (ag))) ?_
   refine wp_region_lit ?_
   have bB := g.n (y.n (q.n (o.n (l.n (B.n (A.n (a.n ak)))))))
   refine sw g.ok (o_mv bB) (fun cD D => ?_)
   have bC := D.n (g.n (y.n (q.n (o.n l.at_))))
   refine sw D.ok (o_ldR bC br Tryz.underlying106 rfl (by kernel_rfl)) (fun cE E => ?_)
   refine sc E.ok rfl (wn _ rfl) rfl (o_f1 Tryz.func142 rfl rfl rfl E.at_) (clone_any xh27 (hok _ (List.mem_of_getElem? X)) bq ((hm _ (List.mem_of_getElem? X)).gr aq)) ?_
   rintro _ cF ⟨y1, hy1, rfl, hk1, ah⟩
   refine ⟨_, rfl, fun cG F => ?_⟩
   have bD := aq.trans ah
   have bE := Nat.le_trans ar ah.size
   have bF := ow_gr aE ah
   have bG := aF.tk (tks_gr ah)
   obtain ⟨cH, bH, bI, au⟩ := info3_of (show (Tryz.prog.info? 106).map (fun i => (i.zero, i.size)) = some (some (.agg #[.string (bs []), .int .i64 0, .int .i64 0, .int .i64 0, .int .i64 0, .int .i64 0, .slice none 0 0, .slice none 0 0]), 8) by kernel_rfl)
   refine sals (cs := #[.string (bs y1.d.id), .int .i64 (y1.d.s), .int .i64 (y1.d.c), .int .i64 (y1.d.t), .int .i64 (y1.d.n), .int .i64 (y1.d.b), .slice y1.va y1.d.V.length y1.vc, .slice y1.ma y1.d.M.length y1.mc]) F.ok rfl (wn _ rfl) rfl (o_bs (vs := [(0, .agg #[.string (bs y1.d.id), .int .i64 (y1.d.s), .int .i64 (y1.d.c), .int .i64 (y1.d.t), .int .i64 (y1.d.n), .int .i64 (y1.d.b), .slice y1.va y1.d.V.length y1.vc, .slice y1.ma y1.d.M.length y1.mc])]) (by simp [F.at_, ev_const]) Tryz.underlying41 bH bI (by rw [au]; rfl) (by rw [au]; rfl) (by rw [au]; kernel_rfl)) (fun cI cJ cK Y G => ?_)
   have bJ := bD.trans Y.gr
   have aG := Nat.le_trans bE Y.gr.size
   have ai := ow_gr bF Y.gr
   have bK := bG.tk (tks_gr Y.gr)
   have bL := (hk1.base (Nat.le_trans ar (Nat.le_refl _))).tk (tks_gr Y.gr)
   have bM := G.n (F.n (E.n D.at_))
   obtain ⟨cL, bO, bS, bT, bU⟩ := info_of (show (Tryz.prog.info? 106).map (fun i => (i.zero, i.size, i.bytes)) = some (some (.agg #[.string (bs []), .int .i64 0, .int .i64 0, .int .i64 0, .int .i64 0, .int .i64 0, .slice none 0 0, .slice none 0 0]), 8, 104) by kernel_rfl)
   refine s_app (base := base) (n := R.length) (xs := (flatE encVr R)) (m := 1) (news := encVr y1) G.ok (wn _ rfl) rfl Tryz.underlying41 bO bS bT bU rfl (by omega) bM ai G.at_ rfl ((fun j u hu => by rw [add_n]; exact bk_part Y.bk (k := 0) rfl j u hu)) (encVr_ok.one y1) (by simp only [maxLen]; omega) (by omega) aG (fun cM bV cO aH gg102 L => ?_)
   obtain ⟨aI, aJ, rfl, cS⟩ := ow_form aH
   have bW := Gr.grown bJ gg102 (fun k e => Nat.le_trans l2 (ow_lt ai k e))
   have bX := Nat.le_trans aG gg102.size
   have bY := bK.tk (tks_grown ai gg102 (by decide))
   have bZ := bL.tk (tks_grown ai gg102 (by decide))
   have b0 : bV.ownsRow base 106 8 (.slice aI ((R.length + 1)) aJ) ((R.length + 1)) ((flatE encVr (R ++ [y1]))) := by have h := aH; rw [← flatE_one (enc := encVr) y1, ← flatE_app] at h; exact h
   have hps110 := bY.snoc bZ
   refine sw L.ok (o_as L.at_) (fun cT O => ?_)
   refine wpList_nil (ib_n (th_n (aA _ _ (wp_region_lit ?_))))
   have b1 := O.n (L.n (G.n (F.n (E.n (D.n (g.n (y.n (q.n (o.n (l.n (B.n (A.n (a.n ad)))))))))))))
   refine sw O.ok (o_add (r := ((i + 1 : Nat) : Int)) b1 ev_const (by omega) (by omega)) (fun cU S => ?_)
   refine sw S.ok (o_mv S.at_) (fun cV T => ?_)
   refine wpList_nil ?_
   have b2 := T.n (S.n (O.n (L.n (G.n (F.n (E.n (D.n (g.n (y.n (q.n (o.n ap)))))))))))
   have b3 := T.n (S.n (O.n (L.n (G.n (F.n (E.n (D.n (g.n (y.n (q.n (o.n (l.n (B.n (A.n (a.n ay)))))))))))))))
   have b4 := T.n (S.n (O.n (L.n (G.n (F.n (E.n (D.n (g.n (y.n (q.n (o.n (l.n (B.n (A.n (a.n al)))))))))))))))
   have b5 := T.n (S.n (O.n (L.n (G.n (F.n (E.n (D.n (g.n (y.n (q.n (o.n (l.n (B.n (A.n (a.n am)))))))))))))))
   exact th_n (hKI14 _ _ _ (by omega) ⟨i + 1, R ++ [y1], aI, aJ, rfl, T.ok, bW, b2, b3, (by simpa using (T.n (S.n O.at_))), b4, b5, T.at_, hps110, (by simpa using b0), bX, by omega, wo_step hRI14 X (by simpa using ag) hy1⟩)
 ·refine wp_cond_false ((a.at_).trans (congrArg Value.bool (decide_eq_false az))) ?_
  refine wp_exit (th_x (th_x (ib_x (th_n (aY _ _ (wp_seq_k (fun cW b6 => (wp_region_lit (sw a.ok (o_mv (a.n ak)) (fun cX aK => ?_))))))))))
  refine sw aK.ok (o_as aK.at_) (fun cY aM => ?_)
  refine wpList_nil (th_n (b6 _ _ (wp_ret (ret1 aM.ok rfl (aM.at_) ⟨R, _, rfl, by rw [hRI14, List.take_of_length_le (by omega)], z1 ▸ orI14, z1 ▸ fpsI14, GI14⟩))))
theorem never_any (x : VerI) (w : World) :
  Calls Tryz.prog 140 #[.agg #[.string (bs x.d.id), .int .i64 (x.d.s), .int .i64 (x.d.c), .int .i64 (x.d.t), .int .i64 (x.d.n), .int .i64 (x.d.b), .slice x.va x.d.V.length x.vc, .slice x.ma x.d.M.length x.mc]] w fun e w' => e = .returned (.bool false) ∧ Gr w w' := by
 refine enter (N := 3) Tryz.func140 rfl rfl rfl (fun l ok0 a => ?_)
 have o : l.eval (.tmp 0) = .agg #[.string (bs x.d.id), .int .i64 (x.d.s), .int .i64 (x.d.c), .int .i64 (x.d.t), .int .i64 (x.d.n), .int .i64 (x.d.b), .slice x.va x.d.V.length x.vc, .slice x.ma x.d.M.length x.mc] := a 0 _ rfl
 clear a
 have g := Gr.refl w
 refine wp_seq_k (fun B q => (wp_region_lit (sal (cs := #[.string (bs x.d.id), .int .i64 (x.d.s), .int .i64 (x.d.c), .int .i64 (x.d.t), .int .i64 (x.d.n), .int .i64 (x.d.b), .slice x.va x.d.V.length x.vc, .slice x.ma x.d.M.length x.mc]) ok0 rfl (wn _ rfl) rfl (o_box o) (fun C D r h u => ?_))))
 have E : w.heap.size ≤ r := by rw [h.eq]; exact g.size
 have y := g.trans h.gr
 refine sw u.ok (o_as ev_const) (fun F z => ?_)
 refine wpList_nil (th_n (q _ _ (wp_seq_k (fun G A => (wp_region_lit (sw z.ok (o_as ev_const) (fun H j => ?_)))))))
 refine wpList_nil (th_n (A _ _ (wp_ret (ret1 j.ok rfl (j.at_) ⟨rfl, y⟩))))
theorem put1_any (x y : VerI) (b : Nat) (hx : okVr x) (hy : okVr y) (w : World) (hm : MeanV w x) (hb : Bk w b #[.string (bs y.d.id), .int .i64 (y.d.s), .int .i64 (y.d.c), .int .i64 (y.d.t), .int .i64 (y.d.n), .int .i64 (y.d.b), .slice y.va y.d.V.length y.vc, .slice y.ma y.d.M.length y.mc] 106) :
  Calls Tryz.prog 137 #[.agg #[.string (bs x.d.id), .int .i64 (x.d.s), .int .i64 (x.d.c), .int .i64 (x.d.t), .int .i64 (x.d.n), .int .i64 (x.d.b), .slice x.va x.d.V.length x.vc, .slice x.ma x.d.M.length x.mc], .pointer (some ⟨b, 0, none⟩)] w fun e w' => e = .returned (.bool (ovB x.d y.d)) ∧ Gr w w' := by
 refine enter (N := 8) Tryz.func137 rfl rfl rfl (fun r ok0 j => ?_)
 have z : r.eval (.tmp 0) = .agg #[.string (bs x.d.id), .int .i64 (x.d.s), .int .i64 (x.d.c), .int .i64 (x.d.t), .int .i64 (x.d.n), .int .i64 (x.d.b), .slice x.va x.d.V.length x.vc, .slice x.ma x.d.M.length x.mc] := j 0 _ rfl
 have A : r.eval (.tmp 1) = .pointer (some ⟨b, 0, none⟩) := j 1 _ rfl
 clear j
 have B := Gr.refl w
 refine wp_seq_k (fun W C => (wp_region_lit (sal (cs := #[.string (bs x.d.id), .int .i64 (x.d.s), .int .i64 (x.d.c), .int .i64 (x.d.t), .int .i64 (x.d.n), .int .i64 (x.d.b), .slice x.va x.d.V.length x.vc, .slice x.ma x.d.M.length x.mc]) ok0 rfl (wn _ rfl) rfl (o_box z) (fun X Y Z l o => ?_))))
 have u := B.trans l.gr
 have D := hb.gr l.gr
 refine sw o.ok (o_as ev_const) (fun aa q => ?_)
 refine wpList_nil (th_n (C _ _ (wp_seq_k (fun ab E => (reg_start (N := 8) (m := 5) (by kernel_rfl) (fun F => ?_))))))
 have G := F.snoc (n' := 1) rfl (fun vJ _ => vJ = .agg #[.string (bs x.d.id), .int .i64 (x.d.s), .int .i64 (x.d.c), .int .i64 (x.d.t), .int .i64 (x.d.n), .int .i64 (x.d.b), .slice x.va x.d.V.length x.vc, .slice x.ma x.d.M.length x.mc]) rfl (fun _ _ _ _ h => h) (fun aS wS pS => by
   exact Does.val (wn _ rfl) (o_ldR ((pS.old 2 rfl).trans (q.n o.at_)) (Bk.gr l.bk (gr_drew pS.gr)) Tryz.underlying106 rfl (by kernel_rfl)) (Gr.refl _) rfl rfl)
 have H := G.snoc (n' := 2) rfl (fun vJ wJ => ∃ (cS : Nat), vJ = .func (.func 189) #[] #[.pointer (some ⟨cS, 0, none⟩)] ∧ (Bk wJ cS #[.string (bs x.d.id), .int .i64 (x.d.s), .int .i64 (x.d.c), .int .i64 (x.d.t), .int .i64 (x.d.n), .int .i64 (x.d.b), .slice x.va x.d.V.length x.vc, .slice x.ma x.d.M.length x.mc] 106)) rfl (fun _ _ _ g ⟨cS, h, I⟩ => ⟨cS, h, I.gr g⟩) (fun aS wS pS => by
   have eR12_0 : aS.eval (.tmp 4) = .agg #[.string (bs x.d.id), .int .i64 (x.d.s), .int .i64 (x.d.c), .int .i64 (x.d.t), .int .i64 (x.d.n), .int .i64 (x.d.b), .slice x.va x.d.V.length x.vc, .slice x.ma x.d.M.length x.mc] := pS.pre 0 rfl
   exact Does.call (wn _ rfl) (o_f1 Tryz.func138 rfl rfl rfl (eR12_0)) (supBy_any x wS) (by rintro _ J ⟨cS, rfl, -, hbS, g⟩; exact ⟨_, rfl, g, ⟨cS, rfl, hbS⟩⟩) rfl)
 have K := H.snoc (n' := 3) rfl (fun vJ _ => vJ = .agg #[.string (bs y.d.id), .int .i64 (y.d.s), .int .i64 (y.d.c), .int .i64 (y.d.t), .int .i64 (y.d.n), .int .i64 (y.d.b), .slice y.va y.d.V.length y.vc, .slice y.ma y.d.M.length y.mc]) rfl (fun _ _ _ _ h => h) (fun aS wS pS => by
   exact Does.val (wn _ rfl) (o_ldA (k := 0) (cs := [.string (bs y.d.id), .int .i64 (y.d.s), .int .i64 (y.d.c), .int .i64 (y.d.t), .int .i64 (y.d.n), .int .i64 (y.d.b), .slice y.va y.d.V.length y.vc, .slice y.ma y.d.M.length y.mc]) ((pS.old 1 rfl).trans (q.n (o.n A))) (bk_part (Bk.gr D (gr_drew pS.gr)) rfl) Tryz.underlying106 rfl (by kernel_rfl)) (Gr.refl _) rfl rfl)
 have O := K.snoc (n' := 4) rfl (fun vJ _ => vJ = .bool (ovB x.d y.d)) rfl (fun _ _ _ _ h => h) (fun aS wS pS => by
   obtain ⟨cS, eR12_1, hbS⟩ := pS.pre 1 rfl
   have eR12_1 : aS.eval (.tmp 5) = .func (.func 189) #[] #[.pointer (some ⟨cS, 0, none⟩)] := eR12_1
   have eR12_2 : aS.eval (.tmp 6) = .agg #[.string (bs y.d.id), .int .i64 (y.d.s), .int .i64 (y.d.c), .int .i64 (y.d.t), .int .i64 (y.d.n), .int .i64 (y.d.b), .slice y.va y.d.V.length y.vc, .slice y.ma y.d.M.length y.mc] := pS.pre 2 rfl
   exact Does.call (wn _ rfl) (o_fv1 (caps := [.pointer (some ⟨cS, 0, none⟩)]) ⟨_, Tryz.func189, rfl, rfl⟩ (eR12_1) (eR12_2)) (supBy1_any y x cS hy (chkOne_zero hx).2.2.1 wS (MeanV.gr hm (u.trans (gr_drew pS.gr))) hbS) (by rintro _ J ⟨rfl, g⟩; exact ⟨_, rfl, g, rfl⟩) rfl)
 have S := O.snoc (n' := 5) rfl (fun vJ _ => vJ = .bool (ovB x.d y.d)) rfl (fun _ _ _ _ h => h) (fun aS wS pS => by
   have eR12_3 : aS.eval (.tmp 7) = .bool (ovB x.d y.d) := pS.pre 3 rfl
   exact Does.val (wn _ rfl) (o_as (eR12_3)) (Gr.refl _) rfl rfl)
 refine S.run (k := 0) (L := #[true, true, true, true, true]) (by kernel_rfl) (by kernel_rfl) (by kernel_rfl) q.ok (by kernel_rfl) (by kernel_rfl) (fun ap14 ac a => ?_)
 have T := gr_drew a.gr
 have U := u.trans T
 obtain ⟨cS, ep14_1, hbS⟩ := a.js 1 rfl
 have ep14_1 : ap14.eval (.tmp 5) = .func (.func 189) #[] #[.pointer (some ⟨cS, 0, none⟩)] := ep14_1
 refine wpAny_done (by kernel_rfl) ?_ _
 refine th_n (E _ _ (wp_ret ?_))
 have ep14_4 : ap14.eval (.tmp 3) = .bool (ovB x.d y.d) := a.js 4 rfl
 exact ret1 a.ok rfl (ep14_4) ⟨rfl, U⟩
end Go.Proofs.YtglbnggkkjhokaaGreat
/- A region that draws its order: the operations that come ahead of the others may lie anywhere in the list. -/
namespace Gx
open Go Go.RowKit Rm
def hd (hs : List Nat) (i : Nat) : Bool := hs.any fun j => Nat.beq j i
def fdH (ops : Array Oper) (hs : List Nat) : List Nat := hs.filterMap fun i => (ops[i]?).bind (·.dst)
theorem hd_mem {hs : List Nat} {i : Nat} : hd hs i = true ↔ i ∈ hs := by
 unfold hd
 rw [List.any_eq_true]
 constructor
 ·rintro ⟨j, hj, e⟩; rw [← Nat.eq_of_beq_eq_true e]; exact hj
 ·intro h; exact ⟨i, h, by simp⟩
section
variable {P : Program} {ops : Array Oper} {Q : Exit → Act → World → Prop} {N : Nat} {a₀ : Act} {w₀ : World} {hs : List Nat}
def firstsH (n : Nat) (hs : List Nat) : Array Bool := ((List.range n).map fun i => hd hs i).toArray
end
end Gx
/- Copies of cells into rows of one's own; rows that grow by zeros. -/
namespace Gx
open Go Go.RowKit Rm
section
variable {E : Type} {enc : E → List Value} {s : Nat}
theorem run_copyS (P : Program) (w : World) (dT sT ty elem : TypeId) (b o dLen dCap : Nat) (a : Addr) (sLen sCap m : Nat) (cs : List Value)
  (hu : P.underlying dT = some (.slice elem)) (hs : (P.info? elem).map (·.size) = some s) (hm : Nat.min sLen dLen = m) (hn : cs.length = m * s)
  (hsrc : ∀ j v, cs[j]? = some v → w.cell? (a.add j) = some v) (hc : ∀ j, j < cs.length → (w.cell? ⟨b, o + j, none⟩).isSome = true) (hf : ∀ j, j < cs.length → w.frozen? ⟨b, o + j, none⟩ = false) (h1 : ∀ v ∈ cs, v.oneCell' = true) :
  (Builtin.copy_ #[dT, sT] ty #[.slice (some ⟨b, o, none⟩) dLen dCap, .slice (some a) sLen sCap]).run P w = .ok (goInt m) (w.setCells b o cs) := by
 have hl := run_loadCells_list (P := P) w a cs hsrc
 have hst := run_storeCells_cells (P := P) b o cs 0 w (by simpa using hc) (by simpa using hf) h1
 cases hq : P.info? elem with
 | none => simp [hq] at hs
 | some i =>
  have hi : i.size = s := by simpa [hq] using hs
  simp [Builtin.copy_, run_underlying hu, Builtin.lenOf, Builtin.firstCells, Go.sizeOf, typeInfo, hq, hi, hm, ← hn, hl, hst]
theorem o_copyS {P : Program} {ev : Operand → Value} {d : Option Tmp} {ty : TypeId} {p : String} {af : Array Edge} {g : Option (Nat × Bool)} {w : World} {x y : Operand} {T T' e : TypeId} {b o dLen dCap sLen sCap m : Nat} {ad : Addr} {cs : List Value}
  (hx : ev x = .slice (some ⟨b, o, none⟩) dLen dCap) (hy : ev y = .slice (some ad) sLen sCap) (hu : P.underlying T = some (.slice e)) (hs : (P.info? e).map (·.size) = some s) (hm : Nat.min sLen dLen = m) (hn : cs.length = m * s)
  (hsrc : ∀ j v, cs[j]? = some v → w.cell? (ad.add j) = some v) (hc : ∀ j, j < cs.length → (w.cell? ⟨b, o + j, none⟩).isSome = true) (hf : ∀ j, j < cs.length → w.frozen? ⟨b, o + j, none⟩ = false) (h1 : ∀ v ∈ cs, v.oneCell' = true) :
  (execOp ev (Oper.mk d (.call (Call.mk (.builtin .copy) #[x, y] #[T, T'])) ty p af g)).run P w = .ok (.value (.int .i64 (m : Int))) (w.setCells b o cs) := by
 have h := run_copyS P w T T' ty e b o dLen dCap ad sLen sCap m cs hu hs hm hn hsrc hc hf h1
 unfold execOp
 simp only [resolve, invoke, builtin, hx, hy, Sem.run_bind, Sem.run_pure, Result.andThen_ok, List.map_toArray, List.map_cons, List.map_nil, h]
 rfl
theorem s_cp {P : Program} {ops : Array Oper} {Q : Exit → Act → World → Prop} {rest : List Oper} {a : Act} {w : World} {dd N : Nat} {x y : Operand} {T T' ty e : TypeId} {p : String} {af : Array Edge} {gd : Option (Nat × Bool)} {base g n c o dLen dCap sLen sCap m : Nat} {ad : Addr} {xs cs : List Value}
    (ok : Ok N a) (hw : Region.wanted (Oper.mk (some dd) (.call (Call.mk (.builtin .copy) #[x, y] #[T, T'])) ty p af gd) (yielded ops a.tmps) = true) (hN : Nat.blt dd N = true)
    (hx : a.eval x = .slice (some ⟨g, o, none⟩) dLen dCap) (hy : a.eval y = .slice (some ad) sLen sCap) (hu : P.underlying T = some (.slice e)) (hs : (P.info? e).map (·.size) = some s) (hm : Nat.min sLen dLen = m) (hn : cs.length = m * s)
    (hown : w.ownsRow base e s (.slice (some ⟨g, 0, none⟩) n c) n xs) (hfit : o + cs.length ≤ n * s) (hsrc : ∀ j v, cs[j]? = some v → w.cell? (ad.add j) = some v) (h1 : ∀ v ∈ cs, v.oneCell' = true)
    (h : ∀ a' w', w'.ownsRow base e s (.slice (some ⟨g, 0, none⟩) n c) n (splL xs o cs) → w.grownBy w' (some g) → Nx N a a' dd (.int .i64 (m : Int)) → wpList P ops Q rest a' w') :
    wpList P ops Q (Oper.mk (some dd) (.call (Call.mk (.builtin .copy) #[x, y] #[T, T'])) ty p af gd :: rest) a w := by
  obtain ⟨k1, k2, k3⟩ := ow_put hown hfit
  exact sv (d := dd) ok rfl hw hN (o_copyS hx hy hu hs hm hn hsrc k2 k3 h1) fun a' n' => h a' _ k1 (setCells_upd _ _ _ _).grown n'
theorem t_cp {P : Program} {ops : Array Oper} {Q : Exit → Act → World → Prop} {a : Act} {w : World} {i fuel dd N : Nat} {L : Array Bool} {x y : Operand} {T T' ty e : TypeId} {p : String} {af : Array Edge} {gd : Option (Nat × Bool)} {base g n c o dLen dCap sLen sCap m : Nat} {ad : Addr} {xs cs : List Value}
  (hr : Region.ready .any ops L = [i]) (ho : ops[i]? = some (Oper.mk (some dd) (.call (Call.mk (.builtin .copy) #[x, y] #[T, T'])) ty p af gd)) (ok : Ok N a) (hw : Region.wanted (Oper.mk (some dd) (.call (Call.mk (.builtin .copy) #[x, y] #[T, T'])) ty p af gd) (yielded ops a.tmps) = true) (hN : Nat.blt dd N = true)
  (hx : a.eval x = .slice (some ⟨g, o, none⟩) dLen dCap) (hy : a.eval y = .slice (some ad) sLen sCap) (hu : P.underlying T = some (.slice e)) (hs : (P.info? e).map (·.size) = some s) (hm : Nat.min sLen dLen = m) (hn : cs.length = m * s)
  (hown : w.ownsRow base e s (.slice (some ⟨g, 0, none⟩) n c) n xs) (hfit : o + cs.length ≤ n * s) (hsrc : ∀ j v, cs[j]? = some v → w.cell? (ad.add j) = some v) (h1 : ∀ v ∈ cs, v.oneCell' = true)
  (h : ∀ a' w', w'.ownsRow base e s (.slice (some ⟨g, 0, none⟩) n c) n (splL xs o cs) → w.grownBy w' (some g) → Nx N a a' dd (.int .i64 (m : Int)) → wpAny P .any ops Q fuel (L.setIfInBounds i true) a' w') :
  wpAny P .any ops Q (fuel + 1) L a w := by
 obtain ⟨k1, k2, k3⟩ := ow_put hown hfit
 exact t_val (d := dd) hr ho ok rfl hw hN (o_copyS hx hy hu hs hm hn hsrc k2 k3 h1) fun a' n' => h a' _ k1 (setCells_upd _ _ _ _).grown n'
theorem o_capS {P : Program} {ev : Operand → Value} {d : Option Tmp} {ty : TypeId} {p : String} {af : Array Edge} {g : Option (Nat × Bool)} {w : World} {x : Operand} {T E : TypeId} {a : Option Addr} {n c : Nat} (hx : ev x = .slice a n c) (hu : P.underlying T = some (.slice E)) : (execOp ev (Oper.mk d (.call (Call.mk (.builtin .cap) #[x] #[T])) ty p af g)).run P w = .ok (.value (.int .i64 (c : Int))) w := by
 simp [execOp, resolve, invoke, builtin, Builtin.cap_, hx, run_underlying hu, goInt, go_sem]
theorem ow_room {w : World} {base g n c : Nat} {e : TypeId} {xs : List Value} (h : w.ownsRow base e s (.slice (some ⟨g, 0, none⟩) n c) n xs) (hc : n + 1 ≤ c) : ∃ J : List Value, J.length = s ∧ w.ownsRow base e s (.slice (some ⟨g, 0, none⟩) (n + 1) c) (n + 1) (xs ++ J) := by
  obtain ⟨h1, ⟨hv, -⟩ | ⟨g', cap, cur, hv, h3, hg, h4, h5, h6, h7⟩⟩ := h
  · cases hv
  · injection hv with e1 e2 e3
    injection e1 with e1
    injection e1 with e1
    subst e1 e3
    have hle : (n + 1) * s ≤ c * s := Nat.mul_le_mul_right _ hc
    have e4 : (n + 1) * s = n * s + s := by rw [Nat.add_mul]; omega
    have hJ : ((cur.toList.drop (n * s)).take s).length = s := by rw [List.length_take, List.length_drop, Array.length_toList, h6]; omega
    refine ⟨(cur.toList.drop (n * s)).take s, hJ, by rw [List.length_append, h1, hJ, e4], .inr ⟨g, c, cur, rfl, h3, hg, hc, h5, h6, ?_⟩⟩
    rw [e4, List.take_add, h7]
def SrcAt (w : World) (g : Nat) (xs : List Value) : Prop := g < w.heap.size ∧ ∀ j u, xs[j]? = some u → w.cell? ⟨g, j, none⟩ = some u
theorem SrcAt.gr {w w' : World} {g : Nat} {xs : List Value} (h : SrcAt w g xs) (k : Gr w w') : SrcAt w' g xs := ⟨Nat.lt_of_lt_of_le h.1 k.size, fun j u hu => (k.cells.1 g _ h.1).trans (h.2 j u hu)⟩
theorem SrcAt.ne {w w' : World} {g : Nat} {xs : List Value} {r : Option Nat} (h : SrcAt w g xs) (k : w.grownBy w' r) (hr : r ≠ some g) : SrcAt w' g xs := ⟨Nat.lt_of_lt_of_le h.1 k.size, fun j u hu => by
 have e := k.block g h.1 (fun q => hr q.symm)
 have := h.2 j u hu
 simp only [World.cell?] at this ⊢
 rw [e]
 exact this⟩
theorem SrcAt.own {w : World} {base g n c : Nat} {e : TypeId} {xs : List Value} (h : w.ownsRow base e s (.slice (some ⟨g, 0, none⟩) n c) n xs) : SrcAt w g xs := by
 obtain ⟨h1, ⟨hv, -⟩ | ⟨g', cap, cur, hv, h3, hg, h4, h5, h6, h7⟩⟩ := h
 ·cases hv
 ·injection hv with e1 e2 e3
  injection e1 with e1
  injection e1 with e1
  subst e1 e3
  refine ⟨(Array.getElem?_eq_some_iff.1 hg).1, fun j u hu => ?_⟩
  have hlt : j < n * s := by rw [← h1]; exact (List.getElem?_eq_some_iff.1 hu).1
  rw [← h7, List.getElem?_take_of_lt hlt] at hu
  simp only [World.cell?, hg]
  simpa using hu
theorem SrcAt.part {w : World} {g o : Nat} {xs cs : List Value} (h : SrcAt w g xs) (hc : ∀ j u, cs[j]? = some u → xs[o + j]? = some u) : ∀ j v, cs[j]? = some v → w.cell? ((⟨g, o, none⟩ : Addr).add j) = some v := fun j v hv => by
 rw [add_n]
 exact h.2 _ _ (hc j v hv)
theorem gb_new {w w1 w2 : World} {r : Option Nat} {b : Nat} (h : w.grownBy w1 r) (k : w1.grownBy w2 (some b)) (hb : w.heap.size ≤ b) : w.grownBy w2 r :=
 ⟨k.os.trans h.os, k.tape.trans h.tape, k.output.trans h.output, Nat.le_trans h.size k.size, fun j hj hr => (k.block j (Nat.lt_of_lt_of_le hj h.size) (fun q => by cases q; omega)).trans (h.block j hj hr)⟩
theorem s_apz {P : Program} {ops : Array Oper} {Q : Exit → Act → World → Prop} {rest : List Oper} {a : Act} {w : World} {dd N : Nat} {x y : Operand} {t tn ty e : TypeId} {p : String} {af : Array Edge} {gd : Option (Nat × Bool)} {base g n c i k bytes : Nat} {z : Value} {ie : TypeInfo} {kn : IntKind} {xs : List Value}
    (ok : Ok N a) (hw : Region.wanted (Oper.mk (some dd) (.call (Call.mk (.builtin .append) #[x, y] #[t, tn])) ty p af gd) (yielded ops a.tmps) = true) (hN : Nat.blt dd N = true)
    (hx : a.eval x = .slice (some ⟨g, 0, none⟩) i c) (hy : a.eval y = .int .i64 (k : Int)) (ht : P.underlying t = some (.slice e)) (htn : P.underlying tn = some (.int kn)) (hi : P.info? e = some ie) (hz : ie.zero = some z) (hsz : ie.size = s) (hby : ie.bytes = bytes) (hzs : z.cells.size = s) (hs0 : 0 < s)
    (hsrc : SrcAt w g xs) (hxl : xs.length = n * s) (hin : i ≤ n) (hk : 0 < k) (hg : c < i + k) (hmax : i + k ≤ 1000) (hbytes : bytes ≤ 1000000) (hbase : base ≤ w.heap.size)
    (h : ∀ a' w' b cap Z, Gr w w' → b = w.heap.size → w'.ownsRow base e s (.slice (some ⟨b, 0, none⟩) (i + k) cap) (i + k) (xs.take (i * s) ++ Z) → Z.length = k * s → Nx N a a' dd (.slice (some ⟨b, 0, none⟩) (i + k) cap) → wpList P ops Q rest a' w') :
    wpList P ops Q (Oper.mk (some dd) (.call (Call.mk (.builtin .append) #[x, y] #[t, tn])) ty p af gd :: rest) a w := by
  have hle : i * s ≤ n * s := Nat.mul_le_mul_right _ hin
  have hol : (xs.take (i * s)).length = i * s := by rw [List.length_take, hxl]; omega
  have hold : (Builtin.firstCells ie.size i (.slice (some ⟨g, 0, none⟩) i c)).run P w.drew = .ok (xs.take (i * s)).toArray w.drew := by
    have h0 := run_loadCells_list (P := P) w.drew ⟨g, 0, none⟩ (xs.take (i * s)) (fun j u hu => by
      rw [add_n, Nat.zero_add]
      have hj : j < i * s := by rw [← hol]; exact (List.getElem?_eq_some_iff.1 hu).1
      rw [List.getElem?_take_of_lt hj] at hu
      exact hsrc.2 j u hu)
    rw [hol] at h0
    simp only [Builtin.firstCells, hsz]
    exact h0
  have hn1 : Builtin.nextslicecap (i + k) c * ie.bytes ≤ 281474976710656 := growslice_fits hg (by
    rw [hby]
    calc _ ≤ 1000 * 1000000 := Nat.mul_le_mul hmax hbytes
      _ ≤ _ := by decide)
  have hr := Lib.run_append_grow_zeros (P := P) w t tn ty e ie z .i64 kn ht htn hi hz (some ⟨g, 0, none⟩) i c (xs.take (i * s)) hold k hk (by rw [hsz]; exact hs0) hg (by omega) (by
    rw [hby]
    calc _ ≤ 1000 * 1000000 := Nat.mul_le_mul (by omega) hbytes
      _ ≤ _ := by decide) hn1
  have hge := grownCap_ge w (i + k) c e
  have hcm : grownCap w (i + k) c e ≤ maxLen := grownCap_le_maxLen w (i + k) c e (by simp only [maxLen]; omega)
  have hzl : (Builtin.zeroCells z.cells k).toList.length = k * s := by simp [Builtin.zeroCells, hzs]
  refine sv (d := dd) ok rfl hw hN (v := .slice (some ⟨w.heap.size, 0, none⟩) (i + k) (grownCap w (i + k) c e)) (w' := w.drew.alloc (.cells ((xs.take (i * s)).toArray ++ Builtin.zeroCells z.cells k ++ Builtin.zeroCells z.cells (grownCap w (i + k) c e - (i + k))) e)) ?_ (fun a' n' => h a' _ w.heap.size _ (Builtin.zeroCells z.cells k).toList ((Gr.refl w).drew.alloc _) rfl ?_ hzl n')
  · unfold execOp
    simp only [resolve, invoke, builtin, hx, hy, Sem.run_bind, Sem.run_pure, Result.andThen_ok, List.map_toArray, List.map_cons, List.map_nil, hr]
  · have es : (i + k) * s = i * s + k * s := Nat.add_mul ..
    refine ⟨by rw [List.length_append, hol, hzl, es], .inr ⟨w.heap.size, grownCap w (i + k) c e, (xs.take (i * s)).toArray ++ Builtin.zeroCells z.cells k ++ Builtin.zeroCells z.cells (grownCap w (i + k) c e - (i + k)), rfl, hbase, ?_, hge, hcm, ?_, ?_⟩⟩
    · show (w.heap.push _)[w.heap.size]? = _
      simp
    · have hz2 : (Builtin.zeroCells z.cells (grownCap w (i + k) c e - (i + k))).size = (grownCap w (i + k) c e - (i + k)) * s := by simp [Builtin.zeroCells, hzs]
      have hz3 : (Builtin.zeroCells z.cells k).size = k * s := by simp [Builtin.zeroCells, hzs]
      rw [Array.size_append, Array.size_append, List.size_toArray, hol, hz2, hz3, ← es, ← Nat.add_mul]
      congr 1
      omega
    · rw [Array.toList_append, Array.toList_append, List.toList_toArray, es, List.take_append_of_le_length (by rw [List.length_append, hol, hzl]; omega), List.take_of_length_le (by rw [List.length_append, hol, hzl]; omega)]
theorem ins_room (A B J y : List Value) {o p : Nat} (ho : o = A.length) (hp : p = A.length + y.length) (hJ : J.length = y.length) : splL (splL (A ++ B ++ J) p B) o y = A ++ y ++ B := by
  subst ho hp
  have h1 : splL (A ++ B ++ J) (A.length + y.length) B = (A ++ B ++ J).take (A.length + y.length) ++ B := by
    rw [splL_eq _ _ _ (by simp; omega), List.drop_eq_nil_of_le (by simp; omega), List.append_nil]
  have hl : ((A ++ B ++ J).take (A.length + y.length)).length = A.length + y.length := by simp; omega
  rw [h1, splL_eq _ _ _ (by rw [List.length_append, hl]; omega)]
  have h2 : ((A ++ B ++ J).take (A.length + y.length) ++ B).take A.length = A := by
    rw [List.take_append_of_le_length (by rw [hl]; omega), List.take_take, Nat.min_eq_left (by omega), List.append_assoc, List.take_append_of_le_length (Nat.le_refl _), List.take_of_length_le (Nat.le_refl _)]
  have h3 : ((A ++ B ++ J).take (A.length + y.length) ++ B).drop (A.length + y.length) = B := List.drop_left' hl
  rw [h2, h3]
theorem ins_grow (A B Z y : List Value) {o p : Nat} (ho : o = A.length) (hp : p = A.length + y.length) (hZ : Z.length = y.length + B.length) : splL (splL (A ++ Z) o y) p B = A ++ y ++ B := by
 subst ho hp
 have h1 : splL (A ++ Z) A.length y = A ++ y ++ (A ++ Z).drop (A.length + y.length) := by
  rw [splL_eq _ _ _ (by rw [List.length_append]; omega), List.take_append_of_le_length (Nat.le_refl _), List.take_of_length_le (Nat.le_refl _)]
 have hl : ((A ++ Z).drop (A.length + y.length)).length = B.length := by simp; omega
 rw [h1]
 generalize (A ++ Z).drop (A.length + y.length) = D at hl
 have hy : (A ++ y).length = A.length + y.length := by simp
 have e1 : (A ++ y ++ D).take (A.length + y.length) = A ++ y := List.take_left' hy
 have e2 : (A ++ y ++ D).drop (A.length + y.length + B.length) = [] := List.drop_eq_nil_of_le (by rw [List.length_append, hy, hl]; omega)
 rw [splL_eq _ _ _ (by rw [List.length_append, hy, hl]; omega), e1, e2, List.append_nil]
end
end Gx
/- slices.BinarySearchFunc and slices.Insert at versions. -/
namespace Gx
open Go Go.RowKit Rm
section
variable {P : Program} {ev : Operand → Value} {d : Option Tmp} {ty : TypeId} {p : String} {af : Array Edge} {g : Option (Nat × Bool)} {w : World}
theorem o_half {t t' : TypeId} {x y : Operand} {n : Nat} (hx : ev x = .int .u64 (n : Int)) (hy : ev y = .int .u64 1) : (execOp ev (Oper.mk d (.binOp .shr t x y t') ty p af g)).run P w = .ok (.value (.int .u64 ((n / 2 : Nat) : Int))) w := by
 have h1 : min (1 : Int).toNat IntKind.u64.bits = 1 := by decide
 have h2 : ((n : Int)).fdiv (2 ^ 1) = ((n / 2 : Nat) : Int) := by
  rw [Int.fdiv_eq_ediv_of_nonneg _ (by decide)]
  omega
 have hb : (binOp .shr t (.int .u64 (n : Int)) (.int .u64 1)).run P w = .ok (.int .u64 ((n / 2 : Nat) : Int)) w := by
  simp only [binOp, Op.shift]
  rw [if_neg (by decide), h1, h2]
  rfl
 unfold execOp
 simp only [hx, hy, eqGuard, Sem.run_bind, Sem.run_pure, Result.andThen_ok]
 simp [hb, go_sem]
theorem o_cut0 {T E : TypeId} {x y : Operand} {s : Nat} (hx : ev x = .slice none 0 0) (hy : ev y = .int .i64 0) (hu : P.underlying T = some (.slice E)) (hs : (P.info? E).map (·.size) = some s) : (execOp ev (Oper.mk d (.slice T x (some y) none none) ty p af g)).run P w = .ok (.value (.slice none 0 0)) w := by
 have h1 := size_of hs w
 unfold execOp
 simp only [hx, hy, Option.map_none, Option.map_some, Instr.sliceAt, Instr.slice, Instr.sliceBounds, Instr.sliceBound, asIntOf, Sem.run_bind, run_underlying hu w, Sem.run_pure, Result.andThen_ok]
 simp [h1, go_sem]
theorem o_ext {f : FuncId} {xs : Array Operand} {vs : Array Value} {ts : Array TypeId} {v : Value} (hc : (callFunc f vs).run P w = .ok (.value v) w) (hev : ev (.func f) = .func (.func f) #[] #[]) (hx : xs.map ev = vs) : (execOp ev (Oper.mk d (.call (Call.mk (.value (.func f)) xs ts)) ty p af g)).run P w = .ok (.value v) w := by
 subst hx
 unfold execOp
 simp only [resolve, invoke, Deferred.ofValue, hev, Sem.run_bind, Sem.run_pure, Result.andThen_ok, List.append_nil, Array.append_empty, hc, Array.map_map]
 first
  | exact hc
  | (simp [hc, go_sem])
end
section
variable {E : Type} {enc : E → List Value} {s : Nat}
theorem flat_drop (he : EncOk enc s) {K : List E} {i : Nat} (hi : i ≤ K.length) (J : List Value) : ∀ j u, (flatE enc (K.drop i))[j]? = some u → (flatE enc K ++ J)[0 + i * s + j]? = some u := fun j u hu => by
 have hA : (flatE enc (K.take i)).length = i * s := by rw [flatE_len he, List.length_take, Nat.min_eq_left hi]
 have e : flatE enc K = flatE enc (K.take i) ++ flatE enc (K.drop i) := by rw [← flatE_app, List.take_append_drop]
 have hj := (List.getElem?_eq_some_iff.1 hu).1
 rw [e, List.append_assoc, Nat.zero_add, List.getElem?_append_right (by omega), hA, Nat.add_sub_cancel_left, List.getElem?_append_left hj]
 exact hu
theorem ins_eq (K : List E) (i : Nat) (y : E) : flatE enc (K.take i ++ y :: K.drop i) = flatE enc (K.take i) ++ enc y ++ flatE enc (K.drop i) := by
 rw [show K.take i ++ y :: K.drop i = (K.take i ++ [y]) ++ K.drop i by simp, flatE_app, flatE_app, flatE_one]
theorem fin_room (he : EncOk enc s) {K : List E} {i : Nat} (hi : i ≤ K.length) (y : E) (J : List Value) (hJ : J.length = s) : splL (splL (flatE enc K ++ J) (0 + (i + 1) * s) (flatE enc (K.drop i))) (0 + i * s) (enc y) = flatE enc (K.take i ++ y :: K.drop i) := by
 have hA : (flatE enc (K.take i)).length = i * s := by rw [flatE_len he, List.length_take, Nat.min_eq_left hi]
 have e : flatE enc K = flatE enc (K.take i) ++ flatE enc (K.drop i) := by rw [← flatE_app, List.take_append_drop]
 rw [ins_eq, e]
 exact ins_room _ _ _ _ (by rw [hA, Nat.zero_add]) (by rw [hA, he.len, Nat.zero_add, Nat.add_mul, Nat.one_mul]) (by rw [hJ, he.len])
theorem fin_grow (he : EncOk enc s) {K : List E} {i k : Nat} (hi : i ≤ K.length) (hk : k = K.length + 1 - i) (y : E) (Z : List Value) (hZ : Z.length = k * s) : splL (splL ((flatE enc K).take (i * s) ++ Z) (0 + i * s) (enc y)) (0 + (i + 1) * s) (flatE enc (K.drop i)) = flatE enc (K.take i ++ y :: K.drop i) := by
 have hA : (flatE enc (K.take i)).length = i * s := by rw [flatE_len he, List.length_take, Nat.min_eq_left hi]
 have hB : (flatE enc (K.drop i)).length = (K.length - i) * s := by rw [flatE_len he, List.length_drop]
 rw [ins_eq, flatE_take he K i hi]
 refine ins_grow _ _ _ _ (by rw [hA, Nat.zero_add]) (by rw [hA, he.len, Nat.zero_add, Nat.add_mul, Nat.one_mul]) ?_
 rw [hZ, hB, he.len, hk, show K.length + 1 - i = 1 + (K.length - i) by omega, Nat.add_mul, Nat.one_mul]
end
end Gx
namespace Go.Proofs.YtglbnggkkjhokaaGreat
open Go.RowKit Rm Gx
theorem ov_false (w : World) (a b : Nat) (oa ob la ca lb cb : Nat) (xa xb : Array Value) (ta tb : TypeId) (ha : w.heap[a]? = some (.cells xa ta (0, 0))) (hb : w.heap[b]? = some (.cells xb tb (0, 0))) (hne : a ≠ b) (hx : xb.size ≠ 0) :
  (callFunc 190 #[.slice (some ⟨a, oa, none⟩) la ca, .slice (some ⟨b, ob, none⟩) lb cb]).run Tryz.prog w = .ok (.value (.bool false)) w := by
 rw [run_callFunc_extern Tryz.func190 (by kernel_rfl) (by kernel_rfl) (by kernel_rfl) (e := Extern.SlicesOverlaps.overlaps #[41, 41] #[4]) (by kernel_rfl),
  Lib.run_overlaps_apart w 41 4 106 Tryz.underlying41 8 (fun w => size_of (by kernel_rfl) w) ⟨a, oa, none⟩ ⟨b, ob, none⟩ la ca lb cb hne ta tb xa.size xb.size (by simp [World.shape?, ha]) (by simp [World.shape?, hb]) hx (by simp [World.frozen?, ha]) (by simp [World.frozen?, ha])]
 rfl
theorem ow_block {w : World} {base g n c s : Nat} {e : TypeId} {xs : List Value} (h : w.ownsRow base e s (.slice (some ⟨g, 0, none⟩) n c) n xs) (hn : 0 < n) (hs : 0 < s) : ∃ cur, w.heap[g]? = some (.cells cur e (0, 0)) ∧ cur.size ≠ 0 := by
 obtain ⟨h1, ⟨hv, -⟩ | ⟨g', cap, cur, hv, h3, hg, h4, h5, h6, h7⟩⟩ := h
 ·cases hv
 ·injection hv with e1 e2 e3
  injection e1 with e1
  injection e1 with e1
  subst e1 e3
  refine ⟨cur, hg, ?_⟩
  rw [h6]
  exact Nat.mul_ne_zero (by omega) (by omega)
theorem ow_cap {w : World} {base g n c s : Nat} {e : TypeId} {xs : List Value} (h : w.ownsRow base e s (.slice (some ⟨g, 0, none⟩) n c) n xs) : n ≤ c := by
 obtain ⟨h1, ⟨hv, -⟩ | ⟨g', cap, cur, hv, h3, hg, h4, h5, h6, h7⟩⟩ := h
 ·cases hv
 ·injection hv with e1 e2 e3
  omega
theorem flatE_cell {E : Type} {enc : E → List Value} {s : Nat} (he : EncOk enc s) (K : List E) : ∀ v ∈ flatE enc K, v.oneCell' = true := by
 intro v hv
 unfold flatE at hv
 obtain ⟨x, -, hx⟩ := List.mem_flatMap.1 hv
 exact he.one x v hx
theorem _root_.Gx.Bk.grown_ne' {w w' : World} {b : Nat} {cs : Array Value} {t : TypeId} {v : Value} (h : Bk w b cs t) (k : w.grownBy w' v.ownBlock) (hr : ∀ j, v.ownBlock = some j → j ≠ b) : Bk w' b cs t :=
 (k.block b h.lt (fun e => hr b e.symm rfl)).trans h
theorem search_any (K : List VerI) (y : VerI) (va : Option Addr) (vc : Nat) (hl : K.length ≤ 1000) (hS : ∀ (j k : Nat) (x z : VerI), j ≤ k → K[j]? = some x → K[k]? = some z → cmpV z.d y.d < 0 → cmpV x.d y.d < 0) (w : World) (hv : RdA encVr 8 w va K) :
  Calls Tryz.prog 135 #[.slice va K.length vc, .agg #[.string (bs y.d.id), .int .i64 (y.d.s), .int .i64 (y.d.c), .int .i64 (y.d.t), .int .i64 (y.d.n), .int .i64 (y.d.b), .slice y.va y.d.V.length y.vc, .slice y.ma y.d.M.length y.mc], .func (.func 136) #[] #[]] w fun e w' => ∃ (i : Nat) (b : Bool), e = .returned (.tuple #[.int .i64 (i : Int), .bool b]) ∧ i ≤ K.length ∧ (∀ (k : Nat) (x : VerI), k < i → K[k]? = some x → cmpV x.d y.d < 0) ∧ (∀ (k : Nat) (x : VerI), i ≤ k → K[k]? = some x → 0 ≤ cmpV x.d y.d) ∧ (b = true ↔ ∃ x, K[i]? = some x ∧ cmpV x.d y.d = 0) ∧ Gr w w' := by
 refine enter (N := 49) Tryz.func135 rfl rfl rfl (fun a0 ok0 h0 => ?_)
 have aT : a0.eval (.tmp 0) = .slice va K.length vc := h0 0 _ rfl
 have aU : a0.eval (.tmp 1) = .agg #[.string (bs y.d.id), .int .i64 (y.d.s), .int .i64 (y.d.c), .int .i64 (y.d.t), .int .i64 (y.d.n), .int .i64 (y.d.b), .slice y.va y.d.V.length y.vc, .slice y.ma y.d.M.length y.mc] := h0 1 _ rfl
 have aV : a0.eval (.tmp 2) = .func (.func 136) #[] #[] := h0 2 _ rfl
 clear h0
 have G0 := Gr.refl w
 refine wp_seq_k (fun K1 aX => (wp_region_lit (sal (cs := #[.string (bs y.d.id), .int .i64 (y.d.s), .int .i64 (y.d.c), .int .i64 (y.d.t), .int .i64 (y.d.n), .int .i64 (y.d.b), .slice y.va y.d.V.length y.vc, .slice y.ma y.d.M.length y.mc]) ok0 rfl (wn _ rfl) rfl (o_box aU) (fun cE w4 b3 W5 n2 => ?_))))
 have G7 := G0.trans W5.gr
 refine sw n2.ok (o_as ev_const) (fun cG n8 => ?_)
 refine sw n8.ok (o_as ev_const) (fun cH n9 => ?_)
 refine wpList_nil (th_n (aX _ _ (wp_seq_k (fun cI aZ => (wp_region_lit ?_)))))
 have ay := n9.n (n8.n (n2.n aT))
 refine sw n9.ok (o_mv ay) (fun cJ Y => ?_)
 refine sw Y.ok (o_len Y.at_ Tryz.underlying41) (fun cK Z => ?_)
 refine sw Z.ok (o_as Z.at_) (fun cL W => ?_)
 refine wpList_nil (th_n (aZ _ _ (wp_seq_k (fun cM a1 => (wp_region_lit (sw W.ok (o_mv W.at_) (fun cO X => ?_)))))))
 refine sw X.ok (o_as ev_const) (fun cS H => ?_)
 refine sw H.ok (o_as (H.n X.at_)) (fun cT I => ?_)
 refine wpList_nil (th_n (a1 _ _ (wp_seq_k (fun cU a2 => (wp_block ?_)))))
 have a3 := I.n (H.n (X.n (W.n (Z.n (Y.n ay)))))
 have a4 := I.n (H.n (X.n (W.n (Z.n (Y.n (n9.n (n8.n (n2.n aV))))))))
 have a6 := I.n (H.n (X.n (W.n (Z.n (Y.n (n9.n (n8.n n2.at_)))))))
 have a7 := I.n (H.n (X.n (W.n (Z.n (Y.n (n9.n n8.at_))))))
 have a8 := I.n (H.n (X.n (W.n (Z.n (Y.n n9.at_)))))
 have a9 := I.n (H.n (X.n W.at_))
 refine lp (fun (nL : Nat) (aL : Act) (wL : World) => ∃ i : Nat, ∃ j : Nat, nL = j - i ∧ Ok 49 aL ∧ Gr w wL ∧ (aL.eval (.tmp 0) = .slice va K.length vc) ∧ (aL.eval (.tmp 2) = .func (.func 136) #[] #[]) ∧ (aL.eval (.tmp 4) = .pointer (some ⟨b3, 0, none⟩)) ∧ (aL.eval (.tmp 6) = .int .i64 0) ∧ (aL.eval (.tmp 7) = .bool false) ∧ (aL.eval (.tmp 8) = .int .i64 ((K.length : Nat) : Int)) ∧ (aL.eval (.tmp 9) = .int .i64 (i : Int)) ∧ (aL.eval (.tmp 10) = .int .i64 (j : Int)) ∧ (Bk wL b3 #[.string (bs y.d.id), .int .i64 (y.d.s), .int .i64 (y.d.c), .int .i64 (y.d.t), .int .i64 (y.d.n), .int .i64 (y.d.b), .slice y.va y.d.V.length y.vc, .slice y.ma y.d.M.length y.mc] 106) ∧ (i ≤ j) ∧ (j ≤ K.length) ∧ (∀ (k : Nat) (x : VerI), k < i → K[k]? = some x → cmpV x.d y.d < 0) ∧ (∀ (k : Nat) (x : VerI), j ≤ k → K[k]? = some x → 0 ≤ cmpV x.d y.d)) _ ⟨0, K.length, rfl, I.ok, G7, a3, a4, a6, a7, a8, a9, (I.n H.at_), I.at_, W5.bk, by omega, by omega, fun k x hk => by omega, fun k x hk hx => by have := (List.getElem?_eq_some_iff.1 hx).1; omega⟩ ?_
 rintro cV cW cX ⟨i, j, hmI20, okI20, GI20, az, aA, aB, aC, aD, ag, ah, aE, kb3I20, hijI20, hjI20, hloI20, hhiI20⟩ KI20 hKI20
 refine wp_seq_k (fun cY ba => (wp_seq_k (fun cZ bb => (wp_region_lit (sw okI20 (o_mv ah) (fun c0 l => ?_))))))
 refine sw l.ok (o_mv (l.n aE)) (fun c1 o => ?_)
 refine sw o.ok (o_ltI (o.n l.at_) o.at_) (fun c2 a => ?_)
 refine wpList_nil (th_n (bb _ _ ?_))
 by_cases aF : (i : Int) < (j : Int)
 ·refine wp_cond_true ((a.at_).trans (congrArg Value.bool (decide_eq_true aF))) ?_
  refine wp_skip (th_n (ba _ _ (wp_block (wp_seq_k (fun c3 bc => (wp_region_lit ?_))))))
  have aG := a.n (o.n (l.n ah))
  refine sw a.ok (o_mv aG) (fun c4 C => ?_)
  have aH := C.n (a.n (o.n (l.n aE)))
  refine sw C.ok (o_mv aH) (fun c5 B => ?_)
  refine sw B.ok (o_add (r := ((i + j : Nat) : Int)) (B.n C.at_) B.at_ (by omega) (by omega)) (fun c6 D => ?_)
  refine sw D.ok (o_cv D.at_ Tryz.underlying3 Tryz.underlying141 (IntWalk.u64_in _ (by omega))) (fun c7 E => ?_)
  refine sw E.ok (o_half (n := i + j) E.at_ ev_const) (fun c8 F => ?_)
  refine sw F.ok (o_cv F.at_ Tryz.underlying141 Tryz.underlying3 (IntWalk.i64_in _ (by omega))) (fun c9 G => ?_)
  refine sw G.ok (o_as G.at_) (fun da A => ?_)
  refine wpList_nil (th_n (bc _ _ (wp_seq_k (fun db bd => (reg_start (N := 49) (m := 8) (by kernel_rfl) (fun bf => ?_))))))
  have am := A.n (G.n (F.n (E.n (D.n (B.n (C.n (a.n (o.n (l.n aA)))))))))
  have bg := bf.snoc (n' := 1) rfl (fun vJ _ => vJ = .func (.func 136) #[] #[]) rfl (fun _ _ _ _ h => h) (fun aS wS pS => by
    exact Does.val (wn _ rfl) (o_mv ((pS.old 2 rfl).trans am)) (Gr.refl _) rfl rfl)
  have an := A.n (G.n (F.n (E.n (D.n (B.n (C.n (a.n (o.n (l.n az)))))))))
  have bh := bg.snoc (n' := 2) rfl (fun vJ _ => vJ = .slice va K.length vc) rfl (fun _ _ _ _ h => h) (fun aS wS pS => by
    exact Does.val (wn _ rfl) (o_mv ((pS.old 0 rfl).trans an)) (Gr.refl _) rfl rfl)
  have bi := bh.snoc (n' := 3) rfl (fun vJ _ => vJ = .int .i64 (((i + j) / 2 : Nat) : Int)) rfl (fun _ _ _ _ h => h) (fun aS wS pS => by
    exact Does.val (wn _ rfl) (o_mv ((pS.old 11 rfl).trans A.at_)) (Gr.refl _) rfl rfl)
  have ao : (i + j) / 2 < List.length K := by omega
  obtain ⟨bh50, fh50, bj, bl, bm⟩ := hv (ne_nil_of_lt ao)
  obtain ⟨xh50, ai⟩ : ∃ x, (K)[(i + j) / 2]? = some x := ⟨_, List.getElem?_eq_getElem ao⟩
  have bn := bi.snoc (n' := 4) rfl (fun vJ _ => vJ = .pointer (some ⟨bh50, fh50 + ((i + j) / 2) * 8, none⟩)) rfl (fun _ _ _ _ h => h) (fun aS wS pS => by
    have eR47_1 : aS.eval (.tmp 25) = .slice va K.length vc := pS.pre 1 rfl
    have eR47_2 : aS.eval (.tmp 26) = .int .i64 (((i + j) / 2 : Nat) : Int) := pS.pre 2 rfl
    exact Does.val (wn _ rfl) (o_iaV (i := (i + j) / 2) (s := 8) bj (eR47_1) (eR47_2) Tryz.underlying41 (by kernel_rfl) ao) (Gr.refl _) rfl rfl)
  have bo := bn.snoc (n' := 5) rfl (fun vJ _ => vJ = .agg #[.string (bs xh50.d.id), .int .i64 (xh50.d.s), .int .i64 (xh50.d.c), .int .i64 (xh50.d.t), .int .i64 (xh50.d.n), .int .i64 (xh50.d.b), .slice xh50.va xh50.d.V.length xh50.vc, .slice xh50.ma xh50.d.M.length xh50.mc]) rfl (fun _ _ _ _ h => h) (fun aS wS pS => by
    have eR47_3 : aS.eval (.tmp 27) = .pointer (some ⟨bh50, fh50 + ((i + j) / 2) * 8, none⟩) := pS.pre 3 rfl
    exact Does.val (wn _ rfl) (o_ldA (k := fh50 + ((i + j) / 2) * 8) (eR47_3) (cs := [.string (bs xh50.d.id), .int .i64 (xh50.d.s), .int .i64 (xh50.d.c), .int .i64 (xh50.d.t), .int .i64 (xh50.d.n), .int .i64 (xh50.d.b), .slice xh50.va xh50.d.V.length xh50.vc, .slice xh50.ma xh50.d.M.length xh50.mc]) (fun j v hv => (Below.cell (GI20.trans (gr_drew pS.gr)) bl).trans (bm _ _ ai j v hv)) Tryz.underlying106 rfl (by kernel_rfl)) (Gr.refl _) rfl rfl)
  have ap := A.n (G.n (F.n (E.n (D.n (B.n (C.n (a.n (o.n (l.n aB)))))))))
  have bp := bo.snoc (n' := 6) rfl (fun vJ _ => vJ = .agg #[.string (bs y.d.id), .int .i64 (y.d.s), .int .i64 (y.d.c), .int .i64 (y.d.t), .int .i64 (y.d.n), .int .i64 (y.d.b), .slice y.va y.d.V.length y.vc, .slice y.ma y.d.M.length y.mc]) rfl (fun _ _ _ _ h => h) (fun aS wS pS => by
    exact Does.val (wn _ rfl) (o_ldR ((pS.old 4 rfl).trans ap) (Bk.gr kb3I20 (gr_drew pS.gr)) Tryz.underlying106 rfl (by kernel_rfl)) (Gr.refl _) rfl rfl)
  have bq := bp.snoc (n' := 7) rfl (fun vJ _ => vJ = .int .i64 (cmpV xh50.d y.d)) rfl (fun _ _ _ _ h => h) (fun aS wS pS => by
    have eR47_0 : aS.eval (.tmp 24) = .func (.func 136) #[] #[] := pS.pre 0 rfl
    have eR47_4 : aS.eval (.tmp 28) = .agg #[.string (bs xh50.d.id), .int .i64 (xh50.d.s), .int .i64 (xh50.d.c), .int .i64 (xh50.d.t), .int .i64 (xh50.d.n), .int .i64 (xh50.d.b), .slice xh50.va xh50.d.V.length xh50.vc, .slice xh50.ma xh50.d.M.length xh50.mc] := pS.pre 4 rfl
    have eR47_5 : aS.eval (.tmp 29) = .agg #[.string (bs y.d.id), .int .i64 (y.d.s), .int .i64 (y.d.c), .int .i64 (y.d.t), .int .i64 (y.d.n), .int .i64 (y.d.b), .slice y.va y.d.V.length y.vc, .slice y.ma y.d.M.length y.mc] := pS.pre 5 rfl
    exact Does.call (wn _ rfl) (o_fv2 (caps := []) ⟨_, Tryz.func136, rfl, rfl⟩ (eR47_0) (eR47_4) (eR47_5)) (cmpVr_any xh50 y wS) (by rintro _ w2 ⟨rfl, g⟩; exact ⟨_, rfl, g, rfl⟩) rfl)
  have bt := bq.snoc (n' := 8) rfl (fun vJ _ => vJ = .bool (decide ((cmpV xh50.d y.d) < 0))) rfl (fun _ _ _ _ h => h) (fun aS wS pS => by
    have eR47_6 : aS.eval (.tmp 30) = .int .i64 (cmpV xh50.d y.d) := pS.pre 6 rfl
    exact Does.val (wn _ rfl) (o_ltI (eR47_6) ev_const) (Gr.refl _) rfl rfl)
  refine bt.run (k := 0) (L := #[true, true, true, true, true, true, true, true]) (by kernel_rfl) (by kernel_rfl) (by kernel_rfl) A.ok (by kernel_rfl) (by kernel_rfl) (fun ap53 dc u => ?_)
  have aI := gr_drew u.gr
  have aJ := GI20.trans aI
  have aK := kb3I20.gr aI
  refine wpAny_done (by kernel_rfl) ?_ _
  refine th_n (bd _ _ ?_)
  have ep53_7 : ap53.eval (.tmp 31) = .bool (decide ((cmpV xh50.d y.d) < 0)) := u.js 7 rfl
  by_cases ac : (cmpV xh50.d y.d) < 0
  ·refine wp_cond_true ((ep53_7).trans (congrArg Value.bool (decide_eq_true ac))) ?_
   refine wp_region_lit (sw u.ok (o_mv ((u.old 11 rfl).trans A.at_)) (fun dd J => ?_))
   refine sw J.ok (o_add (r := ((((i + j) / 2) + 1 : Nat) : Int)) J.at_ ev_const (by omega) (by omega)) (fun df O => ?_)
   refine sw O.ok (o_as O.at_) (fun dg S => ?_)
   refine wpList_nil (ib_n ?_)
   have bu := S.n (O.n (J.n ((u.old 0 rfl).trans an)))
   have bv := S.n (O.n (J.n ((u.old 2 rfl).trans am)))
   have bx := S.n (O.n (J.n ((u.old 4 rfl).trans ap)))
   have bz := S.n (O.n (J.n ((u.old 6 rfl).trans (A.n (G.n (F.n (E.n (D.n (B.n (C.n (a.n (o.n (l.n aC)))))))))))))
   have bA := S.n (O.n (J.n ((u.old 7 rfl).trans (A.n (G.n (F.n (E.n (D.n (B.n (C.n (a.n (o.n (l.n aD)))))))))))))
   have bB := S.n (O.n (J.n ((u.old 8 rfl).trans (A.n (G.n (F.n (E.n (D.n (B.n (C.n (a.n (o.n (l.n ag)))))))))))))
   have bC := S.n (O.n (J.n ((u.old 10 rfl).trans (A.n (G.n (F.n (E.n (D.n (B.n aH)))))))))
   exact th_n (hKI20 _ _ _ (by omega) ⟨(i + j) / 2 + 1, j, rfl, S.ok, aJ, bu, bv, bx, bz, bA, bB, S.at_, bC, aK, by omega, by omega, fun k x hk hx => by
     rcases Nat.lt_or_ge k ((i + j) / 2) with r | r
     ·exact hS k _ x _ (Nat.le_of_lt r) hx ai ac
     ·obtain rfl : k = (i + j) / 2 := by omega
      rw [ai] at hx
      cases hx
      exact ac, by omega⟩)
  ·refine wp_cond_false ((ep53_7).trans (congrArg Value.bool (decide_eq_false ac))) ?_
   refine wp_region_lit (sw u.ok (o_mv ((u.old 11 rfl).trans A.at_)) (fun dh T => ?_))
   refine sw T.ok (o_as T.at_) (fun di U => ?_)
   refine wpList_nil (ib_n ?_)
   have bD := U.n (T.n ((u.old 0 rfl).trans an))
   have bE := U.n (T.n ((u.old 2 rfl).trans am))
   have bF := U.n (T.n ((u.old 4 rfl).trans ap))
   have bG := U.n (T.n ((u.old 6 rfl).trans (A.n (G.n (F.n (E.n (D.n (B.n (C.n (a.n (o.n (l.n aC))))))))))))
   have bH := U.n (T.n ((u.old 7 rfl).trans (A.n (G.n (F.n (E.n (D.n (B.n (C.n (a.n (o.n (l.n aD))))))))))))
   have bI := U.n (T.n ((u.old 8 rfl).trans (A.n (G.n (F.n (E.n (D.n (B.n (C.n (a.n (o.n (l.n ag))))))))))))
   have bJ := U.n (T.n ((u.old 9 rfl).trans (A.n (G.n (F.n (E.n (D.n (B.n (C.n aG)))))))))
   exact th_n (hKI20 _ _ _ (by omega) ⟨i, (i + j) / 2, rfl, U.ok, aJ, bD, bE, bF, bG, bH, bI, bJ, U.at_, aK, by omega, by omega, by omega, fun k x hk hx => by
     rcases Int.lt_or_le (cmpV x.d y.d) 0 with r | r
     ·exact absurd (hS _ k _ x hk ai hx r) ac
     ·exact r⟩)
 ·refine wp_cond_false ((a.at_).trans (congrArg Value.bool (decide_eq_false aF))) ?_
  refine wp_exit (th_x (th_x (ib_x (th_n (a2 _ _ (wp_seq_k (fun dj aM => ?_)))))))
  rcases Nat.lt_or_ge i K.length with hi0 | hi0
  ·have hi1 := hi0
   refine reg_start (N := 49) (m := 16) (by kernel_rfl) (fun bK => ?_)
   have aq := a.n (o.n (l.n ah))
   have bL := bK.snoc (n' := 1) rfl (fun vJ _ => vJ = .int .i64 (i : Int)) rfl (fun _ _ _ _ h => h) (fun aS wS pS => by
     exact Does.val (wn _ rfl) (o_mv ((pS.old 9 rfl).trans aq)) (Gr.refl _) rfl rfl)
   have bM := bL.snoc (n' := 2) rfl (fun vJ _ => vJ = .int .i64 (i : Int)) rfl (fun _ _ _ _ h => h) (fun aS wS pS => by
     exact Does.val (wn _ rfl) (o_mv ((pS.old 9 rfl).trans aq)) (Gr.refl _) rfl rfl)
   have bO := a.n (o.n (l.n ag))
   have bS := bM.snoc (n' := 3) rfl (fun vJ _ => vJ = .int .i64 ((K.length : Nat) : Int)) rfl (fun _ _ _ _ h => h) (fun aS wS pS => by
     exact Does.val (wn _ rfl) (o_mv ((pS.old 8 rfl).trans bO)) (Gr.refl _) rfl rfl)
   have bT := bS.snoc (n' := 4) rfl (fun vJ _ => vJ = .bool true) rfl (fun _ _ _ _ h => h) (fun aS wS pS => by
     have eR79_1 : aS.eval (.tmp 36) = .int .i64 (i : Int) := pS.pre 1 rfl
     have eR79_2 : aS.eval (.tmp 37) = .int .i64 ((K.length : Nat) : Int) := pS.pre 2 rfl
     exact Does.val (wn _ rfl) (o_lss (eR79_1) (eR79_2) (decide_eq_true (show (i : Int) < ((K.length : Nat) : Int) by omega))) (Gr.refl _) rfl rfl)
   have bU := bT.snoc (n' := 5) rfl (fun vJ _ => vJ = .bool true) rfl (fun _ _ _ _ h => h) (fun aS wS pS => by
     have eR79_3 : aS.eval (.tmp 38) = .bool true := pS.pre 3 rfl
     exact Does.val (wn _ rfl) (o_mv (eR79_3)) (Gr.refl _) rfl rfl)
   have bV := a.n (o.n (l.n aA))
   have bW := bU.snoc (n' := 6) rfl (fun vJ _ => vJ = .func (.func 136) #[] #[]) rfl (fun _ _ _ _ h => h) (fun aS wS pS => by
     have eR79_4 : aS.eval (.tmp 39) = .bool true := pS.pre 4 rfl
     exact Does.val (wgT rfl (yl 4 true rfl eR79_4) rfl) (o_mv ((pS.old 2 rfl).trans bV)) (Gr.refl _) rfl rfl)
   have bX := a.n (o.n (l.n az))
   have bY := bW.snoc (n' := 7) rfl (fun vJ _ => vJ = .slice va K.length vc) rfl (fun _ _ _ _ h => h) (fun aS wS pS => by
     have eR79_4 : aS.eval (.tmp 39) = .bool true := pS.pre 4 rfl
     exact Does.val (wgT rfl (yl 4 true rfl eR79_4) rfl) (o_mv ((pS.old 0 rfl).trans bX)) (Gr.refl _) rfl rfl)
   have bZ := bY.snoc (n' := 8) rfl (fun vJ _ => vJ = .int .i64 (i : Int)) rfl (fun _ _ _ _ h => h) (fun aS wS pS => by
     have eR79_4 : aS.eval (.tmp 39) = .bool true := pS.pre 4 rfl
     exact Does.val (wgT rfl (yl 4 true rfl eR79_4) rfl) (o_mv ((pS.old 9 rfl).trans aq)) (Gr.refl _) rfl rfl)
   have ar : i < List.length K := by omega
   obtain ⟨bh84, fh84, b0, b1, b2⟩ := hv (ne_nil_of_lt ar)
   obtain ⟨xh84, au⟩ : ∃ x, (K)[i]? = some x := ⟨_, List.getElem?_eq_getElem ar⟩
   have b4 := bZ.snoc (n' := 9) rfl (fun vJ _ => vJ = .pointer (some ⟨bh84, fh84 + i * 8, none⟩)) rfl (fun _ _ _ _ h => h) (fun aS wS pS => by
     have eR79_4 : aS.eval (.tmp 39) = .bool true := pS.pre 4 rfl
     have eR79_6 : aS.eval (.tmp 41) = .slice va K.length vc := pS.pre 6 rfl
     have eR79_7 : aS.eval (.tmp 42) = .int .i64 (i : Int) := pS.pre 7 rfl
     exact Does.val (wgT rfl (yl 4 true rfl eR79_4) rfl) (o_iaV (i := i) (s := 8) b0 (eR79_6) (eR79_7) Tryz.underlying41 (by kernel_rfl) ar) (Gr.refl _) rfl rfl)
   have b5 := b4.snoc (n' := 10) rfl (fun vJ _ => vJ = .agg #[.string (bs xh84.d.id), .int .i64 (xh84.d.s), .int .i64 (xh84.d.c), .int .i64 (xh84.d.t), .int .i64 (xh84.d.n), .int .i64 (xh84.d.b), .slice xh84.va xh84.d.V.length xh84.vc, .slice xh84.ma xh84.d.M.length xh84.mc]) rfl (fun _ _ _ _ h => h) (fun aS wS pS => by
     have eR79_4 : aS.eval (.tmp 39) = .bool true := pS.pre 4 rfl
     have eR79_8 : aS.eval (.tmp 43) = .pointer (some ⟨bh84, fh84 + i * 8, none⟩) := pS.pre 8 rfl
     exact Does.val (wgT rfl (yl 4 true rfl eR79_4) rfl) (o_ldA (k := fh84 + i * 8) (eR79_8) (cs := [.string (bs xh84.d.id), .int .i64 (xh84.d.s), .int .i64 (xh84.d.c), .int .i64 (xh84.d.t), .int .i64 (xh84.d.n), .int .i64 (xh84.d.b), .slice xh84.va xh84.d.V.length xh84.vc, .slice xh84.ma xh84.d.M.length xh84.mc]) (fun j v hv => (Below.cell (GI20.trans (gr_drew pS.gr)) b1).trans (b2 _ _ au j v hv)) Tryz.underlying106 rfl (by kernel_rfl)) (Gr.refl _) rfl rfl)
   have b6 := a.n (o.n (l.n aB))
   have b7 := b5.snoc (n' := 11) rfl (fun vJ _ => vJ = .agg #[.string (bs y.d.id), .int .i64 (y.d.s), .int .i64 (y.d.c), .int .i64 (y.d.t), .int .i64 (y.d.n), .int .i64 (y.d.b), .slice y.va y.d.V.length y.vc, .slice y.ma y.d.M.length y.mc]) rfl (fun _ _ _ _ h => h) (fun aS wS pS => by
     have eR79_4 : aS.eval (.tmp 39) = .bool true := pS.pre 4 rfl
     exact Does.val (wgT rfl (yl 4 true rfl eR79_4) rfl) (o_ldR ((pS.old 4 rfl).trans b6) (Bk.gr kb3I20 (gr_drew pS.gr)) Tryz.underlying106 rfl (by kernel_rfl)) (Gr.refl _) rfl rfl)
   have b8 := b7.snoc (n' := 12) rfl (fun vJ _ => vJ = .int .i64 (cmpV xh84.d y.d)) rfl (fun _ _ _ _ h => h) (fun aS wS pS => by
     have eR79_4 : aS.eval (.tmp 39) = .bool true := pS.pre 4 rfl
     have eR79_5 : aS.eval (.tmp 40) = .func (.func 136) #[] #[] := pS.pre 5 rfl
     have eR79_9 : aS.eval (.tmp 44) = .agg #[.string (bs xh84.d.id), .int .i64 (xh84.d.s), .int .i64 (xh84.d.c), .int .i64 (xh84.d.t), .int .i64 (xh84.d.n), .int .i64 (xh84.d.b), .slice xh84.va xh84.d.V.length xh84.vc, .slice xh84.ma xh84.d.M.length xh84.mc] := pS.pre 9 rfl
     have eR79_10 : aS.eval (.tmp 45) = .agg #[.string (bs y.d.id), .int .i64 (y.d.s), .int .i64 (y.d.c), .int .i64 (y.d.t), .int .i64 (y.d.n), .int .i64 (y.d.b), .slice y.va y.d.V.length y.vc, .slice y.ma y.d.M.length y.mc] := pS.pre 10 rfl
     exact Does.call (wgT rfl (yl 4 true rfl eR79_4) rfl) (o_fv2 (caps := []) ⟨_, Tryz.func136, rfl, rfl⟩ (eR79_5) (eR79_9) (eR79_10)) (cmpVr_any xh84 y wS) (by rintro _ w2 ⟨rfl, g⟩; exact ⟨_, rfl, g, rfl⟩) rfl)
   have b9 := b8.snoc (n' := 13) rfl (fun vJ _ => vJ = .bool (decide ((cmpV xh84.d y.d) = 0))) rfl (fun _ _ _ _ h => h) (fun aS wS pS => by
     have eR79_4 : aS.eval (.tmp 39) = .bool true := pS.pre 4 rfl
     have eR79_11 : aS.eval (.tmp 46) = .int .i64 (cmpV xh84.d y.d) := pS.pre 11 rfl
     exact Does.val (wgT rfl (yl 4 true rfl eR79_4) rfl) (o_eqI (eR79_11) ev_const) (Gr.refl _) rfl rfl)
   have ca := b9.snoc (n' := 14) rfl (fun vJ _ => vJ = .bool (decide ((cmpV xh84.d y.d) = 0))) rfl (fun _ _ _ _ h => h) (fun aS wS pS => by
     have eR79_4 : aS.eval (.tmp 39) = .bool true := pS.pre 4 rfl
     have eR79_12 : aS.eval (.tmp 47) = .bool (decide ((cmpV xh84.d y.d) = 0)) := pS.pre 12 rfl
     exact Does.val (wn _ rfl) (o_pkT (eR79_4) (eR79_12)) (Gr.refl _) rfl rfl)
   have cb := ca.snoc (n' := 15) rfl (fun vJ _ => vJ = .int .i64 (i : Int)) rfl (fun _ _ _ _ h => h) (fun aS wS pS => by
     have eR79_0 : aS.eval (.tmp 35) = .int .i64 (i : Int) := pS.pre 0 rfl
     exact Does.val (wn _ rfl) (o_as (eR79_0)) (Gr.refl _) rfl rfl)
   have cc := cb.snoc (n' := 16) rfl (fun vJ _ => vJ = .bool (decide ((cmpV xh84.d y.d) = 0))) rfl (fun _ _ _ _ h => h) (fun aS wS pS => by
     have eR79_13 : aS.eval (.tmp 48) = .bool (decide ((cmpV xh84.d y.d) = 0)) := pS.pre 13 rfl
     exact Does.val (wn _ rfl) (o_as (eR79_13)) (Gr.refl _) rfl rfl)
   refine cc.run (k := 0) (L := #[true, true, true, true, true, true, true, true, true, true, true, true, true, true, true, true]) (by kernel_rfl) (by kernel_rfl) (by kernel_rfl) a.ok (by kernel_rfl) (by kernel_rfl) (fun ap87 dk aj => ?_)
   have cd := gr_drew aj.gr
   have cf := GI20.trans cd
   refine wpAny_done (by kernel_rfl) ?_ _
   refine th_n (aM _ _ (wp_ret ?_))
   have ep87_14 : ap87.eval (.tmp 6) = .int .i64 (i : Int) := aj.js 14 rfl
   have ep87_15 : ap87.eval (.tmp 7) = .bool (decide ((cmpV xh84.d y.d) = 0)) := aj.js 15 rfl
   exact ret2 aj.ok rfl (ep87_14) (ep87_15) ⟨i, _, rfl, by omega, hloI20, fun k x hk hx => hhiI20 k x (by omega) hx, ⟨fun q => ⟨_, au, by simpa using q⟩, fun ⟨x, hx, q⟩ => by rw [au] at hx; cases hx; simpa using q⟩, cf⟩
  ·have hi1 := hi0
   refine reg_start (N := 49) (m := 16) (by kernel_rfl) (fun cg => ?_)
   have aO := a.n (o.n (l.n ah))
   have ch := cg.snoc (n' := 1) rfl (fun vJ _ => vJ = .int .i64 (i : Int)) rfl (fun _ _ _ _ h => h) (fun aS wS pS => by
     exact Does.val (wn _ rfl) (o_mv ((pS.old 9 rfl).trans aO)) (Gr.refl _) rfl rfl)
   have ci := ch.snoc (n' := 2) rfl (fun vJ _ => vJ = .int .i64 (i : Int)) rfl (fun _ _ _ _ h => h) (fun aS wS pS => by
     exact Does.val (wn _ rfl) (o_mv ((pS.old 9 rfl).trans aO)) (Gr.refl _) rfl rfl)
   have cj := a.n (o.n (l.n ag))
   have ck := ci.snoc (n' := 3) rfl (fun vJ _ => vJ = .int .i64 ((K.length : Nat) : Int)) rfl (fun _ _ _ _ h => h) (fun aS wS pS => by
     exact Does.val (wn _ rfl) (o_mv ((pS.old 8 rfl).trans cj)) (Gr.refl _) rfl rfl)
   have cl := ck.snoc (n' := 4) rfl (fun vJ _ => vJ = .bool false) rfl (fun _ _ _ _ h => h) (fun aS wS pS => by
     have eR92_1 : aS.eval (.tmp 36) = .int .i64 (i : Int) := pS.pre 1 rfl
     have eR92_2 : aS.eval (.tmp 37) = .int .i64 ((K.length : Nat) : Int) := pS.pre 2 rfl
     exact Does.val (wn _ rfl) (o_lss (eR92_1) (eR92_2) (decide_eq_false (show ¬ (i : Int) < ((K.length : Nat) : Int) by omega))) (Gr.refl _) rfl rfl)
   have cm := cl.snoc (n' := 5) rfl (fun vJ _ => vJ = .bool false) rfl (fun _ _ _ _ h => h) (fun aS wS pS => by
     have eR92_3 : aS.eval (.tmp 38) = .bool false := pS.pre 3 rfl
     exact Does.val (wn _ rfl) (o_mv (eR92_3)) (Gr.refl _) rfl rfl)
   have cn := cm.snoc (n' := 6) rfl (fun vJ _ => vJ = undef) rfl (fun _ _ _ _ h => h) (fun aS wS pS => by
     have eR92_4 : aS.eval (.tmp 39) = .bool false := pS.pre 4 rfl
     exact Does.not (wgF rfl (yl 4 false rfl eR92_4) rfl) rfl rfl)
   have co := cn.snoc (n' := 7) rfl (fun vJ _ => vJ = undef) rfl (fun _ _ _ _ h => h) (fun aS wS pS => by
     have eR92_4 : aS.eval (.tmp 39) = .bool false := pS.pre 4 rfl
     exact Does.not (wgF rfl (yl 4 false rfl eR92_4) rfl) rfl rfl)
   have cp := co.snoc (n' := 8) rfl (fun vJ _ => vJ = undef) rfl (fun _ _ _ _ h => h) (fun aS wS pS => by
     have eR92_4 : aS.eval (.tmp 39) = .bool false := pS.pre 4 rfl
     exact Does.not (wgF rfl (yl 4 false rfl eR92_4) rfl) rfl rfl)
   have cq := cp.snoc (n' := 9) rfl (fun vJ _ => vJ = undef) rfl (fun _ _ _ _ h => h) (fun aS wS pS => by
     have eR92_4 : aS.eval (.tmp 39) = .bool false := pS.pre 4 rfl
     exact Does.not (wgF rfl (yl 4 false rfl eR92_4) rfl) rfl rfl)
   have cr := cq.snoc (n' := 10) rfl (fun vJ _ => vJ = undef) rfl (fun _ _ _ _ h => h) (fun aS wS pS => by
     have eR92_4 : aS.eval (.tmp 39) = .bool false := pS.pre 4 rfl
     exact Does.not (wgF rfl (yl 4 false rfl eR92_4) rfl) rfl rfl)
   have ct := cr.snoc (n' := 11) rfl (fun vJ _ => vJ = undef) rfl (fun _ _ _ _ h => h) (fun aS wS pS => by
     have eR92_4 : aS.eval (.tmp 39) = .bool false := pS.pre 4 rfl
     exact Does.not (wgF rfl (yl 4 false rfl eR92_4) rfl) rfl rfl)
   have cu := ct.snoc (n' := 12) rfl (fun vJ _ => vJ = undef) rfl (fun _ _ _ _ h => h) (fun aS wS pS => by
     have eR92_4 : aS.eval (.tmp 39) = .bool false := pS.pre 4 rfl
     exact Does.not (wgF rfl (yl 4 false rfl eR92_4) rfl) rfl rfl)
   have cx := cu.snoc (n' := 13) rfl (fun vJ _ => vJ = undef) rfl (fun _ _ _ _ h => h) (fun aS wS pS => by
     have eR92_4 : aS.eval (.tmp 39) = .bool false := pS.pre 4 rfl
     exact Does.not (wgF rfl (yl 4 false rfl eR92_4) rfl) rfl rfl)
   have cy := cx.snoc (n' := 14) rfl (fun vJ _ => vJ = .bool false) rfl (fun _ _ _ _ h => h) (fun aS wS pS => by
     have eR92_4 : aS.eval (.tmp 39) = .bool false := pS.pre 4 rfl
     exact Does.val (wn _ rfl) (o_pkF (eR92_4) ev_const) (Gr.refl _) rfl rfl)
   have cz := cy.snoc (n' := 15) rfl (fun vJ _ => vJ = .int .i64 (i : Int)) rfl (fun _ _ _ _ h => h) (fun aS wS pS => by
     have eR92_0 : aS.eval (.tmp 35) = .int .i64 (i : Int) := pS.pre 0 rfl
     exact Does.val (wn _ rfl) (o_as (eR92_0)) (Gr.refl _) rfl rfl)
   have cA := cz.snoc (n' := 16) rfl (fun vJ _ => vJ = .bool false) rfl (fun _ _ _ _ h => h) (fun aS wS pS => by
     have eR92_13 : aS.eval (.tmp 48) = .bool false := pS.pre 13 rfl
     exact Does.val (wn _ rfl) (o_as (eR92_13)) (Gr.refl _) rfl rfl)
   refine cA.run (k := 0) (L := #[true, true, true, true, true, true, true, true, true, true, true, true, true, true, true, true]) (by kernel_rfl) (by kernel_rfl) (by kernel_rfl) a.ok (by kernel_rfl) (by kernel_rfl) (fun ap96 dl ak => ?_)
   have cB := gr_drew ak.gr
   have cC := GI20.trans cB
   refine wpAny_done (by kernel_rfl) ?_ _
   refine th_n (aM _ _ (wp_ret ?_))
   have ep96_14 : ap96.eval (.tmp 6) = .int .i64 (i : Int) := ak.js 14 rfl
   have ep96_15 : ap96.eval (.tmp 7) = .bool false := ak.js 15 rfl
   exact ret2 ak.ok rfl (ep96_14) (ep96_15) ⟨i, _, rfl, by omega, hloI20, fun k x hk hx => hhiI20 k x (by omega) hx, ⟨fun q => (by cases q), fun ⟨x, hx, q⟩ => by have := (List.getElem?_eq_some_iff.1 hx).1; omega⟩, cC⟩
theorem insert_none (y : VerI) (b1 base : Nat) (w0 w : World) (hG : Gr w0 w) (hB : w0.heap.size ≤ base) (hz : base ≤ w.heap.size) (ho : w.ownsRow base 106 8 (.slice none 0 0) 0 (flatE encVr [])) (hb : Bk w b1 #[.string (bs y.d.id), .int .i64 (y.d.s), .int .i64 (y.d.c), .int .i64 (y.d.t), .int .i64 (y.d.n), .int .i64 (y.d.b), .slice y.va y.d.V.length y.vc, .slice y.ma y.d.M.length y.mc] 106) (holt : ∀ k, Value.ownBlock (.slice none 0 0) = some k → k < b1) :
  Calls Tryz.prog 141 #[.slice none 0 0, .int .i64 0, .slice (some ⟨b1, 0, none⟩) 1 1] w fun e w' => ∃ u, e = .returned u ∧ w'.ownsRow base 106 8 u 1 (flatE encVr [y]) ∧ w.grownBy w' none := by
 refine enter (N := 95) Tryz.func141 rfl rfl rfl (fun J ok0 G => ?_)
 have O : J.eval (.tmp 0) = .slice none 0 0 := G 0 _ rfl
 have S : J.eval (.tmp 1) = .int .i64 0 := G 1 _ rfl
 have Z : J.eval (.tmp 2) = .slice (some ⟨b1, 0, none⟩) 1 1 := G 2 _ rfl
 clear G
 refine wp_seq_k (fun K1 aa => (wp_region_lit (sw ok0 (o_as ev_const) (fun az a => ?_))))
 refine wpList_nil (th_n (aa _ _ (wp_seq_k (fun K3 ab => (wp_region_lit (sw a.ok (o_mv (a.n O)) (fun aB g => ?_)))))))
 refine sw g.ok (o_mv (g.n (a.n S))) (fun aC l => ?_)
 refine sw l.ok (o_cut0 (s := 8) (l.n g.at_) l.at_ Tryz.underlying41 (by kernel_rfl)) (fun aD H => ?_)
 refine wpList_nil (th_n (ab _ _ (wp_seq_k (fun K7 ac => (wp_region_lit ?_)))))
 have T := H.n (l.n (g.n (a.n Z)))
 refine sw H.ok (o_mv T) (fun aF o => ?_)
 refine sw o.ok (o_len o.at_ Tryz.underlying41) (fun aG q => ?_)
 refine sw q.ok (o_as q.at_) (fun aH r => ?_)
 refine wpList_nil (th_n (ac _ _ (wp_seq_k (fun aI ad => (wp_seq_k (fun aJ af => (wp_region_lit (sw r.ok (o_mv r.at_) (fun aK z => ?_)))))))))
 refine sw z.ok (o_eq (b := false) z.at_ ev_const (by decide)) (fun aL A => ?_)
 refine wpList_nil (th_n (af _ _ (wp_cond_false (A.at_) ?_)))
 refine wp_skip (th_n (ad _ _ (wp_seq_k (fun aM ag => (wp_region_lit ?_)))))
 have U := A.n (z.n (r.n (q.n (o.n (H.n (l.n (g.n (a.n O))))))))
 refine sw A.ok (o_mv U) (fun aO B => ?_)
 refine sw B.ok (o_len B.at_ Tryz.underlying41) (fun aS C => ?_)
 refine sw C.ok (o_as C.at_) (fun aT D => ?_)
 refine wpList_nil (th_n (ag _ _ (wp_seq_k (fun aU aV => (wp_seq_k (fun aW ah => (wp_region_lit ?_)))))))
 have ai := D.n (C.n (B.n (A.n (z.n (r.n (q.n (o.n (H.n (l.n (g.n (a.n S)))))))))))
 refine sw D.ok (o_mv ai) (fun aX E => ?_)
 refine sw E.ok (o_mv (E.n D.at_)) (fun aY F => ?_)
 refine sw F.ok (o_eq (b := true) (F.n E.at_) F.at_ (by decide)) (fun aZ I => ?_)
 refine wpList_nil (th_n (ah _ _ (wp_cond_true (I.at_) ?_)))
 refine wp_seq_k (fun a1 aj => (wp_region_lit ?_))
 have ak := I.n (F.n (E.n (D.n (C.n (B.n U)))))
 refine sw I.ok (o_mv ak) (fun a2 K => ?_)
 have al := K.n (I.n (F.n (E.n (D.n (C.n (B.n (A.n (z.n (r.n (q.n (o.n T)))))))))))
 refine sw K.ok (o_mv al) (fun a3 L => ?_)
 obtain ⟨a4, am, an, ao, ap⟩ := info_of (show (Tryz.prog.info? 106).map (fun i => (i.zero, i.size, i.bytes)) = some (some (.agg #[.string (bs []), .int .i64 0, .int .i64 0, .int .i64 0, .int .i64 0, .int .i64 0, .slice none 0 0, .slice none 0 0]), 8, 104) by kernel_rfl)
 refine s_app (base := base) (n := 0) (xs := (flatE encVr [])) (m := 1) (news := encVr y) L.ok (wn _ rfl) rfl Tryz.underlying41 am an ao ap rfl (by omega) (L.n K.at_) ho L.at_ rfl ((fun j u hu => by rw [add_n]; exact bk_part hb (k := 0) rfl j u hu)) (encVr_ok.one y) (by simp only [maxLen]; omega) (by omega) hz (fun a6 aq a7 W gg39 X => ?_)
 obtain ⟨ar, au, rfl, a8⟩ := ow_form W
 have av := gb_gb (gb_self : w.grownBy w none) gg39
 have ax : aq.ownsRow base 106 8 (.slice ar (1) au) (1) ((flatE encVr [y])) := by have h := W; rw [← flatE_one (enc := encVr) y, ← flatE_app] at h; exact h
 refine sw X.ok (o_as X.at_) (fun a9 Y => ?_)
 refine wpList_nil (th_n (aj _ _ (wp_ret (th_r (ret1 Y.ok rfl (Y.at_) ⟨_, rfl, ax, av⟩)))))
theorem insert_end (K : List VerI) (y : VerI) (g c b1 base i : Nat) (hl : K.length ≤ 900) (hin : i = K.length) (w0 w : World) (hG : Gr w0 w) (hB : w0.heap.size ≤ base) (hz : base ≤ w.heap.size) (ho : w.ownsRow base 106 8 (.slice (some ⟨g, 0, none⟩) K.length c) K.length (flatE encVr K)) (hb : Bk w b1 #[.string (bs y.d.id), .int .i64 (y.d.s), .int .i64 (y.d.c), .int .i64 (y.d.t), .int .i64 (y.d.n), .int .i64 (y.d.b), .slice y.va y.d.V.length y.vc, .slice y.ma y.d.M.length y.mc] 106) (holt : ∀ k, Value.ownBlock (.slice (some ⟨g, 0, none⟩) K.length c) = some k → k < b1) :
  Calls Tryz.prog 141 #[.slice (some ⟨g, 0, none⟩) K.length c, .int .i64 (i : Int), .slice (some ⟨b1, 0, none⟩) 1 1] w fun e w' => ∃ u, e = .returned u ∧ w'.ownsRow base 106 8 u (K.length + 1) (flatE encVr (K.take i ++ y :: K.drop i)) ∧ w.grownBy w' (some g) := by
 refine enter (N := 95) Tryz.func141 rfl rfl rfl (fun L ok0 H => ?_)
 have T : L.eval (.tmp 0) = .slice (some ⟨g, 0, none⟩) K.length c := H 0 _ rfl
 have U : L.eval (.tmp 1) = .int .i64 (i : Int) := H 1 _ rfl
 have ab : L.eval (.tmp 2) = .slice (some ⟨b1, 0, none⟩) 1 1 := H 2 _ rfl
 clear H
 have hcap := ow_cap ho
 refine wp_seq_k (fun K1 ac => (wp_region_lit (sw ok0 (o_as ev_const) (fun aB a => ?_))))
 refine wpList_nil (th_n (ac _ _ (wp_seq_k (fun K3 ad => (wp_region_lit (sw a.ok (o_mv (a.n T)) (fun aD l => ?_)))))))
 refine sw l.ok (o_mv (l.n (a.n U))) (fun aE o => ?_)
 refine sw o.ok (o_cutL (k := i) (s := 8) (o.n l.at_) o.at_ Tryz.underlying41 (by kernel_rfl) (by omega) (by omega)) (fun aF I => ?_)
 refine wpList_nil (th_n (ad _ _ (wp_seq_k (fun K7 af => (wp_region_lit ?_)))))
 have W := I.n (o.n (l.n (a.n ab)))
 refine sw I.ok (o_mv W) (fun aH q => ?_)
 refine sw q.ok (o_len q.at_ Tryz.underlying41) (fun aI r => ?_)
 refine sw r.ok (o_as r.at_) (fun aJ z => ?_)
 refine wpList_nil (th_n (af _ _ (wp_seq_k (fun aK ag => (wp_seq_k (fun aL ah => (wp_region_lit (sw z.ok (o_mv z.at_) (fun aM A => ?_)))))))))
 refine sw A.ok (o_eq (b := false) A.at_ ev_const (by decide)) (fun aO B => ?_)
 refine wpList_nil (th_n (ah _ _ (wp_cond_false (B.at_) ?_)))
 refine wp_skip (th_n (ag _ _ (wp_seq_k (fun aS ai => (wp_region_lit ?_)))))
 have X := B.n (A.n (z.n (r.n (q.n (I.n (o.n (l.n (a.n T))))))))
 refine sw B.ok (o_mv X) (fun aT C => ?_)
 refine sw C.ok (o_len C.at_ Tryz.underlying41) (fun aU D => ?_)
 refine sw D.ok (o_as D.at_) (fun aV E => ?_)
 refine wpList_nil (th_n (ai _ _ (wp_seq_k (fun aW aX => (wp_seq_k (fun aY aj => (wp_region_lit ?_)))))))
 have ak := E.n (D.n (C.n (B.n (A.n (z.n (r.n (q.n (I.n (o.n (l.n (a.n U)))))))))))
 refine sw E.ok (o_mv ak) (fun aZ F => ?_)
 refine sw F.ok (o_mv (F.n E.at_)) (fun a1 G => ?_)
 refine sw G.ok (o_eqI (G.n F.at_) G.at_) (fun a2 J => ?_)
 refine wpList_nil (th_n (aj _ _ (wp_cond_true ((J.at_).trans (congrArg Value.bool (decide_eq_true (by omega)))) ?_)))
 refine wp_seq_k (fun a3 al => (wp_region_lit ?_))
 have am := J.n (G.n (F.n (E.n (D.n (C.n X)))))
 refine sw J.ok (o_mv am) (fun a4 O => ?_)
 have an := O.n (J.n (G.n (F.n (E.n (D.n (C.n (B.n (A.n (z.n (r.n (q.n W)))))))))))
 refine sw O.ok (o_mv an) (fun a6 S => ?_)
 obtain ⟨a7, ao, ap, aq, ar⟩ := info_of (show (Tryz.prog.info? 106).map (fun i => (i.zero, i.size, i.bytes)) = some (some (.agg #[.string (bs []), .int .i64 0, .int .i64 0, .int .i64 0, .int .i64 0, .int .i64 0, .slice none 0 0, .slice none 0 0]), 8, 104) by kernel_rfl)
 refine s_app (base := base) (n := K.length) (xs := (flatE encVr K)) (m := 1) (news := encVr y) S.ok (wn _ rfl) rfl Tryz.underlying41 ao ap aq ar rfl (by omega) (S.n O.at_) ho S.at_ rfl ((fun j u hu => by rw [add_n]; exact bk_part hb (k := 0) rfl j u hu)) (encVr_ok.one y) (by simp only [maxLen]; omega) (by omega) hz (fun a8 au a9 Y gg40 Z => ?_)
 obtain ⟨av, ax, rfl, ba⟩ := ow_form Y
 have ay := gb_gb (gb_self : w.grownBy w (some g)) gg40
 have az : au.ownsRow base 106 8 (.slice av ((K.length + 1)) ax) ((K.length + 1)) ((flatE encVr (K ++ [y]))) := by have h := Y; rw [← flatE_one (enc := encVr) y, ← flatE_app] at h; exact h
 refine sw Z.ok (o_as Z.at_) (fun bb aa => ?_)
 refine wpList_nil (th_n (al _ _ (wp_ret (th_r (ret1 aa.ok rfl (aa.at_) ⟨_, rfl, by rw [hin, List.take_of_length_le (Nat.le_refl _), List.drop_eq_nil_of_le (Nat.le_refl _)]; exact az, ay⟩)))))
theorem insert_room (K : List VerI) (y : VerI) (g c b1 base i : Nat) (hl : K.length ≤ 900) (hin : i < K.length) (hroom : K.length + 1 ≤ c) (w0 w : World) (hG : Gr w0 w) (hB : w0.heap.size ≤ base) (hz : base ≤ w.heap.size) (ho : w.ownsRow base 106 8 (.slice (some ⟨g, 0, none⟩) K.length c) K.length (flatE encVr K)) (hb : Bk w b1 #[.string (bs y.d.id), .int .i64 (y.d.s), .int .i64 (y.d.c), .int .i64 (y.d.t), .int .i64 (y.d.n), .int .i64 (y.d.b), .slice y.va y.d.V.length y.vc, .slice y.ma y.d.M.length y.mc] 106) (holt : ∀ k, Value.ownBlock (.slice (some ⟨g, 0, none⟩) K.length c) = some k → k < b1) :
  Calls Tryz.prog 141 #[.slice (some ⟨g, 0, none⟩) K.length c, .int .i64 (i : Int), .slice (some ⟨b1, 0, none⟩) 1 1] w fun e w' => ∃ u, e = .returned u ∧ w'.ownsRow base 106 8 u (K.length + 1) (flatE encVr (K.take i ++ y :: K.drop i)) ∧ w.grownBy w' (some g) := by
 refine enter (N := 95) Tryz.func141 rfl rfl rfl (fun a0 ok0 h0 => ?_)
 have aC : a0.eval (.tmp 0) = .slice (some ⟨g, 0, none⟩) K.length c := h0 0 _ rfl
 have aD : a0.eval (.tmp 1) = .int .i64 (i : Int) := h0 1 _ rfl
 have aY : a0.eval (.tmp 2) = .slice (some ⟨b1, 0, none⟩) 1 1 := h0 2 _ rfl
 clear h0
 have hcap := ow_cap ho
 refine wp_seq_k (fun K1 aZ => (wp_region_lit (sw ok0 (o_as ev_const) (fun bK W => ?_))))
 refine wpList_nil (th_n (aZ _ _ (wp_seq_k (fun K3 a1 => (wp_region_lit (sw W.ok (o_mv (W.n aC)) (fun bM X => ?_)))))))
 refine sw X.ok (o_mv (X.n (W.n aD))) (fun bO Y => ?_)
 refine sw Y.ok (o_cutLt (k := i) (s := 8) (Y.n X.at_) Y.at_ Tryz.underlying41 (by kernel_rfl) (by omega) (by have := ow_cap ho; omega)) (fun bS n6 => ?_)
 refine wpList_nil (th_n (a1 _ _ (wp_seq_k (fun K7 a2 => (wp_region_lit ?_)))))
 have e8 := n6.n (Y.n (X.n (W.n aY)))
 refine sw n6.ok (o_mv e8) (fun bU n9 => ?_)
 refine sw n9.ok (o_len n9.at_ Tryz.underlying41) (fun bV am => ?_)
 refine sw am.ok (o_as am.at_) (fun bW Z => ?_)
 refine wpList_nil (th_n (a2 _ _ (wp_seq_k (fun bX a3 => (wp_seq_k (fun bY a4 => (wp_region_lit (sw Z.ok (o_mv Z.at_) (fun bZ aa => ?_)))))))))
 refine sw aa.ok (o_eq (b := false) aa.at_ ev_const (by decide)) (fun b0 ab => ?_)
 refine wpList_nil (th_n (a4 _ _ (wp_cond_false (ab.at_) ?_)))
 refine wp_skip (th_n (a3 _ _ (wp_seq_k (fun b2 a6 => (wp_region_lit ?_)))))
 have aF := ab.n (aa.n (Z.n (am.n (n9.n (n6.n (Y.n (X.n (W.n aC))))))))
 refine sw ab.ok (o_mv aF) (fun b3 ac => ?_)
 refine sw ac.ok (o_len ac.at_ Tryz.underlying41) (fun b4 ad => ?_)
 refine sw ad.ok (o_as ad.at_) (fun b5 E => ?_)
 refine wpList_nil (th_n (a6 _ _ (wp_seq_k (fun b6 a7 => (wp_seq_k (fun b7 a8 => (wp_region_lit ?_)))))))
 have aG := E.n (ad.n (ac.n (ab.n (aa.n (Z.n (am.n (n9.n (n6.n (Y.n (X.n (W.n aD)))))))))))
 refine sw E.ok (o_mv aG) (fun b8 l => ?_)
 refine sw l.ok (o_mv (l.n E.at_)) (fun b9 o => ?_)
 refine sw o.ok (o_eqI (o.n l.at_) o.at_) (fun ca F => ?_)
 refine wpList_nil (th_n (a8 _ _ (wp_cond_false ((F.at_).trans (congrArg Value.bool (decide_eq_false (by omega)))) ?_)))
 refine wp_skip (th_n (a7 _ _ (wp_seq_k (fun cb a9 => (wp_seq_k (fun cc ba => (wp_region_lit ?_)))))))
 have aH := F.n (o.n (l.n E.at_))
 refine sw F.ok (o_mv aH) (fun cd G => ?_)
 have aI := G.n (F.n (o.n (l.n (E.n (ad.n (ac.n (ab.n (aa.n Z.at_))))))))
 refine sw G.ok (o_mv aI) (fun cf q => ?_)
 refine sw q.ok (o_add (r := ((K.length + 1 : Nat) : Int)) (q.n G.at_) q.at_ (by omega) (by omega)) (fun cg H => ?_)
 have aJ := H.n (q.n (G.n (F.n (o.n (l.n (E.n (ad.n (ac.n aF))))))))
 refine sw H.ok (o_mv aJ) (fun ch z => ?_)
 refine sw z.ok (o_capS z.at_ Tryz.underlying41) (fun ci A => ?_)
 refine sw A.ok (o_gtI (A.n (z.n H.at_)) A.at_) (fun cj I => ?_)
 refine wpList_nil (th_n (ba _ _ (wp_cond_false ((I.at_).trans (congrArg Value.bool (decide_eq_false (by omega)))) ?_)))
 refine wp_skip (th_n (a9 _ _ (wp_seq_k (fun ck bb => (wp_region_lit ?_)))))
 have bc := I.n (A.n (z.n aJ))
 refine sw I.ok (o_mv bc) (fun cl af => ?_)
 have bd := af.n (I.n (A.n (z.n (H.n (q.n (G.n aH))))))
 refine sw af.ok (o_mv bd) (fun cm ag => ?_)
 have aK := ag.n (af.n (I.n (A.n (z.n (H.n (q.n aI))))))
 refine sw ag.ok (o_mv aK) (fun cn O => ?_)
 refine sw O.ok (o_add (r := ((K.length + 1 : Nat) : Int)) (O.n ag.at_) O.at_ (by omega) (by omega)) (fun co ah => ?_)
 have bf := ah.n (O.n (ag.n af.at_))
 refine sw ah.ok (o_cut (k := K.length + 1) (s := 8) bf ah.at_ Tryz.underlying41 (by kernel_rfl) (by omega)) (fun cp an => ?_)
 refine sw an.ok (o_as an.at_) (fun cq ai => ?_)
 refine wpList_nil (th_n (bb _ _ (wp_seq_k (fun cr ct => (wp_seq_k (fun cu bg => ?_))))))
 obtain ⟨J, hJ, OJ⟩ := ow_room ho (show K.length + 1 ≤ c by omega)
 refine wp_region_lit ?_
 have aL := ai.n (an.n (ah.n (O.n (ag.n (af.n (I.n (A.n (z.n (H.n (q.n (G.n (F.n (o.n (l.n (E.n (ad.n (ac.n (ab.n (aa.n (Z.n (am.n (n9.n e8))))))))))))))))))))))
 refine sw ai.ok (o_mv aL) (fun cx S => ?_)
 refine sw S.ok (o_mv (S.n ai.at_)) (fun cy T => ?_)
 have aM := T.n (S.n (ai.n (an.n (ah.n (O.n (ag.n (af.n (I.n (A.n (z.n (H.n (q.n (G.n (F.n (o.n (l.n aG))))))))))))))))
 refine sw T.ok (o_mv aM) (fun cz B => ?_)
 have aO := B.n (T.n (S.n (ai.n (an.n (ah.n (O.n aK))))))
 refine sw B.ok (o_mv aO) (fun cA a => ?_)
 refine sw a.ok (o_add (r := ((i + 1 : Nat) : Int)) (a.n B.at_) a.at_ (by omega) (by omega)) (fun cB C => ?_)
 have bh := C.n (a.n (B.n T.at_))
 refine sw C.ok (o_cutLt (k := i + 1) (s := 8) bh C.at_ Tryz.underlying41 (by kernel_rfl) (by omega) (by have := ow_cap OJ; omega)) (fun cC U => ?_)
 obtain ⟨cur, hcur, hcz⟩ := ow_block OJ (by omega) (by omega)
 have bi := U.n (C.n (a.n (B.n (T.n S.at_))))
 refine sw U.ok (o_ext (vs := #[.slice (some ⟨b1, 0, none⟩) 1 1, .slice (some ⟨g, 0 + (i + 1) * 8, none⟩) (K.length + 1 - (i + 1)) (c - (i + 1))]) (ov_false _ _ _ _ _ _ _ _ _ _ _ _ _ hb hcur (fun e => Nat.lt_irrefl _ (by have h := holt g rfl; rw [e] at h; exact h)) hcz) ev_func (by simp [bi, U.at_])) (fun cD aj => ?_)
 refine sw aj.ok (o_not aj.at_ rfl) (fun cE ak => ?_)
 refine wpList_nil (th_n (bg _ _ (wp_cond_true (ak.at_) ?_)))
 refine wp_seq_k (fun cF bj => (reg_start (N := 95) (m := 8) (by kernel_rfl) (fun bl => ?_)))
 have av := ak.n (aj.n (U.n (C.n (a.n (B.n (T.n (S.n ai.at_)))))))
 have bm := bl.snoc (n' := 1) rfl (fun vJ _ => vJ = .slice (some ⟨g, 0, none⟩) (K.length + 1) c) rfl (fun _ _ _ _ h => h) (fun aS wS pS => by
   exact Does.val (wn _ rfl) (o_mv ((pS.old 0 rfl).trans av)) (Gr.refl _) rfl rfl)
 have aA := ak.n (aj.n (U.n (C.n (a.n (B.n aM)))))
 have bn := bm.snoc (n' := 2) rfl (fun vJ _ => vJ = .int .i64 (i : Int)) rfl (fun _ _ _ _ h => h) (fun aS wS pS => by
   exact Does.val (wn _ rfl) (o_mv ((pS.old 1 rfl).trans aA)) (Gr.refl _) rfl rfl)
 have bo := ak.n (aj.n (U.n (C.n (a.n aO))))
 have bp := bn.snoc (n' := 3) rfl (fun vJ _ => vJ = .int .i64 1) rfl (fun _ _ _ _ h => h) (fun aS wS pS => by
   exact Does.val (wn _ rfl) (o_mv ((pS.old 7 rfl).trans bo)) (Gr.refl _) rfl rfl)
 have bq := bp.snoc (n' := 4) rfl (fun vJ _ => vJ = .int .i64 ((i + 1 : Nat) : Int)) rfl (fun _ _ _ _ h => h) (fun aS wS pS => by
   have eR67_1 : aS.eval (.tmp 70) = .int .i64 (i : Int) := pS.pre 1 rfl
   have eR67_2 : aS.eval (.tmp 71) = .int .i64 1 := pS.pre 2 rfl
   exact Does.val (wn _ rfl) (o_add (r := ((i + 1 : Nat) : Int)) (eR67_1) (eR67_2) (by omega) (by omega)) (Gr.refl _) rfl rfl)
 have br := bq.snoc (n' := 5) rfl (fun vJ _ => vJ = .slice (some ⟨g, 0 + (i + 1) * 8, none⟩) (K.length + 1 - (i + 1)) (c - (i + 1))) rfl (fun _ _ _ _ h => h) (fun aS wS pS => by
   have eR67_0 : aS.eval (.tmp 69) = .slice (some ⟨g, 0, none⟩) (K.length + 1) c := pS.pre 0 rfl
   have eR67_3 : aS.eval (.tmp 72) = .int .i64 ((i + 1 : Nat) : Int) := pS.pre 3 rfl
   exact Does.val (wn _ rfl) (o_cutLt (k := i + 1) (s := 8) (eR67_0) (eR67_3) Tryz.underlying41 (by kernel_rfl) (by omega) (by have := ow_cap OJ; omega)) (Gr.refl _) rfl rfl)
 have bt := br.snoc (n' := 6) rfl (fun vJ _ => vJ = .slice (some ⟨g, 0, none⟩) (K.length + 1) c) rfl (fun _ _ _ _ h => h) (fun aS wS pS => by
   exact Does.val (wn _ rfl) (o_mv ((pS.old 0 rfl).trans av)) (Gr.refl _) rfl rfl)
 have bu := bt.snoc (n' := 7) rfl (fun vJ _ => vJ = .int .i64 (i : Int)) rfl (fun _ _ _ _ h => h) (fun aS wS pS => by
   exact Does.val (wn _ rfl) (o_mv ((pS.old 1 rfl).trans aA)) (Gr.refl _) rfl rfl)
 have bv := bu.snoc (n' := 8) rfl (fun vJ _ => vJ = .slice (some ⟨g, 0 + i * 8, none⟩) (K.length + 1 - i) (c - i)) rfl (fun _ _ _ _ h => h) (fun aS wS pS => by
   have eR67_5 : aS.eval (.tmp 74) = .slice (some ⟨g, 0, none⟩) (K.length + 1) c := pS.pre 5 rfl
   have eR67_6 : aS.eval (.tmp 75) = .int .i64 (i : Int) := pS.pre 6 rfl
   exact Does.val (wn _ rfl) (o_cutLt (k := i) (s := 8) (eR67_5) (eR67_6) Tryz.underlying41 (by kernel_rfl) (by omega) (by have := ow_cap OJ; omega)) (Gr.refl _) rfl rfl)
 refine bv.run (k := 1) (L := #[true, true, true, true, true, true, true, true, false]) (by kernel_rfl) (by kernel_rfl) (by kernel_rfl) ak.ok (by kernel_rfl) (by kernel_rfl) (fun ap72 cG D => ?_)
 have aB := gr_drew D.gr
 have bx := hb.gr aB
 have aT := ow_gr OJ aB
 have bz := gb_gr (gb_self : w.grownBy w (some g)) aB
 have ep72_4 : ap72.eval (.tmp 73) = .slice (some ⟨g, 0 + (i + 1) * 8, none⟩) (K.length + 1 - (i + 1)) (c - (i + 1)) := D.js 4 rfl
 have ep72_7 : ap72.eval (.tmp 76) = .slice (some ⟨g, 0 + i * 8, none⟩) (K.length + 1 - i) (c - i) := D.js 7 rfl
 refine t_cp (i := 8) (by kernel_rfl) rfl (m := K.length - i) (cs := flatE encVr (K.drop i)) D.ok (wn _ rfl) rfl ep72_4 ep72_7 Tryz.underlying41 (by kernel_rfl) (by simp only [Nat.min_def]; split <;> omega) (by rw [flatE_len encVr_ok, List.length_drop]) aT (by rw [flatE_len encVr_ok, List.length_drop]; omega) (SrcAt.part (SrcAt.own aT) (flat_drop encVr_ok (by omega) J)) (flatE_cell encVr_ok _) (fun cH cI aU gg82 ao => ?_)
 have bA := bx.grown_ne gg82 holt
 have bB := gb_gb bz gg82
 refine wpAny_done (by kernel_rfl) ?_ _
 refine th_n (bj _ _ (wp_seq_k (fun cJ bC => (wp_region_lit (sw ao.ok (o_mv (ao.n ((D.old 0 rfl).trans av))) (fun cK ap => ?_))))))
 have bD := ap.n (ao.n ((D.old 1 rfl).trans aA))
 refine sw ap.ok (o_mv bD) (fun cL aq => ?_)
 refine sw aq.ok (o_cutLt (k := i) (s := 8) (aq.n ap.at_) aq.at_ Tryz.underlying41 (by kernel_rfl) (by omega) (by have := ow_cap aU; omega)) (fun cM ax => ?_)
 have bE := ax.n (aq.n (ap.n (ao.n ((D.old 2 rfl).trans (ak.n (aj.n (U.n (C.n (a.n (B.n (T.n (S.n aL))))))))))))
 refine sw ax.ok (o_mv bE) (fun cO ay => ?_)
 refine s_cp (m := 1) (cs := encVr y) ay.ok (wn _ rfl) rfl (ay.n ax.at_) ay.at_ Tryz.underlying41 (by kernel_rfl) (by simp only [Nat.min_def]; split <;> omega) rfl aU (by show _ + 8 ≤ _; omega) (fun j v hv => by rw [add_n, Nat.zero_add]; exact bA.cell _ (by simpa [encVr] using hv)) (encVr_ok.one y) (fun cS cT bF gg97 aV => ?_)
 have bG := gb_gb bB gg97
 refine wpList_nil (th_n (bC _ _ (wp_seq_k (fun cU bH => (wp_region_lit ?_)))))
 have bI := aV.n (ay.n (ax.n (aq.n (ap.n (ao.n ((D.old 0 rfl).trans av))))))
 refine sw aV.ok (o_mv bI) (fun cV aW => ?_)
 refine sw aW.ok (o_as aW.at_) (fun cW aX => ?_)
 refine wpList_nil (th_n (bH _ _ (wp_ret (th_r (ret1 aX.ok rfl (aX.at_) ⟨_, rfl, by rw [← fin_room encVr_ok (by omega) y J hJ]; exact bF, bG⟩)))))
theorem insert_grow (K : List VerI) (y : VerI) (g c b1 base i : Nat) (hl : K.length ≤ 900) (hin : i < K.length) (hroom : c < K.length + 1) (w0 w : World) (hG : Gr w0 w) (hB : w0.heap.size ≤ base) (hz : base ≤ w.heap.size) (ho : w.ownsRow base 106 8 (.slice (some ⟨g, 0, none⟩) K.length c) K.length (flatE encVr K)) (hb : Bk w b1 #[.string (bs y.d.id), .int .i64 (y.d.s), .int .i64 (y.d.c), .int .i64 (y.d.t), .int .i64 (y.d.n), .int .i64 (y.d.b), .slice y.va y.d.V.length y.vc, .slice y.ma y.d.M.length y.mc] 106) (holt : ∀ k, Value.ownBlock (.slice (some ⟨g, 0, none⟩) K.length c) = some k → k < b1) :
  Calls Tryz.prog 141 #[.slice (some ⟨g, 0, none⟩) K.length c, .int .i64 (i : Int), .slice (some ⟨b1, 0, none⟩) 1 1] w fun e w' => ∃ u, e = .returned u ∧ w'.ownsRow base 106 8 u (K.length + 1) (flatE encVr (K.take i ++ y :: K.drop i)) ∧ w.grownBy w' (some g) := by
 refine enter (N := 95) Tryz.func141 rfl rfl rfl (fun a0 ok0 h0 => ?_)
 have aB : a0.eval (.tmp 0) = .slice (some ⟨g, 0, none⟩) K.length c := h0 0 _ rfl
 have aC : a0.eval (.tmp 1) = .int .i64 (i : Int) := h0 1 _ rfl
 have a3 : a0.eval (.tmp 2) = .slice (some ⟨b1, 0, none⟩) 1 1 := h0 2 _ rfl
 clear h0
 have hcap := ow_cap ho
 refine wp_seq_k (fun K1 a4 => (wp_region_lit (sw ok0 (o_as ev_const) (fun bX n2 => ?_))))
 refine wpList_nil (th_n (a4 _ _ (wp_seq_k (fun K3 a6 => (wp_region_lit (sw n2.ok (o_mv (n2.n aB)) (fun bZ n4 => ?_)))))))
 refine sw n4.ok (o_mv (n4.n (n2.n aC))) (fun b0 n5 => ?_)
 refine sw n5.ok (o_cutLt (k := i) (s := 8) (n5.n n4.at_) n5.at_ Tryz.underlying41 (by kernel_rfl) (by omega) (by have := ow_cap ho; omega)) (fun b3 n6 => ?_)
 refine wpList_nil (th_n (a6 _ _ (wp_seq_k (fun K7 a7 => (wp_region_lit ?_)))))
 have e8 := n6.n (n5.n (n4.n (n2.n a3)))
 refine sw n6.ok (o_mv e8) (fun b5 n9 => ?_)
 refine sw n9.ok (o_len n9.at_ Tryz.underlying41) (fun b6 ap => ?_)
 refine sw ap.ok (o_as ap.at_) (fun b7 ah => ?_)
 refine wpList_nil (th_n (a7 _ _ (wp_seq_k (fun b8 a8 => (wp_seq_k (fun b9 a9 => (wp_region_lit (sw ah.ok (o_mv ah.at_) (fun ca ai => ?_)))))))))
 refine sw ai.ok (o_eq (b := false) ai.at_ ev_const (by decide)) (fun cb aj => ?_)
 refine wpList_nil (th_n (a9 _ _ (wp_cond_false (aj.at_) ?_)))
 refine wp_skip (th_n (a8 _ _ (wp_seq_k (fun cc ba => (wp_region_lit ?_)))))
 have aE := aj.n (ai.n (ah.n (ap.n (n9.n (n6.n (n5.n (n4.n (n2.n aB))))))))
 refine sw aj.ok (o_mv aE) (fun cd ak => ?_)
 refine sw ak.ok (o_len ak.at_ Tryz.underlying41) (fun cf al => ?_)
 refine sw al.ok (o_as al.at_) (fun cg G => ?_)
 refine wpList_nil (th_n (ba _ _ (wp_seq_k (fun ch bb => (wp_seq_k (fun ci bc => (wp_region_lit ?_)))))))
 have aF := G.n (al.n (ak.n (aj.n (ai.n (ah.n (ap.n (n9.n (n6.n (n5.n (n4.n (n2.n aC)))))))))))
 refine sw G.ok (o_mv aF) (fun cj l => ?_)
 refine sw l.ok (o_mv (l.n G.at_)) (fun ck o => ?_)
 refine sw o.ok (o_eqI (o.n l.at_) o.at_) (fun cl H => ?_)
 refine wpList_nil (th_n (bc _ _ (wp_cond_false ((H.at_).trans (congrArg Value.bool (decide_eq_false (by omega)))) ?_)))
 refine wp_skip (th_n (bb _ _ (wp_seq_k (fun cm cn => (wp_seq_k (fun co bd => (wp_region_lit ?_)))))))
 have aG := H.n (o.n (l.n G.at_))
 refine sw H.ok (o_mv aG) (fun cp I => ?_)
 have aH := I.n (H.n (o.n (l.n (G.n (al.n (ak.n (aj.n (ai.n ah.at_))))))))
 refine sw I.ok (o_mv aH) (fun cq z => ?_)
 refine sw z.ok (o_add (r := ((K.length + 1 : Nat) : Int)) (z.n I.at_) z.at_ (by omega) (by omega)) (fun cr J => ?_)
 have aI := J.n (z.n (I.n (H.n (o.n (l.n (G.n (al.n (ak.n aE))))))))
 refine sw J.ok (o_mv aI) (fun ct A => ?_)
 refine sw A.ok (o_capS A.at_ Tryz.underlying41) (fun cu B => ?_)
 refine sw B.ok (o_gtI (B.n (A.n J.at_)) B.at_) (fun cx O => ?_)
 refine wpList_nil (th_n (bd _ _ (wp_cond_true ((O.at_).trans (congrArg Value.bool (decide_eq_true (by omega)))) ?_)))
 refine wp_seq_k (fun cy bf => (wp_region_lit ?_))
 have aJ := O.n (B.n (A.n aI))
 refine sw O.ok (o_mv aJ) (fun cz S => ?_)
 have aK := S.n (O.n (B.n (A.n (J.n (z.n (I.n (H.n (o.n (l.n aF)))))))))
 refine sw S.ok (o_mv aK) (fun cA C => ?_)
 refine sw C.ok (o_cut (k := i) (s := 8) (C.n S.at_) C.at_ Tryz.underlying41 (by kernel_rfl) (by omega)) (fun cB T => ?_)
 have bg := T.n (C.n (S.n (O.n (B.n (A.n (J.n (z.n (I.n aG))))))))
 refine sw T.ok (o_mv bg) (fun cC U => ?_)
 have aL := U.n (T.n (C.n (S.n (O.n (B.n (A.n (J.n (z.n aH))))))))
 refine sw U.ok (o_mv aL) (fun cD D => ?_)
 refine sw D.ok (o_add (r := ((K.length + 1 : Nat) : Int)) (D.n U.at_) D.at_ (by omega) (by omega)) (fun cE W => ?_)
 have aM := W.n (D.n (U.n (T.n (C.n aK))))
 refine sw W.ok (o_mv aM) (fun cF E => ?_)
 refine sw E.ok (o_sub (r := (((K.length + 1) - i : Nat) : Int)) (E.n W.at_) E.at_ (by omega) (by omega)) (fun cG X => ?_)
 have bh := X.n (E.n (W.n (D.n (U.n T.at_))))
 obtain ⟨cH, bi, bj, bl, bm⟩ := info_of (show (Tryz.prog.info? 106).map (fun i => (i.zero, i.size, i.bytes)) = some (some (.agg #[.string (bs []), .int .i64 0, .int .i64 0, .int .i64 0, .int .i64 0, .int .i64 0, .slice none 0 0, .slice none 0 0]), 8, 104) by kernel_rfl)
 refine s_apz (n := K.length) (i := i) (k := K.length + 1 - i) X.ok (wn _ rfl) rfl bh X.at_ Tryz.underlying41 Tryz.underlying3 bi bj bl bm rfl (by omega) (SrcAt.own ho) (flatE_len encVr_ok K) (by omega) (by omega) (by omega) (by omega) (by omega) hz (fun cI bn a c2 Z ay az O2 hZ an => ?_)
 have hbsz : w.heap.size ≤ a := by rw [az]; exact (gb_self : w.grownBy w (some g)).size
 have hgb : a ≠ g := by have h1 := (SrcAt.own ho).1; rw [az]; omega
 have bp : b1 ≠ a := by have h1 := hb.lt; rw [az]; omega
 have bq := hb.gr ay
 have br := gb_gr (gb_self : w.grownBy w (some g)) ay
 have bt := (SrcAt.own ho).gr ay
 obtain ⟨aT, ek⟩ : World.ownsRow bn base 106 8 (.slice (some ⟨a, 0, none⟩) (K.length + 1) c2) (K.length + 1) ((flatE encVr K).take (i * 8) ++ Z) ∧ i + (K.length + 1 - i) = K.length + 1 := by have e : i + (K.length + 1 - i) = K.length + 1 := (by omega); rw [e] at O2; exact ⟨O2, e⟩
 have aU := an.at_
 rw [ek] at aU
 have holt2 : ∀ k, Value.ownBlock (.slice (some ⟨a, 0, none⟩) (K.length + 1) c2) = some k → k ≠ b1 := fun k e q => bp (by rw [← q]; exact (Option.some.inj e).symm)
 refine sw an.ok (o_as aU) (fun cJ Y => ?_)
 refine wpList_nil (th_n (bf _ _ (wp_seq_k (fun cK bu => (wp_region_lit (sw Y.ok (o_mv Y.at_) (fun cL aa => ?_)))))))
 have aV := aa.n (Y.n (an.n (X.n (E.n aM))))
 refine sw aa.ok (o_mv aV) (fun cM F => ?_)
 refine sw F.ok (o_cutLt (k := i) (s := 8) (F.n aa.at_) F.at_ Tryz.underlying41 (by kernel_rfl) (by omega) (by have := ow_cap aT; omega)) (fun cO ab => ?_)
 have bv := ab.n (F.n (aa.n (Y.n (an.n (X.n (E.n (W.n (D.n (U.n (T.n (C.n (S.n (O.n (B.n (A.n (J.n (z.n (I.n (H.n (o.n (l.n (G.n (al.n (ak.n (aj.n (ai.n (ah.n (ap.n (n9.n e8)))))))))))))))))))))))))))))
 refine sw ab.ok (o_mv bv) (fun cS ac => ?_)
 refine s_cp (m := 1) (cs := encVr y) ac.ok (wn _ rfl) rfl (ac.n ab.at_) ac.at_ Tryz.underlying41 (by kernel_rfl) (by simp only [Nat.min_def]; split <;> omega) rfl aT (by show _ + 8 ≤ _; omega) (fun j v hv => by rw [add_n, Nat.zero_add]; exact bq.cell _ (by simpa [encVr] using hv)) (encVr_ok.one y) (fun cT cU aW gg75 aq => ?_)
 have bx := gb_new br gg75 hbsz
 have bz := SrcAt.ne bt gg75 (fun e => hgb (Option.some.inj e))
 refine wpList_nil (th_n (bu _ _ (wp_seq_k (fun cV bA => (reg_start (N := 95) (m := 8) (by kernel_rfl) (fun bB => ?_))))))
 have aX := aq.n (ac.n (ab.n (F.n (aa.n Y.at_))))
 have bC := bB.snoc (n' := 1) rfl (fun vJ _ => vJ = .slice (some ⟨a, 0, none⟩) (K.length + 1) c2) rfl (fun _ _ _ _ h => h) (fun aS wS pS => by
   exact Does.val (wn _ rfl) (o_mv ((pS.old 9 rfl).trans aX)) (Gr.refl _) rfl rfl)
 have aY := aq.n (ac.n (ab.n (F.n aV)))
 have bD := bC.snoc (n' := 2) rfl (fun vJ _ => vJ = .int .i64 (i : Int)) rfl (fun _ _ _ _ h => h) (fun aS wS pS => by
   exact Does.val (wn _ rfl) (o_mv ((pS.old 1 rfl).trans aY)) (Gr.refl _) rfl rfl)
 have bE := aq.n (ac.n (ab.n (F.n (aa.n (Y.n (an.n (X.n (E.n (W.n (D.n aL))))))))))
 have bF := bD.snoc (n' := 3) rfl (fun vJ _ => vJ = .int .i64 1) rfl (fun _ _ _ _ h => h) (fun aS wS pS => by
   exact Does.val (wn _ rfl) (o_mv ((pS.old 7 rfl).trans bE)) (Gr.refl _) rfl rfl)
 have bG := bF.snoc (n' := 4) rfl (fun vJ _ => vJ = .int .i64 ((i + 1 : Nat) : Int)) rfl (fun _ _ _ _ h => h) (fun aS wS pS => by
   have eR83_1 : aS.eval (.tmp 47) = .int .i64 (i : Int) := pS.pre 1 rfl
   have eR83_2 : aS.eval (.tmp 48) = .int .i64 1 := pS.pre 2 rfl
   exact Does.val (wn _ rfl) (o_add (r := ((i + 1 : Nat) : Int)) (eR83_1) (eR83_2) (by omega) (by omega)) (Gr.refl _) rfl rfl)
 have bH := bG.snoc (n' := 5) rfl (fun vJ _ => vJ = .slice (some ⟨a, 0 + (i + 1) * 8, none⟩) ((K.length + 1) - (i + 1)) (c2 - (i + 1))) rfl (fun _ _ _ _ h => h) (fun aS wS pS => by
   have eR83_0 : aS.eval (.tmp 46) = .slice (some ⟨a, 0, none⟩) (K.length + 1) c2 := pS.pre 0 rfl
   have eR83_3 : aS.eval (.tmp 49) = .int .i64 ((i + 1 : Nat) : Int) := pS.pre 3 rfl
   exact Does.val (wn _ rfl) (o_cutLt (k := i + 1) (s := 8) (eR83_0) (eR83_3) Tryz.underlying41 (by kernel_rfl) (by omega) (by have := ow_cap aW; omega)) (Gr.refl _) rfl rfl)
 have bI := aq.n (ac.n (ab.n (F.n (aa.n (Y.n (an.n (X.n (E.n (W.n (D.n (U.n (T.n (C.n (S.n aJ))))))))))))))
 have bJ := bH.snoc (n' := 6) rfl (fun vJ _ => vJ = .slice (some ⟨g, 0, none⟩) K.length c) rfl (fun _ _ _ _ h => h) (fun aS wS pS => by
   exact Does.val (wn _ rfl) (o_mv ((pS.old 0 rfl).trans bI)) (Gr.refl _) rfl rfl)
 have bK := bJ.snoc (n' := 7) rfl (fun vJ _ => vJ = .int .i64 (i : Int)) rfl (fun _ _ _ _ h => h) (fun aS wS pS => by
   exact Does.val (wn _ rfl) (o_mv ((pS.old 1 rfl).trans aY)) (Gr.refl _) rfl rfl)
 have bL := bK.snoc (n' := 8) rfl (fun vJ _ => vJ = .slice (some ⟨g, 0 + i * 8, none⟩) (K.length - i) (c - i)) rfl (fun _ _ _ _ h => h) (fun aS wS pS => by
   have eR83_5 : aS.eval (.tmp 51) = .slice (some ⟨g, 0, none⟩) K.length c := pS.pre 5 rfl
   have eR83_6 : aS.eval (.tmp 52) = .int .i64 (i : Int) := pS.pre 6 rfl
   exact Does.val (wn _ rfl) (o_cutLt (k := i) (s := 8) (eR83_5) (eR83_6) Tryz.underlying41 (by kernel_rfl) (by omega) (by omega)) (Gr.refl _) rfl rfl)
 refine bL.run (k := 1) (L := #[true, true, true, true, true, true, true, true, false]) (by kernel_rfl) (by kernel_rfl) (by kernel_rfl) aq.ok (by kernel_rfl) (by kernel_rfl) (fun ap89 cW ar => ?_)
 have aA := gr_drew ar.gr
 have bM := ow_gr aW aA
 have bO := gb_gr bx aA
 have bS := bz.gr aA
 have ep89_4 : ap89.eval (.tmp 50) = .slice (some ⟨a, 0 + (i + 1) * 8, none⟩) ((K.length + 1) - (i + 1)) (c2 - (i + 1)) := ar.js 4 rfl
 have ep89_7 : ap89.eval (.tmp 53) = .slice (some ⟨g, 0 + i * 8, none⟩) (K.length - i) (c - i) := ar.js 7 rfl
 refine t_cp (i := 8) (by kernel_rfl) rfl (m := K.length - i) (cs := flatE encVr (K.drop i)) ar.ok (wn _ rfl) rfl ep89_4 ep89_7 Tryz.underlying41 (by kernel_rfl) (by simp only [Nat.min_def]; split <;> omega) (by rw [flatE_len encVr_ok, List.length_drop]) bM (by rw [flatE_len encVr_ok, List.length_drop]; omega) (SrcAt.part bS (fun j u hu => by have h := flat_drop (enc := encVr) (s := 8) encVr_ok (show i ≤ K.length by omega) [] j u hu; rw [List.append_nil] at h; exact h)) (flatE_cell encVr_ok _) (fun cX cY bT gg100 aZ => ?_)
 have bU := gb_new bO gg100 hbsz
 refine wpAny_done (by kernel_rfl) ?_ _
 refine th_n (bA _ _ (wp_seq_k (fun cZ bV => (wp_region_lit (sw aZ.ok (o_mv (aZ.n ((ar.old 9 rfl).trans aX))) (fun c0 a1 => ?_))))))
 refine sw a1.ok (o_as a1.at_) (fun c1 a2 => ?_)
 refine wpList_nil (th_n (bV _ _ (wp_ret (th_r (ret1 a2.ok rfl (a2.at_) ⟨_, rfl, by rw [← fin_grow encVr_ok (k := K.length + 1 - i) (by omega) rfl y Z hZ]; exact bT, bU⟩)))))
end Go.Proofs.YtglbnggkkjhokaaGreat
/- Stores as plain data: the order, what Put, Drop, Get leave. -/
namespace Rm
open Go Go.RowKit Gx
theorem bl_irr : ∀ l : List UInt8, Op.bytesLess l l = false
 | [] => rfl
 | a :: l => by simp [Op.bytesLess, bl_irr l]
theorem bl_trans : ∀ a b c : List UInt8, Op.bytesLess a b = true → Op.bytesLess b c = true → Op.bytesLess a c = true
 | _, [], _, h, _ => by simp [Op.bytesLess] at h
 | _, _ :: _, [], _, k => by simp [Op.bytesLess] at k
 | [], _ :: _, _ :: _, _, _ => rfl
 | x :: a, y :: b, z :: c, h, k => by
  simp only [Op.bytesLess, Bool.or_eq_true, decide_eq_true_eq, Bool.and_eq_true, beq_iff_eq, UInt8.lt_iff_toNat_lt] at h k ⊢
  rcases h with h | ⟨rfl, h⟩
  ·rcases k with k | ⟨rfl, k⟩
   ·exact .inl (by omega)
   ·exact .inl h
  ·rcases k with k | ⟨rfl, k⟩
   ·exact .inl k
   ·exact .inr ⟨rfl, bl_trans a b c h k⟩
theorem bl_tri : ∀ a b : List UInt8, Op.bytesLess a b = false → Op.bytesLess b a = false → a = b
 | [], [], _, _ => rfl
 | [], _ :: _, h, _ => by simp [Op.bytesLess] at h
 | _ :: _, [], _, k => by simp [Op.bytesLess] at k
 | x :: a, y :: b, h, k => by
  simp only [Op.bytesLess, Bool.or_eq_false_iff, decide_eq_false_iff_not, Bool.and_eq_false_iff, UInt8.lt_iff_toNat_lt] at h k
  have e : x = y := UInt8.toNat_inj.1 (by omega)
  subst e
  rw [bl_tri a b (by simpa using h.2) (by simpa using k.2)]
theorem cmpS_lt (l m : List UInt8) : cmpS l m < 0 ↔ Op.bytesLess l m = true := by
 unfold cmpS
 by_cases h : Op.bytesLess l m = true
 ·rw [if_pos h]; simp [h]
 ·rw [if_neg h]
  split <;> simp [h]
theorem cmpS_eq (l m : List UInt8) : cmpS l m = 0 ↔ l = m := by
 unfold cmpS
 by_cases h : Op.bytesLess l m = true
 ·rw [if_pos h]
  refine ⟨fun q => by simp at q, fun q => ?_⟩
  rw [q, bl_irr] at h; cases h
 ·rw [if_neg h]
  have h' : Op.bytesLess l m = false := by simpa using h
  by_cases e : l = m
  ·simp [e, bl_irr]
  ·simp [e, h']
theorem orC_lt (x y : Int) : orC x y < 0 ↔ x < 0 ∨ x = 0 ∧ y < 0 := by
 unfold orC
 by_cases h : x = 0
 ·simp [h]
 ·rw [if_pos (by simpa using h)]; simp [h]
theorem orC_eq (x y : Int) : orC x y = 0 ↔ x = 0 ∧ y = 0 := by
 unfold orC
 by_cases h : x = 0
 ·simp [h]
 ·rw [if_pos (by simpa using h)]; simp [h]
theorem ci_lt (x y : Int) : Lib.compareInt x y < 0 ↔ x < y := by
 rcases cmpInt_cases x y with ⟨e, h⟩ | ⟨e, h⟩ | ⟨e, h⟩ <;> rw [e] <;> omega
theorem ci_eq (x y : Int) : Lib.compareInt x y = 0 ↔ x = y := by
 rcases cmpInt_cases x y with ⟨e, h⟩ | ⟨e, h⟩ | ⟨e, h⟩ <;> rw [e] <;> omega
def ltV (a b : VerD) : Prop := Op.bytesLess a.id b.id = true ∨ a.id = b.id ∧ (a.s < b.s ∨ a.s = b.s ∧ a.c < b.c)
def keyV (a b : VerD) : Prop := a.id = b.id ∧ a.s = b.s ∧ a.c = b.c
theorem cmpV_lt (a b : VerD) : cmpV a b < 0 ↔ ltV a b := by unfold cmpV ltV; rw [orC_lt, orC_lt, cmpS_lt, cmpS_eq, ci_lt, ci_eq, ci_lt]
theorem cmpV_eq (a b : VerD) : cmpV a b = 0 ↔ keyV a b := by unfold cmpV keyV; rw [orC_eq, orC_eq, cmpS_eq, ci_eq, ci_eq]
theorem ltV_trans {a b c : VerD} (h : ltV a b) (k : ltV b c) : ltV a c := by
 unfold ltV at *
 rcases h with h | ⟨h, h'⟩
 ·rcases k with k | ⟨k, k'⟩
  ·exact .inl (bl_trans _ _ _ h k)
  ·exact .inl (by rw [← k]; exact h)
 ·rcases k with k | ⟨k, k'⟩
  ·exact .inl (by rw [h]; exact k)
  ·exact .inr ⟨h.trans k, by omega⟩
theorem ltV_key {a b c : VerD} (h : ltV a b) (k : keyV b c) : ltV a c := by
 obtain ⟨k1, k2, k3⟩ := k
 unfold ltV at *
 rw [← k1, ← k2, ← k3]; exact h
theorem ltV_tri (a b : VerD) : ltV a b ∨ keyV a b ∨ ltV b a := by
 unfold ltV keyV
 by_cases h1 : Op.bytesLess a.id b.id = true
 ·exact .inl (.inl h1)
 ·by_cases h2 : Op.bytesLess b.id a.id = true
  ·exact .inr (.inr (.inl h2))
  ·have e := bl_tri a.id b.id (by simpa using h1) (by simpa using h2)
   rw [e]
   by_cases h3 : a.s < b.s ∨ a.s = b.s ∧ a.c < b.c
   ·exact .inl (.inr ⟨rfl, h3⟩)
   ·by_cases h4 : a.s = b.s ∧ a.c = b.c
    ·exact .inr (.inl ⟨rfl, h4.1, h4.2⟩)
    ·exact .inr (.inr (.inr ⟨rfl, by omega⟩))
structure OkS (L : List VerD) : Prop where
  len : L.length ≤ 60
  one : ∀ x ∈ L, chkOne x = 0
  sort : L.Pairwise ltV
  apart : ∀ v ∈ L, ∀ x ∈ L, ovB v x = false
theorem chkRow_sort : ∀ {L : List VerD} {p : Option VerD}, chkRow p L = 0 → (∀ x ∈ L, chkOne x = 0) ∧ L.Pairwise ltV ∧ ∀ y, p = some y → ∀ x ∈ L, ltV y x
 | [], p, _ => ⟨fun x hx => (by cases hx), List.Pairwise.nil, fun y _ x hx => (by cases hx)⟩
 | a :: L, p, h => by
  unfold chkRow at h
  by_cases h1 : chkOne a = 0
  ·rw [if_pos h1] at h
   by_cases h2 : (p.any fun y => decide (0 ≤ cmpV y a)) = true
   ·rw [if_pos h2] at h; cases h
   ·rw [if_neg h2] at h
    obtain ⟨k1, k2, k3⟩ := chkRow_sort h
    refine ⟨fun x hx => ?_, List.Pairwise.cons (fun x hx => k3 a rfl x hx) k2, fun y hy x hx => ?_⟩
    ·rcases List.mem_cons.1 hx with rfl | hx
     ·exact h1
     ·exact k1 x hx
    ·subst hy
     have hya : ltV y a := by
      rw [← cmpV_lt]
      simp only [Option.any_some, decide_eq_true_eq] at h2
      omega
     rcases List.mem_cons.1 hx with rfl | hx
     ·exact hya
     ·exact ltV_trans hya (k3 a rfl x hx)
  ·rw [if_neg h1] at h
   exact absurd h h1
theorem chkRow_of : ∀ {L : List VerD} {p : Option VerD}, (∀ x ∈ L, chkOne x = 0) → L.Pairwise ltV → (∀ y, p = some y → ∀ x ∈ L, ltV y x) → chkRow p L = 0
 | [], _, _, _, _ => rfl
 | a :: L, p, h1, h2, h3 => by
  unfold chkRow
  rw [if_pos (h1 a (List.mem_cons_self ..)), if_neg]
  ·refine chkRow_of (fun x hx => h1 x (List.mem_cons_of_mem _ hx)) (List.pairwise_cons.1 h2).2 (fun y hy x hx => ?_)
   cases hy
   exact (List.pairwise_cons.1 h2).1 x hx
  ·cases p with
   | none => simp
   | some y =>
    have := (cmpV_lt y a).2 (h3 y rfl a (List.mem_cons_self ..))
    simp only [Option.any_some, decide_eq_true_eq]
    omega
theorem okS_iff (L : List VerD) : chkShf L = 0 ↔ OkS L := by
 unfold chkShf
 constructor
 ·intro h
  by_cases h1 : 60 < L.length
  ·rw [if_pos h1] at h; cases h
  ·rw [if_neg h1] at h
   by_cases h2 : chkRow none L = 0
   ·rw [if_pos h2] at h
    by_cases h3 : (L.any fun v => L.any fun x => ovB v x) = true
    ·rw [if_pos h3] at h; cases h
    ·obtain ⟨k1, k2, -⟩ := chkRow_sort h2
     refine ⟨by omega, k1, k2, fun v hv x hx => ?_⟩
     cases q : ovB v x
     ·rfl
     ·exact absurd (List.any_eq_true.2 ⟨v, hv, List.any_eq_true.2 ⟨x, hx, q⟩⟩) h3
   ·rw [if_neg h2] at h; exact absurd h h2
 ·intro h
  rw [if_neg (by have := h.len; omega), if_pos (chkRow_of h.one h.sort (fun y hy => by cases hy)), if_neg]
  intro q
  obtain ⟨v, hv, q⟩ := List.any_eq_true.1 q
  obtain ⟨x, hx, q⟩ := List.any_eq_true.1 q
  rw [h.apart v hv x hx] at q
  cases q
def svHeld (L : List VerD) (y : VerD) : Bool := L.any (fun x => decide (cmpV x y = 0)) || L.any (fun x => ovB x y)
def svKeep (L : List VerD) (y : VerD) : List VerD := L.filter fun x => !ovB y x
def svIns (L : List VerD) (y : VerD) : List VerD := (L.filter fun x => decide (cmpV x y < 0)) ++ y :: L.filter fun x => !decide (cmpV x y < 0)
def putE (L : List VerD) (y : VerD) : Int := if chkShf L = 0 then (if chkOne y = 0 then (if svHeld L y = true then 0 else if (svKeep L y).length = 60 then 2 else 0) else chkOne y) else chkShf L
def putL (L : List VerD) (y : VerD) : List VerD := if chkShf L = 0 then (if chkOne y = 0 then (if svHeld L y = true then L else if (svKeep L y).length = 60 then [] else svIns (svKeep L y) y) else []) else []
theorem cut_at {L : List VerD} {y : VerD} {i : Nat} (hi : i ≤ L.length) (h1 : ∀ (k : Nat) (x : VerD), k < i → L[k]? = some x → cmpV x y < 0) (h2 : ∀ (k : Nat) (x : VerD), i ≤ k → L[k]? = some x → 0 ≤ cmpV x y) : L.take i ++ y :: L.drop i = svIns L y := by
 have e1 : (L.filter fun x => decide (cmpV x y < 0)) = L.take i := by
  conv => lhs; rw [← List.take_append_drop i L]
  rw [List.filter_append, List.filter_eq_self.2, List.filter_eq_nil_iff.2, List.append_nil]
  ·intro x hx
   obtain ⟨k, hk⟩ := List.getElem?_of_mem hx
   rw [List.getElem?_drop] at hk
   have := h2 (i + k) x (by omega) hk
   simp; omega
  ·intro x hx
   obtain ⟨k, hk⟩ := List.getElem?_of_mem hx
   have hlt : k < i := by have := (List.getElem?_eq_some_iff.1 hk).1; rw [List.length_take] at this; omega
   rw [List.getElem?_take_of_lt hlt] at hk
   simpa using h1 k x hlt hk
 have e2 : (L.filter fun x => !decide (cmpV x y < 0)) = L.drop i := by
  conv => lhs; rw [← List.take_append_drop i L]
  rw [List.filter_append, List.filter_eq_nil_iff.2, List.filter_eq_self.2, List.nil_append]
  ·intro x hx
   obtain ⟨k, hk⟩ := List.getElem?_of_mem hx
   rw [List.getElem?_drop] at hk
   have := h2 (i + k) x (by omega) hk
   simp; omega
  ·intro x hx
   obtain ⟨k, hk⟩ := List.getElem?_of_mem hx
   have hlt : k < i := by have := (List.getElem?_eq_some_iff.1 hk).1; rw [List.length_take] at this; omega
   rw [List.getElem?_take_of_lt hlt] at hk
   simpa using h1 k x hlt hk
 unfold svIns
 rw [e1, e2]
theorem sort_at {L : List VerD} (h : L.Pairwise ltV) {j k : Nat} {x z : VerD} (hjk : j ≤ k) (hx : L[j]? = some x) (hz : L[k]? = some z) {y : VerD} (hy : cmpV z y < 0) : cmpV x y < 0 := by
 rw [cmpV_lt] at *
 rcases Nat.lt_or_ge j k with q | q
 ·obtain ⟨h1, e1⟩ := List.getElem?_eq_some_iff.1 hx
  obtain ⟨h2, e2⟩ := List.getElem?_eq_some_iff.1 hz
  have := List.pairwise_iff_getElem.1 h j k h1 h2 q
  rw [e1, e2] at this
  exact ltV_trans this hy
 ·obtain rfl : j = k := by omega
  rw [hx] at hz; cases hz
  exact hy
theorem svKeep_ok {L : List VerD} (h : OkS L) (p : VerD → Bool) : OkS (L.filter p) where
 len := Nat.le_trans (List.length_filter_le _ _) h.len
 one := fun x hx => h.one x (List.mem_filter.1 hx).1
 sort := h.sort.filter _
 apart := fun v hv x hx => h.apart v (List.mem_filter.1 hv).1 x (List.mem_filter.1 hx).1
theorem ovB_self {y : VerD} (h : chkOne y = 0) : ovB y y = false := by
 unfold ovB
 rw [(chkOne_zero h).2.2.2]
 simp
theorem svIns_mem {L : List VerD} {y x : VerD} : x ∈ svIns L y ↔ x = y ∨ x ∈ L := by
 unfold svIns
 simp only [List.mem_append, List.mem_cons, List.mem_filter]
 by_cases h : cmpV x y < 0 <;> simp [h, Or.comm]
theorem filter_len2 {α : Type} (p : α → Bool) : ∀ L : List α, (L.filter p).length + (L.filter fun x => !p x).length = L.length
 | [] => rfl
 | a :: L => by
  have := filter_len2 p L
  cases h : p a <;> simp [h] <;> omega
theorem svIns_len (L : List VerD) (y : VerD) : (svIns L y).length = L.length + 1 := by
 unfold svIns
 rw [List.length_append, List.length_cons]
 have := filter_len2 (fun x => decide (cmpV x y < 0)) L
 omega
theorem svPut_ok {L : List VerD} {y : VerD} (h : OkS L) (hy : chkOne y = 0) (hh : svHeld L y = false) (hl : ¬ (svKeep L y).length = 60) : OkS (svIns (svKeep L y) y) := by
  have hk := svKeep_ok h (fun x => !ovB y x)
  unfold svHeld at hh
  rw [Bool.or_eq_false_iff] at hh
  have h1 : ∀ x ∈ L, ¬ keyV x y := fun x hx q => by
    have := List.any_eq_false.1 hh.1 x hx
    rw [decide_eq_true_eq, cmpV_eq] at this
    exact this q
  have h2 : ∀ x ∈ L, ovB x y = false := fun x hx => by simpa using List.any_eq_false.1 hh.2 x hx
  have h3 : ∀ x ∈ svKeep L y, x ∈ L ∧ ovB y x = false := fun x hx => by
    obtain ⟨k1, k2⟩ := List.mem_filter.1 hx
    exact ⟨k1, by simpa using k2⟩
  refine ⟨by rw [svIns_len]; have := hk.len; unfold svKeep at hl ⊢; omega, fun x hx => ?_, ?_, fun v hv x hx => ?_⟩
  · rcases svIns_mem.1 hx with rfl | hx
    · exact hy
    · exact hk.one x hx
  · unfold svIns
    refine List.pairwise_append.2 ⟨hk.sort.filter _, List.pairwise_cons.2 ⟨fun x hx => ?_, hk.sort.filter _⟩, fun x hx z hz => ?_⟩
    · obtain ⟨k1, k2⟩ := List.mem_filter.1 hx
      have hn : ¬ ltV x y := by rw [← cmpV_lt]; simpa using k2
      rcases ltV_tri x y with q | q | q
      · exact absurd q hn
      · exact absurd q (h1 x (h3 x k1).1)
      · exact q
    · obtain ⟨k1, k2⟩ := List.mem_filter.1 hx
      have hxy : ltV x y := by rw [← cmpV_lt]; simpa using k2
      rcases List.mem_cons.1 hz with rfl | hz
      · exact hxy
      · obtain ⟨k3, k4⟩ := List.mem_filter.1 hz
        have hn : ¬ ltV z y := by rw [← cmpV_lt]; simpa using k4
        rcases ltV_tri z y with q | q | q
        · exact absurd q hn
        · exact absurd q (h1 z (h3 z k3).1)
        · exact ltV_trans hxy q
  · rcases svIns_mem.1 hv with rfl | hv
    · rcases svIns_mem.1 hx with rfl | hx
      · exact ovB_self hy
      · exact (h3 x hx).2
    · rcases svIns_mem.1 hx with rfl | hx
      · exact h2 v (h3 v hv).1
      · exact hk.apart v hv x hx
end Rm
namespace Go.Proofs.YtglbnggkkjhokaaGreat
open Go.RowKit Rm Gx
def ResV (base : Nat) (w : World) (u : Value) (L : List VerD) : Prop := ∃ R : List VerI, R.map VerI.d = L ∧ w.ownsRow base 106 8 u R.length (flatE encVr R) ∧ OwnsVr base w R
theorem ResV.nil (base : Nat) (w : World) : ResV base w (.slice none 0 0) [] := ⟨[], rfl, World.ownsRow_nil _ _ _ _, fun x hx => by cases hx⟩
theorem insert_any (K : List VerI) (y : VerI) (v : Value) (b1 base i : Nat) (hl : K.length ≤ 900) (hi : i ≤ K.length) (w0 w : World) (hG : Gr w0 w) (hB : w0.heap.size ≤ base) (hz : base ≤ w.heap.size) (ho : w.ownsRow base 106 8 v K.length (flatE encVr K)) (hb : Bk w b1 (encVr y).toArray 106) (holt : ∀ k, v.ownBlock = some k → k < b1) :
  Calls Tryz.prog 141 #[v, .int .i64 (i : Int), .slice (some ⟨b1, 0, none⟩) 1 1] w fun e w' => ∃ u, e = .returned u ∧ w'.ownsRow base 106 8 u (K.length + 1) (flatE encVr (K.take i ++ y :: K.drop i)) ∧ w.grownBy w' v.ownBlock := by
 obtain ⟨-, ⟨rfl, hn⟩ | ⟨g, cap, cur, rfl, h3, hg, h4, h5, h6, h7⟩⟩ := id ho
 ·obtain rfl : K = [] := List.eq_nil_of_length_eq_zero hn
  obtain rfl : i = 0 := by simpa using hi
  exact insert_none y b1 base w0 w hG hB hz ho hb holt
 ·rcases Nat.lt_or_ge i K.length with q | q
  ·rcases Nat.lt_or_ge cap (K.length + 1) with r | r
   ·exact insert_grow K y g cap b1 base i hl q r w0 w hG hB hz ho hb holt
   ·exact insert_room K y g cap b1 base i hl q r w0 w hG hB hz ho hb holt
  ·exact insert_end K y g cap b1 base i hl (by omega) w0 w hG hB hz ho hb holt
end Go.Proofs.YtglbnggkkjhokaaGreat
/- shelf.Put, Drop, Get. -/
namespace Rm
open Go Go.RowKit Gx
theorem map_at {K : List VerI} {j : Nat} {x : VerI} (h : K[j]? = some x) : (K.map VerI.d)[j]? = some x.d := by rw [List.getElem?_map, h]; rfl
theorem map_of {K : List VerI} {j : Nat} {y : VerD} (h : (K.map VerI.d)[j]? = some y) : ∃ x, K[j]? = some x ∧ x.d = y := by
 rw [List.getElem?_map] at h
 exact Option.map_eq_some_iff.1 h
theorem there_eq {K : List VerI} {y : VerI} {i : Nat} {b : Bool} (h1 : ∀ (k : Nat) (x : VerI), k < i → K[k]? = some x → cmpV x.d y.d < 0) (h2 : ∀ (k : Nat) (x : VerI), i ≤ k → K[k]? = some x → 0 ≤ cmpV x.d y.d) (hs : (K.map VerI.d).Pairwise ltV) (hb : b = true ↔ ∃ x, K[i]? = some x ∧ cmpV x.d y.d = 0) : b = K.any fun x => decide (cmpV x.d y.d = 0) := by
 rw [Bool.eq_iff_iff, hb, List.any_eq_true]
 constructor
 ·rintro ⟨x, hx, e⟩
  exact ⟨x, List.mem_of_getElem? hx, by simpa using e⟩
 ·rintro ⟨x, hx, e⟩
  obtain ⟨k, hk⟩ := List.getElem?_of_mem hx
  have e' : cmpV x.d y.d = 0 := by simpa using e
  have hki : i ≤ k := by
   rcases Nat.lt_or_ge k i with q | q
   ·have := h1 k x q hk; omega
   ·exact q
  rcases Nat.lt_or_ge i k with q | q
  ·exfalso
   have hlt : i < K.length := by have := (List.getElem?_eq_some_iff.1 hk).1; omega
   have hz : K[i]? = some K[i] := List.getElem?_eq_getElem hlt
   have h3 := h2 i _ (Nat.le_refl _) hz
   obtain ⟨a1, a2⟩ := List.getElem?_eq_some_iff.1 (map_at hz)
   obtain ⟨b1, b2⟩ := List.getElem?_eq_some_iff.1 (map_at hk)
   have h4 := List.pairwise_iff_getElem.1 hs i k a1 b1 q
   rw [a2, b2] at h4
   have h5 := ltV_key h4 ((cmpV_eq _ _).1 e')
   rw [← cmpV_lt] at h5
   omega
  ·obtain rfl : k = i := by omega
   exact ⟨x, hk, e'⟩
theorem held_map (K : List VerI) (y : VerD) : svHeld (K.map VerI.d) y = ((K.any fun x => decide (cmpV x.d y = 0)) || K.any fun x => ovB x.d y) := by
 unfold svHeld
 rw [List.any_map, List.any_map]
 rfl
theorem filt_map (K : List VerI) (p : VerD → Bool) : (K.filter fun x => p x.d).map VerI.d = (K.map VerI.d).filter p := by
 induction K with
 | nil => rfl
 | cons a K ih =>
  rw [List.map_cons, List.filter_cons, List.filter_cons]
  cases h : p a.d <;> simp [h, ih]
theorem all_keep {α : Type} (L : List α) : (L.filter fun _ => !false) = L := List.filter_eq_self.2 (fun _ _ => rfl)
end Rm
namespace Go.Proofs.YtglbnggkkjhokaaGreat
open Go.RowKit Rm Gx
theorem ow_lessb {w : World} {base base' s n : Nat} {e : TypeId} {v : Value} {xs : List Value} (h : w.ownsRow base e s v n xs) (hb : base' ≤ base) : w.ownsRow base' e s v n xs := by
 obtain ⟨h1, h2 | ⟨g, cap, cur, h3, h4, h5⟩⟩ := h
 ·exact ⟨h1, .inl h2⟩
 ·exact ⟨h1, .inr ⟨g, cap, cur, h3, Nat.le_trans hb h4, h5⟩⟩
theorem OwnsVr.ins {base : Nat} {w : World} {R : List VerI} {y : VerI} (h : OwnsVr base w R) (hy : OwnVr base w y) (i : Nat) : OwnsVr base w (R.take i ++ y :: R.drop i) := fun x hx => by
 rcases List.mem_append.1 hx with hx | hx
 ·exact h x (List.mem_of_mem_take hx)
 ·rcases List.mem_cons.1 hx with rfl | hx
  ·exact hy
  ·exact h x (List.mem_of_mem_drop hx)
theorem sput_bad (K : List VerI) (y : VerI) (va : Option Addr) (vc : Nat) (hK : ¬ chkShf (K.map VerI.d) = 0) (w : World) (hv : RdA encVr 8 w va K) (hm : MeansV w K) (hmy : MeanV w y) :
  Calls Tryz.prog 79 #[.slice va K.length vc, .agg #[.string (bs y.d.id), .int .i64 (y.d.s), .int .i64 (y.d.c), .int .i64 (y.d.t), .int .i64 (y.d.n), .int .i64 (y.d.b), .slice y.va y.d.V.length y.vc, .slice y.ma y.d.M.length y.mc]] w fun e w' => ∃ u, e = .returned (.tuple #[u, .int .i64 (putE (K.map VerI.d) y.d)]) ∧ ResV w.heap.size w' u (putL (K.map VerI.d) y.d) ∧ Gr w w' := by
 refine enter (N := 58) Tryz.func79 rfl rfl rfl (fun r ok0 a => ?_)
 have F : r.eval (.tmp 0) = .slice va K.length vc := a 0 _ rfl
 have G : r.eval (.tmp 1) = .agg #[.string (bs y.d.id), .int .i64 (y.d.s), .int .i64 (y.d.c), .int .i64 (y.d.t), .int .i64 (y.d.n), .int .i64 (y.d.b), .slice y.va y.d.V.length y.vc, .slice y.ma y.d.M.length y.mc] := a 1 _ rfl
 clear a
 have H := Gr.refl w
 refine wp_seq_k (fun Y I => (wp_region_lit (sal (cs := #[.string (bs y.d.id), .int .i64 (y.d.s), .int .i64 (y.d.c), .int .i64 (y.d.t), .int .i64 (y.d.n), .int .i64 (y.d.b), .slice y.va y.d.V.length y.vc, .slice y.ma y.d.M.length y.mc]) ok0 rfl (wn _ rfl) rfl (o_box G) (fun Z J b3 L z => ?_))))
 have g := H.trans L.gr
 refine sw z.ok (o_as ev_const) (fun ab A => ?_)
 refine sw A.ok (o_as ev_const) (fun ac B => ?_)
 refine wpList_nil (th_n (I _ _ (wp_seq_k (fun ad af => (wp_seq_k (fun ag O => (wp_region_lit ?_)))))))
 have S := B.n (A.n (z.n F))
 refine sw B.ok (o_mv S) (fun ah C => ?_)
 refine sc C.ok rfl (wn _ rfl) rfl (o_f1 Tryz.func133 rfl rfl rfl C.at_) (vchk_any K va vc J (hv.gr g) (hm.gr g)) ?_
 rintro _ ai ⟨rfl, T⟩
 refine ⟨_, rfl, fun aj D => ?_⟩
 have U := g.trans T
 refine sw D.ok (o_as D.at_) (fun ak h => ?_)
 refine wpList_nil (th_n (O _ _ (wp_seq_k (fun al W => (wp_region_lit (sw h.ok (o_mv h.at_) (fun am j => ?_)))))))
 refine sw j.ok (o_neq (b := true) j.at_ ev_const (by simp [show ¬ (chkShf (K.map VerI.d)) = 0 from hK])) (fun an l => ?_)
 refine wpList_nil (th_n (W _ _ (wp_cond_true (l.at_) ?_)))
 refine wp_seq_k (fun ao X => (wp_region_lit (sw l.ok (o_mv (l.n (j.n h.at_))) (fun ap E => ?_))))
 refine sw E.ok (o_as ev_const) (fun aq o => ?_)
 refine sw o.ok (o_as (o.n E.at_)) (fun ar q => ?_)
 refine wpList_nil (th_n (X _ _ (wp_ret (th_r (ret2 q.ok rfl ((q.n o.at_)) (q.at_) ⟨_, congrArg (fun n => Ending.returned (.tuple #[_, .int .i64 n])) (Eq.symm (by unfold putE; rw [if_neg hK])), by unfold putL; rw [if_neg hK]; exact ResV.nil _ _, U⟩)))))
theorem sput_badv (K : List VerI) (y : VerI) (va : Option Addr) (vc : Nat) (hK : OkS (K.map VerI.d)) (hy : ¬ chkOne y.d = 0) (w : World) (hv : RdA encVr 8 w va K) (hm : MeansV w K) (hmy : MeanV w y) :
  Calls Tryz.prog 79 #[.slice va K.length vc, .agg #[.string (bs y.d.id), .int .i64 (y.d.s), .int .i64 (y.d.c), .int .i64 (y.d.t), .int .i64 (y.d.n), .int .i64 (y.d.b), .slice y.va y.d.V.length y.vc, .slice y.ma y.d.M.length y.mc]] w fun e w' => ∃ u, e = .returned (.tuple #[u, .int .i64 (putE (K.map VerI.d) y.d)]) ∧ ResV w.heap.size w' u (putL (K.map VerI.d) y.d) ∧ Gr w w' := by
 refine enter (N := 58) Tryz.func79 rfl rfl rfl (fun H ok0 a => ?_)
 have U : H.eval (.tmp 0) = .slice va K.length vc := a 0 _ rfl
 have W : H.eval (.tmp 1) = .agg #[.string (bs y.d.id), .int .i64 (y.d.s), .int .i64 (y.d.c), .int .i64 (y.d.t), .int .i64 (y.d.n), .int .i64 (y.d.b), .slice y.va y.d.V.length y.vc, .slice y.ma y.d.M.length y.mc] := a 1 _ rfl
 clear a
 have X := Gr.refl w
 have hlen : K.length ≤ 60 := by have := hK.len; simpa using this
 have hok : ∀ x ∈ K, okVr x := fun x hx => hK.one _ (List.mem_map_of_mem hx)
 refine wp_seq_k (fun K1 Y => (wp_region_lit (sal (cs := #[.string (bs y.d.id), .int .i64 (y.d.s), .int .i64 (y.d.c), .int .i64 (y.d.t), .int .i64 (y.d.n), .int .i64 (y.d.b), .slice y.va y.d.V.length y.vc, .slice y.ma y.d.M.length y.mc]) ok0 rfl (wn _ rfl) rfl (o_box W) (fun ao Z b3 I g => ?_))))
 have j := X.trans I.gr
 refine sw g.ok (o_as ev_const) (fun aq l => ?_)
 refine sw l.ok (o_as ev_const) (fun ar o => ?_)
 refine wpList_nil (th_n (Y _ _ (wp_seq_k (fun au aa => (wp_seq_k (fun av ab => (wp_region_lit ?_)))))))
 have ac := o.n (l.n (g.n U))
 refine sw o.ok (o_mv ac) (fun ax q => ?_)
 refine sc q.ok rfl (wn _ rfl) rfl (o_f1 Tryz.func133 rfl rfl rfl q.at_) (by have h := vchk_any K va vc Z (hv.gr j) (hm.gr j); rw [(okS_iff _).2 hK] at h; exact h) ?_
 rintro _ ad ⟨rfl, J⟩
 refine ⟨_, rfl, fun ay r => ?_⟩
 have L := j.trans J
 have af := I.bk.gr J
 refine sw r.ok (o_as r.at_) (fun az z => ?_)
 refine wpList_nil (th_n (ab _ _ (wp_seq_k (fun aA ag => (wp_region_lit (sw z.ok (o_mv z.at_) (fun aB A => ?_)))))))
 refine sw A.ok (o_neq (b := false) A.at_ ev_const (by decide)) (fun aC B => ?_)
 refine wpList_nil (th_n (ag _ _ (wp_cond_false (B.at_) ?_)))
 refine wp_skip (th_n (aa _ _ (wp_seq_k (fun aD aE => (wp_seq_k (fun aF ah => (wp_region_lit ?_)))))))
 have ai := B.n (A.n (z.n (r.n (q.n (o.n (l.n g.at_))))))
 refine sw B.ok (o_ldR ai af Tryz.underlying106 rfl (by kernel_rfl)) (fun aG O => ?_)
 refine sc O.ok rfl (wn _ rfl) rfl (o_f1 Tryz.func77 rfl rfl rfl O.at_) (vone_any y ad (hmy.gr L)) ?_
 rintro _ aH ⟨rfl, aj⟩
 refine ⟨_, rfl, fun aI S => ?_⟩
 have ak := L.trans aj
 refine sw S.ok (o_as S.at_) (fun aJ C => ?_)
 refine wpList_nil (th_n (ah _ _ (wp_seq_k (fun aK al => (wp_region_lit (sw C.ok (o_mv C.at_) (fun aL D => ?_)))))))
 refine sw D.ok (o_neq (b := true) D.at_ ev_const (by simp [show ¬ (chkOne y.d) = 0 from hy])) (fun aM E => ?_)
 refine wpList_nil (th_n (al _ _ (wp_cond_true (E.at_) ?_)))
 refine wp_seq_k (fun aO am => (wp_region_lit (sw E.ok (o_mv (E.n (D.n C.at_))) (fun aS T => ?_))))
 refine sw T.ok (o_as ev_const) (fun aT F => ?_)
 refine sw F.ok (o_as (F.n T.at_)) (fun aU G => ?_)
 refine wpList_nil (th_n (am _ _ (wp_ret (th_r (ret2 G.ok rfl ((G.n F.at_)) (G.at_) ⟨_, congrArg (fun n => Ending.returned (.tuple #[_, .int .i64 n])) (Eq.symm (by unfold putE; rw [if_pos ((okS_iff _).2 hK), if_neg hy])), by unfold putL; rw [if_pos ((okS_iff _).2 hK), if_neg hy]; exact ResV.nil _ _, ak⟩)))))
theorem sput_ok (K : List VerI) (y : VerI) (va : Option Addr) (vc : Nat) (hK : OkS (K.map VerI.d)) (hy : okVr y) (w : World) (hv : RdA encVr 8 w va K) (hm : MeansV w K) (hmy : MeanV w y) :
  Calls Tryz.prog 79 #[.slice va K.length vc, .agg #[.string (bs y.d.id), .int .i64 (y.d.s), .int .i64 (y.d.c), .int .i64 (y.d.t), .int .i64 (y.d.n), .int .i64 (y.d.b), .slice y.va y.d.V.length y.vc, .slice y.ma y.d.M.length y.mc]] w fun e w' => ∃ u, e = .returned (.tuple #[u, .int .i64 (putE (K.map VerI.d) y.d)]) ∧ ResV w.heap.size w' u (putL (K.map VerI.d) y.d) ∧ Gr w w' := by
 refine enter (N := 58) Tryz.func79 rfl rfl rfl (fun a0 ok0 h0 => ?_)
 have cg : a0.eval (.tmp 0) = .slice va K.length vc := h0 0 _ rfl
 have ch : a0.eval (.tmp 1) = .agg #[.string (bs y.d.id), .int .i64 (y.d.s), .int .i64 (y.d.c), .int .i64 (y.d.t), .int .i64 (y.d.n), .int .i64 (y.d.b), .slice y.va y.d.V.length y.vc, .slice y.ma y.d.M.length y.mc] := h0 1 _ rfl
 clear h0
 have G0 := Gr.refl w
 have hlen : K.length ≤ 60 := by have := hK.len; simpa using this
 have hok : ∀ x ∈ K, okVr x := fun x hx => hK.one _ (List.mem_map_of_mem hx)
 refine wp_seq_k (fun K1 cj => (wp_region_lit (sal (cs := #[.string (bs y.d.id), .int .i64 (y.d.s), .int .i64 (y.d.c), .int .i64 (y.d.t), .int .i64 (y.d.n), .int .i64 (y.d.b), .slice y.va y.d.V.length y.vc, .slice y.ma y.d.M.length y.mc]) ok0 rfl (wn _ rfl) rfl (o_box ch) (fun ds w4 b3 W5 n2 => ?_))))
 have G7 := G0.trans W5.gr
 refine sw n2.ok (o_as ev_const) (fun dt n8 => ?_)
 refine sw n8.ok (o_as ev_const) (fun du n9 => ?_)
 refine wpList_nil (th_n (cj _ _ (wp_seq_k (fun dv cl => (wp_seq_k (fun dx cm => (wp_region_lit ?_)))))))
 have br := n9.n (n8.n (n2.n cg))
 refine sw n9.ok (o_mv br) (fun dy ak => ?_)
 refine sc ak.ok rfl (wn _ rfl) rfl (o_f1 Tryz.func133 rfl rfl rfl ak.at_) (by have h := vchk_any K va vc w4 (hv.gr G7) (hm.gr G7); rw [(okS_iff _).2 hK] at h; exact h) ?_
 rintro _ cn ⟨rfl, bt⟩
 refine ⟨_, rfl, fun dz al => ?_⟩
 have bu := G7.trans bt
 have bv := W5.bk.gr bt
 refine sw al.ok (o_as al.at_) (fun dA am => ?_)
 refine wpList_nil (th_n (cm _ _ (wp_seq_k (fun dB co => (wp_region_lit (sw am.ok (o_mv am.at_) (fun dC an => ?_)))))))
 refine sw an.ok (o_neq (b := false) an.at_ ev_const (by decide)) (fun dD ao => ?_)
 refine wpList_nil (th_n (co _ _ (wp_cond_false (ao.at_) ?_)))
 refine wp_skip (th_n (cl _ _ (wp_seq_k (fun dE cp => (wp_seq_k (fun dF cq => (wp_region_lit ?_)))))))
 have bx := ao.n (an.n (am.n (al.n (ak.n (n9.n (n8.n n2.at_))))))
 refine sw ao.ok (o_ldR bx bv Tryz.underlying106 rfl (by kernel_rfl)) (fun dG ap => ?_)
 refine sc ap.ok rfl (wn _ rfl) rfl (o_f1 Tryz.func77 rfl rfl rfl ap.at_) (by have h := vone_any y cn (hmy.gr bu); rw [show chkOne y.d = 0 from hy] at h; exact h) ?_
 rintro _ cr ⟨rfl, bz⟩
 refine ⟨_, rfl, fun dH aq => ?_⟩
 have bA := bu.trans bz
 have bB := bv.gr bz
 refine sw aq.ok (o_as aq.at_) (fun dI ar => ?_)
 refine wpList_nil (th_n (cq _ _ (wp_seq_k (fun dJ ct => (wp_region_lit (sw ar.ok (o_mv ar.at_) (fun dK au => ?_)))))))
 refine sw au.ok (o_neq (b := false) au.at_ ev_const (by decide)) (fun dL av => ?_)
 refine wpList_nil (th_n (ct _ _ (wp_cond_false (av.at_) ?_)))
 refine wp_skip (th_n (cp _ _ (wp_seq_k (fun dM cu => (wp_region_lit ?_)))))
 have a2 := av.n (au.n (ar.n (aq.n (ap.n (ao.n (an.n (am.n (al.n (ak.n br)))))))))
 refine sw av.ok (o_mv a2) (fun dO W => ?_)
 have bC := W.n (av.n (au.n (ar.n (aq.n (ap.n bx)))))
 refine sw W.ok (o_ldR bC bB Tryz.underlying106 rfl (by kernel_rfl)) (fun dS E => ?_)
 refine sc E.ok rfl (wn _ rfl) rfl (o_f3 Tryz.func135 rfl rfl rfl (E.n W.at_) E.at_ ev_func) (search_any K y va vc (by omega) (fun j k x z q1 q2 q3 q4 => sort_at hK.sort q1 (map_at q2) (map_at q3) q4) cr (hv.gr bA)) ?_
 rintro _ a8 ⟨i1, b1, rfl, hi1, hlo1, hhi1, F, bD⟩
 refine ⟨_, rfl, fun dU X => ?_⟩
 have r := bA.trans bD
 have bE := bB.gr bD
 refine sw X.ok (o_mv X.at_) (fun dV G => ?_)
 refine sw G.ok (o_ex G.at_ rfl) (fun dW H => ?_)
 refine sw H.ok (o_ex (H.n G.at_) rfl) (fun dX I => ?_)
 refine sw I.ok (o_as (I.n H.at_)) (fun dY Y => ?_)
 refine sw Y.ok (o_as (Y.n I.at_)) (fun dZ Z => ?_)
 refine wpList_nil (th_n (cu _ _ (wp_seq_k (fun d0 cy => (wp_region_lit ?_)))))
 have bF := Z.n (Y.n (I.n (H.n (G.n (X.n (E.n bC))))))
 refine sw Z.ok (o_mf (fs := []) (cs := [.pointer (some ⟨b3, 0, none⟩)]) (by simp) (by simp [bF])) (fun d1 J => ?_)
 refine sw J.ok (o_as J.at_) (fun d2 L => ?_)
 refine wpList_nil (th_n (cy _ _ (wp_seq_k (fun d3 cz => (wp_seq_k (fun d4 bG => (wp_region_lit (sw L.ok (o_mv (L.n (J.n Z.at_))) (fun d5 O => ?_)))))))))
 refine sw O.ok (o_mv O.at_) (fun d6 g => ?_)
 cases l : b1
 ·have ax := (g.at_).trans (congrArg Value.bool (l))
  have a9 := g.n (O.n (L.n (J.n (Z.n (Y.n (I.n (H.n (G.n (X.n (E.n (W.n a2)))))))))))
  refine sv g.ok rfl (wgT rfl (yl 1 false rfl ax) rfl) rfl (o_mv a9) (fun d7 a => ?_)
  have cA := a.n (g.n (O.n L.at_))
  refine sv a.ok rfl (wgT rfl (yl 1 false rfl (a.n ax)) rfl) rfl (o_mv cA) (fun d8 o => ?_)
  refine sc o.ok rfl (wgT rfl (yl 1 false rfl (o.n (a.n ax))) rfl) rfl (o_f2 Tryz.func62 rfl rfl rfl (o.n a.at_) o.at_) (containsV K va vc _ [.pointer (some ⟨b3, 0, none⟩)] (fun x => ovB x.d y.d) ⟨_, Tryz.func137, rfl, rfl⟩ (by omega) a8 (hv.gr r) (fun x hx A B => put1_any x y b3 (hok x hx) hy A ((hm x hx).gr (r.trans B)) (bE.gr B))) ?_
  rintro _ ba ⟨rfl, bH⟩
  refine ⟨_, rfl, fun d9 S => ?_⟩
  have aa := r.trans bH
  have bI := bE.gr bH
  have cB := S.n (o.n (a.n ax))
  refine sw S.ok (o_pkF cB S.at_) (fun fa C => ?_)
  refine wpList_nil (th_n (bG _ _ ?_))
  cases q : (K.any fun x => ovB x.d y.d)
  ·refine wp_cond_false ((C.at_).trans (congrArg Value.bool (q))) ?_
   refine wp_skip (th_n (cz _ _ (wp_seq_k (fun fb cC => (wp_region_lit ?_)))))
   have cD := C.n (S.n (o.n (a.n a9)))
   refine sw C.ok (o_mv cD) (fun fc bb => ?_)
   have bJ := bb.n (C.n (S.n (o.n (a.n (g.n (O.n (L.n (J.n bF))))))))
   refine sw bb.ok (o_ldR bJ bI Tryz.underlying106 rfl (by kernel_rfl)) (fun ff ay => ?_)
   refine sc ay.ok rfl (wn _ rfl) rfl (o_f1 Tryz.func138 rfl rfl rfl ay.at_) (supBy_any y ba) ?_
   rintro _ az ⟨cS, rfl, -, hbS, bK⟩
   refine ⟨_, rfl, fun fg aA => ?_⟩
   have ab := aa.trans bK
   have cE := bI.gr bK
   have cF := Gr.refl az
   obtain ⟨basew, bc⟩ : ∃ n, n = az.heap.size := ⟨_, rfl⟩
   have aB : w.heap.size ≤ basew := by rw [bc]; exact ab.size
   have cG : basew ≤ az.heap.size := Nat.le_of_eq bc
   refine sc aA.ok rfl (wn _ rfl) rfl (o_f2 Tryz.func139 rfl rfl rfl (aA.n (ay.n bb.at_)) aA.at_) (without_any K va vc _ [.pointer (some ⟨cS, 0, none⟩)] (fun x => ovB y.d x.d) ⟨_, Tryz.func189, rfl, rfl⟩ (by omega) hok az (hv.gr ab) (hm.gr ab) (fun x hx A B => supBy1_any x y cS (hok x hx) (chkOne_zero hy).2.2.1 A (hmy.gr (ab.trans B)) (((hbS.gr cF)).gr B))) ?_
   rintro _ cH ⟨Rw, vw, rfl, hRw, hOw, hPw, bd⟩
   obtain ⟨raw, rcw, rfl, -⟩ := ow_form hOw
   rw [← bc] at hOw hPw
   refine ⟨_, rfl, fun fh bf => ?_⟩
   have bL := ab.trans bd
   have bM := cE.gr bd
   have cI := Nat.le_trans cG bd.size
   refine sw bf.ok (o_as bf.at_) (fun fi aC => ?_)
   refine wpList_nil (th_n (cC _ _ (wp_seq_k (fun fj cJ => (wp_seq_k (fun fk cK => (wp_region_lit (sw aC.ok (o_mv aC.at_) (fun fl aD => ?_)))))))))
   refine sw aD.ok (o_len aD.at_ Tryz.underlying41) (fun fm aE => ?_)
   refine sw aE.ok (o_eqI aE.at_ ev_const) (fun fn T => ?_)
   refine wpList_nil (th_n (cK _ _ ?_))
   by_cases bO : ((Rw.length : Nat) : Int) = 60
   ·refine wp_cond_true ((T.at_).trans (congrArg Value.bool (decide_eq_true bO))) ?_
    refine wp_seq_k (fun fo cL => (wp_region_lit (sw T.ok (o_as ev_const) (fun fp bS => ?_))))
    refine sw bS.ok (o_as ev_const) (fun fq bg => ?_)
    refine wpList_nil (th_n (cL _ _ (wp_ret (th_r ?_))))
    have hKl : (svKeep (K.map VerI.d) y.d).length = 60 := by unfold svKeep; rw [← filt_map K (fun x => !ovB y.d x), ← hRw, List.length_map]; omega
    exact ret2 bg.ok rfl ((bg.n bS.at_)) (bg.at_) ⟨_, congrArg (fun n => Ending.returned (.tuple #[_, .int .i64 n])) (Eq.symm (by unfold putE; rw [if_pos ((okS_iff _).2 hK), if_pos (show chkOne y.d = 0 from hy), if_neg (show ¬ svHeld (K.map VerI.d) y.d = true from by rw [held_map, ← there_eq hlo1 hhi1 hK.sort F, l, q]; simp), if_pos hKl])), by unfold putL; rw [if_pos ((okS_iff _).2 hK), if_pos (show chkOne y.d = 0 from hy), if_neg (show ¬ svHeld (K.map VerI.d) y.d = true from by rw [held_map, ← there_eq hlo1 hhi1 hK.sort F, l, q]; simp), if_pos hKl]; exact ResV.nil _ _, bL⟩
   ·refine wp_cond_false ((T.at_).trans (congrArg Value.bool (decide_eq_false bO))) ?_
    refine wp_skip (th_n (cJ _ _ (wp_seq_k (fun fr cM => (wp_region_lit ?_)))))
    have bT := T.n (aE.n (aD.n aC.at_))
    refine sw T.ok (o_mv bT) (fun ft aF => ?_)
    have bU := aF.n (T.n (aE.n (aD.n (aC.n (bf.n (aA.n (ay.n bJ)))))))
    refine sw aF.ok (o_ldR bU bM Tryz.underlying106 rfl (by kernel_rfl)) (fun fu ac => ?_)
    refine sc ac.ok rfl (wn _ rfl) rfl (o_f3 Tryz.func135 rfl rfl rfl (ac.n aF.at_) ac.at_ ev_func) (search_any Rw y raw rcw (by have := congrArg List.length hRw; have h2 := List.length_filter_le (fun x => !ovB y.d x.d) K; simp only [List.length_map] at this; omega) (fun j k x z q1 q2 q3 q4 => sort_at (by rw [hRw, filt_map K (fun x => !ovB y.d x)]; exact (svKeep_ok hK _).sort) q1 (map_at q2) (map_at q3) q4) cH (RdA.own encVr_ok hOw rfl)) ?_
    rintro _ cT ⟨U, b2, rfl, hi2, hlo2, hhi2, fx, ad⟩
    refine ⟨_, rfl, fun fy aG => ?_⟩
    have bV := bL.trans ad
    have cU := bM.gr ad
    have bW := Nat.le_trans cI ad.size
    have cV := ow_gr hOw ad
    have cW := hPw.tk (tks_gr ad)
    refine sw aG.ok (o_mv aG.at_) (fun fz af => ?_)
    refine sw af.ok (o_ex af.at_ rfl) (fun fA ag => ?_)
    refine sw ag.ok (o_ex (ag.n af.at_) rfl) (fun fB ah => ?_)
    refine sw ah.ok (o_as (ah.n ag.at_)) (fun fC ai => ?_)
    refine sw ai.ok (o_as (ai.n ah.at_)) (fun fD aH => ?_)
    refine wpList_nil (th_n (cM _ _ (wp_seq_k (fun fE cX => (wp_region_lit ?_)))))
    have cY := aH.n (ai.n (ah.n (ag.n (af.n (aG.n (ac.n (aF.n bT)))))))
    refine sw aH.ok (o_mv cY) (fun fF aI => ?_)
    refine sw aI.ok (o_mv (aI.n (aH.n ai.at_))) (fun fG aJ => ?_)
    have cZ := aJ.n (aI.n (aH.n (ai.n (ah.n (ag.n (af.n (aG.n (ac.n bU))))))))
    refine sw aJ.ok (o_ldR cZ cU Tryz.underlying106 rfl (by kernel_rfl)) (fun fH aK => ?_)
    refine sc aK.ok rfl (wn _ rfl) rfl (o_f1 Tryz.func142 rfl rfl rfl aK.at_) (clone_any y hy cT (hmy.gr bV)) ?_
    rintro _ fI ⟨y2, hy2, rfl, hk2, aL⟩
    refine ⟨_, rfl, fun fJ aM => ?_⟩
    have c0 := bV.trans aL
    have c1 := Nat.le_trans bW aL.size
    have bX := ow_gr cV aL
    have c2 := cW.tk (tks_gr aL)
    obtain ⟨fK, c3, c4, bh⟩ := info3_of (show (Tryz.prog.info? 106).map (fun i => (i.zero, i.size)) = some (some (.agg #[.string (bs []), .int .i64 0, .int .i64 0, .int .i64 0, .int .i64 0, .int .i64 0, .slice none 0 0, .slice none 0 0]), 8) by kernel_rfl)
    refine sals (cs := #[.string (bs y2.d.id), .int .i64 (y2.d.s), .int .i64 (y2.d.c), .int .i64 (y2.d.t), .int .i64 (y2.d.n), .int .i64 (y2.d.b), .slice y2.va y2.d.V.length y2.vc, .slice y2.ma y2.d.M.length y2.mc]) aM.ok rfl (wn _ rfl) rfl (o_bs (vs := [(0, .agg #[.string (bs y2.d.id), .int .i64 (y2.d.s), .int .i64 (y2.d.c), .int .i64 (y2.d.t), .int .i64 (y2.d.n), .int .i64 (y2.d.b), .slice y2.va y2.d.V.length y2.vc, .slice y2.ma y2.d.M.length y2.mc])]) (by simp [aM.at_, ev_const]) Tryz.underlying41 c3 c4 (by rw [bh]; rfl) (by rw [bh]; rfl) (by rw [bh]; kernel_rfl)) (fun fL c5 bY D aO => ?_)
    have c6 : ∀ k, Value.ownBlock (.slice raw Rw.length rcw) = some k → k < bY := fun k e => by rw [D.eq]; exact ow_in bX k e
    have bZ := c0.trans D.gr
    have c7 := Nat.le_trans c1 D.gr.size
    have aS := ow_gr bX D.gr
    have c8 := c2.tk (tks_gr D.gr)
    have c9 := (hk2.base bW).tk (tks_gr D.gr)
    have da := aO.n (aM.n (aK.n (aJ.n aI.at_)))
    have db := aO.n (aM.n (aK.n aJ.at_))
    refine sc aO.ok rfl (wn _ rfl) rfl (o_f3 Tryz.func141 rfl rfl rfl da db aO.at_) (insert_any Rw y2 _ bY basew U (by have := congrArg List.length hRw; have h2 := List.length_filter_le (fun x => !ovB y.d x.d) K; simp only [List.length_map] at this; omega) hi2 w c5 bZ aB c7 aS D.bk c6) ?_
    rintro _ fM ⟨u3, rfl, dc, bi⟩
    refine ⟨_, rfl, fun fS b0 => ?_⟩
    have dd := Gr.grown bZ bi (fun k e => Nat.le_trans aB (ow_lt aS k e))
    have df := c8.tk (tks_grown aS bi (by decide))
    have dg := c9.tk (tks_grown aS bi (by decide))
    refine sw b0.ok (o_as b0.at_) (fun fT b4 => ?_)
    refine sw b4.ok (o_as ev_const) (fun fU bj => ?_)
    refine wpList_nil (th_n (cX _ _ (wp_ret ?_)))
    have hKl : ¬ (svKeep (K.map VerI.d) y.d).length = 60 := by unfold svKeep; rw [← filt_map K (fun x => !ovB y.d x), ← hRw, List.length_map]; omega
    have hfin : (Rw.take U ++ y2 :: Rw.drop U).map VerI.d = svIns (svKeep (K.map VerI.d) y.d) y.d := by
     have e : Rw.map VerI.d = svKeep (K.map VerI.d) y.d := by unfold svKeep; rw [← filt_map K (fun x => !ovB y.d x), hRw]
     rw [List.map_append, List.map_cons, List.map_take, List.map_drop, hy2, e]
     rw [← e]
     refine cut_at (by rw [List.length_map]; exact hi2) (fun k x hk hx => ?_) (fun k x hk hx => ?_)
     ·obtain ⟨z, hz, rfl⟩ := map_of hx
      exact hlo2 k z hk hz
     ·obtain ⟨z, hz, rfl⟩ := map_of hx
      exact hhi2 k z hk hz
    have hlf : (Rw.take U ++ y2 :: Rw.drop U).length = Rw.length + 1 := by rw [List.length_append, List.length_cons, List.length_take, List.length_drop]; omega
    exact ret2 bj.ok rfl ((bj.n b4.at_)) (bj.at_) ⟨_, congrArg (fun n => Ending.returned (.tuple #[_, .int .i64 n])) (Eq.symm (by unfold putE; rw [if_pos ((okS_iff _).2 hK), if_pos (show chkOne y.d = 0 from hy), if_neg (show ¬ svHeld (K.map VerI.d) y.d = true from by rw [held_map, ← there_eq hlo1 hhi1 hK.sort F, l, q]; simp), if_neg hKl])), by unfold putL; rw [if_pos ((okS_iff _).2 hK), if_pos (show chkOne y.d = 0 from hy), if_neg (show ¬ svHeld (K.map VerI.d) y.d = true from by rw [held_map, ← there_eq hlo1 hhi1 hK.sort F, l, q]; simp), if_neg hKl]; exact ⟨_, hfin, by rw [hlf]; exact ow_lessb dc aB, (OwnsVr.ins df dg U).base aB⟩, dd⟩
  ·refine wp_cond_true ((C.at_).trans (congrArg Value.bool (q))) ?_
   refine wp_seq_k (fun fV dh => (wp_region_lit ?_))
   have di := C.n (S.n (o.n (a.n a9)))
   refine sw C.ok (o_mv di) (fun fW b5 => ?_)
   obtain ⟨basen, b6⟩ : ∃ n, n = ba.heap.size := ⟨_, rfl⟩
   have b7 : w.heap.size ≤ basen := by rw [b6]; exact aa.size
   refine sc b5.ok rfl (wn _ rfl) rfl (o_f2 Tryz.func139 rfl rfl rfl b5.at_ ev_func) (without_any K va vc _ [] (fun _ => false) ⟨_, Tryz.func140, rfl, rfl⟩ (by omega) hok ba (hv.gr aa) (hm.gr aa) (fun x hx A B => never_any x A)) ?_
   rintro _ fX ⟨Rn, vn, rfl, hRn, hOn, hPn, dj⟩
   obtain ⟨ran, rcn, rfl, -⟩ := ow_form hOn
   rw [← b6] at hOn hPn
   refine ⟨_, rfl, fun fY b8 => ?_⟩
   have dk := aa.trans dj
   refine sw b8.ok (o_as b8.at_) (fun fZ b9 => ?_)
   refine sw b9.ok (o_as ev_const) (fun f0 bl => ?_)
   refine wpList_nil (th_n (dh _ _ (wp_ret (th_r (ret2 bl.ok rfl ((bl.n b9.at_)) (bl.at_) ⟨_, congrArg (fun n => Ending.returned (.tuple #[_, .int .i64 n])) (Eq.symm (by unfold putE; rw [if_pos ((okS_iff _).2 hK), if_pos (show chkOne y.d = 0 from hy), if_pos (show svHeld (K.map VerI.d) y.d = true from by rw [held_map, q, Bool.or_true])])), by unfold putL; rw [if_pos ((okS_iff _).2 hK), if_pos (show chkOne y.d = 0 from hy), if_pos (show svHeld (K.map VerI.d) y.d = true from by rw [held_map, q, Bool.or_true])]; exact ⟨Rn, by rw [hRn, all_keep], ow_lessb hOn b7, hPn.base b7⟩, dk⟩)))))
 ·have aT := (g.at_).trans (congrArg Value.bool (l))
  refine sn g.ok rfl (wgF rfl (yl 1 true rfl aT) rfl) rfl (fun f1 aj => ?_)
  refine sn aj.ok rfl (wgF rfl (yl 1 true rfl (aj.n aT)) rfl) rfl (fun f2 aU => ?_)
  refine sn aU.ok rfl (wgF rfl (yl 1 true rfl (aU.n (aj.n aT))) rfl) rfl (fun f3 bm => ?_)
  have dl := bm.n (aU.n (aj.n aT))
  refine sw bm.ok (o_pkT dl ev_const) (fun f4 bn => ?_)
  refine wpList_nil (th_n (bG _ _ (wp_cond_true (bn.at_) ?_)))
  refine wp_seq_k (fun f5 dm => (wp_region_lit ?_))
  have dn := bn.n (bm.n (aU.n (aj.n (g.n (O.n (L.n (J.n (Z.n (Y.n (I.n (H.n (G.n (X.n (E.n (W.n a2)))))))))))))))
  refine sw bn.ok (o_mv dn) (fun f6 ca => ?_)
  obtain ⟨basen, cb⟩ : ∃ n, n = a8.heap.size := ⟨_, rfl⟩
  have cc : w.heap.size ≤ basen := by rw [cb]; exact r.size
  refine sc ca.ok rfl (wn _ rfl) rfl (o_f2 Tryz.func139 rfl rfl rfl ca.at_ ev_func) (without_any K va vc _ [] (fun _ => false) ⟨_, Tryz.func140, rfl, rfl⟩ (by omega) hok a8 (hv.gr r) (hm.gr r) (fun x hx A B => never_any x A)) ?_
  rintro _ f7 ⟨Rn, vn, rfl, hRn, hOn, hPn, dp⟩
  obtain ⟨ran, rcn, rfl, -⟩ := ow_form hOn
  rw [← cb] at hOn hPn
  refine ⟨_, rfl, fun f8 cd => ?_⟩
  have dq := r.trans dp
  refine sw cd.ok (o_as cd.at_) (fun f9 cf => ?_)
  refine sw cf.ok (o_as ev_const) (fun ga bo => ?_)
  refine wpList_nil (th_n (dm _ _ (wp_ret (th_r (ret2 bo.ok rfl ((bo.n cf.at_)) (bo.at_) ⟨_, congrArg (fun n => Ending.returned (.tuple #[_, .int .i64 n])) (Eq.symm (by unfold putE; rw [if_pos ((okS_iff _).2 hK), if_pos (show chkOne y.d = 0 from hy), if_pos (show svHeld (K.map VerI.d) y.d = true from by rw [held_map, ← there_eq hlo1 hhi1 hK.sort F, l]; rfl)])), by unfold putL; rw [if_pos ((okS_iff _).2 hK), if_pos (show chkOne y.d = 0 from hy), if_pos (show svHeld (K.map VerI.d) y.d = true from by rw [held_map, ← there_eq hlo1 hhi1 hK.sort F, l]; rfl)]; exact ⟨Rn, by rw [hRn, all_keep], ow_lessb hOn cc, hPn.base cc⟩, dq⟩)))))
end Go.Proofs.YtglbnggkkjhokaaGreat
/- SameVersion, SameShelf, shelfBegun; Put at every input. -/
namespace Rm
open Go Go.RowKit Gx
def sameVB (a b : VerD) : Bool := decide (a.id = b.id) && decide (a.s = b.s ∧ a.c = b.c) && decide (a.t = b.t ∧ a.n = b.n) && decide (a.b = b.b) && decide (a.V = b.V ∧ a.M = b.M)
theorem sameVB_iff (a b : VerD) : sameVB a b = true ↔ a = b := by
 unfold sameVB
 simp only [Bool.and_eq_true, decide_eq_true_eq]
 constructor
 ·rintro ⟨⟨⟨⟨h1, h2, h3⟩, h4, h5⟩, h6⟩, h7, h8⟩
  cases a; cases b
  simp_all
 ·rintro rfl
  simp
instance : DecidableEq VerD := fun a b => decidable_of_iff (sameVB a b = true) (sameVB_iff a b)
end Rm
namespace Go.Proofs.YtglbnggkkjhokaaGreat
open Go.RowKit Rm Gx
theorem sput_any (K : List VerI) (y : VerI) (va : Option Addr) (vc : Nat) (w : World) (hv : RdA encVr 8 w va K) (hm : MeansV w K) (hmy : MeanV w y) :
  Calls Tryz.prog 79 #[.slice va K.length vc, .agg (encVr y).toArray] w fun e w' => ∃ u, e = .returned (.tuple #[u, .int .i64 (putE (K.map VerI.d) y.d)]) ∧ ResV w.heap.size w' u (putL (K.map VerI.d) y.d) ∧ Gr w w' := by
 by_cases hK : chkShf (K.map VerI.d) = 0
 ·by_cases hy : chkOne y.d = 0
  ·exact sput_ok K y va vc ((okS_iff _).1 hK) hy w hv hm hmy
  ·exact sput_badv K y va vc ((okS_iff _).1 hK) hy w hv hm hmy
 ·exact sput_bad K y va vc hK w hv hm hmy
end Go.Proofs.YtglbnggkkjhokaaGreat
/- shelf.Drop, Get. -/
namespace Rm
open Go Go.RowKit Gx
def gone (id : List UInt8) (V : List Int) (M : List (Int × Int)) : VerD := ⟨id, 0, 0, 0, 0, 0, V, M⟩
end Rm
namespace Go.Proofs.YtglbnggkkjhokaaGreat
open Go.RowKit Rm Gx
end Go.Proofs.YtglbnggkkjhokaaGreat
/- reedkeep.laid. -/
namespace Go.Proofs.YtglbnggkkjhokaaGreat
open Go.RowKit Rm Gx
theorem ow_capf {w : World} {base s n c : Nat} {t : TypeId} {a : Option Addr} {xs : List Value} (h : w.ownsRow base t s (.slice a n c) n xs) : n ≤ c ∧ (a = none → c = 0) := by
 obtain ⟨-, ⟨e, hn⟩ | ⟨g, cap, cur, e, -, -, hc, -⟩⟩ := h
 ·injection e with e1 e2 e3
  subst hn e3
  exact ⟨Nat.le_refl _, fun _ => rfl⟩
 ·injection e with e1 e2 e3
  subst e1 e3
  exact ⟨hc, fun q => by cases q⟩
end Go.Proofs.YtglbnggkkjhokaaGreat
/- A region that draws its order: a chain of calls, then two parts of its answer are taken, a block is made whenever it likes, and the first part is stored in it. -/
namespace Gx
open Go Go.RowKit Rm
section
variable {P : Program} {ops : Array Oper} {Q : Exit → Act → World → Prop} {N : Nat} {a₀ : Act} {w₀ : World} {hs : List Nat}
def shapeF (ops : Array Oper) (hs : List Nat) (f : Nat) : Bool :=
  (hs.all fun i => ((ops[i]?).bind (·.dst)).isSome && ((hs.all fun j => Nat.beq j i || !Nat.beq (dstAt ops j) (dstAt ops i))) && (!Nat.beq (dstAt ops i) (dstAt ops f)) && (match ops[i]? with | some o => o.after.toList.all fun e => !(Region.binds .any e) || hd hs e.on | none => false)) &&
  (!hd hs f) && (match ops[f]? with | some o => (o.after.toList.all fun e => !(Region.binds .any e)) && (match o.dst with | some _ => true | none => false) && (match o.guard with | none => true | some _ => false) | none => false) &&
  ((List.range ops.size).all fun i => hd hs i || Nat.beq i f || (hs.all fun j => reach ops ops.size i j))
theorem shapeF_spec {f : Nat} (h : shapeF ops hs f = true) : (∀ i, hd hs i = true → ∃ o, ops[i]? = some o ∧ o.dst = some (dstAt ops i) ∧ ∀ e ∈ o.after, Region.binds .any e = true → hd hs e.on = true) ∧
  (∀ i j, hd hs i = true → hd hs j = true → i ≠ j → dstAt ops j ≠ dstAt ops i) ∧ (∀ i, hd hs i = true → dstAt ops i ≠ dstAt ops f) ∧ hd hs f = false ∧ (∃ o, ops[f]? = some o ∧ o.dst = some (dstAt ops f) ∧ o.guard = none ∧ ∀ e ∈ o.after, Region.binds .any e = false) ∧ (∀ i, i < ops.size → hd hs i = false → i ≠ f → ∀ j, hd hs j = true → reach ops ops.size i j = true) := by
 unfold shapeF at h
 simp only [Bool.and_eq_true] at h
 obtain ⟨⟨⟨h1, h2⟩, h3⟩, h4⟩ := h
 have key : ∀ i, hd hs i = true → ((((ops[i]?).bind (·.dst)).isSome = true ∧ (∀ j, hd hs j = true → i ≠ j → dstAt ops j ≠ dstAt ops i)) ∧ dstAt ops i ≠ dstAt ops f) ∧ (match ops[i]? with | some o => o.after.toList.all fun e => !(Region.binds .any e) || hd hs e.on | none => false) = true := by
  intro i hi
  have := List.all_eq_true.1 h1 i (hd_mem.1 hi)
  simp only [Bool.and_eq_true] at this
  refine ⟨⟨⟨this.1.1.1, fun j hj hne => ?_⟩, ?_⟩, this.2⟩
  ·have h3 := List.all_eq_true.1 this.1.1.2 j (hd_mem.1 hj)
   rw [Bool.or_eq_true] at h3
   rcases h3 with h3 | h3
   ·exact absurd (Nat.eq_of_beq_eq_true h3).symm hne
   ·rw [Bool.not_eq_true'] at h3
    exact Nat.ne_of_beq_eq_false h3
  ·have := this.1.2
   rw [Bool.not_eq_true'] at this
   exact Nat.ne_of_beq_eq_false this
 refine ⟨fun i hi => ?_, fun i j hi hj hne => (key i hi).1.1.2 j hj hne, fun i hi => (key i hi).1.2, by simpa using h2, ?_, fun i hi hn hf j hj => ?_⟩
 ·obtain ⟨⟨⟨k1, -⟩, -⟩, k2⟩ := key i hi
  cases ho : ops[i]? with
  | none => rw [ho] at k1; cases k1
  | some o =>
   refine ⟨o, rfl, ?_, fun e he hb => ?_⟩
   ·rw [ho] at k1
    simp only [Option.bind_some] at k1
    obtain ⟨d, hd'⟩ := Option.isSome_iff_exists.1 k1
    unfold dstAt
    rw [ho]
    simp [hd']
   ·rw [ho] at k2
    have := List.all_eq_true.1 k2 e (by simpa using he)
    rw [hb] at this
    simpa using this
 ·cases ho : ops[f]? with
  | none => rw [ho] at h3; cases h3
  | some o =>
   rw [ho] at h3
   simp only [Bool.and_eq_true] at h3
   obtain ⟨⟨h5, h6⟩, h7⟩ := h3
   refine ⟨o, rfl, ?_, ?_, fun e he => ?_⟩
   ·cases hd' : o.dst with
    | none => rw [hd'] at h6; cases h6
    | some d => unfold dstAt; rw [ho]; simp [hd']
   ·cases hg : o.guard with
    | none => rfl
    | some x => rw [hg] at h7; cases h7
   ·have := List.all_eq_true.1 h5 e (by simpa using he)
    simpa using this
 ·have := List.all_eq_true.1 h4 i (List.mem_range.2 hi)
  rw [hn, Bool.false_or, Bool.or_eq_true] at this
  rcases this with this | this
  ·exact absurd (Nat.eq_of_beq_eq_true this) hf
  ·exact List.all_eq_true.1 this j (hd_mem.1 hj)
theorem fd_cons {f i d : Nat} {o : Oper} (ho : ops[i]? = some o) (hi : hd hs i = true ∨ i = f) (hdst : o.dst = some d) : d ∈ fdH ops (f :: hs) := by
 unfold fdH
 rw [List.mem_filterMap]
 refine ⟨i, ?_, by rw [ho]; exact hdst⟩
 rcases hi with hi | hi
 ·exact List.mem_cons_of_mem _ (hd_mem.1 hi)
 ·rw [hi]; exact List.mem_cons_self ..
end
section
variable {N : Nat} {ap : Act} {wp w₀ : World} {df d0 d1 : Nat} {v0 v1 : Value} {z : Array Value} {ty : TypeId} {b0 b1 bf : Bool} {a : Act} {w : World}
end
section
variable {P : Program} {ops : Array Oper} {Q : Exit → Act → World → Prop} {N : Nat}
theorem w_alloc {i : Nat} {o : Oper} {R : Act → World → Prop} {a : Act} {w w' : World} {d : Nat} {v : Value} (ho : ops[i]? = some o) (hw : Region.wanted o (yielded ops a.tmps) = true) (hd : o.dst = some d)
  (hrun : (execOp a.eval o).run P w = .ok (.value v) w') (h : R (a.put (some d) v) w') : wpOp P ops Q i R a w := by
 unfold wpOp
 rw [ho]
 simp only [hw, if_true]
 refine .inl ?_
 unfold Oper.wp
 rw [hrun]
 show R (a.put o.dst v) w'
 rw [hd]
 exact h
end
end Gx
/- Vectors: [5]int, the set that a vector is. -/
namespace Rm
open Go Go.RowKit Gx
end Rm
namespace Go.Proofs.YtglbnggkkjhokaaGreat
open Go.RowKit Rm Gx
theorem ow_updT {w w' : World} {base s n b : Nat} {t t' : TypeId} {v : Value} {xs : List Value} {cs : Array Value} (h : w.ownsRow base t s v n xs) (u : Upd w w' b) (hb : Bk w b cs t') (ht : Nat.beq t t' = false) : w'.ownsRow base t s v n xs := by
 obtain ⟨h1, h2 | ⟨g, cap, cur, rfl, h3, hg, h4⟩⟩ := h
 ·exact ⟨h1, .inl h2⟩
 ·refine ⟨h1, .inr ⟨g, cap, cur, rfl, h3, (u.oth g (fun e => ?_)).trans hg, h4⟩⟩
  subst e
  unfold Bk at hb
  rw [hb] at hg
  injection hg with hg
  injection hg with _ h5
  exact Nat.ne_of_beq_eq_false ht h5.symm
end Go.Proofs.YtglbnggkkjhokaaGreat
/- Versions as told: each over some that came ahead, and over what those are over. -/
namespace Rm
open Go Go.RowKit Gx
def dsV (x : VerD) : DS := memB (x.V.map Int.toNat) (x.M.map fun d => (d.1.toNat, d.2.toNat))
theorem ovB_ds (a b : VerD) : ovB a b = (decide (b.id = a.id) && dsV a b.s.toNat b.c.toNat) := rfl
theorem ovB_iff (a b : VerD) : ovB a b = true ↔ b.id = a.id ∧ dsV a b.s.toNat b.c.toNat = true := by rw [ovB_ds, Bool.and_eq_true, decide_eq_true_eq]
theorem form_sum {D : DS} {v : List Nat} (h : ∀ s c, s < 5 → c ≤ 1000 → D s c = true → 1 ≤ c ∧ c ≤ cv v s) (hv : cv v 0 + cv v 1 + cv v 2 + cv v 3 + cv v 4 ≤ 60) : (formM D).length ≤ 60 := by
 have key : ∀ s, s < 5 → (restD D s).length ≤ cv v s := by
  intro s hs
  unfold restD
  rw [List.length_map]
  have h1 : ((List.range 1001).filter fun c => decide (run D s + 2 ≤ c) && D s c).length ≤ ((List.range 1001).filter fun c => decide (1 ≤ c ∧ c ≤ cv v s)).length := by
   rw [← List.countP_eq_length_filter, ← List.countP_eq_length_filter]
   apply List.countP_mono_left
   intro c hc hq
   simp only [Bool.and_eq_true, decide_eq_true_eq] at hq ⊢
   have hc' := List.mem_range.1 hc
   exact h s c hs (by omega) hq.2
  refine Nat.le_trans h1 ?_
  have h2 : ∀ n m : Nat, ((List.range n).filter fun c => decide (1 ≤ c ∧ c ≤ m)).length ≤ m := by
   intro n m
   have h3 : ((List.range n).filter fun c => decide (1 ≤ c ∧ c ≤ m)).length ≤ min (n - 1) m := by
    induction n with
    | zero => simp
    | succ n ih =>
     rw [List.range_succ, List.filter_append, List.length_append]
     by_cases q : 1 ≤ n ∧ n ≤ m
     ·rw [show ([n].filter fun c => decide (1 ≤ c ∧ c ≤ m)) = [n] by simp [q]]
      simp only [List.length_singleton]
      omega
     ·rw [show ([n].filter fun c => decide (1 ≤ c ∧ c ≤ m)) = [] by simp [q]]
      simp only [List.length_nil]
      omega
   omega
  exact h2 _ _
 have k0 := key 0 (by omega); have k1 := key 1 (by omega); have k2 := key 2 (by omega); have k3 := key 3 (by omega); have k4 := key 4 (by omega)
 show ((List.range 5).flatMap (restD D)).length ≤ 60
 have e : (List.range 5).flatMap (restD D) = restD D 0 ++ restD D 1 ++ restD D 2 ++ restD D 3 ++ restD D 4 := by
  rw [show List.range 5 = [0, 1, 2, 3, 4] from rfl]
  simp [List.flatMap_cons, List.append_assoc]
 rw [e]
 simp only [List.length_append]
 omega
theorem ints_nat (v : List Nat) : (ints v).map Int.toNat = v := by
 unfold ints
 rw [List.map_map]
 conv => rhs; rw [← List.map_id v]
 exact List.map_congr_left fun x _ => by simp
theorem pairs_nat (m : List (Nat × Nat)) : ((pairs m).map fun d => (d.1.toNat, d.2.toNat)) = m := by
 unfold pairs
 rw [List.map_map]
 conv => rhs; rw [← List.map_id m]
 exact List.map_congr_left fun x _ => by simp
end Rm
/- reedkeep.told. -/
namespace Gx
open Go Go.RowKit Rm
section
variable {P : Program} {ev : Operand → Value} {d : Option Tmp} {ty : TypeId} {p : String} {af : Array Edge} {g : Option (Nat × Bool)} {w : World}
end
end Gx
namespace Rm
open Go Go.RowKit Gx
end Rm
namespace Go.Proofs.YtglbnggkkjhokaaGreat
open Go.RowKit Rm Gx
theorem bk_grownT {w w' : World} {b base s n : Nat} {cs : Array Value} {t t' : TypeId} {v : Value} {xs : List Value} (h : Bk w b cs t) (ho : w.ownsRow base t' s v n xs) (g : w.grownBy w' v.ownBlock) (ht : Nat.beq t' t = false) : Bk w' b cs t := (g.block b h.lt (fun e => by
 obtain ⟨-, ⟨rfl, -⟩ | ⟨k, cap, cur, rfl, -, hg, -⟩⟩ := ho
 ·cases e
 ·obtain rfl : b = k := by simpa [Value.ownBlock] using e
  unfold Bk at h
  rw [hg] at h
  injection h with h
  injection h with _ h2
  exact Nat.ne_of_beq_eq_false ht h2)).trans h
end Go.Proofs.YtglbnggkkjhokaaGreat
/- slices.SortFunc at dots by shelf.compareDots: the same dots, in order. -/
namespace Go.Proofs.YtglbnggkkjhokaaGreat
open Go.RowKit Rm Go.Sort
theorem scompare_any (x y : Nat × Nat) (w : World) :
  Calls Tryz.prog 184 #[.agg #[.int .i64 x.1, .int .i64 x.2], .agg #[.int .i64 y.1, .int .i64 y.2]] w fun e w' => e = .returned (.int .i64 (cmpD x y)) ∧ GrD w w' := by
 have H1 := Lib.hid (cmp_any (x.1 : Int) (y.1 : Int))
 have H2 := Lib.hid (cmp_any (x.2 : Int) (y.2 : Int))
 have H3 := Lib.hid (or_any (Lib.compareInt (x.1 : Int) y.1) (Lib.compareInt (x.2 : Int) y.2))
 have HD : Hid (cmpD x y = if Lib.compareInt (x.1 : Int) y.1 != 0 then Lib.compareInt (x.1 : Int) y.1 else Lib.compareInt (x.2 : Int) y.2) := rfl
 generalize Lib.compareInt (x.1 : Int) y.1 = c1 at *
 generalize Lib.compareInt (x.2 : Int) y.2 = c2 at *
 generalize cmpD x y = r at *
 obtain ⟨x1, x2⟩ := x
 obtain ⟨y1, y2⟩ := y
 go_enter Tryz.func184, Tryz.ntmps184
 go_wp2_with fail
 have T0 := (Two.new w x1 x2 51).alloc (.cells #[.int .i64 (y1 : Int), .int .i64 (y2 : Int)] 51)
 have T1 := Two.new (w.alloc (.cells #[.int .i64 (x1 : Int), .int .i64 (x2 : Int)] 51)) y1 y2 51
 have G0 := Lib.hid (((GrD.refl w).alloc (.cells #[.int .i64 (x1 : Int), .int .i64 (x2 : Int)] 51)).alloc (.cells #[.int .i64 (y1 : Int), .int .i64 (y2 : Int)] 51))
 rw [World.size_alloc] at T1
 generalize (w.alloc (.cells #[.int .i64 (x1 : Int), .int .i64 (x2 : Int)] 51)).alloc (.cells #[.int .i64 (y1 : Int), .int .i64 (y2 : Int)] 51) = w2 at *
 obtain ⟨t1, t2, t3⟩ := T0
 obtain ⟨u1, u2, u3⟩ := T1
 clear t1 u1
 go_still_tail 10, (by kernel_rfl)
 still_call (H1.out _)
 repeat still_step
 still_call (H2.out _)
 repeat still_step
 refine wpStill_nil ?_
 change wpList _ _ _ _ _ w2.drew
 have G1 := Lib.hid (G0.out.drew)
 clear t2 t3 u2 u3 G0 H1 H2
 generalize w2.drew = w3 at *
 have HC : Hid (∀ c, Calls Tryz.prog 187 #[.slice (some ⟨w3.heap.size, 0, none⟩) 2 c] (w3.alloc (.cells #[.int .i64 c1, .int .i64 c2] 3)) fun e w' => e = .returned (.int .i64 r) ∧ w' = w3.alloc (.cells #[.int .i64 c1, .int .i64 c2] 3)) :=
  fun c => by rw [HD.out]; exact H3.out _ c _ (by simp [go_sem]) (by simp [go_sem])
 go_wp2_with (go_at_call 187; refine (HC.out _).mono ?_; rintro e w' ⟨rfl, rfl⟩)
 go_ret
 exact ⟨rfl, G1.out.alloc _⟩
theorem enter_scompare (args : Array Value) (w : World) : (callFunc 184 args).run Tryz.prog w = .ok (.enter 184 args) w := enters_of Tryz.func184 (by kernel_rfl) rfl _ _
theorem scompare_lays (blk off size : Nat) (w : World) : CmpLays Tryz.prog 184 #[] encD 2 cmpD blk off size w :=
 fun m os dk _ x y => (scompare_any x y _).mono fun e w' ⟨h1, h2⟩ => ⟨h1, h2.grow⟩
theorem sort_ownS (l : List (Nat × Nat)) (v : Value) (w : World) (base : Nat) (hl : l.length ≤ 10000) (ho : w.ownsRow base 51 2 v l.length (flat (pairs l))) :
    Calls Tryz.prog 183 #[v, .func (.func 184) #[] #[]] w fun e w' => e = .returned (.tuple #[]) ∧
      ∃ l' : List (Nat × Nat), l'.Perm l ∧ l'.Pairwise (fun a b => ¬ ltD b a) ∧ w'.ownsRow base 51 2 v l'.length (flat (pairs l')) ∧ w.grownBy w' v.ownBlock := by
  obtain ⟨hxl, ⟨rfl, hn⟩ | ⟨g, cap, cur, rfl, hbg, hg, hnc, hcm, hcs, htake⟩⟩ := ho
  · obtain rfl : l = [] := List.eq_nil_of_length_eq_zero hn
    refine (AnyF.slices_SortFunc_none Tryz.sortDots none 0 _ w).mono ?_
    rintro e w' ⟨rfl, rfl⟩
    exact ⟨rfl, [], List.Perm.refl _, List.Pairwise.nil, World.ownsRow_nil _ _ _ _, ⟨rfl, rfl, rfl, Nat.le_refl _, fun _ _ _ => rfl⟩⟩
  · have hlt : g < w.heap.size := (Array.getElem?_eq_some_iff.1 hg).1
    have hfl : (flat (pairs l)).length = l.length * 2 := by rw [flat_len, pairs_len]
    have hH : HoldsK encD 2 w g 0 l.toArray := by
      unfold HoldsK
      rw [flatK_eq]
      intro j hj
      have hj' : j < (flat (pairs l)).length := by simpa using hj
      refine ⟨?_, by simp [World.frozen?, hg]⟩
      have h1 : (cur.toList.take (l.length * 2))[j]? = (flat (pairs l))[j]? := by rw [htake]
      rw [List.getElem?_take_of_lt (by omega)] at h1
      simp only [World.cell?, hg, Nat.zero_add]
      simp only [Option.isSome_none, Bool.false_eq_true, if_false]
      rw [← Array.getElem?_toList, h1]
      simp [hj']
    have hcon := AnyQ.slices_SortFunc Tryz.sortDots 2 Tryz.isAgg51 Tryz.sizeOf51 encD (fun _ => rfl) (fun x v hv => by simp [encD] at hv; rcases hv with rfl | rfl <;> rfl) cmpD swoD 184 #[] g 0 cap l.toArray w enter_scompare (scompare_lays g 0 _ w) hH hlt (by simp; omega)
    refine hcon.mono ?_
    rintro e w' ⟨rfl, d', n, os, hp, hs, rfl⟩
    obtain ⟨hsz, -, hperm⟩ := hp
    have hsz' : d'.toList.length = l.length := by simpa using hsz
    have hpl : d'.toList.Perm l := by
      have e1 : (d'.extract 0 l.toArray.size) = d' := by rw [← hsz]; simp
      have e2 : (l.toArray.extract 0 l.toArray.size) = l.toArray := by simp
      rw [e1, e2] at hperm
      simpa using hperm
    refine ⟨rfl, d'.toList, hpl, ?_, ?_, ?_⟩
    · rw [List.pairwise_iff_getElem]
      intro i j hi hj hij hlt
      have h1 := hs i j (Nat.zero_le _) hij (by rw [← hsz]; simpa using hj)
      rw [Bool.eq_false_iff, ne_eq, cmpD_lt] at h1
      apply h1
      rw [getElem!_pos d' j (by simpa using hj), getElem!_pos d' i (by simpa using hi)]
      simpa using hlt
    · have hfk : flatK encD 2 d' = (flat (pairs d'.toList)).toArray := by
        have := flatK_eq d'.toList
        simpa using this
      have hfl' : (flat (pairs d'.toList)).length = l.length * 2 := by rw [flat_len, pairs_len, hsz']
      refine ⟨by rw [flat_len, pairs_len], .inr ⟨g, cap, putCells id 0 (flatK encD 2 d') cur, by rw [hsz'], hbg, ?_, by omega, hcm, by simp [putCells, hcs], ?_⟩⟩
      · exact heap_put _ hg
      · rw [hfk, hsz', ← hfl']
        refine take_put cur _ ?_
        rw [hfl', hcs]
        exact Nat.mul_le_mul_right 2 hnc
    · exact grown_put _
end Go.Proofs.YtglbnggkkjhokaaGreat
/- slices.Compact at dots, over a row that is owned: more of them. -/
namespace Go.Proofs.YtglbnggkkjhokaaGreat
open Go.RowKit Rm
theorem compact_rowS (l : List (Nat × Nat)) (g cap : Nat) (w : World) (hr : RowD 51 w g cap l) (hn : l.length ≤ 10000) :
  Calls Tryz.prog 185 #[.slice (some ⟨g, 0, none⟩) l.length cap] w fun e w' => e = .returned (.slice (some ⟨g, 0, none⟩) (ddT l l.length).length cap) ∧ RowD 51 w' g cap (ddT l l.length) ∧ w.grownBy w' (some g) := by
 have HR := Lib.hid hr
 have hnI : (l.length : Int) ≤ 10000 := by omega
 have hcap : l.length ≤ cap := hr.1
 by_cases h2 : l.length < 2
 ·have HE : Hid (ddT l l.length = l) := by
   show _ = _
   rw [ddT_all (Nat.le_refl _) (fun j h1 h3 => by omega)]; simp
  have h2I : (l.length : Int) < 2 := by omega
  clear hr
  go_enter Tryz.func185, Tryz.ntmps185
  go_wp2
  go_ret
  rw [HE.out]
  exact ⟨rfl, HR.out, gb_refl _ _⟩
 ·have h2I : ¬ (l.length : Int) < 2 := by omega
  clear hr
  go_enter Tryz.func185, Tryz.ntmps185
  go_wp2
  go_loopg [3] l.length (fun gh s3 wr => ∃ k : Nat, 1 ≤ k ∧ k ≤ l.length ∧ l.length - k ≤ gh ∧ s3 = .int .i64 (k : Int) ∧ (∃ q, wr = w.drewN q) ∧ ∀ j, j < k → 0 < j → l[j]? ≠ l[j - 1]?)
  case atStart => exact ⟨1, by omega, by omega, by omega, rfl, ⟨0, rfl⟩, fun j h1 h3 => by omega⟩
  case round =>
   obtain ⟨k, hk1, hk, hg, rfl, ⟨q, hwr⟩, hall⟩ := hrel
   have HA := Lib.hid hall
   have HW := Lib.hid hwr
   have HRr : Hid (RowD 51 wr g cap l) := by rw [hwr]; exact RowD.drewN HR.out q
   clear hall hwr
   by_cases hlt : k < l.length
   ·obtain ⟨p, hkp⟩ : ∃ p, k = p + 1 := ⟨k - 1, by omega⟩
    obtain ⟨x, hx⟩ : ∃ x, l[p]? = some x := ⟨_, List.getElem?_eq_getElem (by omega)⟩
    obtain ⟨y, hy⟩ : ∃ y, l[k]? = some y := ⟨_, List.getElem?_eq_getElem (by omega)⟩
    obtain ⟨a0, a1, a2, a3⟩ := RowD.cell HRr.out hx
    obtain ⟨b0, b1, b2, b3⟩ := RowD.cell HRr.out hy
    have hltI : (k : Int) < (l.length : Int) := by omega
    have hsub : (k : Int) - 1 = (p : Int) := by omega
    have hpI : (p : Int) < (l.length : Int) := by omega
    have hwp : IntKind.i64.wrap (p : Int) = (p : Int) := IntWalk.i64_in _ (by omega)
    have HX := Lib.hid hx
    have HY := Lib.hid hy
    have HK := Lib.hid hkp
    obtain ⟨x1, x2⟩ := x
    obtain ⟨y1, y2⟩ := y
    simp only at a0 a1 b0 b1
    clear hx hy a2 a3 b2 b3 hkp
    by_cases hdup : (y1, y2) = (x1, x2)
    ·obtain ⟨rfl, rfl⟩ := Prod.mk.inj hdup
     clear hdup
     have HS : Hid (∀ m, CmpAt l w (wr.drewN m) g cap k k 0 l) := by
      intro m
      have hks := HK.out
      have e1 : ddT l (k + 1) = ddT l k := ddT_same (i := k) HY.out ⟨by omega, by rw [show k - 1 = p by omega]; exact HX.out⟩
      have e2 : ddT l k = l.take k := ddT_all (by omega) HA.out
      refine ⟨by omega, by omega, rfl, ?_, ?_, fun i _ => rfl, RowD.drewN HRr.out m, ?_⟩
      ·show k = (ddT l (k + 1)).length
       rw [e1, e2]; simp; omega
      ·show l.take k = ddT l (k + 1)
       rw [e1, e2]
      ·rw [HW.out]; exact gb_trans (gb_drewN w g q) (gb_drewN _ g m)
     go_wp2_with fail
     go_quiet (fail)
     have HI := Lib.hid (HS.out nq)
     generalize (wr.drewN nq) = w1 at *
     clear HS a0 a1 b0 b1
     have hkc : k ≤ cap := by omega
     go_wp2
     generalize hn2 : l.length - k = n2 at *
     have HN2 := Lib.hid hn2
     clear hn2
     go_loopg [3, 5] l.length (fun gh s3 s5 wr => ∃ (i j j' : Nat) (c : List (Nat × Nat)), s3 = .int .i64 (i : Int) ∧ s5 = .int .i64 (j : Int) ∧ j = j' + 1 ∧ l.length - (k + j) ≤ gh ∧ CmpAt l w wr g cap k i j' c)
     case atStart => exact ⟨k, 1, 0, l, rfl, rfl, rfl, by omega, HI.out⟩
     case round =>
      obtain ⟨i, j, j', c, rfl, rfl, hjj, hg2, hat⟩ := hrel
      have HT := Lib.hid hat
      have HJ := Lib.hid hjj
      have hij : i ≤ k + j' := hat.2.1
      have hcl : c.length = l.length := hat.2.2.1
      have hle : k + j ≤ l.length := by have := hat.1; omega
      clear hat hjj
      by_cases hjl : k + j < l.length
      ·obtain ⟨x, hx⟩ : ∃ x, l[k + j]? = some x := ⟨_, List.getElem?_eq_getElem (by omega)⟩
       obtain ⟨y, hy⟩ : ∃ y, l[k + j']? = some y := ⟨_, List.getElem?_eq_getElem (by have := HJ.out; omega)⟩
       obtain ⟨z, hz⟩ : ∃ z, c[i]? = some z := ⟨_, List.getElem?_eq_getElem (by have := HJ.out; omega)⟩
       have hRow := HT.out.2.2.2.2.2.2.1
       have hhi := HT.out.2.2.2.2.2.1
       have hx' := (hhi (k + j) (by have := HJ.out; omega)).trans hx
       have hy' := (hhi (k + j') (by omega)).trans hy
       obtain ⟨a0, a1, a2, a3⟩ := RowD.cell hRow hx'
       obtain ⟨b0, b1, b2, b3⟩ := RowD.cell hRow hy'
       obtain ⟨d0, d1, d2, d3⟩ := RowD.cell hRow hz
       have o1 : (k + j) * 2 = k * 2 + j * 2 := by omega
       have o2 : (k + j') * 2 = k * 2 + j' * 2 := by omega
       rw [o1] at a0 a1
       rw [o2] at b0 b1
       have HX2 := Lib.hid hx
       have HY2 := Lib.hid hy
       have hjI : (j : Int) < (n2 : Int) := by have := HN2.out; omega
       have hsub : (j : Int) - 1 = (j' : Int) := by have := HJ.out; omega
       have hj'I : (j' : Int) < (n2 : Int) := by omega
       have hiI : (i : Int) < (l.length : Int) := by have := HJ.out; omega
       have hjb : (j : Int) ≤ 10000 := by omega
       have hwj : IntKind.i64.wrap (j' : Int) = (j' : Int) := IntWalk.i64_in _ (by omega)
       have HRow := Lib.hid hRow
       have HIC : Hid (i < c.length) := by show _ < _; have := HJ.out; omega
       obtain ⟨x1, x2⟩ := x
       obtain ⟨y1, y2⟩ := y
       obtain ⟨z1, z2⟩ := z
       simp only at a0 a1 b0 b1 d0 d1
       clear hx hy hz hx' hy' hRow hhi a2 a3 b2 b3 o1 o2
       by_cases hsame : (x1, x2) = (y1, y2)
       ·obtain ⟨rfl, rfl⟩ := Prod.mk.inj hsame
        clear hsame
        have HN : Hid (∀ m, CmpAt l w (wr.drewN m) g cap k i (j' + 1) c) := fun m => CmpAt.same HT.out (by have := HJ.out; omega) (by rw [show k + j' + 1 = k + j by have := HJ.out; omega, HX2.out, HY2.out]) (RowD.drewN HRow.out m) (gb_drewN _ g m)
        go_wp2_with fail
        go_quiet (fail)
        go_wp2
        go_roundg (l.length - (k + (j + 1)))
        case measure => omega
        case rel => exact ⟨i, j + 1, j' + 1, c, rfl, by go_num, by rw [HJ.out], Nat.le_refl _, HN.out _⟩
       ·have HN : Hid (∀ m, CmpAt l w (((wr.drewN m).setCell ⟨g, i * 2, none⟩ (.int .i64 (x1 : Int))).setCell ⟨g, i * 2 + 1, none⟩ (.int .i64 (x2 : Int))) g cap k (i + 1) (j' + 1) (c.set i (x1, x2))) := fun m =>
         CmpAt.more (d := (x1, x2)) HT.out (by rw [show k + j' + 1 = k + j by have := HJ.out; omega, HX2.out]) (by rw [HY2.out]; intro e; exact hsame (Option.some.inj e).symm) (RowD.put (RowD.drewN HRow.out m) (x1, x2) HIC.out) (gb_trans (gb_drewN _ g m) (gb_trans (gset _ g _ _) (gset _ g _ _)))
        have hne : ¬ (x1 = y1 ∧ x2 = y2) := fun e => hsame (by rw [e.1, e.2])
        clear hsame
        have hcase : (¬ x1 = y1) ∨ (x1 = y1 ∧ ¬ x2 = y2) := by omega
        rcases hcase with h1 | ⟨rfl, h1⟩
        ·clear hne
         go_wp2_with fail
         go_quiet (fail)
         go_wp2
         go_roundg (l.length - (k + (j + 1)))
         case measure => omega
         case rel => exact ⟨i + 1, j + 1, j' + 1, _, by go_num, by go_num, by rw [HJ.out], Nat.le_refl _, HN.out _⟩
        ·clear hne
         have h1I : ¬ (x2 : Int) = (y2 : Int) := by omega
         go_wp2_with fail
         go_quiet (fail)
         go_wp2
         go_roundg (l.length - (k + (j + 1)))
         case measure => omega
         case rel => exact ⟨i + 1, j + 1, j' + 1, _, by go_num, by go_num, by rw [HJ.out], Nat.le_refl _, HN.out _⟩
      ·have hend : k + j = l.length := by omega
       have hjI : ¬ (j : Int) < (n2 : Int) := by have := HN2.out; omega
       have hil : i < l.length := by have := HJ.out; omega
       have hRow := HT.out.2.2.2.2.2.2.1
       have hblk := hRow.2
       have hclr : ∀ ty, (Builtin.clear_ #[73] ty #[.slice (some ⟨g, i * 2, none⟩) (l.length - i) (cap - i)]).run Tryz.prog wr = .ok (.tuple #[]) (wr.setCells g (i * 2) (zsD (l.length - i))) := fun ty => by
        obtain ⟨cur, hgc, hsz, htk⟩ := hblk
        exact run_clear_dots wr ty g (i * 2) _ _ (by omega) (fun m hm => by simp only [World.cell?, hgc]; simp; omega) (fun m hm => by simp [World.frozen?, hgc])
       have HF : Hid ((ddT l l.length).length = i ∧ RowD 51 (wr.setCells g (i * 2) (zsD (l.length - i))) g cap (ddT l l.length) ∧ w.grownBy (wr.setCells g (i * 2) (zsD (l.length - i))) (some g)) := by
        obtain ⟨q1, q2, q3, q4, q5, q6, q7, q8⟩ := HT.out
        have e : k + j' + 1 = l.length := by have := HJ.out; omega
        rw [e] at q4 q5
        refine ⟨q4.symm, ?_, gb_trans q8 (setCells_grown g _ _ _)⟩
        rw [← q5]
        exact RowD.shrink q7 (by omega)
       have hiI : (i : Int) < (l.length : Int) := by omega
       clear hRow hblk
       go_wp2
       go_ret
       obtain ⟨f1, f2, f3⟩ := HF.out
       exact ⟨by rw [f1]; rfl, f2, f3⟩
    ·have HN : Hid (∀ j, j < k + 1 → 0 < j → l[j]? ≠ l[j - 1]?) := fun j h1 h3 => by
      by_cases e : j = k
      ·subst e
       rw [show j - 1 = p by have := HK.out; omega, HX.out, HY.out]
       intro e; exact hdup (Option.some.inj e)
      ·exact HA.out j (by omega) h3
     have hcase : (¬ y1 = x1) ∨ (y1 = x1 ∧ ¬ y2 = x2) := by
      by_cases e : y1 = x1
      ·exact .inr ⟨e, fun e' => hdup (by rw [e, e'])⟩
      ·exact .inl e
     clear hdup
     rcases hcase with h1 | ⟨rfl, h1⟩
     ·go_wp2_with fail
      go_quiet (fail)
      go_wp2
      go_roundg (l.length - (k + 1))
      case measure => omega
      case rel => exact ⟨k + 1, by omega, by omega, Nat.le_refl _, by go_num, ⟨q + nq, by rw [HW.out]; exact (drewN_add ..)⟩, HN.out⟩
     ·have h1I : ¬ (y2 : Int) = (x2 : Int) := by omega
      go_wp2_with fail
      go_quiet (fail)
      go_wp2
      go_roundg (l.length - (k + 1))
      case measure => omega
      case rel => exact ⟨k + 1, by omega, by omega, Nat.le_refl _, by go_num, ⟨q + nq, by rw [HW.out]; exact (drewN_add ..)⟩, HN.out⟩
   ·obtain rfl : k = l.length := by omega
    have HE : Hid (ddT l l.length = l) := by
     show _ = _
     rw [ddT_all (Nat.le_refl _) HA.out]; simp
    go_wp2
    go_ret
    rw [HE.out]
    exact ⟨rfl, HRr.out, by rw [HW.out]; exact gb_drewN w g q⟩
theorem compact_ownS (l : List (Nat × Nat)) (v : Value) (w : World) (base : Nat) (hl : l.length ≤ 10000) (ho : w.ownsRow base 51 2 v l.length (flat (pairs l))) :
    Calls Tryz.prog 185 #[v] w fun e w' => ∃ u, e = .returned u ∧ u.ownBlock = v.ownBlock ∧ w'.ownsRow base 51 2 u (ddT l l.length).length (flat (pairs (ddT l l.length))) ∧ w.grownBy w' v.ownBlock := by
  obtain ⟨hxl, ⟨rfl, hn⟩ | ⟨g, cap, cur, rfl, hbg, hg, hnc, hcm, hcs, htake⟩⟩ := ho
  · obtain rfl : l = [] := List.eq_nil_of_length_eq_zero hn
    go_enter Tryz.func185, Tryz.ntmps185
    go_wp2
    go_ret
    exact ⟨_, rfl, rfl, World.ownsRow_nil _ _ _ _, ⟨rfl, rfl, rfl, Nat.le_refl _, fun _ _ _ => rfl⟩⟩
  · refine (compact_rowS l g cap w ⟨hnc, cur, hg, hcs, htake⟩ hl).mono ?_
    rintro e w' ⟨rfl, ⟨h1, cur', h2, h3, h4⟩, h5⟩
    exact ⟨_, rfl, rfl, ⟨by rw [flat_len, pairs_len], .inr ⟨g, cap, cur', rfl, hbg, h2, h1, hcm, h3, h4⟩⟩, h5⟩
end Go.Proofs.YtglbnggkkjhokaaGreat
