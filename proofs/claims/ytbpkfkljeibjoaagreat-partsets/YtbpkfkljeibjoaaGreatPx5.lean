/- Joined: PtU, MkSort, MkComp, PtK, PtW, PtF, PtG, ConcatP, PtH, PtL, PtM, PtY, PqA, PqB, ConcatM, PtN, PqC, OpenB, OpenS. -/
import Derived.Test.YtbpkfkljeibjoaaGreatPx4
import Derived.Lib.AppendZerosOnto
import Derived.Lib.AppendZeros
import Derived.Laws.AppendOwnNone
set_option linter.unusedVariables false
set_option linter.unusedSimpArgs false
/- reedref.Mean. -/
namespace Go.Proofs.YtbpkfkljeibjoaaGreat
open Go.RowKit Rm Gx
theorem o_bsM {ev : Operand → Value} {w : World} {d : Option Nat} {ty : TypeId} {p : String} {af : Array Edge} {g : Option (Nat × Bool)} {x : Operand} {y : PtM} (hx : ev x = .agg (encDoc y).toArray) : (execOp ev (Oper.mk d (.buildSlice 38 1 #[(0, x)]) ty p af g)).run Tryz.prog w = .ok (.value (.slice (some ⟨w.heap.size, 0, none⟩) 1 1)) (w.alloc (.cells (encDoc y).toArray 51)) := by
  have h1 := partM_zero
  have h2 := partM_size
  cases hq : Tryz.prog.info? 51 with
  | none => rw [hq] at h2; cases h2
  | some ie =>
    rw [hq] at h1 h2
    have h1' : ie.zero = some (.agg (encDoc m0).toArray) := h1
    have h2' : ie.size = 592 := by simpa using h2
    exact o_bs (vs := [(0, .agg (encDoc y).toArray)]) (by simp [hx]) Tryz.underlying38 hq h1' (by rw [h2']; rfl) (by rw [h2']; rfl) (by rw [h2']; exact fill_one rfl (encDoc_sz y) (by simp))
theorem take_d {L : List PtX} {i : Nat} {x : PtX} (h : L[i]? = some x) : (L.take i).map PtX.d ++ [x.d] = (L.take (i + 1)).map PtX.d := by
  rw [List.take_add_one, h, List.map_append]
  rfl
set_option maxHeartbeats 8000000 in
set_option maxRecDepth 100000 in
theorem rmean_any (L : List PtX) (va : Option Addr) (vc : Nat) (hl : L.length ≤ 1000) (w : World) (hv : RdA encP 3 w va L) (hm : MeansP w L) :
  Calls Tryz.prog 13 #[.slice va L.length vc] w fun e w' => ∃ v : Value, e = .returned v ∧ w'.ownsRow w.heap.size 51 592 v L.length (flatE encDoc (L.map PtX.d)) ∧ Gr w w' := by
 refine enter (N := 24) Tryz.func13 rfl rfl rfl (fun a0 ok0 h0 => ?_)
 have e0_0 : a0.eval (.tmp 0) = .slice va L.length vc := h0 0 _ rfl
 clear h0
 have G0 := Gr.refl w
 obtain ⟨base, z1⟩ : ∃ n, n = w.heap.size := ⟨_, rfl⟩
 have l2 : w.heap.size ≤ base := by rw [z1]; exact G0.size
 have z3 : base ≤ w.heap.size := Nat.le_of_eq z1
 have O4 := World.ownsRow_nil w base 51 592
 refine wp_seq_k (fun K5 hK5 => ?_)
 refine wp_region_lit ?_
 refine sv ok0 rfl (wn _ rfl) rfl (o_as ev_const) (fun an6 n6 => ?_)
 refine wpList_nil ?_
 refine th_n (hK5 _ _ ?_)
 refine wp_seq_k (fun K7 hK7 => ?_)
 refine wp_region_lit ?_
 refine sv n6.ok rfl (wn _ rfl) rfl (o_as ev_const) (fun an8 n8 => ?_)
 refine wpList_nil ?_
 refine th_n (hK7 _ _ ?_)
 refine wp_seq_k (fun K9 hK9 => ?_)
 refine wp_seq_k (fun K10 hK10 => ?_)
 refine wp_region_lit ?_
 refine sv n8.ok rfl (wn _ rfl) rfl (o_mv (n8.ne rfl (n6.ne rfl e0_0))) (fun an11 n11 => ?_)
 refine sv n11.ok rfl (wn _ rfl) rfl (o_len n11.at_ Tryz.underlying22) (fun an12 n12 => ?_)
 refine sv n12.ok rfl (wn _ rfl) rfl (o_mv ev_const) (fun an13 n13 => ?_)
 refine wpList_nil ?_
 refine th_n (hK10 _ _ ?_)
 refine wp_block ?_
 have e15 := n13.ne rfl (n12.ne rfl (n11.ne rfl (n8.ne rfl n6.at_)))
 have e16 := n13.ne rfl (n12.ne rfl (n11.ne rfl n8.at_))
 refine lp (fun (nL : Nat) (aL : Act) (wL : World) => ∃ i : Nat, ∃ ra : Option Addr, ∃ rc : Nat, nL = L.length - i ∧ Ok 24 aL ∧ Gr w wL ∧ (aL.eval (.tmp 2) = .slice none 0 0) ∧ (aL.eval (.tmp 3) = .slice ra i rc) ∧ (aL.eval (.tmp 6) = .slice va L.length vc) ∧ (aL.eval (.tmp 7) = .int .i64 ((L.length : Nat) : Int)) ∧ (aL.eval (.tmp 8) = .int .i64 (i : Int)) ∧ (World.ownsRow wL base 51 592 (.slice ra i rc) (i) ((flatE encDoc ((L.take i).map PtX.d)))) ∧ (base ≤ wL.heap.size) ∧ (i ≤ L.length)) _ ⟨0, none, 0, rfl, n13.ok, G0, e15, e16, (n13.ne rfl (n12.ne rfl n11.at_)), (n13.ne rfl n12.at_), n13.at_, O4, z3, by omega⟩ ?_
 rintro m17 aI14 w19 ⟨i, ra, rc, hmI14, okI14, GI14, s2I14, s3I14, s6I14, s7I14, s8I14, orI14, zbaseI14, hiI14⟩ KI14 hKI14
 refine wp_seq_k (fun K20 hK20 => ?_)
 refine wp_region_lit ?_
 refine sv okI14 rfl (wn _ rfl) rfl (o_ltI s8I14 s7I14) (fun an21 n21 => ?_)
 refine wpList_nil ?_
 refine th_n (hK20 _ _ ?_)
 refine wp_seq_k (fun K22 hK22 => ?_)
 by_cases c23 : (i : Int) < ((L.length : Nat) : Int)
 ·refine wp_cond_true ((n21.at_).trans (congrArg Value.bool (decide_eq_true c23))) ?_
  refine wp_skip ?_
  refine th_n (hK22 _ _ ?_)
  refine wp_seq_k (fun K24 hK24 => ?_)
  refine wp_block ?_
  refine wp_seq_k (fun K25 hK25 => ?_)
  refine wp_region_lit ?_
  have h26l : i < List.length L := by omega
  obtain ⟨bh26, fh26, h26a, h26b, h26c⟩ := hv (ne_nil_of_lt h26l)
  obtain ⟨xh26, h26x⟩ : ∃ x, (L)[i]? = some x := ⟨_, List.getElem?_eq_getElem h26l⟩
  refine sv n21.ok rfl (wn _ rfl) rfl (o_iaV (i := i) (s := 3) h26a (n21.ne rfl s6I14) (n21.ne rfl s8I14) Tryz.underlying22 (by kernel_rfl) h26l) (fun an27 n27 => ?_)
  refine sv n27.ok rfl (wn _ rfl) rfl (o_ldA (k := fh26 + i * 3) n27.at_ (cs := [.slice xh26.fa xh26.fn xh26.fc, .slice xh26.va xh26.vn xh26.vc, .slice xh26.ma xh26.mn xh26.mc]) (fun j v hv => (Below.cell GI14 h26b).trans (h26c _ _ h26x j v hv)) Tryz.underlying35 rfl (by kernel_rfl)) (fun an28 n28 => ?_)
  refine sal (cs := #[.slice none 0 0, .slice none 0 0, .slice none 0 0]) n28.ok rfl (wn _ rfl) rfl (o_al (z := .agg #[.slice none 0 0, .slice none 0 0, .slice none 0 0]) (by kernel_rfl)) (fun an29 w31 b30 W32 n29 => ?_)
  have l33 : w.heap.size ≤ b30 := by rw [W32.eq]; exact GI14.size
  have l34 : ∀ k, Value.ownBlock (.slice ra i rc) = some k → k < b30 := fun k e => by rw [W32.eq]; exact ow_in orI14 k e
  have G35 := GI14.trans W32.gr
  have z36 := Nat.le_trans zbaseI14 W32.gr.size
  have O37 := ow_gr orI14 W32.gr
  refine ssR rfl (wn _ rfl) (o_stR n29.at_ (n29.ne rfl n28.at_) W32.bk (by kernel_rfl) rfl (by simp [Value.oneCell'])) W32.bk (fun w38 u39 u39b => ?_)
  have G40 : Gr w w38 := Below.upd G35 l33 u39
  have z41 : base ≤ w38.heap.size := by rw [u39.size]; exact z36
  have O42 := ow_upd_ne O37 u39 l34
  refine wpList_nil ?_
  refine th_n (hK25 _ _ ?_)
  refine reg_start (N := 24) (m := 9) (by kernel_rfl) (fun R430 => ?_)
  have e44 := n29.ne rfl (n28.ne rfl (n27.ne rfl (n21.ne rfl s3I14)))
  have R431 := R430.snoc (n' := 1) rfl (fun vJ _ => vJ = .slice ra i rc) rfl (fun _ _ _ _ h => h) (fun aS wS pS => by
    exact Does.val (wn _ rfl) (o_mv ((pS.old 3 rfl).trans e44)) (Gr.refl _) rfl rfl)
  have R432 := R431.snoc (n' := 2) rfl (fun vJ _ => vJ = .pointer (some ⟨b30, 0, none⟩)) rfl (fun _ _ _ _ h => h) (fun aS wS pS => by
    exact Does.val (wn _ rfl) (o_fa (z := 1) ((pS.old 5 rfl).trans n29.at_) Tryz.underlying35 rfl (by kernel_rfl) rfl rfl) (Gr.refl _) rfl rfl)
  have R433 := R432.snoc (n' := 3) rfl (fun vJ _ => vJ = .slice xh26.fa xh26.fn xh26.fc) rfl (fun _ _ _ _ h => h) (fun aS wS pS => by
    have eR43_1 : aS.eval (.tmp 13) = .pointer (some ⟨b30, 0, none⟩) := pS.pre 1 rfl
    exact Does.val (wn _ rfl) (o_ld (eR43_1) (Tryz.isAgg23 _) ((Bk.gr u39b (gr_drew pS.gr)).cell _ rfl)) (Gr.refl _) rfl rfl)
  have R434 := R433.snoc (n' := 4) rfl (fun vJ _ => vJ = .agg (pArr (ptF xh26.T))) rfl (fun _ _ _ _ h => h) (fun aS wS pS => by
    have eR43_2 : aS.eval (.tmp 14) = .slice xh26.fa xh26.fn xh26.fc := pS.pre 2 rfl
    exact Does.call (wn _ rfl) (o_f1 Tryz.func14 rfl rfl rfl (eR43_2)) (of_fs (T := xh26.T) (by decide) ((hm _ (List.mem_of_getElem? h26x)).gr (G40.trans (gr_drew pS.gr))).fs) (by rintro _ w2 ⟨rfl, g⟩; exact ⟨_, rfl, g, rfl⟩) rfl)
  have R435 := R434.snoc (n' := 5) rfl (fun vJ _ => vJ = .pointer (some ⟨b30, 1, none⟩)) rfl (fun _ _ _ _ h => h) (fun aS wS pS => by
    exact Does.val (wn _ rfl) (o_fa (z := 2) ((pS.old 5 rfl).trans n29.at_) Tryz.underlying35 rfl (by kernel_rfl) rfl rfl) (Gr.refl _) rfl rfl)
  have R436 := R435.snoc (n' := 6) rfl (fun vJ _ => vJ = .agg #[.slice xh26.va xh26.vn xh26.vc, .slice xh26.ma xh26.mn xh26.mc]) rfl (fun _ _ _ _ h => h) (fun aS wS pS => by
    have eR43_4 : aS.eval (.tmp 16) = .pointer (some ⟨b30, 1, none⟩) := pS.pre 4 rfl
    exact Does.val (wn _ rfl) (o_ldA (k := 1) (cs := [.slice xh26.va xh26.vn xh26.vc, .slice xh26.ma xh26.mn xh26.mc]) (eR43_4) (bk_part (Bk.gr u39b (gr_drew pS.gr)) rfl) Tryz.underlying33 rfl (by kernel_rfl)) (Gr.refl _) rfl rfl)
  have R437 := R436.snoc (n' := 7) rfl (fun vJ _ => vJ = .agg (wArr (xOf (memB (formV xh26.D) (formM xh26.D))))) rfl (fun _ _ _ _ h => h) (fun aS wS pS => by
    have eR43_5 : aS.eval (.tmp 17) = .agg #[.slice xh26.va xh26.vn xh26.vc, .slice xh26.ma xh26.mn xh26.mc] := pS.pre 5 rfl
    exact Does.call (wn _ rfl) (o_f1 Tryz.func48 rfl rfl rfl (eR43_5)) (rall_can _ xh26.D wS ((hm _ (List.mem_of_getElem? h26x)).gr (G40.trans (gr_drew pS.gr))).kn (hm _ (List.mem_of_getElem? h26x)).few) (by rintro _ w2 ⟨rfl, g⟩; exact ⟨_, rfl, g, rfl⟩) rfl)
  have R438 := R437.snoc (n' := 8) rfl (fun vJ _ => vJ = .agg ((encDoc xh26.d).toArray)) rfl (fun _ _ _ _ h => h) (fun aS wS pS => by
    have eR43_3 : aS.eval (.tmp 15) = .agg (pArr (ptF xh26.T)) := pS.pre 3 rfl
    have eR43_6 : aS.eval (.tmp 18) = .agg (wArr (xOf (memB (formV xh26.D) (formM xh26.D)))) := pS.pre 6 rfl
    exact Does.val (wn _ rfl) (o_bd (cells := (encDoc xh26.d).toArray) (vs := [(0, .agg (pArr (ptF xh26.T))), (1, .agg (wArr (xOf (memB (formV xh26.D) (formM xh26.D)))))]) (by simp [(eR43_3), (eR43_6)]) (builtM _ _)) (Gr.refl _) rfl rfl)
  have R439 := R438.snoc (n' := 9) rfl (fun vJ wJ => ∃ b45 : Nat, vJ = .slice (some ⟨b45, 0, none⟩) 1 1 ∧ w38.heap.size ≤ b45 ∧ Bk wJ b45 ((encDoc xh26.d).toArray) 51) rfl (fun _ _ _ g ⟨b, h1, h2, h3⟩ => ⟨b, h1, h2, h3.gr g⟩) (fun aS wS pS => by
    have eR43_7 : aS.eval (.tmp 19) = .agg ((encDoc xh26.d).toArray) := pS.pre 7 rfl
    exact Does.val (wn _ rfl) (o_bsM (eR43_7)) ((Gr.refl _).alloc _) ⟨_, rfl, pS.gr.size, (New.mk' _ _ _).bk⟩ rfl)
  refine R439.run (k := 2) (L := #[true, true, true, true, true, true, true, true, true, false, false]) (by kernel_rfl) (by kernel_rfl) (by kernel_rfl) n29.ok (by kernel_rfl) (by kernel_rfl) (fun ap47 w48 p47 => ?_)
  have g49 := gr_drew p47.gr
  have G50 := G40.trans g49
  have z52 := Nat.le_trans z41 g49.size
  have O53 := ow_gr O42 g49
  obtain ⟨b45, ep47_8, geb45, bkb45⟩ := p47.js 8 rfl
  have ep47_8 : ap47.eval (.tmp 20) = .slice (some ⟨b45, 0, none⟩) 1 1 := ep47_8
  have ep47_0 : ap47.eval (.tmp 12) = .slice ra i rc := p47.js 0 rfl
  obtain ⟨i57, i57a, i57b, i57c, i57d⟩ := info_of (show (Tryz.prog.info? 51).map (fun i => (i.zero, i.size, i.bytes)) = some (some (.agg (encDoc m0).toArray), 592, 1152) by kernel_rfl)
  refine t_app (i := 9) (base := base) (n := i) (xs := (flatE encDoc ((L.take i).map PtX.d))) (m := 1) (news := encDoc xh26.d) (by kernel_rfl) rfl p47.ok (wn _ rfl) rfl Tryz.underlying38 i57a i57b i57c i57d rfl (by omega) ep47_0 O53 ep47_8 rfl ((fun j u hu => by rw [add_n, Nat.zero_add]; exact bkb45.cell _ (by rw [List.getElem?_toArray]; exact hu))) (encDoc_ok.one xh26.d) (by simp only [maxLen]; omega) (by omega) z52 (fun an58 w59 v60 O63 gg64 n58 => ?_)
  obtain ⟨a61, c62, rfl, c62l⟩ := ow_form O63
  have G65 := Gr.grown G50 gg64 (fun k e => Nat.le_trans l2 (ow_lt O53 k e))
  have z68 := Nat.le_trans z52 gg64.size
  have O69 : w59.ownsRow base 51 592 (.slice a61 ((i + 1)) c62) ((i + 1)) ((flatE encDoc ((L.take (i + 1)).map PtX.d))) := by have h := O63; rw [← flatE_one (enc := encDoc) xh26.d, ← flatE_app, take_d h26x] at h; exact h
  refine t_val (i := 10) (by kernel_rfl) rfl n58.ok rfl (wn _ rfl) rfl (o_as n58.at_) (fun an70 n70 => ?_)
  refine wpAny_done (by kernel_rfl) ?_ _
  refine ib_n ?_
  refine th_n (hK24 _ _ ?_)
  refine wp_region_lit ?_
  have e71 := n70.ne rfl (n58.ne rfl ((p47.old 8 rfl).trans (n29.ne rfl (n28.ne rfl (n27.ne rfl (n21.ne rfl s8I14))))))
  refine sv n70.ok rfl (wn _ rfl) rfl (o_add (r := ((i + 1 : Nat) : Int)) e71 ev_const (by omega) (by omega)) (fun an72 n72 => ?_)
  refine sv n72.ok rfl (wn _ rfl) rfl (o_mv n72.at_) (fun an73 n73 => ?_)
  refine wpList_nil ?_
  have e74 := n73.ne rfl (n72.ne rfl (n70.ne rfl (n58.ne rfl ((p47.old 2 rfl).trans (n29.ne rfl (n28.ne rfl (n27.ne rfl (n21.ne rfl s2I14))))))))
  have e75 := n73.ne rfl (n72.ne rfl (n70.ne rfl (n58.ne rfl ((p47.old 6 rfl).trans (n29.ne rfl (n28.ne rfl (n27.ne rfl (n21.ne rfl s6I14))))))))
  have e76 := n73.ne rfl (n72.ne rfl (n70.ne rfl (n58.ne rfl ((p47.old 7 rfl).trans (n29.ne rfl (n28.ne rfl (n27.ne rfl (n21.ne rfl s7I14))))))))
  exact th_n (hKI14 _ _ _ (by omega) ⟨i + 1, a61, c62, rfl, n73.ok, G65, e74, (n73.ne rfl (n72.ne rfl n70.at_)), e75, e76, n73.at_, O69, z68, by omega⟩)
 ·refine wp_cond_false ((n21.at_).trans (congrArg Value.bool (decide_eq_false c23))) ?_
  refine wp_exit ?_
  refine th_x ?_
  refine th_x ?_
  refine ib_x ?_
  refine th_n (hK9 _ _ ?_)
  refine wp_seq_k (fun K77 hK77 => ?_)
  refine wp_region_lit ?_
  refine sv n21.ok rfl (wn _ rfl) rfl (o_mv (n21.ne rfl s3I14)) (fun an78 n78 => ?_)
  refine sv n78.ok rfl (wn _ rfl) rfl (o_as n78.at_) (fun an79 n79 => ?_)
  refine wpList_nil ?_
  refine th_n (hK77 _ _ ?_)
  refine wp_ret ?_
  exact ret1 n79.ok rfl (n79.at_) ⟨_, rfl, by have h := orI14; rw [List.take_of_length_le (by omega)] at h; rw [← z1]; have e : i = L.length := (by omega); subst e; exact h, GI14⟩
end Go.Proofs.YtbpkfkljeibjoaaGreat
/- slices.SortFunc at part.marks: the same marks, in order. -/
namespace Rm
open Go Go.RowKit Gx
def encM (x : Nat × Nat) : List Value := [.int .u32 x.1, .int .u32 x.2]
theorem encM_ok : EncOk encM 2 := ⟨fun x => rfl, fun x u hu => by
  simp [encM] at hu
  rcases hu with rfl | rfl <;> rfl⟩
end Rm
namespace Go.Proofs
open Go.Shelf
end Go.Proofs
namespace Rm
open Go Go.RowKit Go.Sort Gx
end Rm
namespace Go.Proofs.YtbpkfkljeibjoaaGreat
open Go.RowKit Rm Go.Sort Gx
theorem TwoU.new (w : World) (x1 x2 : Nat) (t : TypeId) : w.heap.size < (w.alloc (.cells #[.int .u32 (x1 : Int), .int .u32 (x2 : Int)] t)).heap.size ∧ (w.alloc (.cells #[.int .u32 (x1 : Int), .int .u32 (x2 : Int)] t)).cell? ⟨w.heap.size, 0, none⟩ = some (.int .u32 (x1 : Int)) ∧ (w.alloc (.cells #[.int .u32 (x1 : Int), .int .u32 (x2 : Int)] t)).cell? ⟨w.heap.size, 1, none⟩ = some (.int .u32 (x2 : Int)) := by
  refine ⟨by rw [World.size_alloc]; omega, ?_, ?_⟩ <;> simp [go_sem]
end Go.Proofs.YtbpkfkljeibjoaaGreat
/- slices.Compact at part.marks. -/
namespace Rm
open Go Go.RowKit Gx
def RowDM (e : TypeId) (w : World) (g cap : Nat) (c : List (Nat × Nat)) : Prop := c.length ≤ cap ∧ ∃ cur, w.heap[g]? = some (.cells cur e (0, 0)) ∧ cur.size = cap * 2 ∧ cur.toList.take (c.length * 2) = flatE encM c
theorem RowDM.cell {e : TypeId} {w : World} {g cap : Nat} {c : List (Nat × Nat)} (h : RowDM e w g cap c) {i : Nat} {d : Nat × Nat} (hd : c[i]? = some d) :
    w.cell? ⟨g, i * 2, none⟩ = some (.int .u32 (d.1 : Int)) ∧ w.cell? ⟨g, i * 2 + 1, none⟩ = some (.int .u32 (d.2 : Int)) ∧ w.frozen? ⟨g, i * 2, none⟩ = false ∧ w.frozen? ⟨g, i * 2 + 1, none⟩ = false := by
  obtain ⟨hl, cur, hg, hsz, ht⟩ := h
  have hi : i < c.length := (List.getElem?_eq_some_iff.1 hd).1
  have hf : (flatE encM c)[i * 2]? = some (.int .u32 (d.1 : Int)) ∧ (flatE encM c)[i * 2 + 1]? = some (.int .u32 (d.2 : Int)) := ⟨flatE_at encM_ok hd (j := 0) rfl, flatE_at encM_ok hd (j := 1) rfl⟩
  have hfl := flatE_len encM_ok c
  rw [← ht] at hf
  rw [List.getElem?_take_of_lt (by omega), List.getElem?_take_of_lt (by omega)] at hf
  refine ⟨?_, ?_, by simp [World.frozen?, hg], by simp [World.frozen?, hg]⟩
  · have := hf.1; simpa [World.cell?, hg] using this
  · have := hf.2; simpa [World.cell?, hg] using this
theorem flat_setDM (c : List (Nat × Nat)) (i : Nat) (d : Nat × Nat) (hi : i < c.length) : ((flatE encM c).set (i * 2) (.int .u32 (d.1 : Int))).set (i * 2 + 1) (.int .u32 (d.2 : Int)) = flatE encM (c.set i d) :=
  splL_flat encM_ok hi d
theorem RowDM.put {e : TypeId} {w : World} {g cap : Nat} {c : List (Nat × Nat)} (h : RowDM e w g cap c) {i : Nat} (d : Nat × Nat) (hi : i < c.length) :
    RowDM e ((w.setCell ⟨g, i * 2, none⟩ (.int .u32 (d.1 : Int))).setCell ⟨g, i * 2 + 1, none⟩ (.int .u32 (d.2 : Int))) g cap (c.set i d) := by
  obtain ⟨hl, cur, hg, hsz, ht⟩ := h
  refine ⟨by simpa using hl, _, hsc (hsc hg), by simpa using hsz, ?_⟩
  rw [← flat_setDM c i d hi, ← ht]
  simp only [Array.toList_setIfInBounds, List.length_set]
  exact take_set2 _ _ _ _ _ _
end Rm
namespace Go.Proofs.YtbpkfkljeibjoaaGreat
open Gx Go.RowKit Rm
theorem flat_takePM (c : List (Nat × Nat)) (k : Nat) (hk : k ≤ c.length) : (flatE encM c).take (k * 2) = flatE encM (c.take k) := flatE_take encM_ok c k hk
theorem RowDM.drewN {e : TypeId} {w : World} {g cap : Nat} {c : List (Nat × Nat)} (h : RowDM e w g cap c) (q : Nat) : RowDM e (w.drewN q) g cap c := h
theorem RowDM.shrink {e : TypeId} {w : World} {g cap k : Nat} {c : List (Nat × Nat)} {vs : List Value} (h : RowDM e w g cap c) (hk : k ≤ c.length) : RowDM e (w.setCells g (k * 2) vs) g cap (c.take k) := by
  obtain ⟨hl, cur, hg, hsz, ht⟩ := h
  obtain ⟨cur', h1, h2, h3⟩ := setCells_block g vs (k * 2) w cur e hg
  refine ⟨by simp; omega, cur', h1, by rw [h2, hsz], ?_⟩
  have hlen : (c.take k).length = k := by simp; omega
  rw [hlen, h3 _ (Nat.le_refl _)]
  have : cur.toList.take (k * 2) = (cur.toList.take (c.length * 2)).take (k * 2) := by rw [List.take_take, Nat.min_eq_left (by omega)]
  rw [this, ht]
  exact flat_takePM _ _ hk
end Go.Proofs.YtbpkfkljeibjoaaGreat
/- Marks; part.Within. -/
namespace Rm
open Go Go.RowKit Gx
def subP (K L : List PtX) : Prop := ∀ t n a c, t < 16 → n < 32 → inR a c → hasP K t n a c = true → hasP L t n a c = true
end Rm
namespace Go.Proofs.YtbpkfkljeibjoaaGreat
open Go.RowKit Rm Gx
end Go.Proofs.YtbpkfkljeibjoaaGreat
/- the document's parts and the package's: Knows, PartsWithin in terms of what a list of parts holds. By hand. -/
namespace Rm
open Go Go.RowKit Gx
theorem d_s (x : PtX) (a b : Nat) (hb : b < 32) : x.d.s (32 * a + b) = (x.T a).testBit b := by
  show ptF x.T (32 * a + b) = _
  unfold ptF
  rw [show (32 * a + b) / 32 = a by omega, show (32 * a + b) % 32 = b by omega]
theorem d_X (x : PtX) (s c : Nat) (hc : c < 1024) : dsX x.d.X s c = memB (formV x.D) (formM x.D) s c := xOf_ds _ s c hc
theorem d_in (x : PtX) (s c : Nat) (i : inR s c) : dsX x.d.X s c = x.D s c := by
  rw [d_X x s c (by have := i.2.2; omega)]
  exact form_mem x.D s c i
theorem d_out (x : PtX) (s c : Nat) (hc : c < 1024) (h : dsX x.d.X s c = true) : inR s c := by
  rw [d_X x s c hc] at h
  exact (form_ok x.D).inR h
theorem dsX_andB (X Y : Nat → Nat) (s c : Nat) : dsX (fun q => X q &&& Y q) s c = (dsX X s c && dsX Y s c) := by
  unfold dsX
  exact Nat.testBit_and _ _ _
theorem eqX_ds {X Y : Nat → Nat} (hX : OkX X) (hY : OkX Y) : eqX X Y = true ↔ ∀ s c, s < 5 → c < 1024 → dsX X s c = dsX Y s c := by
  rw [eqX_iff]
  constructor
  · intro h s c hs hc
    unfold dsX
    rw [h s hs (c / 64) (by omega)]
  · intro h s hs k hk
    refine Nat.eq_of_testBit_eq fun j => ?_
    by_cases hj : j < 64
    · have := h s (64 * k + j) hs (by omega)
      unfold dsX at this
      rw [show (64 * k + j) / 64 = k by omega, show (64 * k + j) % 64 = j by omega] at this
      exact this
    · have l : ∀ Z : Nat → Nat, OkX Z → (Z (s * 16 + k)).testBit j = false := fun Z hZ => Nat.testBit_lt_two_pow (Nat.lt_of_lt_of_le (hZ _) (Nat.pow_le_pow_right (by omega) (by omega)))
      rw [l X hX, l Y hY]
theorem d_okX (L : List PtX) : ∀ x ∈ L.map PtX.d, OkX x.X := fun x hx => by
  obtain ⟨y, _, rfl⟩ := List.mem_map.1 hx
  exact y.d_ok
end Rm
/- What a part owns; narrow. -/
namespace Go.Proofs.YtbpkfkljeibjoaaGreat
open Go.RowKit Rm Gx
def ptT : List TypeId := [92, 87, 3, 55]
def Tk (w w' : World) : Prop := ∀ (k : Nat) (cs : Array Value) (t : TypeId) (fr : Nat × Nat), w.heap[k]? = some (.cells cs t fr) → ptT.contains t = true → w'.heap[k]? = w.heap[k]?
theorem tk_gr {w w' : World} (g : Gr w w') : Tk w w' := fun k cs t fr h _ => Below.block g k (Array.getElem?_eq_some_iff.1 h).1
theorem tk_upd {w w' : World} {b : Nat} {cs : Array Value} {t : TypeId} (u : Upd w w' b) (h : Bk w b cs t) (ht : ptT.contains t = false) : Tk w w' := fun k cs' t' fr h' ht' => u.oth k (fun e => by
  subst e
  unfold Bk at h
  rw [h] at h'
  injection h' with h'
  injection h' with _ h2
  subst h2
  rw [ht] at ht'
  cases ht')
theorem tk_grown {w w' : World} {base s n : Nat} {t : TypeId} {v : Value} {xs : List Value} (h : w.ownsRow base t s v n xs) (g : w.grownBy w' v.ownBlock) (ht : ptT.contains t = false) : Tk w w' := fun k cs t' fr h' ht' => g.block k (Array.getElem?_eq_some_iff.1 h').1 (fun e => by
  obtain ⟨-, ⟨rfl, -⟩ | ⟨b, cap, cur, rfl, -, hg, -⟩⟩ := h
  · cases e
  · obtain rfl : k = b := by simpa [Value.ownBlock] using e
    rw [hg] at h'
    injection h' with h'
    injection h' with _ h2
    subst h2
    rw [ht] at ht'
    cases ht')
theorem ow_tk {w w' : World} {base s n : Nat} {t : TypeId} {v : Value} {xs : List Value} (h : w.ownsRow base t s v n xs) (k : Tk w w') (ht : ptT.contains t = true) : w'.ownsRow base t s v n xs := by
  obtain ⟨h1, h2 | ⟨b, cap, cur, rfl, h3, hg, h4⟩⟩ := h
  · exact ⟨h1, .inl h2⟩
  · exact ⟨h1, .inr ⟨b, cap, cur, rfl, h3, (k b cur t (0, 0) hg ht).trans hg, h4⟩⟩
theorem FO.tk {base n : Nat} {w w' : World} {v : Value} {T : Nat → Nat} (h : FO base n w v T) (k : Tk w w') : FO base n w' v T := by
  obtain ⟨O, h1, h2, h3⟩ := h
  exact ⟨O, ow_tk h1 k (by decide), fun p hp => ow_tk (h2 p hp) k (by decide), h3⟩
theorem KnO.tk {base : Nat} {w w' : World} {k : Value} {v : List Nat} {m : List (Nat × Nat)} (h : KnO base w k v m) (q : Tk w w') : KnO base w' k v m := by
  obtain ⟨vv, mv, e, h1, h2⟩ := h
  exact ⟨vv, mv, e, ow_tk h1 q (by decide), ow_tk h2 q (by decide)⟩
theorem FO.form {base n : Nat} {w : World} {v : Value} {T : Nat → Nat} (h : FO base n w v T) : ∃ a l c, v = .slice a l c := by
  obtain ⟨O, h1, -⟩ := h
  obtain ⟨a, c, rfl, -⟩ := ow_form h1
  exact ⟨a, _, c, rfl⟩
structure OwnP (base : Nat) (w : World) (x : PtX) : Prop where
  fo : FO base 16 w x.f x.T
  kn : KnO base w x.k (formV x.D) (formM x.D)
  few : (formM x.D).length ≤ 60
theorem OwnP.tk {base : Nat} {w w' : World} {x : PtX} (h : OwnP base w x) (k : Tk w w') : OwnP base w' x := ⟨h.fo.tk k, h.kn.tk k, h.few⟩
theorem OwnP.mean {base : Nat} {w : World} {x : PtX} (h : OwnP base w x) : MeanP w x := ⟨h.fo.fs.le (by decide), h.kn.rd, h.few⟩
theorem OwnP.base {base base' : Nat} {w : World} {x : PtX} (h : OwnP base w x) (hb : base' ≤ base) : OwnP base' w x := ⟨h.fo.base hb, h.kn.less hb, h.few⟩
def OwnsP (base : Nat) (w : World) (K : List PtX) : Prop := ∀ x ∈ K, OwnP base w x
theorem OwnsP.tk {base : Nat} {w w' : World} {K : List PtX} (h : OwnsP base w K) (k : Tk w w') : OwnsP base w' K := fun x hx => (h x hx).tk k
theorem OwnsP.mean {base : Nat} {w : World} {K : List PtX} (h : OwnsP base w K) : MeansP w K := fun x hx => (h x hx).mean
theorem OwnsP.snoc {base : Nat} {w : World} {K : List PtX} {x : PtX} (h : OwnsP base w K) (hx : OwnP base w x) : OwnsP base w (K ++ [x]) := fun y hy => by
  rcases List.mem_append.1 hy with hy | hy
  · exact h y hy
  · rw [List.mem_singleton.1 hy]; exact hx
theorem or_none (D : DS) : EqD (orD (memB (formV D) (formM D)) (memB [] [])) D := fun s c i => by
  have h := form_mem D s c i
  have e : memB [] [] s c = false := by
    cases q : memB [] [] s c
    · rfl
    · rw [memB_iff] at q
      simp [cv] at q
      have := i.2.1
      omega
  simp only [orD, h, e, Bool.or_false]
theorem kjoin0 (k : Value) (D : DS) (w : World) (hk : KnD w k D) (hl : (formM D).length ≤ 60) :
    Calls Tryz.prog 27 #[k, .agg #[.slice none 0 0, .slice none 0 0]] w fun e w' => ∃ va vn vc ma mn mc, e = .returned (.tuple #[.agg #[.slice va vn vc, .slice ma mn mc], .int .i64 0]) ∧ KnO w.heap.size w' (.agg #[.slice va vn vc, .slice ma mn mc]) (formV D) (formM D) ∧ Gr w w' := by
  have ok0 : OkV [] [] := ⟨by simp, by simp, by simp, by simp, by simp⟩
  refine (join_ok k _ _ [] _ [] w hk (knR_nil w) (form_ok D) ok0 hl (by simp)).mono ?_
  rintro e w' ⟨h, g⟩
  obtain ⟨k2, h1, h2⟩ := frmK.one (h.congr (or_none D))
  unfold frE at h1
  unfold frV frM at h2
  rw [if_pos hl] at h1
  rw [if_pos hl, if_pos hl] at h2
  obtain ⟨va, vc, ma, mc, rfl⟩ := h2.form
  exact ⟨va, _, vc, ma, _, mc, h1, h2, g⟩
def nar (U : Nat → Nat) (x : PtX) : (Nat → Nat) × DS := (fun t => x.T t &&& U t, x.D)
def _root_.Rm.PtX.m (x : PtX) : (Nat → Nat) × DS := (x.T, x.D)
theorem nar_step {U : Nat → Nat} {L R : List PtX} {i : Nat} {x y : PtX} (h : R.map PtX.m = (L.take i).map (nar U)) (hx : L[i]? = some x) (hy : y.m = nar U x) : (R ++ [y]).map PtX.m = (L.take (i + 1)).map (nar U) := by
  rw [List.map_append, h, List.take_add_one, hx, List.map_append]
  simp [hy]
set_option maxHeartbeats 8000000 in
set_option maxRecDepth 100000 in
theorem narrow_any (L : List PtX) (va : Option Addr) (vc : Nat) (fv : Value) (U : Nat → Nat) (hl : L.length ≤ 1000) (w : World) (hv : RdA encP 3 w va L) (hm : MeansP w L) (hf : FS w fv U) :
  Calls Tryz.prog 38 #[.slice va L.length vc, fv] w fun e w' => ∃ (R : List PtX) (v : Value), e = .returned v ∧ R.map PtX.m = L.map (nar U) ∧ w'.ownsRow w.heap.size 35 3 v R.length (flatE encP R) ∧ OwnsP w.heap.size w' R ∧ Gr w w' := by
 refine enter (N := 40) Tryz.func38 rfl rfl rfl (fun a0 ok0 h0 => ?_)
 have e0_0 : a0.eval (.tmp 0) = .slice va L.length vc := h0 0 _ rfl
 have e0_1 : a0.eval (.tmp 1) = fv := h0 1 _ rfl
 clear h0
 have G0 := Gr.refl w
 obtain ⟨base, z1⟩ : ∃ n, n = w.heap.size := ⟨_, rfl⟩
 have l2 : w.heap.size ≤ base := by rw [z1]; exact G0.size
 have z3 : base ≤ w.heap.size := Nat.le_of_eq z1
 have O4 := World.ownsRow_nil w base 35 3
 have hps : OwnsP base w ([] : List PtX) := fun x hx => by cases hx
 refine wp_seq_k (fun K5 hK5 => ?_)
 refine wp_region_lit ?_
 refine sv ok0 rfl (wn _ rfl) rfl (o_as ev_const) (fun an6 n6 => ?_)
 refine wpList_nil ?_
 refine th_n (hK5 _ _ ?_)
 refine wp_seq_k (fun K7 hK7 => ?_)
 refine wp_region_lit ?_
 refine sv n6.ok rfl (wn _ rfl) rfl (o_as ev_const) (fun an8 n8 => ?_)
 refine wpList_nil ?_
 refine th_n (hK7 _ _ ?_)
 refine wp_seq_k (fun K9 hK9 => ?_)
 refine wp_seq_k (fun K10 hK10 => ?_)
 refine wp_region_lit ?_
 refine sv n8.ok rfl (wn _ rfl) rfl (o_mv (n8.ne rfl (n6.ne rfl e0_0))) (fun an11 n11 => ?_)
 refine sv n11.ok rfl (wn _ rfl) rfl (o_len n11.at_ Tryz.underlying22) (fun an12 n12 => ?_)
 refine sv n12.ok rfl (wn _ rfl) rfl (o_mv ev_const) (fun an13 n13 => ?_)
 refine wpList_nil ?_
 refine th_n (hK10 _ _ ?_)
 refine wp_block ?_
 have e15 := n13.ne rfl (n12.ne rfl (n11.ne rfl (n8.ne rfl (n6.ne rfl e0_1))))
 have e16 := n13.ne rfl (n12.ne rfl (n11.ne rfl (n8.ne rfl n6.at_)))
 have e17 := n13.ne rfl (n12.ne rfl (n11.ne rfl n8.at_))
 refine lp (fun (nL : Nat) (aL : Act) (wL : World) => ∃ i : Nat, ∃ R : List PtX, ∃ ra : Option Addr, ∃ rc : Nat, nL = L.length - i ∧ Ok 40 aL ∧ Gr w wL ∧ (aL.eval (.tmp 1) = fv) ∧ (aL.eval (.tmp 4) = .slice none 0 0) ∧ (aL.eval (.tmp 5) = .slice ra (R.length) rc) ∧ (aL.eval (.tmp 12) = .slice va L.length vc) ∧ (aL.eval (.tmp 13) = .int .i64 ((L.length : Nat) : Int)) ∧ (aL.eval (.tmp 14) = .int .i64 (i : Int)) ∧ (OwnsP base wL R) ∧ (World.ownsRow wL base 35 3 (.slice ra (R.length) rc) (R.length) ((flatE encP R))) ∧ (base ≤ wL.heap.size) ∧ (i ≤ L.length) ∧ (R.map PtX.m = (L.take i).map (nar U))) _ ⟨0, [], none, 0, rfl, n13.ok, G0, e15, e16, e17, (n13.ne rfl (n12.ne rfl n11.at_)), (n13.ne rfl n12.at_), n13.at_, hps, O4, z3, by omega, rfl⟩ ?_
 rintro m18 aI14 w20 ⟨i, R, ra, rc, hmI14, okI14, GI14, s1I14, s4I14, s5I14, s12I14, s13I14, s14I14, fpsI14, orI14, zbaseI14, hiI14, hRI14⟩ KI14 hKI14
 have hRlI14 : R.length = i := by have := congrArg List.length hRI14; rw [List.length_map, List.length_map, List.length_take] at this; omega
 refine wp_seq_k (fun K21 hK21 => ?_)
 refine wp_region_lit ?_
 refine sv okI14 rfl (wn _ rfl) rfl (o_ltI s14I14 s13I14) (fun an22 n22 => ?_)
 refine wpList_nil ?_
 refine th_n (hK21 _ _ ?_)
 refine wp_seq_k (fun K23 hK23 => ?_)
 by_cases c24 : (i : Int) < ((L.length : Nat) : Int)
 ·refine wp_cond_true ((n22.at_).trans (congrArg Value.bool (decide_eq_true c24))) ?_
  refine wp_skip ?_
  refine th_n (hK23 _ _ ?_)
  refine wp_seq_k (fun K25 hK25 => ?_)
  refine wp_block ?_
  refine wp_seq_k (fun K26 hK26 => ?_)
  refine wp_region_lit ?_
  have h27l : i < List.length L := by omega
  obtain ⟨bh27, fh27, h27a, h27b, h27c⟩ := hv (ne_nil_of_lt h27l)
  obtain ⟨xh27, h27x⟩ : ∃ x, (L)[i]? = some x := ⟨_, List.getElem?_eq_getElem h27l⟩
  refine sv n22.ok rfl (wn _ rfl) rfl (o_iaV (i := i) (s := 3) h27a (n22.ne rfl s12I14) (n22.ne rfl s14I14) Tryz.underlying22 (by kernel_rfl) h27l) (fun an28 n28 => ?_)
  refine sv n28.ok rfl (wn _ rfl) rfl (o_ldA (k := fh27 + i * 3) n28.at_ (cs := [.slice xh27.fa xh27.fn xh27.fc, .slice xh27.va xh27.vn xh27.vc, .slice xh27.ma xh27.mn xh27.mc]) (fun j v hv => (Below.cell GI14 h27b).trans (h27c _ _ h27x j v hv)) Tryz.underlying35 rfl (by kernel_rfl)) (fun an29 n29 => ?_)
  refine sal (cs := #[.slice none 0 0, .slice none 0 0, .slice none 0 0]) n29.ok rfl (wn _ rfl) rfl (o_al (z := .agg #[.slice none 0 0, .slice none 0 0, .slice none 0 0]) (by kernel_rfl)) (fun an30 w32 b31 W33 n30 => ?_)
  have l34 : w.heap.size ≤ b31 := by rw [W33.eq]; exact GI14.size
  have l35 : ∀ k, Value.ownBlock (.slice ra (R.length) rc) = some k → k < b31 := fun k e => by rw [W33.eq]; exact ow_in orI14 k e
  have G36 := GI14.trans W33.gr
  have z37 := Nat.le_trans zbaseI14 W33.gr.size
  have O38 := ow_gr orI14 W33.gr
  have F39 := fpsI14.tk (tk_gr W33.gr)
  refine ssR rfl (wn _ rfl) (o_stR n30.at_ (n30.ne rfl n29.at_) W33.bk (by kernel_rfl) rfl (by simp [Value.oneCell'])) W33.bk (fun w40 u41 u41b => ?_)
  have G42 : Gr w w40 := Below.upd G36 l34 u41
  have z43 : base ≤ w40.heap.size := by rw [u41.size]; exact z37
  have O44 := ow_upd_ne O38 u41 l35
  have F45 := F39.tk (tk_upd u41 W33.bk (by decide))
  refine wpList_nil ?_
  refine th_n (hK26 _ _ ?_)
  refine wp_seq_k (fun K46 hK46 => ?_)
  refine wp_region_lit ?_
  refine sv n30.ok rfl (wn _ rfl) rfl (o_fa (z := 1) n30.at_ Tryz.underlying35 rfl (by kernel_rfl) rfl rfl) (fun an47 n47 => ?_)
  refine sv n47.ok rfl (wn _ rfl) rfl (o_ld n47.at_ (Tryz.isAgg23 _) (u41b.cell _ rfl)) (fun an48 n48 => ?_)
  have e49 := n48.ne rfl (n47.ne rfl (n30.ne rfl (n29.ne rfl (n28.ne rfl (n22.ne rfl s1I14)))))
  refine sv n48.ok rfl (wn _ rfl) rfl (o_mv e49) (fun an50 n50 => ?_)
  refine sc n50.ok rfl (wn _ rfl) rfl (o_f2 Tryz.func103 rfl rfl rfl (n50.ne rfl n48.at_) n50.at_) (fmeet_own (T := xh27.T) (U := U) ((hm _ (List.mem_of_getElem? h27x)).gr G42).fs (hf.gr G42)) ?_
  rintro _ w52 ⟨u1, rfl, hu1, g53⟩
  obtain ⟨fa1, fn1, fc1, rfl⟩ := hu1.form
  refine ⟨_, rfl, fun an51 n51 => ?_⟩
  have G54 := G42.trans g53
  have B55 := u41b.gr g53
  have z56 := Nat.le_trans z43 g53.size
  have O57 := ow_gr O44 g53
  have F58 := F45.tk (tk_gr g53)
  refine sv n51.ok rfl (wn _ rfl) rfl (o_mv n51.at_) (fun an59 n59 => ?_)
  refine sv n59.ok rfl (wn _ rfl) rfl (o_ex n59.at_ rfl) (fun an60 n60 => ?_)
  refine sv n60.ok rfl (wn _ rfl) rfl (o_ex (n60.ne rfl n59.at_) rfl) (fun an61 n61 => ?_)
  refine sv n61.ok rfl (wn _ rfl) rfl (o_as (n61.ne rfl n60.at_)) (fun an62 n62 => ?_)
  refine sv n62.ok rfl (wn _ rfl) rfl (o_as (n62.ne rfl n61.at_)) (fun an63 n63 => ?_)
  refine wpList_nil ?_
  refine th_n (hK46 _ _ ?_)
  refine wp_seq_k (fun K64 hK64 => ?_)
  refine wp_region_lit ?_
  have e65 := n63.ne rfl (n62.ne rfl (n61.ne rfl (n60.ne rfl (n59.ne rfl (n51.ne rfl (n50.ne rfl (n48.ne rfl (n47.ne rfl n30.at_))))))))
  refine sv n63.ok rfl (wn _ rfl) rfl (o_fa (z := 2) e65 Tryz.underlying35 rfl (by kernel_rfl) rfl rfl) (fun an66 n66 => ?_)
  refine sv n66.ok rfl (wn _ rfl) rfl (o_ldA (k := 1) (cs := [.slice xh27.va xh27.vn xh27.vc, .slice xh27.ma xh27.mn xh27.mc]) n66.at_ (bk_part B55 rfl) Tryz.underlying33 rfl (by kernel_rfl)) (fun an67 n67 => ?_)
  refine sv n67.ok rfl (wn _ rfl) rfl (o_b0 (cs := #[.slice none 0 0, .slice none 0 0]) Tryz.underlying33 (by kernel_rfl) (by kernel_rfl)) (fun an68 n68 => ?_)
  refine sc n68.ok rfl (wn _ rfl) rfl (o_f2 Tryz.func27 rfl rfl rfl (n68.ne rfl n67.at_) n68.at_) (kjoin0 _ xh27.D w52 ((hm _ (List.mem_of_getElem? h27x)).gr G54).kn (hm _ (List.mem_of_getElem? h27x)).few) ?_
  rintro _ w70 ⟨va1, vn1, vc1, ma1, mn1, mc1, rfl, hk1, g71⟩
  refine ⟨_, rfl, fun an69 n69 => ?_⟩
  have G72 := G54.trans g71
  have z74 := Nat.le_trans z56 g71.size
  have O75 := ow_gr O57 g71
  have F76 := F58.tk (tk_gr g71)
  have F77 := (hu1.base G42.size).gr g71
  refine sv n69.ok rfl (wn _ rfl) rfl (o_mv n69.at_) (fun an78 n78 => ?_)
  refine sv n78.ok rfl (wn _ rfl) rfl (o_ex n78.at_ rfl) (fun an79 n79 => ?_)
  refine sv n79.ok rfl (wn _ rfl) rfl (o_ex (n79.ne rfl n78.at_) rfl) (fun an80 n80 => ?_)
  refine sal (cs := #[.slice none 0 0, .slice none 0 0]) n80.ok rfl (wn _ rfl) rfl (o_al (z := .agg #[.slice none 0 0, .slice none 0 0]) (by kernel_rfl)) (fun an81 w83 b82 W84 n81 => ?_)
  have l86 : w.heap.size ≤ b82 := by rw [W84.eq]; exact G72.size
  have l87 : ∀ k, Value.ownBlock (.slice ra (R.length) rc) = some k → k < b82 := fun k e => by rw [W84.eq]; exact ow_in O75 k e
  have G88 := G72.trans W84.gr
  have z90 := Nat.le_trans z74 W84.gr.size
  have O91 := ow_gr O75 W84.gr
  have F92 := F76.tk (tk_gr W84.gr)
  have F93 := F77.gr W84.gr
  have F94 := (hk1.less G54.size).gr W84.gr
  refine ssR rfl (wn _ rfl) (o_stR n81.at_ (n81.ne rfl (n80.ne rfl n79.at_)) W84.bk (by kernel_rfl) rfl (by simp [Value.oneCell'])) W84.bk (fun w95 u96 u96b => ?_)
  have G97 : Gr w w95 := Below.upd G88 l86 u96
  have z99 : base ≤ w95.heap.size := by rw [u96.size]; exact z90
  have O100 := ow_upd_ne O91 u96 l87
  have F101 := F92.tk (tk_upd u96 W84.bk (by decide))
  have F102 := F93.tk (tk_upd u96 W84.bk (by decide))
  have F103 := F94.tk (tk_upd u96 W84.bk (by decide))
  refine sv n81.ok rfl (wn _ rfl) rfl (o_as (n81.ne rfl n80.at_)) (fun an104 n104 => ?_)
  refine wpList_nil ?_
  refine th_n (hK64 _ _ ?_)
  refine wp_region_lit ?_
  have e105 := n104.ne rfl (n81.ne rfl (n80.ne rfl (n79.ne rfl (n78.ne rfl (n69.ne rfl (n68.ne rfl (n67.ne rfl (n66.ne rfl (n63.ne rfl (n62.ne rfl (n61.ne rfl (n60.ne rfl (n59.ne rfl (n51.ne rfl (n50.ne rfl (n48.ne rfl (n47.ne rfl (n30.ne rfl (n29.ne rfl (n28.ne rfl (n22.ne rfl s5I14)))))))))))))))))))))
  refine sv n104.ok rfl (wn _ rfl) rfl (o_mv e105) (fun an106 n106 => ?_)
  have e107 := n106.ne rfl (n104.ne rfl (n81.ne rfl (n80.ne rfl (n79.ne rfl (n78.ne rfl (n69.ne rfl (n68.ne rfl (n67.ne rfl (n66.ne rfl (n63.ne rfl n62.at_))))))))))
  refine sv n106.ok rfl (wn _ rfl) rfl (o_mv e107) (fun an108 n108 => ?_)
  have e109 := n108.ne rfl (n106.ne rfl (n104.ne rfl n81.at_))
  refine sv n108.ok rfl (wn _ rfl) rfl (o_ldR e109 u96b Tryz.underlying33 rfl (by kernel_rfl)) (fun an110 n110 => ?_)
  refine sv n110.ok rfl (wn _ rfl) rfl (o_bd (cells := #[.slice fa1 fn1 fc1, .slice va1 vn1 vc1, .slice ma1 mn1 mc1]) (vs := [(0, .slice fa1 fn1 fc1), (1, .agg #[.slice va1 vn1 vc1, .slice ma1 mn1 mc1])]) (by simp [(n110.ne rfl n108.at_), n110.at_, ev_const]) (by kernel_rfl)) (fun an111 n111 => ?_)
  obtain ⟨i112, i112a, i112b, i112c⟩ := info3_of (show (Tryz.prog.info? 35).map (fun i => (i.zero, i.size)) = some (some (.agg #[.slice none 0 0, .slice none 0 0, .slice none 0 0]), 3) by kernel_rfl)
  refine sals (cs := #[.slice fa1 fn1 fc1, .slice va1 vn1 vc1, .slice ma1 mn1 mc1]) n111.ok rfl (wn _ rfl) rfl (o_bs (vs := [(0, .agg #[.slice fa1 fn1 fc1, .slice va1 vn1 vc1, .slice ma1 mn1 mc1])]) (by simp [n111.at_, ev_const]) Tryz.underlying22 i112a i112b (by rw [i112c]; rfl) (by rw [i112c]; rfl) (by rw [i112c]; kernel_rfl)) (fun an113 w115 b114 W116 n113 => ?_)
  have G121 := G97.trans W116.gr
  have z124 := Nat.le_trans z99 W116.gr.size
  have O125 := ow_gr O100 W116.gr
  have F126 := F101.tk (tk_gr W116.gr)
  have F127 := F102.gr W116.gr
  have F128 := F103.gr W116.gr
  have e129 := n113.ne rfl (n111.ne rfl (n110.ne rfl (n108.ne rfl n106.at_)))
  obtain ⟨y130, hy131⟩ : ∃ y : PtX, y = (⟨fa1, fn1, fc1, va1, vn1, vc1, ma1, mn1, mc1, fun t => xh27.T t &&& U t, xh27.D⟩ : PtX) := ⟨_, rfl⟩
  have q132 : OwnP base w115 y130 := by subst hy131; exact ⟨z1 ▸ F127, z1 ▸ F128, (hm _ (List.mem_of_getElem? h27x)).few⟩
  obtain ⟨i133, i133a, i133b, i133c, i133d⟩ := info_of (show (Tryz.prog.info? 35).map (fun i => (i.zero, i.size, i.bytes)) = some (some (.agg #[.slice none 0 0, .slice none 0 0, .slice none 0 0]), 3, 72) by kernel_rfl)
  refine s_app (base := base) (n := R.length) (xs := (flatE encP R)) (m := 1) (news := encP y130) n113.ok (wn _ rfl) rfl Tryz.underlying22 i133a i133b i133c i133d rfl (by omega) e129 O125 n113.at_ rfl ((by subst hy131; exact fun j u hu => by rw [add_n]; exact bk_part W116.bk (k := 0) rfl j u hu)) (encP_ok.one y130) (by simp only [maxLen]; omega) (by omega) z124 (fun an134 w135 v136 O139 gg140 n134 => ?_)
  obtain ⟨a137, c138, rfl, c138l⟩ := ow_form O139
  have G141 := Gr.grown G121 gg140 (fun k e => Nat.le_trans l2 (ow_lt O125 k e))
  have z145 := Nat.le_trans z124 gg140.size
  have F146 := F126.tk (tk_grown O125 gg140 (by decide))
  have F147 := q132.tk (tk_grown O125 gg140 (by decide))
  have O148 : w135.ownsRow base 35 3 (.slice a137 ((R.length + 1)) c138) ((R.length + 1)) ((flatE encP (R ++ [y130]))) := by have h := O139; rw [← flatE_one (enc := encP) y130, ← flatE_app] at h; exact h
  have hps149 := F146.snoc F147
  refine sv n134.ok rfl (wn _ rfl) rfl (o_as n134.at_) (fun an150 n150 => ?_)
  refine wpList_nil ?_
  refine ib_n ?_
  refine th_n (hK25 _ _ ?_)
  refine wp_region_lit ?_
  have e151 := n150.ne rfl (n134.ne rfl (n113.ne rfl (n111.ne rfl (n110.ne rfl (n108.ne rfl (n106.ne rfl (n104.ne rfl (n81.ne rfl (n80.ne rfl (n79.ne rfl (n78.ne rfl (n69.ne rfl (n68.ne rfl (n67.ne rfl (n66.ne rfl (n63.ne rfl (n62.ne rfl (n61.ne rfl (n60.ne rfl (n59.ne rfl (n51.ne rfl (n50.ne rfl (n48.ne rfl (n47.ne rfl (n30.ne rfl (n29.ne rfl (n28.ne rfl (n22.ne rfl s14I14))))))))))))))))))))))))))))
  refine sv n150.ok rfl (wn _ rfl) rfl (o_add (r := ((i + 1 : Nat) : Int)) e151 ev_const (by omega) (by omega)) (fun an152 n152 => ?_)
  refine sv n152.ok rfl (wn _ rfl) rfl (o_mv n152.at_) (fun an153 n153 => ?_)
  refine wpList_nil ?_
  have e154 := n153.ne rfl (n152.ne rfl (n150.ne rfl (n134.ne rfl (n113.ne rfl (n111.ne rfl (n110.ne rfl (n108.ne rfl (n106.ne rfl (n104.ne rfl (n81.ne rfl (n80.ne rfl (n79.ne rfl (n78.ne rfl (n69.ne rfl (n68.ne rfl (n67.ne rfl (n66.ne rfl (n63.ne rfl (n62.ne rfl (n61.ne rfl (n60.ne rfl (n59.ne rfl (n51.ne rfl (n50.ne rfl e49))))))))))))))))))))))))
  have e155 := n153.ne rfl (n152.ne rfl (n150.ne rfl (n134.ne rfl (n113.ne rfl (n111.ne rfl (n110.ne rfl (n108.ne rfl (n106.ne rfl (n104.ne rfl (n81.ne rfl (n80.ne rfl (n79.ne rfl (n78.ne rfl (n69.ne rfl (n68.ne rfl (n67.ne rfl (n66.ne rfl (n63.ne rfl (n62.ne rfl (n61.ne rfl (n60.ne rfl (n59.ne rfl (n51.ne rfl (n50.ne rfl (n48.ne rfl (n47.ne rfl (n30.ne rfl (n29.ne rfl (n28.ne rfl (n22.ne rfl s4I14))))))))))))))))))))))))))))))
  have e156 := n153.ne rfl (n152.ne rfl (n150.ne rfl (n134.ne rfl (n113.ne rfl (n111.ne rfl (n110.ne rfl (n108.ne rfl (n106.ne rfl (n104.ne rfl (n81.ne rfl (n80.ne rfl (n79.ne rfl (n78.ne rfl (n69.ne rfl (n68.ne rfl (n67.ne rfl (n66.ne rfl (n63.ne rfl (n62.ne rfl (n61.ne rfl (n60.ne rfl (n59.ne rfl (n51.ne rfl (n50.ne rfl (n48.ne rfl (n47.ne rfl (n30.ne rfl (n29.ne rfl (n28.ne rfl (n22.ne rfl s12I14))))))))))))))))))))))))))))))
  have e157 := n153.ne rfl (n152.ne rfl (n150.ne rfl (n134.ne rfl (n113.ne rfl (n111.ne rfl (n110.ne rfl (n108.ne rfl (n106.ne rfl (n104.ne rfl (n81.ne rfl (n80.ne rfl (n79.ne rfl (n78.ne rfl (n69.ne rfl (n68.ne rfl (n67.ne rfl (n66.ne rfl (n63.ne rfl (n62.ne rfl (n61.ne rfl (n60.ne rfl (n59.ne rfl (n51.ne rfl (n50.ne rfl (n48.ne rfl (n47.ne rfl (n30.ne rfl (n29.ne rfl (n28.ne rfl (n22.ne rfl s13I14))))))))))))))))))))))))))))))
  exact th_n (hKI14 _ _ _ (by omega) ⟨i + 1, R ++ [y130], a137, c138, rfl, n153.ok, G141, e154, e155, (by simpa using (n153.ne rfl (n152.ne rfl n150.at_))), e156, e157, n153.at_, hps149, (by simpa using O148), z145, by omega, nar_step hRI14 h27x (by rw [hy131]; rfl)⟩)
 ·refine wp_cond_false ((n22.at_).trans (congrArg Value.bool (decide_eq_false c24))) ?_
  refine wp_exit ?_
  refine th_x ?_
  refine th_x ?_
  refine ib_x ?_
  refine th_n (hK9 _ _ ?_)
  refine wp_seq_k (fun K158 hK158 => ?_)
  refine wp_region_lit ?_
  refine sv n22.ok rfl (wn _ rfl) rfl (o_mv (n22.ne rfl s5I14)) (fun an159 n159 => ?_)
  refine sv n159.ok rfl (wn _ rfl) rfl (o_as n159.at_) (fun an160 n160 => ?_)
  refine wpList_nil ?_
  refine th_n (hK158 _ _ ?_)
  refine wp_ret ?_
  exact ret1 n160.ok rfl (n160.at_) ⟨R, _, rfl, by rw [hRI14, List.take_of_length_le (by omega)], z1 ▸ orI14, z1 ▸ fpsI14, GI14⟩
end Go.Proofs.YtbpkfkljeibjoaaGreat
/- part.reduce. -/
namespace Go.Proofs.YtbpkfkljeibjoaaGreat
open Go.RowKit Rm Gx
set_option maxHeartbeats 8000000 in
set_option maxRecDepth 100000 in
theorem reduce_any (L : List PtX) (va : Option Addr) (vc : Nat) (hl : L.length ≤ 1000) (w : World) (hv : RdA encP 3 w va L) (hm : MeansP w L) :
  Calls Tryz.prog 37 #[.slice va L.length vc] w fun e w' => ∃ v : Value, e = .returned v ∧ w'.ownsRow w.heap.size 35 3 v (fewP L).length (flatE encP (fewP L)) ∧ Gr w w' := by
 refine enter (N := 32) Tryz.func37 rfl rfl rfl (fun a0 ok0 h0 => ?_)
 have e0_0 : a0.eval (.tmp 0) = .slice va L.length vc := h0 0 _ rfl
 clear h0
 have G0 := Gr.refl w
 obtain ⟨base, z1⟩ : ∃ n, n = w.heap.size := ⟨_, rfl⟩
 have l2 : w.heap.size ≤ base := by rw [z1]; exact G0.size
 have z3 : base ≤ w.heap.size := Nat.le_of_eq z1
 have O4 := World.ownsRow_nil w base 35 3
 refine wp_seq_k (fun K5 hK5 => ?_)
 refine wp_region_lit ?_
 refine sv ok0 rfl (wn _ rfl) rfl (o_as ev_const) (fun an6 n6 => ?_)
 refine wpList_nil ?_
 refine th_n (hK5 _ _ ?_)
 refine wp_seq_k (fun K7 hK7 => ?_)
 refine wp_region_lit ?_
 refine sv n6.ok rfl (wn _ rfl) rfl (o_as ev_const) (fun an8 n8 => ?_)
 refine wpList_nil ?_
 refine th_n (hK7 _ _ ?_)
 refine wp_seq_k (fun K9 hK9 => ?_)
 refine wp_seq_k (fun K10 hK10 => ?_)
 refine wp_region_lit ?_
 refine sv n8.ok rfl (wn _ rfl) rfl (o_mv (n8.ne rfl (n6.ne rfl e0_0))) (fun an11 n11 => ?_)
 refine sv n11.ok rfl (wn _ rfl) rfl (o_len n11.at_ Tryz.underlying22) (fun an12 n12 => ?_)
 refine sv n12.ok rfl (wn _ rfl) rfl (o_mv ev_const) (fun an13 n13 => ?_)
 refine wpList_nil ?_
 refine th_n (hK10 _ _ ?_)
 refine wp_block ?_
 have e15 := n13.ne rfl (n12.ne rfl (n11.ne rfl (n8.ne rfl n6.at_)))
 have e16 := n13.ne rfl (n12.ne rfl (n11.ne rfl n8.at_))
 refine lp (fun (nL : Nat) (aL : Act) (wL : World) => ∃ i : Nat, ∃ K : List PtX, ∃ ka : Option Addr, ∃ kc : Nat, nL = L.length - i ∧ Ok 32 aL ∧ Gr w wL ∧ (aL.eval (.tmp 2) = .slice none 0 0) ∧ (aL.eval (.tmp 3) = .slice ka K.length kc) ∧ (aL.eval (.tmp 7) = .slice va L.length vc) ∧ (aL.eval (.tmp 8) = .int .i64 ((L.length : Nat) : Int)) ∧ (aL.eval (.tmp 9) = .int .i64 (i : Int)) ∧ (World.ownsRow wL base 35 3 (.slice ka K.length kc) (K.length) ((flatE encP K))) ∧ (base ≤ wL.heap.size) ∧ (i ≤ L.length) ∧ (K = fewP (L.take i)) ∧ (MeansP w K)) _ ⟨0, [], none, 0, rfl, n13.ok, G0, e15, e16, (n13.ne rfl (n12.ne rfl n11.at_)), (n13.ne rfl n12.at_), n13.at_, O4, z3, by omega, rfl, (fun x hx => by cases hx)⟩ ?_
 rintro m17 aI14 w19 ⟨i, K, ka, kc, hmI14, okI14, GI14, s2I14, s3I14, s7I14, s8I14, s9I14, okrI14, zbaseI14, hiI14, hfkI14, hKmI14⟩ KI14 hKI14
 have hKlI14 : K.length ≤ i := by rw [hfkI14]; exact Nat.le_trans (fewP_len _) (by rw [List.length_take]; omega)
 have hKm := hKmI14
 refine wp_seq_k (fun K20 hK20 => ?_)
 refine wp_region_lit ?_
 refine sv okI14 rfl (wn _ rfl) rfl (o_ltI s9I14 s8I14) (fun an21 n21 => ?_)
 refine wpList_nil ?_
 refine th_n (hK20 _ _ ?_)
 refine wp_seq_k (fun K22 hK22 => ?_)
 by_cases c23 : (i : Int) < ((L.length : Nat) : Int)
 ·refine wp_cond_true ((n21.at_).trans (congrArg Value.bool (decide_eq_true c23))) ?_
  refine wp_skip ?_
  refine th_n (hK22 _ _ ?_)
  refine wp_seq_k (fun K24 hK24 => ?_)
  refine wp_block ?_
  refine wp_seq_k (fun K25 hK25 => ?_)
  refine wp_region_lit ?_
  have h26l : i < List.length L := by omega
  obtain ⟨bh26, fh26, h26a, h26b, h26c⟩ := hv (ne_nil_of_lt h26l)
  obtain ⟨xh26, h26x⟩ : ∃ x, (L)[i]? = some x := ⟨_, List.getElem?_eq_getElem h26l⟩
  refine sv n21.ok rfl (wn _ rfl) rfl (o_iaV (i := i) (s := 3) h26a (n21.ne rfl s7I14) (n21.ne rfl s9I14) Tryz.underlying22 (by kernel_rfl) h26l) (fun an27 n27 => ?_)
  refine sv n27.ok rfl (wn _ rfl) rfl (o_ldA (k := fh26 + i * 3) n27.at_ (cs := [.slice xh26.fa xh26.fn xh26.fc, .slice xh26.va xh26.vn xh26.vc, .slice xh26.ma xh26.mn xh26.mc]) (fun j v hv => (Below.cell GI14 h26b).trans (h26c _ _ h26x j v hv)) Tryz.underlying35 rfl (by kernel_rfl)) (fun an28 n28 => ?_)
  refine sal (cs := #[.slice none 0 0, .slice none 0 0, .slice none 0 0]) n28.ok rfl (wn _ rfl) rfl (o_al (z := .agg #[.slice none 0 0, .slice none 0 0, .slice none 0 0]) (by kernel_rfl)) (fun an29 w31 b30 W32 n29 => ?_)
  have l33 : w.heap.size ≤ b30 := by rw [W32.eq]; exact GI14.size
  have l34 : ∀ k, Value.ownBlock (.slice ka K.length kc) = some k → k < b30 := fun k e => by rw [W32.eq]; exact ow_in okrI14 k e
  have G35 := GI14.trans W32.gr
  have z36 := Nat.le_trans zbaseI14 W32.gr.size
  have O37 := ow_gr okrI14 W32.gr
  refine ssR rfl (wn _ rfl) (o_stR n29.at_ (n29.ne rfl n28.at_) W32.bk (by kernel_rfl) rfl (by simp [Value.oneCell'])) W32.bk (fun w38 u39 u39b => ?_)
  have G40 : Gr w w38 := Below.upd G35 l33 u39
  have z41 : base ≤ w38.heap.size := by rw [u39.size]; exact z36
  have O42 := ow_upd_ne O37 u39 l34
  refine wpList_nil ?_
  refine th_n (hK25 _ _ ?_)
  refine wp_seq_k (fun K43 hK43 => ?_)
  refine wp_region_lit ?_
  refine sv n29.ok rfl (wn _ rfl) rfl (o_mf (fs := []) (cs := [.pointer (some ⟨b30, 0, none⟩)]) (by simp) (by simp [n29.at_])) (fun an44 n44 => ?_)
  refine sv n44.ok rfl (wn _ rfl) rfl (o_as n44.at_) (fun an45 n45 => ?_)
  refine wpList_nil ?_
  refine th_n (hK43 _ _ ?_)
  refine wp_seq_k (fun K46 hK46 => ?_)
  refine wp_region_lit ?_
  refine sv n45.ok rfl (wn _ rfl) rfl (o_ldR (n45.ne rfl (n44.ne rfl n29.at_)) u39b Tryz.underlying35 rfl (by kernel_rfl)) (fun an47 n47 => ?_)
  refine sc n47.ok rfl (wn _ rfl) rfl (o_f1 Tryz.func100 rfl rfl rfl n47.at_) (empty_any xh26 w38 ((hm _ (List.mem_of_getElem? h26x)).gr G40)) ?_
  rintro _ w49 ⟨rfl, g50⟩
  refine ⟨_, rfl, fun an48 n48 => ?_⟩
  have G51 := G40.trans g50
  have B52 := u39b.gr g50
  have z53 := Nat.le_trans z41 g50.size
  have O54 := ow_gr O42 g50
  refine sv n48.ok rfl (wn _ rfl) rfl (o_notI n48.at_) (fun an55 n55 => ?_)
  refine sv n55.ok rfl (wn _ rfl) rfl (o_mv n55.at_) (fun an56 n56 => ?_)
  cases c57 : (!(emptyP xh26))
  ·have e58 := (n56.at_).trans (congrArg Value.bool (c57))
   refine sn n56.ok rfl (wgF rfl (yl 3 false rfl e58) rfl) rfl (fun an60 n60 => ?_)
   refine sn n60.ok rfl (wgF rfl (yl 3 false rfl (n60.ne rfl e58)) rfl) rfl (fun an61 n61 => ?_)
   refine sn n61.ok rfl (wgF rfl (yl 3 false rfl (n61.ne rfl (n60.ne rfl e58))) rfl) rfl (fun an62 n62 => ?_)
   have e63 := n62.ne rfl (n61.ne rfl (n60.ne rfl e58))
   refine sn n62.ok rfl (wgF rfl (yl 3 false rfl e63) rfl) rfl (fun an64 n64 => ?_)
   refine sv n64.ok rfl (wn _ rfl) rfl (o_pkF (n64.ne rfl e63) ev_const) (fun an65 n65 => ?_)
   refine wpList_nil ?_
   refine th_n (hK46 _ _ ?_)
   refine wp_cond_false (n65.at_) ?_
   refine wp_skip ?_
   refine ib_n ?_
   refine th_n (hK24 _ _ ?_)
   refine wp_region_lit ?_
   have e66 := n65.ne rfl (n64.ne rfl (n62.ne rfl (n61.ne rfl (n60.ne rfl (n56.ne rfl (n55.ne rfl (n48.ne rfl (n47.ne rfl (n45.ne rfl (n44.ne rfl (n29.ne rfl (n28.ne rfl (n27.ne rfl (n21.ne rfl s9I14))))))))))))))
   refine sv n65.ok rfl (wn _ rfl) rfl (o_add (r := ((i + 1 : Nat) : Int)) e66 ev_const (by omega) (by omega)) (fun an67 n67 => ?_)
   refine sv n67.ok rfl (wn _ rfl) rfl (o_mv n67.at_) (fun an68 n68 => ?_)
   refine wpList_nil ?_
   have e69 := n68.ne rfl (n67.ne rfl (n65.ne rfl (n64.ne rfl (n62.ne rfl (n61.ne rfl (n60.ne rfl (n56.ne rfl (n55.ne rfl (n48.ne rfl (n47.ne rfl (n45.ne rfl (n44.ne rfl (n29.ne rfl (n28.ne rfl (n27.ne rfl (n21.ne rfl s2I14))))))))))))))))
   have e70 := n68.ne rfl (n67.ne rfl (n65.ne rfl (n64.ne rfl (n62.ne rfl (n61.ne rfl (n60.ne rfl (n56.ne rfl (n55.ne rfl (n48.ne rfl (n47.ne rfl (n45.ne rfl (n44.ne rfl (n29.ne rfl (n28.ne rfl (n27.ne rfl (n21.ne rfl s3I14))))))))))))))))
   have e71 := n68.ne rfl (n67.ne rfl (n65.ne rfl (n64.ne rfl (n62.ne rfl (n61.ne rfl (n60.ne rfl (n56.ne rfl (n55.ne rfl (n48.ne rfl (n47.ne rfl (n45.ne rfl (n44.ne rfl (n29.ne rfl (n28.ne rfl (n27.ne rfl (n21.ne rfl s7I14))))))))))))))))
   have e72 := n68.ne rfl (n67.ne rfl (n65.ne rfl (n64.ne rfl (n62.ne rfl (n61.ne rfl (n60.ne rfl (n56.ne rfl (n55.ne rfl (n48.ne rfl (n47.ne rfl (n45.ne rfl (n44.ne rfl (n29.ne rfl (n28.ne rfl (n27.ne rfl (n21.ne rfl s8I14))))))))))))))))
   exact th_n (hKI14 _ _ _ (by omega) ⟨i + 1, K, ka, kc, rfl, n68.ok, G51, e69, e70, e71, e72, n68.at_, O54, z53, by omega, by rw [fewP_take h26x, ← hfkI14]; unfold stepP; rw [if_neg (by simp [c57])], hKmI14⟩)
  ·have e73 := (n56.at_).trans (congrArg Value.bool (c57))
   have e75 := n56.ne rfl (n55.ne rfl (n48.ne rfl (n47.ne rfl (n45.ne rfl (n44.ne rfl (n29.ne rfl (n28.ne rfl (n27.ne rfl (n21.ne rfl s3I14)))))))))
   refine sv n56.ok rfl (wgT rfl (yl 3 true rfl e73) rfl) rfl (o_mv e75) (fun an76 n76 => ?_)
   have e77 := n76.ne rfl (n56.ne rfl (n55.ne rfl (n48.ne rfl (n47.ne rfl n45.at_))))
   refine sv n76.ok rfl (wgT rfl (yl 3 true rfl (n76.ne rfl e73)) rfl) rfl (o_mv e77) (fun an78 n78 => ?_)
   refine sc n78.ok rfl (wgT rfl (yl 3 true rfl (n78.ne rfl (n76.ne rfl e73))) rfl) rfl (o_f2 Tryz.func101 rfl rfl rfl (n78.ne rfl n76.at_) n78.at_) (containsP K ka kc _ [.pointer (some ⟨b30, 0, none⟩)] (fun y => underP xh26 y) ⟨_, Tryz.func98, rfl, rfl⟩ (by omega) w49 (RdA.own encP_ok O54 rfl) (fun y hy w1 g1 => reduce1_any y xh26 b30 w1 ((hKm y hy).gr (G51.trans g1)) ((hm _ (List.mem_of_getElem? h26x)).gr (G51.trans g1)) (B52.gr g1))) ?_
   rintro _ w80 ⟨rfl, g81⟩
   refine ⟨_, rfl, fun an79 n79 => ?_⟩
   have G82 := G51.trans g81
   have B83 := B52.gr g81
   have z84 := Nat.le_trans z53 g81.size
   have O85 := ow_gr O54 g81
   have e86 := n79.ne rfl (n78.ne rfl (n76.ne rfl e73))
   refine sv n79.ok rfl (wgT rfl (yl 3 true rfl e86) rfl) rfl (o_notI n79.at_) (fun an87 n87 => ?_)
   refine sv n87.ok rfl (wn _ rfl) rfl (o_pkT (n87.ne rfl e86) n87.at_) (fun an88 n88 => ?_)
   refine wpList_nil ?_
   refine th_n (hK46 _ _ ?_)
   cases c89 : (!(K.any fun y => underP xh26 y))
   ·refine wp_cond_false ((n88.at_).trans (congrArg Value.bool (c89))) ?_
    refine wp_skip ?_
    refine ib_n ?_
    refine th_n (hK24 _ _ ?_)
    refine wp_region_lit ?_
    have e90 := n88.ne rfl (n87.ne rfl (n79.ne rfl (n78.ne rfl (n76.ne rfl (n56.ne rfl (n55.ne rfl (n48.ne rfl (n47.ne rfl (n45.ne rfl (n44.ne rfl (n29.ne rfl (n28.ne rfl (n27.ne rfl (n21.ne rfl s9I14))))))))))))))
    refine sv n88.ok rfl (wn _ rfl) rfl (o_add (r := ((i + 1 : Nat) : Int)) e90 ev_const (by omega) (by omega)) (fun an91 n91 => ?_)
    refine sv n91.ok rfl (wn _ rfl) rfl (o_mv n91.at_) (fun an92 n92 => ?_)
    refine wpList_nil ?_
    have e93 := n92.ne rfl (n91.ne rfl (n88.ne rfl (n87.ne rfl (n79.ne rfl (n78.ne rfl (n76.ne rfl (n56.ne rfl (n55.ne rfl (n48.ne rfl (n47.ne rfl (n45.ne rfl (n44.ne rfl (n29.ne rfl (n28.ne rfl (n27.ne rfl (n21.ne rfl s2I14))))))))))))))))
    have e94 := n92.ne rfl (n91.ne rfl (n88.ne rfl (n87.ne rfl (n79.ne rfl (n78.ne rfl (n76.ne rfl e75))))))
    have e95 := n92.ne rfl (n91.ne rfl (n88.ne rfl (n87.ne rfl (n79.ne rfl (n78.ne rfl (n76.ne rfl (n56.ne rfl (n55.ne rfl (n48.ne rfl (n47.ne rfl (n45.ne rfl (n44.ne rfl (n29.ne rfl (n28.ne rfl (n27.ne rfl (n21.ne rfl s7I14))))))))))))))))
    have e96 := n92.ne rfl (n91.ne rfl (n88.ne rfl (n87.ne rfl (n79.ne rfl (n78.ne rfl (n76.ne rfl (n56.ne rfl (n55.ne rfl (n48.ne rfl (n47.ne rfl (n45.ne rfl (n44.ne rfl (n29.ne rfl (n28.ne rfl (n27.ne rfl (n21.ne rfl s8I14))))))))))))))))
    exact th_n (hKI14 _ _ _ (by omega) ⟨i + 1, K, ka, kc, rfl, n92.ok, G82, e93, e94, e95, e96, n92.at_, O85, z84, by omega, by rw [fewP_take h26x, ← hfkI14]; unfold stepP; rw [if_neg (by simp [c57, c89])], hKmI14⟩)
   ·refine wp_cond_true ((n88.at_).trans (congrArg Value.bool (c89))) ?_
    refine regd_start (N := 32) (m := 6) (Value.ownBlock (.slice ka K.length kc)) 3 (by kernel_rfl) (fun R970 => ?_)
    have e98 := n88.ne rfl (n87.ne rfl (n79.ne rfl (n78.ne rfl (n76.ne rfl e75))))
    have R971 := R970.snoc (n' := 1) rfl rfl (fun vJ _ => vJ = .slice ka K.length kc) rfl (fun _ _ _ _ h => h) (fun aS wS pS => by
      exact Does.val (wn _ rfl) (o_mv ((pS.old 3 rfl).trans e98)) (Gr.refl _) rfl rfl)
    have e99 := n88.ne rfl (n87.ne rfl (n79.ne rfl (n78.ne rfl (n76.ne rfl (n56.ne rfl (n55.ne rfl (n48.ne rfl (n47.ne rfl (n45.ne rfl (n44.ne rfl n29.at_))))))))))
    have R972 := R971.snoc (n' := 2) rfl rfl (fun vJ _ => vJ = .agg #[.slice xh26.fa xh26.fn xh26.fc, .slice xh26.va xh26.vn xh26.vc, .slice xh26.ma xh26.mn xh26.mc]) rfl (fun _ _ _ _ h => h) (fun aS wS pS => by
      exact Does.val (wn _ rfl) (o_ldR ((pS.old 5 rfl).trans e99) (Bk.grown_ne B83 (gb_drew pS.gr) l34) Tryz.underlying35 rfl (by kernel_rfl)) (Gr.refl _) rfl rfl)
    have R973 := R972.snoc (n' := 3) rfl rfl (fun vJ wJ => ∃ (c2 : Nat), vJ = .func (.func 135) #[] #[.pointer (some ⟨c2, 0, none⟩)] ∧ (w80.heap.size ≤ c2) ∧ (Bk wJ c2 #[.slice xh26.fa xh26.fn xh26.fc, .slice xh26.va xh26.vn xh26.vc, .slice xh26.ma xh26.mn xh26.mc] 35)) rfl (fun _ _ _ g ⟨c2, h, q0, q1⟩ => ⟨c2, h, q0, q1.grown_ne g (fun k e => Nat.lt_of_lt_of_le (ow_in O85 k e) q0)⟩) (fun aS wS pS => by
      have eR97_1 : aS.eval (.tmp 24) = .agg #[.slice xh26.fa xh26.fn xh26.fc, .slice xh26.va xh26.vn xh26.vc, .slice xh26.ma xh26.mn xh26.mc] := pS.pre 1 rfl
      exact Does.call (wn _ rfl) (o_f1 Tryz.func99 rfl rfl rfl (eR97_1)) (impliedBy_any xh26 wS) (by rintro _ w2 ⟨c2, rfl, hge2, hbk2, g⟩; exact ⟨_, rfl, g, ⟨c2, rfl, Nat.le_trans pS.gr.size hge2, hbk2⟩⟩) rfl)
    have R974 := R973.snocC (n' := 4) rfl rfl (fun vJ wJ => ∃ (da : Option Addr) (dc : Nat), vJ = .slice da ((K.filter fun y => !underP y xh26).length) dc ∧ (Value.ownBlock (.slice da (K.filter fun y => !underP y xh26).length dc) = Value.ownBlock (.slice ka K.length kc)) ∧ (World.ownsRow wJ base 35 3 (.slice da (K.filter fun y => !underP y xh26).length dc) (K.filter fun y => !underP y xh26).length (flatE encP (K.filter fun y => !underP y xh26)))) rfl (fun _ _ _ g ⟨da, dc, h, q0, q1⟩ => ⟨da, dc, h, q0, ow_gr q1 g⟩) (fun aS wS pS => by
      have eR97_0 : aS.eval (.tmp 23) = .slice ka K.length kc := pS.pre 0 rfl
      obtain ⟨c2, eR97_2, hge2, hbk2⟩ := pS.pre 2 rfl
      have eR97_2 : aS.eval (.tmp 25) = .func (.func 135) #[] #[.pointer (some ⟨c2, 0, none⟩)] := eR97_2
      exact DoesC.call (wn _ rfl) (o_f2 Tryz.func102 rfl rfl rfl (eR97_0) (eR97_2)) (deleteP K (.slice ka K.length kc) base _ [.pointer (some ⟨c2, 0, none⟩)] (fun y => underP y xh26) ⟨_, Tryz.func135, rfl, rfl⟩ (by omega) w wS (G82.trans (gr_drew (pS.gr0 rfl))) l2 (Nat.le_trans z84 pS.gr.size) (ow_gr O85 (gr_drew (pS.gr0 rfl))) (fun y hy w1 g1 => impliedBy1_any y xh26 c2 w1 ((hKm y hy).gr (Gr.grown (G82.trans (gr_drew (pS.gr0 rfl))) g1 (fun k e => Nat.le_trans l2 (ow_lt O85 k e)))) ((hm _ (List.mem_of_getElem? h26x)).gr (Gr.grown (G82.trans (gr_drew (pS.gr0 rfl))) g1 (fun k e => Nat.le_trans l2 (ow_lt O85 k e)))) (hbk2.grown_ne g1 (fun k e => Nat.lt_of_lt_of_le (ow_in O85 k e) hge2)))) (by rintro _ w2 ⟨u2, rfl, hob2, ho2, g⟩; obtain ⟨da, dc, rfl, -⟩ := ow_form ho2; exact ⟨_, rfl, g, ⟨da, dc, rfl, hob2, ho2⟩⟩) rfl)
    have R975 := R974.snoc (n' := 5) rfl rfl (fun vJ _ => vJ = .agg #[.slice xh26.fa xh26.fn xh26.fc, .slice xh26.va xh26.vn xh26.vc, .slice xh26.ma xh26.mn xh26.mc]) rfl (fun _ _ _ _ h => h) (fun aS wS pS => by
      exact Does.val (wn _ rfl) (o_ldR ((pS.old 5 rfl).trans e99) (Bk.grown_ne B83 (gb_drew pS.gr) l34) Tryz.underlying35 rfl (by kernel_rfl)) (Gr.refl _) rfl rfl)
    have R976 := R975.snoc (n' := 6) rfl rfl (fun vJ wJ => ∃ b101 : Nat, vJ = .slice (some ⟨b101, 0, none⟩) 1 1 ∧ w80.heap.size ≤ b101 ∧ Bk wJ b101 #[.slice xh26.fa xh26.fn xh26.fc, .slice xh26.va xh26.vn xh26.vc, .slice xh26.ma xh26.mn xh26.mc] 35) rfl (fun _ _ _ g ⟨b, h1, h2, h3⟩ => ⟨b, h1, h2, h3.grown_ne g (fun k e => Nat.lt_of_lt_of_le (ow_in O85 k e) h2)⟩) (fun aS wS pS => by
      have eR97_4 : aS.eval (.tmp 27) = .agg #[.slice xh26.fa xh26.fn xh26.fc, .slice xh26.va xh26.vn xh26.vc, .slice xh26.ma xh26.mn xh26.mc] := pS.pre 4 rfl
      obtain ⟨i100, i100a, i100b, i100c⟩ := info3_of (show (Tryz.prog.info? 35).map (fun i => (i.zero, i.size)) = some (some (.agg #[.slice none 0 0, .slice none 0 0, .slice none 0 0]), 3) by kernel_rfl)
      exact Does.val (wn _ rfl) (o_bs (vs := [(0, .agg #[.slice xh26.fa xh26.fn xh26.fc, .slice xh26.va xh26.vn xh26.vc, .slice xh26.ma xh26.mn xh26.mc])]) (by simp [(eR97_4), ev_const]) Tryz.underlying22 i100a i100b (by rw [i100c]; rfl) (by rw [i100c]; rfl) (by rw [i100c]; kernel_rfl)) ((Gr.refl _).alloc _) ⟨_, rfl, pS.gr.size, (New.mk' _ _ _).bk⟩ rfl)
    refine R976.run (k := 2) (L := #[true, true, true, true, true, true, false, false]) (by kernel_rfl) (by kernel_rfl) (by kernel_rfl) n88.ok (by kernel_rfl) (by kernel_rfl) (fun ap103 w104 p103 => ?_)
    have gg105 := gb_drew p103.gr
    have G106 := Gr.grown G82 gg105 (fun k e => Nat.le_trans l2 (ow_lt O85 k e))
    have z108 := Nat.le_trans z84 gg105.size
    obtain ⟨c2, ep103_2, hge2, hbk2⟩ := p103.js 2 rfl
    have ep103_2 : ap103.eval (.tmp 25) = .func (.func 135) #[] #[.pointer (some ⟨c2, 0, none⟩)] := ep103_2
    obtain ⟨da, dc, ep103_3, hob2, ho2⟩ := p103.js 3 rfl
    have ep103_3 : ap103.eval (.tmp 26) = .slice da ((K.filter fun y => !underP y xh26).length) dc := ep103_3
    obtain ⟨b101, ep103_5, geb101, bkb101⟩ := p103.js 5 rfl
    have ep103_5 : ap103.eval (.tmp 28) = .slice (some ⟨b101, 0, none⟩) 1 1 := ep103_5
    have hFl := List.length_filter_le (fun y => !underP y xh26) K
    obtain ⟨i113, i113a, i113b, i113c, i113d⟩ := info_of (show (Tryz.prog.info? 35).map (fun i => (i.zero, i.size, i.bytes)) = some (some (.agg #[.slice none 0 0, .slice none 0 0, .slice none 0 0]), 3, 72) by kernel_rfl)
    refine t_app (i := 6) (base := base) (n := (K.filter fun y => !underP y xh26).length) (xs := (flatE encP (K.filter fun y => !underP y xh26))) (m := 1) (news := encP xh26) (by kernel_rfl) rfl p103.ok (wn _ rfl) rfl Tryz.underlying22 i113a i113b i113c i113d rfl (by omega) ep103_3 ho2 ep103_5 rfl ((fun j u hu => by rw [add_n]; exact bk_part bkb101 (k := 0) rfl j u hu)) (encP_ok.one xh26) (by simp only [maxLen]; omega) (by omega) z108 (fun an114 w115 v116 O119 gg120 n114 => ?_)
    obtain ⟨a117, c118, rfl, c118l⟩ := ow_form O119
    have G121 := Gr.grown G106 gg120 (fun k e => Nat.le_trans l2 (ow_lt ho2 k e))
    have z124 := Nat.le_trans z108 gg120.size
    have O125 : w115.ownsRow base 35 3 (.slice a117 (((K.filter fun y => !underP y xh26).length + 1)) c118) (((K.filter fun y => !underP y xh26).length + 1)) ((flatE encP ((K.filter fun y => !underP y xh26) ++ [xh26]))) := by have h := O119; rw [← flatE_one (enc := encP) xh26, ← flatE_app] at h; exact h
    refine t_val (i := 7) (by kernel_rfl) rfl n114.ok rfl (wn _ rfl) rfl (o_as n114.at_) (fun an126 n126 => ?_)
    refine wpAny_done (by kernel_rfl) ?_ _
    refine ib_n ?_
    refine th_n (hK24 _ _ ?_)
    refine wp_region_lit ?_
    have e127 := n126.ne rfl (n114.ne rfl ((p103.old 9 rfl).trans (n88.ne rfl (n87.ne rfl (n79.ne rfl (n78.ne rfl (n76.ne rfl (n56.ne rfl (n55.ne rfl (n48.ne rfl (n47.ne rfl (n45.ne rfl (n44.ne rfl (n29.ne rfl (n28.ne rfl (n27.ne rfl (n21.ne rfl s9I14)))))))))))))))))
    refine sv n126.ok rfl (wn _ rfl) rfl (o_add (r := ((i + 1 : Nat) : Int)) e127 ev_const (by omega) (by omega)) (fun an128 n128 => ?_)
    refine sv n128.ok rfl (wn _ rfl) rfl (o_mv n128.at_) (fun an129 n129 => ?_)
    refine wpList_nil ?_
    have e130 := n129.ne rfl (n128.ne rfl (n126.ne rfl (n114.ne rfl ((p103.old 2 rfl).trans (n88.ne rfl (n87.ne rfl (n79.ne rfl (n78.ne rfl (n76.ne rfl (n56.ne rfl (n55.ne rfl (n48.ne rfl (n47.ne rfl (n45.ne rfl (n44.ne rfl (n29.ne rfl (n28.ne rfl (n27.ne rfl (n21.ne rfl s2I14)))))))))))))))))))
    have e131 := n129.ne rfl (n128.ne rfl (n126.ne rfl (n114.ne rfl ((p103.old 7 rfl).trans (n88.ne rfl (n87.ne rfl (n79.ne rfl (n78.ne rfl (n76.ne rfl (n56.ne rfl (n55.ne rfl (n48.ne rfl (n47.ne rfl (n45.ne rfl (n44.ne rfl (n29.ne rfl (n28.ne rfl (n27.ne rfl (n21.ne rfl s7I14)))))))))))))))))))
    have e132 := n129.ne rfl (n128.ne rfl (n126.ne rfl (n114.ne rfl ((p103.old 8 rfl).trans (n88.ne rfl (n87.ne rfl (n79.ne rfl (n78.ne rfl (n76.ne rfl (n56.ne rfl (n55.ne rfl (n48.ne rfl (n47.ne rfl (n45.ne rfl (n44.ne rfl (n29.ne rfl (n28.ne rfl (n27.ne rfl (n21.ne rfl s8I14)))))))))))))))))))
    exact th_n (hKI14 _ _ _ (by omega) ⟨i + 1, ((K.filter fun y => !underP y xh26) ++ [xh26]), a117, c118, rfl, n129.ok, G121, e130, (by simpa using (n129.ne rfl (n128.ne rfl n126.at_))), e131, e132, n129.at_, (by simpa using O125), z124, by omega, by rw [fewP_take h26x, ← hfkI14]; unfold stepP; rw [if_pos (by simp [c57, c89])], fun y hy => by
      rcases List.mem_append.1 hy with hy | hy
      ·exact hKmI14 y (List.mem_filter.1 hy).1
      ·rw [List.mem_singleton.1 hy]; exact hm _ (List.mem_of_getElem? h26x)⟩)
 ·refine wp_cond_false ((n21.at_).trans (congrArg Value.bool (decide_eq_false c23))) ?_
  refine wp_exit ?_
  refine th_x ?_
  refine th_x ?_
  refine ib_x ?_
  refine th_n (hK9 _ _ ?_)
  refine wp_seq_k (fun K133 hK133 => ?_)
  refine wp_region_lit ?_
  refine sv n21.ok rfl (wn _ rfl) rfl (o_mv (n21.ne rfl s3I14)) (fun an134 n134 => ?_)
  refine sv n134.ok rfl (wn _ rfl) rfl (o_as n134.at_) (fun an135 n135 => ?_)
  refine wpList_nil ?_
  refine th_n (hK133 _ _ ?_)
  refine wp_ret ?_
  exact ret1 n135.ok rfl (n135.at_) ⟨.slice ka (fewP L).length kc, by rw [hfkI14, List.take_of_length_le (by omega)], by have h := okrI14; rw [hfkI14, List.take_of_length_le (by omega), z1] at h; exact h, GI14⟩
end Go.Proofs.YtbpkfkljeibjoaaGreat
/- The contracts of slices.Grow at nil and of slices.Concat, over parts. -/
namespace Go.Proofs.YtbpkfkljeibjoaaGreat
open Go.RowKit Rm
theorem ccp_info : (Tryz.prog.info? 35).map (fun i => (i.zero, i.size, i.bytes)) = some (some (.agg #[.slice none 0 0, .slice none 0 0, .slice none 0 0]), 3, 72) := by kernel_rfl
theorem own_formP {w : World} {base : Nat} {e : TypeId} {s n : Nat} {v : Value} {xs : List Value} (h : w.ownsRow base e s v n xs) : ∃ a c, v = .slice a n c ∧ n ≤ c := by
  rcases h.2 with ⟨rfl, rfl⟩ | ⟨g, cap, cur, rfl, _, _, hn, _⟩
  · exact ⟨none, 0, rfl, Nat.le_refl _⟩
  · exact ⟨_, cap, rfl, hn⟩
def RoomP (w w' : World) (v : Value) : Prop := Gr w w' ∧ w'.ownsRow w.heap.size 35 3 v 0 []
set_option maxHeartbeats 1000000 in
set_option maxRecDepth 100000 in
theorem growP_nil (n : Nat) (w : World) (hn : n ≤ 1000) :
    Calls Tryz.prog 88 #[.slice none 0 0, .int .i64 (n : Int)] w fun e w' => ∃ v, e = .returned v ∧ RoomP w w' v := by
  obtain ⟨i0, hi0, hz0, hz1, hz2⟩ := info_parts ccp_info
  by_cases h0 : n = 0
  · subst h0
    go_enter Tryz.func88, Tryz.ntmps88
    go_wp2
    go_ret
    exact ⟨_, rfl, Gr.refl _, World.ownsRow_nil _ _ _ _⟩
  · have hold : (Builtin.firstCells i0.size 0 (.slice none 0 0)).run Tryz.prog w.drew = .ok ([] : List Value).toArray w.drew := run_firstCells_none w.drew i0.size 0 0 0
    have hrz : ∀ ty, (Builtin.append_ #[22, 3] ty #[.slice none 0 0, .int .i64 (n : Int)]).run Tryz.prog w = _ := fun ty =>
      Lib.run_append_grow_zeros w 22 3 ty 35 i0 _ .i64 .i64 Tryz.underlying22 Tryz.underlying3 hi0 hz0 none 0 0 [] hold n (by omega) (by rw [hz1]; omega) (by omega) (by omega)
        (by rw [hz2]; omega) (by rw [hz2]; exact growslice_fits (by omega) (by omega))
    have HRZ := Lib.hid hrz
    have hGn : 0 + n ≤ grownCap w (0 + n) 0 35 := grownCap_ge w _ _ _
    have hGm : grownCap w (0 + n) 0 35 ≤ maxLen := grownCap_le_maxLen w (0 + n) 0 35 (by unfold maxLen; omega)
    rw [Nat.zero_add] at hGn hGm
    have h1 : (0 : Int) < (n : Int) := by omega
    have h2 : ¬ ((n : Int) < 0) := by omega
    clear hold hrz hz0 hi0
    go_enter Tryz.func88, Tryz.ntmps88
    go_wp2_with (at_builtin; refine Lib.wpList_append_run _ rfl _ _ _ _ rfl _ _ rfl rfl _ _ (HRZ.out _) ?_)
    go_ret
    refine ⟨_, rfl, ((Gr.refl w).drew).alloc _, ?_⟩
    have hb : w.heap.size ≤ w.drew.heap.size := Nat.le_refl _
    refine World.ownsRow_made (base := w.heap.size) (e := 35) (size := 3) w.drew _ _ hb hGm ?_
    simp only [Array.size_append, size_zeroCells]
    show n * 3 + (grownCap w n 0 35 - n) * 3 = grownCap w n 0 35 * 3
    omega
def SrcP (w : World) (bb : Nat) (X : List (Nat × List Value)) : Prop :=
  bb < w.heap.size ∧ ∀ i p, X[i]? = some p → ∃ v, w.cell? ⟨bb, i, none⟩ = some v ∧ RdC 3 w v p.1 p.2
def sumP (X : List (Nat × List Value)) : Nat := (X.map (·.1)).sum
def catP (X : List (Nat × List Value)) : List Value := (X.map (·.2)).flatten
theorem sumP_take {X : List (Nat × List Value)} {k : Nat} {p : Nat × List Value} (h : X[k]? = some p) : sumP (X.take (k + 1)) = sumP (X.take k) + p.1 := by
  obtain ⟨hk, e⟩ := List.getElem?_eq_some_iff.1 h
  rw [List.take_succ_eq_append_getElem hk, e]
  simp [sumP]
theorem catP_take {X : List (Nat × List Value)} {k : Nat} {p : Nat × List Value} (h : X[k]? = some p) : catP (X.take (k + 1)) = catP (X.take k) ++ p.2 := by
  obtain ⟨hk, e⟩ := List.getElem?_eq_some_iff.1 h
  rw [List.take_succ_eq_append_getElem hk, e]
  simp [catP]
theorem sumP_app (a b : List (Nat × List Value)) : sumP (a ++ b) = sumP a + sumP b := by simp [sumP]
theorem sumP_le (X : List (Nat × List Value)) (k : Nat) : sumP (X.take k) ≤ sumP X := by
  have h := sumP_app (X.take k) (X.drop k)
  rw [List.take_append_drop] at h
  omega
set_option maxHeartbeats 2000000 in
set_option maxRecDepth 100000 in
theorem concatP (X : List (Nat × List Value)) (bb cap : Nat) (w : World) (hX : SrcP w bb X) (hs : sumP X ≤ 1000) (hl : X.length ≤ 10) :
    Calls Tryz.prog 31 #[.slice (some ⟨bb, 0, none⟩) X.length cap] w fun e w' => ∃ v, e = .returned v ∧ Gr w w' ∧ w'.ownsRow w.heap.size 35 3 v (sumP X) (catP X) := by
  obtain ⟨i0, hi0, hz0, hz1, hz2⟩ := info_parts ccp_info
  have HX := Lib.hid hX
  have HSL := Lib.hid (sumP_le X)
  have hl' : (X.length : Int) ≤ 10 := by omega
  have hbb := hX.1
  clear hX
  go_enter Tryz.func31, Tryz.ntmps31
  go_wp2
  go_loop [3, 11] (fun a i => ∃ k : Nat, k ≤ X.length ∧ i = .int .i64 k ∧ a = .int .i64 (sumP (X.take k) : Nat)) (fun _ i => X.length - (intOf i).toNat)
  case atStart => exact ⟨0, by omega, rfl, rfl⟩
  case round =>
    obtain ⟨k, hk, rfl, rfl⟩ := hrel
    by_cases hlt : k < X.length
    · obtain ⟨p, hp⟩ : ∃ p, X[k]? = some p := ⟨_, List.getElem?_eq_getElem hlt⟩
      obtain ⟨v0, c1, pl, p1, hv0⟩ := HX.out.2 k p hp
      have HS := Lib.hid (sumP_take hp)
      have hs1 := HSL.out (k + 1)
      have hs2 : sumP (X.take k) + p.1 ≤ 1000 := by rw [← sumP_take hp]; omega
      have hk10 : (k : Int) < 10 := by omega
      obtain ⟨ao, c, rfl⟩ : ∃ ao c, v0 = .slice ao p.1 c := by
        rcases hv0 with ⟨rfl, z⟩ | ⟨ad, c, rfl, _⟩
        · exact ⟨none, 0, by rw [z]⟩
        · exact ⟨some ad, c, rfl⟩
      clear hp hs1 hv0
      generalize sumP (X.take k) = sk at *
      have hs3 : (sk : Int) + (p.1 : Int) ≤ 1000 := by omega
      have hs4 : ¬ ((sk : Int) + (p.1 : Int) < 0) := by omega
      go_wp2_with fail
      go_round
      case rel => exact ⟨k + 1, by omega, by go_num, by rw [HS.out]; simp⟩
      case measure => simp [intOf]; omega
    · obtain rfl : k = X.length := by omega
      rw [List.take_length]
      go_wp2_with fail
      refine (growP_nil (sumP X) _ hs).mono ?_
      rintro e w1 ⟨v, rfl, hg1, ho1⟩
      have HO1 := Lib.hid ho1
      have HG1 := Lib.hid hg1
      clear hg1 ho1
      go_wp2_with fail
      go_loopw [6, 27] (fun v i wr => ∃ k : Nat, k ≤ X.length ∧ i = .int .i64 k ∧ Gr w wr ∧ wr.ownsRow w.heap.size 35 3 v (sumP (X.take k)) (catP (X.take k))) (fun _ i _ => X.length - (intOf i).toNat)
      case atStart => exact ⟨0, by omega, rfl, HG1.out, HO1.out⟩
      case round =>
        obtain ⟨k, hk, rfl, hg, hown⟩ := hrel
        by_cases hlt : k < X.length
        · obtain ⟨p, hp⟩ : ∃ p, X[k]? = some p := ⟨_, List.getElem?_eq_getElem hlt⟩
          obtain ⟨v0, c1, hv0⟩ := HX.out.2 k p hp
          obtain ⟨pl, p1, ⟨rfl, z1⟩ | ⟨ad, c, rfl, hnc, hb, hc⟩⟩ := hv0.gr hg
          · rw [← hg.cells.1 bb _ hbb] at c1
            have HS := Lib.hid (sumP_take hp)
            have HC := Lib.hid (catP_take hp)
            have z2 : p.2 = [] := List.eq_nil_of_length_eq_zero (by simp [pl, z1])
            rw [z1] at HS
            rw [z2] at HC
            have hk10 : (k : Int) < 10 := by omega
            have HO := Lib.hid hown
            obtain ⟨va, vc, rfl, hvc⟩ := own_formP hown
            clear hp hown z1 z2 hv0 pl p1
            go_wp2_with (at_builtin; refine wpList_append_own_none rfl (.tmp 31) (.tmp 32) 22 rfl w.heap.size 35 i0 3 Tryz.underlying22 hi0 _ _ _ rfl HO.out rfl ?_)
            go_roundw
            case rel => exact ⟨k + 1, by omega, by go_num, hg, by rw [HS.out, HC.out, List.append_nil]; exact HO.out⟩
            case measure => simp [intOf]; omega
          · rw [← hg.cells.1 bb _ hbb] at c1
            have HP := Lib.hid hc
            have HS := Lib.hid (sumP_take hp)
            have HC := Lib.hid (catP_take hp)
            have hs1 := HSL.out (k + 1)
            have hs2 : sumP (X.take k) + p.1 ≤ 1000 := by rw [← sumP_take hp]; omega
            have hk10 : (k : Int) < 10 := by omega
            have HPL := Lib.hid pl
            have HP1 := Lib.hid p1
            have HO := Lib.hid hown
            obtain ⟨va, vc, rfl, hvc⟩ := own_formP hown
            clear hp hs1 hc pl p1 hown hv0 hb
            generalize sumP (X.take k) = sk at *
            go_wp2_with (at_builtin; refine wpList_append_own _ rfl (.tmp 31) (.tmp 32) 22 rfl w.heap.size 35 i0 _ 3 72 Tryz.underlying22 hi0 hz0 hz1 hz2 rfl (by omega) _ _ _ rfl HO.out ad p.1 c p.2 rfl HPL.out HP.out HP1.out (by simp only [maxLen]; omega) (by omega) hg.le ?_; intro v1 w2 hown hg1 _)
            go_roundw
            case rel => exact ⟨k + 1, by omega, by go_num, hg.grown hg1 (fun k hk => (HO.out.lt k hk).1), by rw [HS.out, HC.out]; exact hown⟩
            case measure => simp [intOf]; omega
        · obtain rfl : k = X.length := by omega
          rw [List.take_length] at hown
          go_wp2_with fail
          go_ret
          exact ⟨_, rfl, hg, hown⟩
end Go.Proofs.YtbpkfkljeibjoaaGreat
/- part.Join, Narrow. -/
namespace Gx
open Go Go.RowKit Rm
theorem flatE_inv {E : Type} {enc : E → List Value} {s : Nat} (h : EncOk enc s) : ∀ (K : List E) (j : Nat) (u : Value), (flatE enc K)[j]? = some u → ∃ i x r, K[i]? = some x ∧ (enc x)[r]? = some u ∧ j = i * s + r := by
  intro K
  induction K with
  | nil => intro j u hj; simp [flatE] at hj
  | cons a K ih =>
    intro j u hj
    have e : flatE enc (a :: K) = enc a ++ flatE enc K := by simp [flatE]
    rw [e] at hj
    by_cases q : j < (enc a).length
    · rw [List.getElem?_append_left q] at hj
      exact ⟨0, a, j, by simp, hj, by omega⟩
    · rw [List.getElem?_append_right (by omega)] at hj
      obtain ⟨i, x, r, h1, h2, h3⟩ := ih _ _ hj
      rw [h.len] at q h3
      exact ⟨i + 1, x, r, by simpa using h1, h2, by rw [Nat.add_mul]; omega⟩
end Gx
namespace Go.Proofs.YtbpkfkljeibjoaaGreat
open Go.RowKit Rm Gx
theorem rdc_of {E : Type} {enc : E → List Value} {s : Nat} (h : EncOk enc s) {w : World} {a : Option Addr} {K : List E} {c : Nat} (hr : RdA enc s w a K) (hc : K.length ≤ c) (hn : a = none → c = 0) : RdC s w (.slice a K.length c) K.length (flatE enc K) := by
  refine ⟨flatE_len h K, flatE_ones h K, ?_⟩
  cases a with
  | none =>
    have := hn rfl
    subst this
    have : K.length = 0 := by omega
    exact .inl ⟨by rw [this], this⟩
  | some ad =>
    refine .inr ⟨ad, c, rfl, hc, fun h0 => ?_, fun j u hj => ?_⟩
    · obtain ⟨b, off, e, hb, -⟩ := hr (by intro q; rw [q] at h0; exact h0 rfl)
      injection e with e
      subst e
      exact hb
    · obtain ⟨i, x, r, h1, h2, rfl⟩ := flatE_inv h K j u hj
      obtain ⟨b, off, e, hb, hx⟩ := hr (by intro q; rw [q] at h1; simp at h1)
      injection e with e
      subst e
      rw [add_n, show off + (i * s + r) = off + i * s + r by omega]
      exact hx i x h1 r u h2
theorem concatK (K L : List PtX) (va vb : Option Addr) (vc vd b : Nat) (t : TypeId) (w : World) (hl : K.length ≤ 30) (hl' : L.length ≤ 30) (hc : K.length ≤ vc) (hc' : L.length ≤ vd) (hn : va = none → vc = 0) (hn' : vb = none → vd = 0)
    (hv : RdA encP 3 w va K) (hv' : RdA encP 3 w vb L) (hb : Bk w b #[.slice va K.length vc, .slice vb L.length vd] t) :
    Calls Tryz.prog 31 #[.slice (some ⟨b, 0, none⟩) 2 2] w fun e w' => ∃ a c, e = .returned (.slice a (K ++ L).length c) ∧ w'.ownsRow w.heap.size 35 3 (.slice a (K ++ L).length c) (K ++ L).length (flatE encP (K ++ L)) ∧ Gr w w' := by
  have hS : SrcP w b [(K.length, flatE encP K), (L.length, flatE encP L)] := by
    refine ⟨hb.lt, fun i p hp => ?_⟩
    match i, hp with
    | 0, hp =>
      simp at hp; subst hp
      exact ⟨_, hb.cell 0 rfl, rdc_of encP_ok hv hc hn⟩
    | 1, hp =>
      simp at hp; subst hp
      exact ⟨_, hb.cell 1 rfl, rdc_of encP_ok hv' hc' hn'⟩
    | i + 2, hp => simp at hp
  refine (concatP _ b 2 w hS (by simp [sumP]; omega) (by simp)).mono ?_
  rintro e w' ⟨v, rfl, g, h⟩
  have e1 : sumP [(K.length, flatE encP K), (L.length, flatE encP L)] = (K ++ L).length := by simp [sumP]
  have e2 : catP [(K.length, flatE encP K), (L.length, flatE encP L)] = flatE encP (K ++ L) := by simp [catP, flatE_app]
  rw [e1, e2] at h
  obtain ⟨a, c, rfl, -⟩ := ow_form h
  exact ⟨a, c, rfl, h, g⟩
def ResP (base : Nat) (w : World) (e : Ending) (F : List PtX) : Prop :=
  (F.length ≤ 30 ∧ ∃ v, e = .returned (.tuple #[v, .int .i64 0]) ∧ w.ownsRow base 35 3 v F.length (flatE encP F) ∧ OwnsP base w F) ∨ (30 < F.length ∧ e = .returned (.tuple #[.slice none 0 0, .int .i64 2]))
theorem ow_lessP {w : World} {base base' s n : Nat} {t : TypeId} {v : Value} {xs : List Value} (h : w.ownsRow base t s v n xs) (hb : base' ≤ base) : w.ownsRow base' t s v n xs := by
  obtain ⟨h1, h2 | ⟨g, cap, cur, e, h3, h4⟩⟩ := h
  · exact ⟨h1, .inl h2⟩
  · exact ⟨h1, .inr ⟨g, cap, cur, e, Nat.le_trans hb h3, h4⟩⟩
set_option maxHeartbeats 8000000 in
set_option maxRecDepth 100000 in
theorem pjoin_ok (K L : List PtX) (va vb : Option Addr) (vc vd : Nat) (hl : K.length ≤ 30) (hl2 : L.length ≤ 30) (hc : K.length ≤ vc) (hc2 : L.length ≤ vd) (hn : va = none → vc = 0) (hn2 : vb = none → vd = 0) (w : World) (hv : RdA encP 3 w va K) (hv2 : RdA encP 3 w vb L) (hm : MeansP w K) (hm2 : MeansP w L) :
  Calls Tryz.prog 6 #[.slice va K.length vc, .slice vb L.length vd] w fun e w' => ∃ R : List PtX, R.map PtX.m = (K ++ L).map (nar fullT) ∧ ResP w.heap.size w' e (fewP R) ∧ Gr w w' := by
 refine enter (N := 25) Tryz.func6 rfl rfl rfl (fun a0 ok0 h0 => ?_)
 have e0_0 : a0.eval (.tmp 0) = .slice va K.length vc := h0 0 _ rfl
 have e0_1 : a0.eval (.tmp 1) = .slice vb L.length vd := h0 1 _ rfl
 clear h0
 have G0 := Gr.refl w
 refine wp_seq_k (fun K1 hK1 => ?_)
 refine wp_region_lit ?_
 refine sv ok0 rfl (wn _ rfl) rfl (o_as ev_const) (fun an2 n2 => ?_)
 refine sv n2.ok rfl (wn _ rfl) rfl (o_as ev_const) (fun an3 n3 => ?_)
 refine wpList_nil ?_
 refine th_n (hK1 _ _ ?_)
 refine wp_seq_k (fun K4 hK4 => ?_)
 refine wp_seq_k (fun K5 hK5 => ?_)
 refine wp_region_lit ?_
 refine sv n3.ok rfl (wn _ rfl) rfl (o_mv (n3.ne rfl (n2.ne rfl e0_0))) (fun an6 n6 => ?_)
 have e7 := n6.ne rfl (n3.ne rfl (n2.ne rfl e0_1))
 refine sv n6.ok rfl (wn _ rfl) rfl (o_mv e7) (fun an8 n8 => ?_)
 refine sc n8.ok rfl (wn _ rfl) rfl (o_f2 Tryz.func36 rfl rfl rfl (n8.ne rfl n6.at_) n8.at_) (pcheckBoth_ok K L va vb vc vd w hl hl2 (hv.gr G0) (hv2.gr G0) (hm.gr G0) (hm2.gr G0)) ?_
 rintro _ w10 ⟨rfl, g11⟩
 refine ⟨_, rfl, fun an9 n9 => ?_⟩
 have G12 := G0.trans g11
 refine sv n9.ok rfl (wn _ rfl) rfl (o_as n9.at_) (fun an13 n13 => ?_)
 refine wpList_nil ?_
 refine th_n (hK5 _ _ ?_)
 refine wp_seq_k (fun K14 hK14 => ?_)
 refine wp_region_lit ?_
 refine sv n13.ok rfl (wn _ rfl) rfl (o_mv n13.at_) (fun an15 n15 => ?_)
 refine sv n15.ok rfl (wn _ rfl) rfl (o_neq (b := false) n15.at_ ev_const (by decide)) (fun an16 n16 => ?_)
 refine wpList_nil ?_
 refine th_n (hK14 _ _ ?_)
 refine wp_cond_false (n16.at_) ?_
 refine wp_skip ?_
 refine th_n (hK4 _ _ ?_)
 refine wp_seq_k (fun K17 hK17 => ?_)
 refine wp_region_lit ?_
 have e18 := n16.ne rfl (n15.ne rfl (n13.ne rfl (n9.ne rfl (n8.ne rfl (n6.ne rfl (n3.ne rfl (n2.ne rfl e0_0)))))))
 refine sv n16.ok rfl (wn _ rfl) rfl (o_mv e18) (fun an19 n19 => ?_)
 have e20 := n19.ne rfl (n16.ne rfl (n15.ne rfl (n13.ne rfl (n9.ne rfl (n8.ne rfl e7)))))
 refine sv n19.ok rfl (wn _ rfl) rfl (o_mv e20) (fun an21 n21 => ?_)
 obtain ⟨i22, i22a, i22b, i22c⟩ := info3_of (show (Tryz.prog.info? 22).map (fun i => (i.zero, i.size)) = some (some (.slice none 0 0), 1) by kernel_rfl)
 refine sals (cs := #[.slice va K.length vc, .slice vb L.length vd]) n21.ok rfl (wn _ rfl) rfl (o_bs (vs := [(0, .slice va K.length vc), (1, .slice vb L.length vd)]) (by simp [(n21.ne rfl n19.at_), n21.at_, ev_const]) Tryz.underlying138 i22a i22b (by rw [i22c]; rfl) (by rw [i22c]; rfl) (by rw [i22c]; kernel_rfl)) (fun an23 w25 b24 W26 n23 => ?_)
 have G28 := G12.trans W26.gr
 refine sc n23.ok rfl (wn _ rfl) rfl (o_f1 Tryz.func31 rfl rfl rfl n23.at_) (concatK K L va vb vc vd b24 _ w25 hl hl2 hc hc2 hn hn2 (hv.gr G28) (hv2.gr G28) W26.bk) ?_
 rintro _ w30 ⟨ca, cc, rfl, hO0, g31⟩
 refine ⟨_, rfl, fun an29 n29 => ?_⟩
 have G32 := G28.trans g31
 refine sc n29.ok rfl (wn _ rfl) rfl (o_f0 Tryz.func9 rfl rfl rfl ) (fevery w30) ?_
 rintro _ w35 ⟨ev, rfl, hev, g36⟩
 refine ⟨_, rfl, fun an34 n34 => ?_⟩
 have G37 := G32.trans g36
 have F39 := ow_gr hO0 g36
 have hGn := G37.size
 refine sc n34.ok rfl (wn _ rfl) rfl (o_f2 Tryz.func38 rfl rfl rfl (n34.ne rfl n29.at_) n34.at_) (narrow_any (K ++ L) ca cc _ fullT (by rw [List.length_append]; omega) w35 (RdA.own encP_ok F39 rfl) (fun x hx => (List.mem_append.1 hx).elim (fun h => (hm x h).gr G37) (fun h => (hm2 x h).gr G37)) (hev.le (by decide))) ?_
 rintro _ w41 ⟨R, v1, rfl, hR, hO1, hP1, g42⟩
 obtain ⟨ra, rc, rfl, hrc⟩ := ow_form hO1
 have hRl : R.length = ((K ++ L)).length := by have := congrArg List.length hR; simpa using this
 refine ⟨_, rfl, fun an40 n40 => ?_⟩
 have G43 := G37.trans g42
 refine sc n40.ok rfl (wn _ rfl) rfl (o_f1 Tryz.func37 rfl rfl rfl n40.at_) (reduce_any R ra rc (by rw [hRl, List.length_append]; omega) w41 (RdA.own encP_ok hO1 rfl) (OwnsP.mean hP1)) ?_
 rintro _ w48 ⟨v2, rfl, hO2, g49⟩
 obtain ⟨qa, qc, rfl, hqc⟩ := ow_form hO2
 refine ⟨_, rfl, fun an47 n47 => ?_⟩
 have G50 := G43.trans g49
 have F55 := hP1.tk (tk_gr g49)
 refine sv n47.ok rfl (wn _ rfl) rfl (o_as n47.at_) (fun an56 n56 => ?_)
 refine wpList_nil ?_
 refine th_n (hK17 _ _ ?_)
 refine wp_seq_k (fun K57 hK57 => ?_)
 refine wp_seq_k (fun K58 hK58 => ?_)
 refine wp_region_lit ?_
 refine sv n56.ok rfl (wn _ rfl) rfl (o_mv n56.at_) (fun an59 n59 => ?_)
 refine sv n59.ok rfl (wn _ rfl) rfl (o_len n59.at_ Tryz.underlying22) (fun an60 n60 => ?_)
 refine sv n60.ok rfl (wn _ rfl) rfl (o_gtI n60.at_ ev_const) (fun an61 n61 => ?_)
 refine wpList_nil ?_
 refine th_n (hK58 _ _ ?_)
 by_cases c62 : (30 : Int) < (((fewP R).length : Nat) : Int)
 ·refine wp_cond_true ((n61.at_).trans (congrArg Value.bool (decide_eq_true c62))) ?_
  refine wp_seq_k (fun K63 hK63 => ?_)
  refine wp_region_lit ?_
  refine sv n61.ok rfl (wn _ rfl) rfl (o_as ev_const) (fun an64 n64 => ?_)
  refine sv n64.ok rfl (wn _ rfl) rfl (o_as ev_const) (fun an65 n65 => ?_)
  refine wpList_nil ?_
  refine th_n (hK63 _ _ ?_)
  refine wp_ret ?_
  refine th_r ?_
  exact ret2 n65.ok rfl ((n65.ne rfl n64.at_)) (n65.at_) ⟨R, hR, .inr ⟨by have := c62; omega, rfl⟩, G50⟩
 ·refine wp_cond_false ((n61.at_).trans (congrArg Value.bool (decide_eq_false c62))) ?_
  refine wp_skip ?_
  refine th_n (hK57 _ _ ?_)
  refine wp_seq_k (fun K66 hK66 => ?_)
  refine wp_region_lit ?_
  have e67 := n61.ne rfl (n60.ne rfl (n59.ne rfl n56.at_))
  refine sv n61.ok rfl (wn _ rfl) rfl (o_mv e67) (fun an68 n68 => ?_)
  refine sv n68.ok rfl (wn _ rfl) rfl (o_as n68.at_) (fun an69 n69 => ?_)
  refine sv n69.ok rfl (wn _ rfl) rfl (o_as ev_const) (fun an70 n70 => ?_)
  refine wpList_nil ?_
  refine th_n (hK66 _ _ ?_)
  refine wp_ret ?_
  exact ret2 n70.ok rfl ((n70.ne rfl n69.at_)) (n70.at_) ⟨R, hR, .inl ⟨by have := c62; omega, _, rfl, (ow_lessP hO2 G43.size), fun x hx => (F55 x (fewP_mem hx)).base hGn⟩, G50⟩
set_option maxHeartbeats 8000000 in
set_option maxRecDepth 100000 in
theorem pjoin_bad (K L : List PtI) (va vb : Option Addr) (vc vd : Nat) (hl : K.length ≤ 9223372036854775807) (hl2 : L.length ≤ 9223372036854775807) (hne : ¬ chkP2 K L = 0) (w : World) (hv : RdA encR 3 w va K) (hv2 : RdA encR 3 w vb L) (hm : MeansI w K) (hm2 : MeansI w L) :
  Calls Tryz.prog 6 #[.slice va K.length vc, .slice vb L.length vd] w fun e w' => e = .returned (.tuple #[.slice none 0 0, .int .i64 (chkP2 K L)]) ∧ Gr w w' := by
 refine enter (N := 25) Tryz.func6 rfl rfl rfl (fun a0 ok0 h0 => ?_)
 have e0_0 : a0.eval (.tmp 0) = .slice va K.length vc := h0 0 _ rfl
 have e0_1 : a0.eval (.tmp 1) = .slice vb L.length vd := h0 1 _ rfl
 clear h0
 have G0 := Gr.refl w
 refine wp_seq_k (fun K1 hK1 => ?_)
 refine wp_region_lit ?_
 refine sv ok0 rfl (wn _ rfl) rfl (o_as ev_const) (fun an2 n2 => ?_)
 refine sv n2.ok rfl (wn _ rfl) rfl (o_as ev_const) (fun an3 n3 => ?_)
 refine wpList_nil ?_
 refine th_n (hK1 _ _ ?_)
 refine wp_seq_k (fun K4 hK4 => ?_)
 refine wp_seq_k (fun K5 hK5 => ?_)
 refine wp_region_lit ?_
 refine sv n3.ok rfl (wn _ rfl) rfl (o_mv (n3.ne rfl (n2.ne rfl e0_0))) (fun an6 n6 => ?_)
 have e7 := n6.ne rfl (n3.ne rfl (n2.ne rfl e0_1))
 refine sv n6.ok rfl (wn _ rfl) rfl (o_mv e7) (fun an8 n8 => ?_)
 refine sc n8.ok rfl (wn _ rfl) rfl (o_f2 Tryz.func36 rfl rfl rfl (n8.ne rfl n6.at_) n8.at_) (pcheckBoth_any K L va vb vc vd w hl hl2 (hv.gr G0) (hv2.gr G0) (hm.gr G0) (hm2.gr G0)) ?_
 rintro _ w10 ⟨rfl, g11⟩
 refine ⟨_, rfl, fun an9 n9 => ?_⟩
 have G12 := G0.trans g11
 refine sv n9.ok rfl (wn _ rfl) rfl (o_as n9.at_) (fun an13 n13 => ?_)
 refine wpList_nil ?_
 refine th_n (hK5 _ _ ?_)
 refine wp_seq_k (fun K14 hK14 => ?_)
 refine wp_region_lit ?_
 refine sv n13.ok rfl (wn _ rfl) rfl (o_mv n13.at_) (fun an15 n15 => ?_)
 refine sv n15.ok rfl (wn _ rfl) rfl (o_neq (b := true) n15.at_ ev_const (by simp [show ¬ (chkP2 K L) = 0 from hne])) (fun an16 n16 => ?_)
 refine wpList_nil ?_
 refine th_n (hK14 _ _ ?_)
 refine wp_cond_true (n16.at_) ?_
 refine wp_seq_k (fun K17 hK17 => ?_)
 refine wp_region_lit ?_
 refine sv n16.ok rfl (wn _ rfl) rfl (o_mv (n16.ne rfl (n15.ne rfl n13.at_))) (fun an18 n18 => ?_)
 refine sv n18.ok rfl (wn _ rfl) rfl (o_as ev_const) (fun an19 n19 => ?_)
 refine sv n19.ok rfl (wn _ rfl) rfl (o_as (n19.ne rfl n18.at_)) (fun an20 n20 => ?_)
 refine wpList_nil ?_
 refine th_n (hK17 _ _ ?_)
 refine wp_ret ?_
 refine th_r ?_
 exact ret2 n20.ok rfl ((n20.ne rfl n19.at_)) (n20.at_) ⟨rfl, G12⟩
end Go.Proofs.YtbpkfkljeibjoaaGreat
/- reedkeep.parts, partBegun, both; small lists of parts. -/
namespace Gx
open Go Go.RowKit Rm
def RdV {α : Type} (R : World → Value → α → Prop) (w : World) (a : Option Addr) (L : List α) : Prop :=
  L ≠ [] → ∃ b off, a = some ⟨b, off, none⟩ ∧ b < w.heap.size ∧ ∀ i x, L[i]? = some x → ∃ u, w.cell? ⟨b, off + i * 1, none⟩ = some u ∧ R w u x
theorem RdV.gr {α : Type} {R : World → Value → α → Prop} (hR : ∀ w w' u x, Gr w w' → R w u x → R w' u x) {w w' : World} {a : Option Addr} {L : List α} (h : RdV R w a L) (g : Gr w w') : RdV R w' a L := fun hn => by
  obtain ⟨b, off, e, hb, hx⟩ := h hn
  refine ⟨b, off, e, Nat.lt_of_lt_of_le hb g.le, fun i x hi => ?_⟩
  obtain ⟨u, h1, h2⟩ := hx i x hi
  exact ⟨u, (g.cells.1 b _ hb).trans h1, hR _ _ _ _ g h2⟩
end Gx
namespace Rm
open Go Go.RowKit Gx
def EqP (K L : List PtX) : Prop := ∀ t n a c, t < 16 → n < 32 → inR a c → hasP K t n a c = hasP L t n a c
theorem EqP.sub {K L : List PtX} (h : EqP K L) : subP K L := fun t n a c h1 h2 h3 hk => by rw [← h t n a c h1 h2 h3]; exact hk
theorem EqP.symm {K L : List PtX} (h : EqP K L) : EqP L K := fun t n a c h1 h2 h3 => (h t n a c h1 h2 h3).symm
theorem EqP.trans {K L M : List PtX} (h : EqP K L) (k : EqP L M) : EqP K M := fun t n a c h1 h2 h3 => (h t n a c h1 h2 h3).trans (k t n a c h1 h2 h3)
theorem EqP.refl (K : List PtX) : EqP K K := fun _ _ _ _ _ _ _ => rfl
end Rm
namespace Go.Proofs.YtbpkfkljeibjoaaGreat
open Go.RowKit Rm Gx
theorem FSn.okT {n : Nat} {w : World} {v : Value} {T : Nat → Nat} (h : FSn n w v T) : OkT T := fun t ht => h.lt t ht
structure PartAt (w0 w : World) (x : PtX) : Prop where
  fs : FS w0 x.f x.T
  kn : KnO w0.heap.size w x.k (formV x.D) (formM x.D)
  few : (formM x.D).length ≤ 60
def PartsAt (w0 w : World) (K : List PtX) : Prop := ∀ x ∈ K, PartAt w0 w x
theorem PartAt.tk {w0 w w' : World} {x : PtX} (h : PartAt w0 w x) (k : Tk w w') : PartAt w0 w' x := ⟨h.fs, h.kn.tk k, h.few⟩
theorem PartsAt.tk {w0 w w' : World} {K : List PtX} (h : PartsAt w0 w K) (k : Tk w w') : PartsAt w0 w' K := fun x hx => (h x hx).tk k
theorem PartsAt.snoc {w0 w : World} {K : List PtX} {x : PtX} (h : PartsAt w0 w K) (hx : PartAt w0 w x) : PartsAt w0 w (K ++ [x]) := fun y hy => by
  rcases List.mem_append.1 hy with hy | hy
  · exact h y hy
  · rw [List.mem_singleton.1 hy]; exact hx
theorem PartsAt.mean {w0 w : World} {K : List PtX} (h : PartsAt w0 w K) (g : Gr w0 w) : MeansP w K := fun x hx => ⟨(h x hx).fs.gr g, (h x hx).kn.rd, (h x hx).few⟩
theorem ok0 : OkV [] [] := ⟨by simp, by simp, by simp, by simp, by simp⟩
theorem FSn.form {n : Nat} {w : World} {v : Value} {T : Nat → Nat} (h : FSn n w v T) : ∃ a l c, v = .slice a l c := by
  obtain ⟨F, ⟨a, c, rfl, -⟩, -⟩ := h
  exact ⟨a, _, c, rfl⟩
end Go.Proofs.YtbpkfkljeibjoaaGreat
/- What the laws on parts need. -/
namespace Rm
open Go Go.RowKit Gx
end Rm
namespace Go.Proofs.YtbpkfkljeibjoaaGreat
open Go.RowKit Rm Gx
theorem ow_nil {w : World} {base s n c : Nat} {t : TypeId} {a : Option Addr} {xs : List Value} (h : w.ownsRow base t s (.slice a n c) n xs) : a = none → c = 0 := by
  rintro rfl
  obtain ⟨-, ⟨e1, -⟩ | ⟨g', cap, cur, e1, -⟩⟩ := h
  · injection e1
  · injection e1 with e1; cases e1
end Go.Proofs.YtbpkfkljeibjoaaGreat
/- What the law PartSays wants beside the contracts. -/
namespace Go.Proofs.YtbpkfkljeibjoaaGreat
open Go.RowKit Rm Gx
theorem chkP2_l {K L : List PtI} (h : ¬ chkP K = 0) : chkP2 K L = chkP K := by unfold chkP2; rw [if_neg h]
theorem chkP2_r {K L : List PtI} (h : chkP K = 0) : chkP2 K L = chkP L := by unfold chkP2; rw [if_pos h]
theorem chkP_len {K : List PtI} (h : chkP K = 0) : K.length ≤ 30 := by
  unfold chkP at h
  by_cases q : 30 < K.length
  · rw [if_pos q] at h; cases h
  · omega
theorem chkP_all {K : List PtI} (h : chkP K = 0) : ∀ x ∈ K, chkI x = 0 := by
  have q := chkP_len h
  unfold chkP at h
  rw [if_neg (by omega)] at h
  exact chkPGo_zero.1 h
theorem rd_mapX {w : World} {a : Option Addr} {K : List PtI} {L : List PtX} (h : RdA encR 3 w a K) (e : L.map encP = K.map encR) : RdA encP 3 w a L := fun hn => by
  have hl : L.length = K.length := by simpa using congrArg List.length e
  obtain ⟨b, off, h1, h2, h3⟩ := h (by intro q; rw [q] at hl; exact hn (List.eq_nil_of_length_eq_zero (by simpa using hl)))
  refine ⟨b, off, h1, h2, fun i y hy j u hu => ?_⟩
  have hi : i < K.length := by rw [← hl]; exact (List.getElem?_eq_some_iff.1 hy).1
  have e2 := congrArg (fun z => z[i]?) e
  simp only [List.getElem?_map, hy, Option.map_some, List.getElem?_eq_getElem hi] at e2
  injection e2 with e2
  exact h3 i K[i] (List.getElem?_eq_getElem hi) j u (by rw [← e2]; exact hu)
theorem parts_x {w : World} {a : Option Addr} {K : List PtI} (hv : RdA encR 3 w a K) (hm : MeansI w K) (hc : chkP K = 0) : ∃ L : List PtX, L.length = K.length ∧ L.length ≤ 30 ∧ RdA encP 3 w a L ∧ MeansP w L := by
  obtain ⟨L, h1, h2⟩ := hm.xs (chkP_all hc)
  have hl : L.length = K.length := by simpa using congrArg List.length h1
  exact ⟨L, hl, by have := chkP_len hc; omega, rd_mapX hv h1, h2⟩
end Go.Proofs.YtbpkfkljeibjoaaGreat
/- The document's parts, reduced; reedref.Each at the closures of parts; reedref.under. -/
namespace Rm
open Go Go.RowKit Gx
def emptyM (x : PtM) : Bool := eqP x.s (fun _ => false) || eqX x.X (fun _ => 0)
def undM (x y : PtM) : Bool := eqX (fun q => x.X q &&& y.X q) x.X && eqP (fun i => x.s i && y.s i) x.s
def stepM (K : List PtM) (x : PtM) : List PtM := if !emptyM x && !K.any (fun y => undM x y) then K.filter (fun y => !undM y x) ++ [x] else K
def fewM (L : List PtM) : List PtM := L.foldl stepM []
theorem fewM_take {L : List PtM} {i : Nat} {x : PtM} (h : L[i]? = some x) : fewM (L.take (i + 1)) = stepM (fewM (L.take i)) x := by
  unfold fewM
  rw [List.take_add_one, h, List.foldl_append]
  simp only [Option.toList_some, List.foldl_cons, List.foldl_nil]
theorem stepM_len (K : List PtM) (x : PtM) : (stepM K x).length ≤ K.length + 1 := by
  unfold stepM
  split
  · have h := List.length_filter_le (fun y => !undM y x) K
    rw [List.length_append]
    simp only [List.length_cons, List.length_nil]
    omega
  · omega
theorem fewM_len (L : List PtM) : (fewM L).length ≤ L.length := by
  have key : ∀ (L K : List PtM), (L.foldl stepM K).length ≤ K.length + L.length := by
    intro L
    induction L with
    | nil => intro K; simp
    | cons x L ih =>
      intro K
      rw [List.foldl_cons, List.length_cons]
      have := ih (stepM K x)
      have := stepM_len K x
      omega
  have := key L []
  simpa [fewM] using this
theorem fewM_ok {L : List PtM} (h : ∀ x ∈ L, OkX x.X) : ∀ x ∈ fewM L, OkX x.X := by
  have key : ∀ (L K : List PtM), (∀ x ∈ L, OkX x.X) → (∀ x ∈ K, OkX x.X) → ∀ x ∈ L.foldl stepM K, OkX x.X := by
    intro L
    induction L with
    | nil => intro K _ hK x hx; exact hK x hx
    | cons a L ih =>
      intro K hL hK
      rw [List.foldl_cons]
      refine ih _ (fun x hx => hL x (List.mem_cons_of_mem _ hx)) (fun x hx => ?_)
      unfold stepM at hx
      split at hx
      · rcases List.mem_append.1 hx with hx | hx
        · exact hK x (List.mem_filter.1 hx).1
        · rw [List.mem_singleton.1 hx]; exact hL a (List.mem_cons_self ..)
      · exact hK x hx
  exact key L [] h (fun x hx => by cases hx)
theorem few_l {x y : PtM} {K : List PtM} {k : Nat} {lf : Bool} (hy : K[k]? = some y) (h : lf = (emptyM x || (K.take k).any fun y => undM x y)) : (lf || undM x y) = (emptyM x || (K.take (k + 1)).any fun y => undM x y) := by
  rw [h, List.take_add_one, hy, List.any_append, Bool.or_assoc]
  simp
theorem filt_step {x z : PtM} {K : List PtM} {m : Nat} (hz : K[m]? = some z) : (K.take (m + 1)).filter (fun y => !undM y x) = (K.take m).filter (fun y => !undM y x) ++ (if undM z x = true then [] else [z]) := by
  rw [List.take_add_one, hz, List.filter_append]
  by_cases h : undM z x = true <;> simp [h]
theorem kcnt_iff (p : Nat → Bool) : ∀ n, kcntTo p n = 0 ↔ ∀ i, i < n → p i = false
  | 0 => by simp [kcntTo]
  | n + 1 => by
    have ih := kcnt_iff p n
    unfold kcntTo
    constructor
    · intro h i hi
      rcases Nat.lt_succ_iff_lt_or_eq.1 hi with q | rfl
      · exact ih.1 (by split at h <;> omega) i q
      · cases e : p i
        · rfl
        · rw [e] at h; simp at h
    · intro h
      rw [ih.2 fun i hi => h i (by omega), h n (by omega)]
      rfl
theorem cntD_iff (E : DS) : cntD E = 0 ↔ ∀ s c, s < 5 → c < 1024 → E s c = false := by
  have key : ∀ s, cntS E s = 0 ↔ ∀ c, c < 1024 → E s c = false := fun s => kcnt_iff (E s) 1024
  constructor
  · intro h s c hs hc
    refine (key s).1 ?_ c hc
    unfold cntD at h
    have ha : s = 0 ∨ s = 1 ∨ s = 2 ∨ s = 3 ∨ s = 4 := by omega
    rcases ha with rfl | rfl | rfl | rfl | rfl <;> omega
  · intro h
    have k := fun s hs => (key s).2 fun c hc => h s c hs hc
    unfold cntD
    have k0 := k 0 (by omega)
    have k1 := k 1 (by omega)
    have k2 := k 2 (by omega)
    have k3 := k 3 (by omega)
    have k4 := k 4 (by omega)
    omega
theorem emptyM_d (x : PtX) (hT : OkT x.T) : emptyM x.d = emptyP x := by
  have h1 : eqP x.d.s (fun _ => false) = (cntT x.T == 0) := by
    rw [Bool.eq_iff_iff, eqP_iff, beq_iff_eq]
    constructor
    · intro h
      refine cntTo_zero 16 (fun t ht => ?_)
      refine Nat.eq_of_testBit_eq fun n => ?_
      rw [Nat.zero_testBit]
      rcases Nat.lt_or_ge n 32 with q | q
      · rw [← d_s x t n q]; exact h _ (by omega)
      · exact Nat.testBit_lt_two_pow (Nat.lt_of_lt_of_le (hT t ht) (Nat.pow_le_pow_right (by omega) q))
    · intro h i hi
      have h0 := cntTo_none hT 16 (Nat.le_refl _) h (i / 32) (by omega)
      show ptF x.T i = false
      unfold ptF
      rw [h0, Nat.zero_testBit]
  have h2 : eqX x.d.X (fun _ => 0) = (cntD (memB (formV x.D) (formM x.D)) == 0) := by
    rw [Bool.eq_iff_iff, eqX_ds x.d_ok (fun _ => by decide), beq_iff_eq, cntD_iff]
    constructor
    · intro h s c hs hc
      rw [← d_X x s c hc, h s c hs hc, dsX_zero]
    · intro h s c hs hc
      rw [d_X x s c hc, dsX_zero]
      exact h s c hs hc
  unfold emptyM emptyP
  rw [h1, h2]
theorem undM_d (x y : PtX) (hx : OkT x.T) (hy : OkT y.T) : undM x.d y.d = underP x y := by
  have h1 : eqX (fun q => x.d.X q &&& y.d.X q) x.d.X = wS x.D y.D := by
    rw [Bool.eq_iff_iff, eqX_ds (fun q => Nat.and_lt_two_pow _ (y.d_ok q)) x.d_ok, wS_iff]
    constructor
    · intro h s c i hD
      have q := h s c i.1 (by have := i.2.2; omega)
      rw [dsX_andB, d_in x s c i, d_in y s c i, hD] at q
      simpa using q
    · intro h s c hs hc
      rw [dsX_andB]
      cases q : dsX x.d.X s c
      · rfl
      · have i := d_out x s c hc q
        rw [d_in x s c i] at q
        rw [d_in y s c i, h s c i q]
        rfl
  have h2 : eqP (fun i => x.d.s i && y.d.s i) x.d.s = withinT x.T y.T := by
    rw [Bool.eq_iff_iff, eqP_iff]
    constructor
    · intro h
      refine within_of hx hy fun t ht n hn hb => ?_
      have q := h (32 * t + n) (by omega)
      rw [d_s x t n hn, d_s y t n hn, hb] at q
      simpa using q
    · intro h i hi
      have e1 : x.d.s i = (x.T (i / 32)).testBit (i % 32) := rfl
      have e2 : y.d.s i = (y.T (i / 32)).testBit (i % 32) := rfl
      rw [e1, e2]
      cases q : (x.T (i / 32)).testBit (i % 32)
      · rfl
      · rw [within_bit hx hy h (by omega) (Nat.mod_lt _ (by omega)) q]; rfl
  unfold undM underP
  rw [h1, h2]
end Rm
namespace Go.Proofs.YtbpkfkljeibjoaaGreat
open Go.RowKit Rm Gx
section
variable {ev : Operand → Value} {d : Option Tmp} {ty : TypeId} {p : String} {af : Array Edge} {g : Option (Nat × Bool)} {w : World}
theorem o_eqPts {t' : TypeId} {x y : Operand} {f u : Nat → Bool} {b : Bool} (hx : ev x = .agg (pArr f)) (hy : ev y = .agg (pArr u)) (hb : eqP f u = b) : (execOp ev (Oper.mk d (.binOp .eql 42 x y t') ty p af g)).run Tryz.prog w = .ok (.value (.bool b)) w := by
  have h1 : (eqGuard .eql 42 x y (.agg (pArr f)) (.agg (pArr u))).run Tryz.prog w = .ok () w := run_eqGuard_agg w .eql _ x y _ _ (by kernel_rfl)
  have h2 : (Op.equal 42 (.agg (pArr f)) (.agg (pArr u))).run Tryz.prog w = .ok (eqP f u) w := eq_points f u w
  rw [hb] at h2
  generalize pArr f = A at hx h1 h2
  generalize pArr u = B at hy h1 h2
  unfold execOp
  simp only [hx, hy, Sem.run_bind, h1, Result.andThen_ok, binOp, h2]
  rfl
end
theorem bop_und : OpB 110 (fun a b => a && b) := by
  intro a b w
  cases a <;> cases b
  all_goals
    go_enter Tryz.func110, Tryz.ntmps110
    go_wp2
    go_ret
    exact ⟨rfl, rfl⟩
set_option maxHeartbeats 1000000 in
set_option maxRecDepth 100000 in
theorem each_und (f u : Nat → Bool) (w : World) :
    Calls Tryz.prog 46 #[.agg (pArr f), .agg (pArr u), .func (.func 110) #[] #[]] w fun e w' => ∃ p, e = .returned (.agg (pArr p)) ∧ (∀ i, i < 512 → p i = (fun a b => a && b) (f i) (u i)) ∧ Gr w w' := by
  have HS := Lib.hid pinfo
  have HPZ := Lib.hid (fun f : Nat → Bool => show (pArr fun _ => false).size = (pArr f).size by rw [pArr_size, pArr_size])
  have HP1 := Lib.hid pArr_one
  have PZ := Lib.hid (fun (ev : Operand → Value) (o : Oper) (ho : o.op = .alloc 42) (wx : World) => run_alloc_zero points_zero ev o ho wx)
  have HOP := Lib.hid bop_und
  obtain ⟨g, hge⟩ : ∃ g : Bool → Bool → Bool, g = (fun a b => a && b) := ⟨_, rfl⟩
  have HOPg : Hid (OpB 110 g) := by rw [hge]; exact HOP.out
  rw [← hge]
  clear hge HOP
  have A0 := Lib.hid (eachAt_start w f u)
  go_enter Tryz.func46, Tryz.ntmps46
  go_wp2_with (refine Go.Great.wpList_allocTo rfl _ rfl _ _ (PZ.out _ _ rfl _) ?_)
  go_loopw [8] (fun jj wi => ∃ j : Nat, j ≤ 512 ∧ jj = .int .i64 j ∧ EachAt w wi (midE g f u j) u) (fun jj _ => 512 - (intOf jj).toNat)
  case atStart => exact ⟨0, by omega, rfl, A0.out.ext (fun i _ => by simp [midE])⟩
  case round =>
    clear A0
    obtain ⟨j, hj, rfl, hat⟩ := hrel
    have HA := Lib.hid hat
    by_cases hjt : j < 512
    · have hj' : (j : Int) < 512 := by omega
      have c1 : wr.cell? ⟨w.heap.size, j, none⟩ = some (.bool (f j)) := by
        rw [cell_of_row _ _ _ _ _ _ hat.2.1, pArr_at _ j hjt]
        simp [midE]
      have c2 : wr.cell? ⟨w.heap.size + 1, j, none⟩ = some (.bool (u j)) := by
        rw [cell_of_row _ _ _ _ _ _ hat.2.2.1, pArr_at _ j hjt]
      have hfz := frozen_of_row _ _ j _ _ hat.2.1
      have E := Lib.hid (fun i (_ : i < 512) => midE_step g f u j i)
      clear hat
      go_wp2_with fail
      go_still_tail 10, (by kernel_rfl)
      still_call (HOPg.out _ _ _)
      repeat still_step
      refine wpStill_nil ?_
      change wpList _ _ _ _ _ wr.drew
      go_wp2_with fail
      go_roundw
      case rel => exact ⟨j + 1, by omega, by go_num, (HA.out.set j _).ext E.out⟩
      case measure => simp [intOf]; omega
    · obtain rfl : j = 512 := by omega
      have HE := Lib.hid (fun i (hi : i < 512) => show midE g f u 512 i = g (f i) (u i) by simp [midE, hi])
      have HB := Lib.hid hat.2.1
      have HR := Lib.hid hat.2.2.2
      have hg := hat.1
      clear hat HA
      go_wp2_with (first | (refine wpList_load_row rfl 42 _ rfl w.heap.size rfl 42 _ (0, 0) _ HB.out Tryz.underlying42 rfl (HS.out _) ?_) | (refine wpList_store_row rfl 42 _ _ rfl (w.heap.size + 1 + 1) _ rfl rfl 42 _ HR.out (HS.out _) (HPZ.out _) (HP1.out _) ?_))
      refine bodyPost_ret (v := .agg (pArr (midE g f u 512))) (results_cell_row Tryz.results46 _ _ (w.heap.size + 1 + 1) 42 _ (0, 0) _ rfl (setRow_heap _ _ _ _ _ _ HR.out) Tryz.underlying42 rfl (HS.out _)) rfl ⟨_, rfl, HE.out, ?_⟩
      exact hg.setRow (by omega) _
theorem bop_nrw : OpB 47 (fun a b => a && b) := by
  intro a b w
  cases a <;> cases b
  all_goals
    go_enter Tryz.func47, Tryz.ntmps47
    go_wp2
    go_ret
    exact ⟨rfl, rfl⟩
set_option maxHeartbeats 1000000 in
set_option maxRecDepth 100000 in
theorem each_nrw (f u : Nat → Bool) (w : World) :
    Calls Tryz.prog 46 #[.agg (pArr f), .agg (pArr u), .func (.func 47) #[] #[]] w fun e w' => ∃ p, e = .returned (.agg (pArr p)) ∧ (∀ i, i < 512 → p i = (fun a b => a && b) (f i) (u i)) ∧ Gr w w' := by
  have HS := Lib.hid pinfo
  have HPZ := Lib.hid (fun f : Nat → Bool => show (pArr fun _ => false).size = (pArr f).size by rw [pArr_size, pArr_size])
  have HP1 := Lib.hid pArr_one
  have PZ := Lib.hid (fun (ev : Operand → Value) (o : Oper) (ho : o.op = .alloc 42) (wx : World) => run_alloc_zero points_zero ev o ho wx)
  have HOP := Lib.hid bop_nrw
  obtain ⟨g, hge⟩ : ∃ g : Bool → Bool → Bool, g = (fun a b => a && b) := ⟨_, rfl⟩
  have HOPg : Hid (OpB 47 g) := by rw [hge]; exact HOP.out
  rw [← hge]
  clear hge HOP
  have A0 := Lib.hid (eachAt_start w f u)
  go_enter Tryz.func46, Tryz.ntmps46
  go_wp2_with (refine Go.Great.wpList_allocTo rfl _ rfl _ _ (PZ.out _ _ rfl _) ?_)
  go_loopw [8] (fun jj wi => ∃ j : Nat, j ≤ 512 ∧ jj = .int .i64 j ∧ EachAt w wi (midE g f u j) u) (fun jj _ => 512 - (intOf jj).toNat)
  case atStart => exact ⟨0, by omega, rfl, A0.out.ext (fun i _ => by simp [midE])⟩
  case round =>
    clear A0
    obtain ⟨j, hj, rfl, hat⟩ := hrel
    have HA := Lib.hid hat
    by_cases hjt : j < 512
    · have hj' : (j : Int) < 512 := by omega
      have c1 : wr.cell? ⟨w.heap.size, j, none⟩ = some (.bool (f j)) := by
        rw [cell_of_row _ _ _ _ _ _ hat.2.1, pArr_at _ j hjt]
        simp [midE]
      have c2 : wr.cell? ⟨w.heap.size + 1, j, none⟩ = some (.bool (u j)) := by
        rw [cell_of_row _ _ _ _ _ _ hat.2.2.1, pArr_at _ j hjt]
      have hfz := frozen_of_row _ _ j _ _ hat.2.1
      have E := Lib.hid (fun i (_ : i < 512) => midE_step g f u j i)
      clear hat
      go_wp2_with fail
      go_still_tail 10, (by kernel_rfl)
      still_call (HOPg.out _ _ _)
      repeat still_step
      refine wpStill_nil ?_
      change wpList _ _ _ _ _ wr.drew
      go_wp2_with fail
      go_roundw
      case rel => exact ⟨j + 1, by omega, by go_num, (HA.out.set j _).ext E.out⟩
      case measure => simp [intOf]; omega
    · obtain rfl : j = 512 := by omega
      have HE := Lib.hid (fun i (hi : i < 512) => show midE g f u 512 i = g (f i) (u i) by simp [midE, hi])
      have HB := Lib.hid hat.2.1
      have HR := Lib.hid hat.2.2.2
      have hg := hat.1
      clear hat HA
      go_wp2_with (first | (refine wpList_load_row rfl 42 _ rfl w.heap.size rfl 42 _ (0, 0) _ HB.out Tryz.underlying42 rfl (HS.out _) ?_) | (refine wpList_store_row rfl 42 _ _ rfl (w.heap.size + 1 + 1) _ rfl rfl 42 _ HR.out (HS.out _) (HPZ.out _) (HP1.out _) ?_))
      refine bodyPost_ret (v := .agg (pArr (midE g f u 512))) (results_cell_row Tryz.results46 _ _ (w.heap.size + 1 + 1) 42 _ (0, 0) _ rfl (setRow_heap _ _ _ _ _ _ HR.out) Tryz.underlying42 rfl (HS.out _)) rfl ⟨_, rfl, HE.out, ?_⟩
      exact hg.setRow (by omega) _
theorem each_und' (f u : Nat → Bool) (w : World) :
    Calls Tryz.prog 46 #[.agg (pArr f), .agg (pArr u), .func (.func 110) #[] #[]] w fun e w' => e = .returned (.agg (pArr fun i => f i && u i)) ∧ Gr w w' :=
  (each_und f u w).mono fun e w' ⟨p, he, hp, g⟩ => ⟨by rw [he, pArr_ext hp], g⟩
theorem each_nrw' (f u : Nat → Bool) (w : World) :
    Calls Tryz.prog 46 #[.agg (pArr f), .agg (pArr u), .func (.func 47) #[] #[]] w fun e w' => e = .returned (.agg (pArr fun i => f i && u i)) ∧ Gr w w' :=
  (each_nrw f u w).mono fun e w' ⟨p, he, hp, g⟩ => ⟨by rw [he, pArr_ext hp], g⟩
set_option maxHeartbeats 8000000 in
set_option maxRecDepth 100000 in
theorem runder_any (x y : PtM) (hx : OkX x.X) (hy : OkX y.X) (w : World) :
  Calls Tryz.prog 51 #[.agg ((encDoc x).toArray), .agg ((encDoc y).toArray)] w fun e w' => e = .returned (.bool (undM x y)) ∧ Gr w w' := by
 refine enter (N := 23) Tryz.func51 rfl rfl rfl (fun a0 ok0 h0 => ?_)
 have e0_0 : a0.eval (.tmp 0) = .agg ((encDoc x).toArray) := h0 0 _ rfl
 have e0_1 : a0.eval (.tmp 1) = .agg ((encDoc y).toArray) := h0 1 _ rfl
 clear h0
 have G0 := Gr.refl w
 refine wp_seq_k (fun K1 hK1 => ?_)
 refine wp_region_lit ?_
 refine sal (cs := (encDoc x).toArray) ok0 rfl (wn _ rfl) rfl (o_box e0_0) (fun an2 w4 b3 W5 n2 => ?_)
 have G7 := G0.trans W5.gr
 refine sal (cs := (encDoc y).toArray) n2.ok rfl (wn _ rfl) rfl (o_box (n2.ne rfl e0_1)) (fun an8 w10 b9 W11 n8 => ?_)
 have G14 := G7.trans W11.gr
 have B15 := W5.bk.gr W11.gr
 refine sv n8.ok rfl (wn _ rfl) rfl (o_as ev_const) (fun an16 n16 => ?_)
 refine wpList_nil ?_
 refine th_n (hK1 _ _ ?_)
 refine wp_seq_k (fun K17 hK17 => ?_)
 cases hu1 : eqX (fun q => x.X q &&& y.X q) x.X
 ·have hu2 := hu1
  refine reg_start (N := 23) (m := 19) (by kernel_rfl) (fun R180 => ?_)
  have R181 := R180.snoc (n' := 1) rfl (fun vJ _ => vJ = .pointer (some ⟨b3, 512, none⟩)) rfl (fun _ _ _ _ h => h) (fun aS wS pS => by
    exact Does.val (wn _ rfl) (o_fa (z := 80) ((pS.old 2 rfl).trans (n16.ne rfl (n8.ne rfl n2.at_))) Tryz.underlying51 rfl (by kernel_rfl) rfl rfl) (Gr.refl _) rfl rfl)
  have R182 := R181.snoc (n' := 2) rfl (fun vJ _ => vJ = .agg (wArr x.X)) rfl (fun _ _ _ _ h => h) (fun aS wS pS => by
    have eR18_0 : aS.eval (.tmp 5) = .pointer (some ⟨b3, 512, none⟩) := pS.pre 0 rfl
    exact Does.val (wn _ rfl) (o_ldM1 (y := x) (eR18_0) (Bk.gr B15 (gr_drew pS.gr))) (Gr.refl _) rfl rfl)
  have R183 := R182.snoc (n' := 3) rfl (fun vJ _ => vJ = .pointer (some ⟨b9, 512, none⟩)) rfl (fun _ _ _ _ h => h) (fun aS wS pS => by
    exact Does.val (wn _ rfl) (o_fa (z := 80) ((pS.old 3 rfl).trans (n16.ne rfl n8.at_)) Tryz.underlying51 rfl (by kernel_rfl) rfl rfl) (Gr.refl _) rfl rfl)
  have R184 := R183.snoc (n' := 4) rfl (fun vJ _ => vJ = .agg (wArr y.X)) rfl (fun _ _ _ _ h => h) (fun aS wS pS => by
    have eR18_2 : aS.eval (.tmp 7) = .pointer (some ⟨b9, 512, none⟩) := pS.pre 2 rfl
    exact Does.val (wn _ rfl) (o_ldM1 (y := y) (eR18_2) (Bk.gr W11.bk (gr_drew pS.gr))) (Gr.refl _) rfl rfl)
  have R185 := R184.snoc (n' := 5) rfl (fun vJ _ => vJ = .agg (wArr (fun q => x.X q &&& y.X q))) rfl (fun _ _ _ _ h => h) (fun aS wS pS => by
    have eR18_1 : aS.eval (.tmp 6) = .agg (wArr x.X) := pS.pre 1 rfl
    have eR18_3 : aS.eval (.tmp 8) = .agg (wArr y.X) := pS.pre 3 rfl
    exact Does.call (wn _ rfl) (o_f2 Tryz.func109 rfl rfl rfl (eR18_1) (eR18_3)) (dmeet_any x.X y.X hx hy wS) (by rintro _ w2 ⟨rfl, g⟩; exact ⟨_, rfl, g, rfl⟩) rfl)
  have R186 := R185.snoc (n' := 6) rfl (fun vJ _ => vJ = .pointer (some ⟨b3, 512, none⟩)) rfl (fun _ _ _ _ h => h) (fun aS wS pS => by
    exact Does.val (wn _ rfl) (o_fa (z := 80) ((pS.old 2 rfl).trans (n16.ne rfl (n8.ne rfl n2.at_))) Tryz.underlying51 rfl (by kernel_rfl) rfl rfl) (Gr.refl _) rfl rfl)
  have R187 := R186.snoc (n' := 7) rfl (fun vJ _ => vJ = .agg (wArr x.X)) rfl (fun _ _ _ _ h => h) (fun aS wS pS => by
    have eR18_5 : aS.eval (.tmp 10) = .pointer (some ⟨b3, 512, none⟩) := pS.pre 5 rfl
    exact Does.val (wn _ rfl) (o_ldM1 (y := x) (eR18_5) (Bk.gr B15 (gr_drew pS.gr))) (Gr.refl _) rfl rfl)
  have R188 := R187.snoc (n' := 8) rfl (fun vJ _ => vJ = .bool false) rfl (fun _ _ _ _ h => h) (fun aS wS pS => by
    have eR18_4 : aS.eval (.tmp 9) = .agg (wArr (fun q => x.X q &&& y.X q)) := pS.pre 4 rfl
    have eR18_6 : aS.eval (.tmp 11) = .agg (wArr x.X) := pS.pre 6 rfl
    exact Does.val (wn _ rfl) (o_eqDots (eR18_4) (eR18_6) hu1) (Gr.refl _) rfl rfl)
  have R189 := R188.snoc (n' := 9) rfl (fun vJ _ => vJ = .bool false) rfl (fun _ _ _ _ h => h) (fun aS wS pS => by
    have eR18_7 : aS.eval (.tmp 12) = .bool false := pS.pre 7 rfl
    exact Does.val (wn _ rfl) (o_mv (eR18_7)) (Gr.refl _) rfl rfl)
  have R1810 := R189.snoc (n' := 10) rfl (fun vJ _ => vJ = undef) rfl (fun _ _ _ _ h => h) (fun aS wS pS => by
    have eR18_8 : aS.eval (.tmp 13) = .bool false := pS.pre 8 rfl
    exact Does.not (wgF rfl (yl 8 false rfl eR18_8) rfl) rfl rfl)
  have R1811 := R1810.snoc (n' := 11) rfl (fun vJ _ => vJ = undef) rfl (fun _ _ _ _ h => h) (fun aS wS pS => by
    have eR18_8 : aS.eval (.tmp 13) = .bool false := pS.pre 8 rfl
    exact Does.not (wgF rfl (yl 8 false rfl eR18_8) rfl) rfl rfl)
  have R1812 := R1811.snoc (n' := 12) rfl (fun vJ _ => vJ = undef) rfl (fun _ _ _ _ h => h) (fun aS wS pS => by
    have eR18_8 : aS.eval (.tmp 13) = .bool false := pS.pre 8 rfl
    exact Does.not (wgF rfl (yl 8 false rfl eR18_8) rfl) rfl rfl)
  have R1813 := R1812.snoc (n' := 13) rfl (fun vJ _ => vJ = undef) rfl (fun _ _ _ _ h => h) (fun aS wS pS => by
    have eR18_8 : aS.eval (.tmp 13) = .bool false := pS.pre 8 rfl
    exact Does.not (wgF rfl (yl 8 false rfl eR18_8) rfl) rfl rfl)
  have R1814 := R1813.snoc (n' := 14) rfl (fun vJ _ => vJ = undef) rfl (fun _ _ _ _ h => h) (fun aS wS pS => by
    have eR18_8 : aS.eval (.tmp 13) = .bool false := pS.pre 8 rfl
    exact Does.not (wgF rfl (yl 8 false rfl eR18_8) rfl) rfl rfl)
  have R1815 := R1814.snoc (n' := 15) rfl (fun vJ _ => vJ = undef) rfl (fun _ _ _ _ h => h) (fun aS wS pS => by
    have eR18_8 : aS.eval (.tmp 13) = .bool false := pS.pre 8 rfl
    exact Does.not (wgF rfl (yl 8 false rfl eR18_8) rfl) rfl rfl)
  have R1816 := R1815.snoc (n' := 16) rfl (fun vJ _ => vJ = undef) rfl (fun _ _ _ _ h => h) (fun aS wS pS => by
    have eR18_8 : aS.eval (.tmp 13) = .bool false := pS.pre 8 rfl
    exact Does.not (wgF rfl (yl 8 false rfl eR18_8) rfl) rfl rfl)
  have R1817 := R1816.snoc (n' := 17) rfl (fun vJ _ => vJ = undef) rfl (fun _ _ _ _ h => h) (fun aS wS pS => by
    have eR18_8 : aS.eval (.tmp 13) = .bool false := pS.pre 8 rfl
    exact Does.not (wgF rfl (yl 8 false rfl eR18_8) rfl) rfl rfl)
  have R1818 := R1817.snoc (n' := 18) rfl (fun vJ _ => vJ = .bool false) rfl (fun _ _ _ _ h => h) (fun aS wS pS => by
    have eR18_8 : aS.eval (.tmp 13) = .bool false := pS.pre 8 rfl
    exact Does.val (wn _ rfl) (o_pkF (eR18_8) ev_const) (Gr.refl _) rfl rfl)
  have R1819 := R1818.snoc (n' := 19) rfl (fun vJ _ => vJ = .bool false) rfl (fun _ _ _ _ h => h) (fun aS wS pS => by
    have eR18_17 : aS.eval (.tmp 22) = .bool false := pS.pre 17 rfl
    exact Does.val (wn _ rfl) (o_as (eR18_17)) (Gr.refl _) rfl rfl)
  refine R1819.run (k := 0) (L := #[true, true, true, true, true, true, true, true, true, true, true, true, true, true, true, true, true, true, true]) (by kernel_rfl) (by kernel_rfl) (by kernel_rfl) n16.ok (by kernel_rfl) (by kernel_rfl) (fun ap20 w21 p20 => ?_)
  have g22 := gr_drew p20.gr
  have G23 := G14.trans g22
  refine wpAny_done (by kernel_rfl) ?_ _
  refine th_n (hK17 _ _ ?_)
  refine wp_ret ?_
  have ep20_18 : ap20.eval (.tmp 4) = .bool false := p20.js 18 rfl
  exact ret1 p20.ok rfl (ep20_18) ⟨by unfold undM; rw [hu1]; rfl, G23⟩
 ·have hu2 := hu1
  refine reg_start (N := 23) (m := 19) (by kernel_rfl) (fun R260 => ?_)
  have R261 := R260.snoc (n' := 1) rfl (fun vJ _ => vJ = .pointer (some ⟨b3, 512, none⟩)) rfl (fun _ _ _ _ h => h) (fun aS wS pS => by
    exact Does.val (wn _ rfl) (o_fa (z := 80) ((pS.old 2 rfl).trans (n16.ne rfl (n8.ne rfl n2.at_))) Tryz.underlying51 rfl (by kernel_rfl) rfl rfl) (Gr.refl _) rfl rfl)
  have R262 := R261.snoc (n' := 2) rfl (fun vJ _ => vJ = .agg (wArr x.X)) rfl (fun _ _ _ _ h => h) (fun aS wS pS => by
    have eR26_0 : aS.eval (.tmp 5) = .pointer (some ⟨b3, 512, none⟩) := pS.pre 0 rfl
    exact Does.val (wn _ rfl) (o_ldM1 (y := x) (eR26_0) (Bk.gr B15 (gr_drew pS.gr))) (Gr.refl _) rfl rfl)
  have R263 := R262.snoc (n' := 3) rfl (fun vJ _ => vJ = .pointer (some ⟨b9, 512, none⟩)) rfl (fun _ _ _ _ h => h) (fun aS wS pS => by
    exact Does.val (wn _ rfl) (o_fa (z := 80) ((pS.old 3 rfl).trans (n16.ne rfl n8.at_)) Tryz.underlying51 rfl (by kernel_rfl) rfl rfl) (Gr.refl _) rfl rfl)
  have R264 := R263.snoc (n' := 4) rfl (fun vJ _ => vJ = .agg (wArr y.X)) rfl (fun _ _ _ _ h => h) (fun aS wS pS => by
    have eR26_2 : aS.eval (.tmp 7) = .pointer (some ⟨b9, 512, none⟩) := pS.pre 2 rfl
    exact Does.val (wn _ rfl) (o_ldM1 (y := y) (eR26_2) (Bk.gr W11.bk (gr_drew pS.gr))) (Gr.refl _) rfl rfl)
  have R265 := R264.snoc (n' := 5) rfl (fun vJ _ => vJ = .agg (wArr (fun q => x.X q &&& y.X q))) rfl (fun _ _ _ _ h => h) (fun aS wS pS => by
    have eR26_1 : aS.eval (.tmp 6) = .agg (wArr x.X) := pS.pre 1 rfl
    have eR26_3 : aS.eval (.tmp 8) = .agg (wArr y.X) := pS.pre 3 rfl
    exact Does.call (wn _ rfl) (o_f2 Tryz.func109 rfl rfl rfl (eR26_1) (eR26_3)) (dmeet_any x.X y.X hx hy wS) (by rintro _ w2 ⟨rfl, g⟩; exact ⟨_, rfl, g, rfl⟩) rfl)
  have R266 := R265.snoc (n' := 6) rfl (fun vJ _ => vJ = .pointer (some ⟨b3, 512, none⟩)) rfl (fun _ _ _ _ h => h) (fun aS wS pS => by
    exact Does.val (wn _ rfl) (o_fa (z := 80) ((pS.old 2 rfl).trans (n16.ne rfl (n8.ne rfl n2.at_))) Tryz.underlying51 rfl (by kernel_rfl) rfl rfl) (Gr.refl _) rfl rfl)
  have R267 := R266.snoc (n' := 7) rfl (fun vJ _ => vJ = .agg (wArr x.X)) rfl (fun _ _ _ _ h => h) (fun aS wS pS => by
    have eR26_5 : aS.eval (.tmp 10) = .pointer (some ⟨b3, 512, none⟩) := pS.pre 5 rfl
    exact Does.val (wn _ rfl) (o_ldM1 (y := x) (eR26_5) (Bk.gr B15 (gr_drew pS.gr))) (Gr.refl _) rfl rfl)
  have R268 := R267.snoc (n' := 8) rfl (fun vJ _ => vJ = .bool true) rfl (fun _ _ _ _ h => h) (fun aS wS pS => by
    have eR26_4 : aS.eval (.tmp 9) = .agg (wArr (fun q => x.X q &&& y.X q)) := pS.pre 4 rfl
    have eR26_6 : aS.eval (.tmp 11) = .agg (wArr x.X) := pS.pre 6 rfl
    exact Does.val (wn _ rfl) (o_eqDots (eR26_4) (eR26_6) hu1) (Gr.refl _) rfl rfl)
  have R269 := R268.snoc (n' := 9) rfl (fun vJ _ => vJ = .bool true) rfl (fun _ _ _ _ h => h) (fun aS wS pS => by
    have eR26_7 : aS.eval (.tmp 12) = .bool true := pS.pre 7 rfl
    exact Does.val (wn _ rfl) (o_mv (eR26_7)) (Gr.refl _) rfl rfl)
  have R2610 := R269.snoc (n' := 10) rfl (fun vJ _ => vJ = .pointer (some ⟨b3, 0, none⟩)) rfl (fun _ _ _ _ h => h) (fun aS wS pS => by
    have eR26_8 : aS.eval (.tmp 13) = .bool true := pS.pre 8 rfl
    exact Does.val (wgT rfl (yl 8 true rfl eR26_8) rfl) (o_fa (z := 512) ((pS.old 2 rfl).trans (n16.ne rfl (n8.ne rfl n2.at_))) Tryz.underlying51 rfl (by kernel_rfl) rfl rfl) (Gr.refl _) rfl rfl)
  have R2611 := R2610.snoc (n' := 11) rfl (fun vJ _ => vJ = .agg (pArr x.s)) rfl (fun _ _ _ _ h => h) (fun aS wS pS => by
    have eR26_8 : aS.eval (.tmp 13) = .bool true := pS.pre 8 rfl
    have eR26_9 : aS.eval (.tmp 14) = .pointer (some ⟨b3, 0, none⟩) := pS.pre 9 rfl
    exact Does.val (wgT rfl (yl 8 true rfl eR26_8) rfl) (o_ldM0 (y := x) (eR26_9) (Bk.gr B15 (gr_drew pS.gr))) (Gr.refl _) rfl rfl)
  have R2612 := R2611.snoc (n' := 12) rfl (fun vJ _ => vJ = .pointer (some ⟨b9, 0, none⟩)) rfl (fun _ _ _ _ h => h) (fun aS wS pS => by
    have eR26_8 : aS.eval (.tmp 13) = .bool true := pS.pre 8 rfl
    exact Does.val (wgT rfl (yl 8 true rfl eR26_8) rfl) (o_fa (z := 512) ((pS.old 3 rfl).trans (n16.ne rfl n8.at_)) Tryz.underlying51 rfl (by kernel_rfl) rfl rfl) (Gr.refl _) rfl rfl)
  have R2613 := R2612.snoc (n' := 13) rfl (fun vJ _ => vJ = .agg (pArr y.s)) rfl (fun _ _ _ _ h => h) (fun aS wS pS => by
    have eR26_8 : aS.eval (.tmp 13) = .bool true := pS.pre 8 rfl
    have eR26_11 : aS.eval (.tmp 16) = .pointer (some ⟨b9, 0, none⟩) := pS.pre 11 rfl
    exact Does.val (wgT rfl (yl 8 true rfl eR26_8) rfl) (o_ldM0 (y := y) (eR26_11) (Bk.gr W11.bk (gr_drew pS.gr))) (Gr.refl _) rfl rfl)
  have R2614 := R2613.snoc (n' := 14) rfl (fun vJ _ => vJ = .agg (pArr (fun i => x.s i && y.s i))) rfl (fun _ _ _ _ h => h) (fun aS wS pS => by
    have eR26_8 : aS.eval (.tmp 13) = .bool true := pS.pre 8 rfl
    have eR26_10 : aS.eval (.tmp 15) = .agg (pArr x.s) := pS.pre 10 rfl
    have eR26_12 : aS.eval (.tmp 17) = .agg (pArr y.s) := pS.pre 12 rfl
    exact Does.call (wgT rfl (yl 8 true rfl eR26_8) rfl) (o_f3 Tryz.func46 rfl rfl rfl (eR26_10) (eR26_12) ev_func) (each_und' x.s y.s wS) (by rintro _ w2 ⟨rfl, g⟩; exact ⟨_, rfl, g, rfl⟩) rfl)
  have R2615 := R2614.snoc (n' := 15) rfl (fun vJ _ => vJ = .pointer (some ⟨b3, 0, none⟩)) rfl (fun _ _ _ _ h => h) (fun aS wS pS => by
    have eR26_8 : aS.eval (.tmp 13) = .bool true := pS.pre 8 rfl
    exact Does.val (wgT rfl (yl 8 true rfl eR26_8) rfl) (o_fa (z := 512) ((pS.old 2 rfl).trans (n16.ne rfl (n8.ne rfl n2.at_))) Tryz.underlying51 rfl (by kernel_rfl) rfl rfl) (Gr.refl _) rfl rfl)
  have R2616 := R2615.snoc (n' := 16) rfl (fun vJ _ => vJ = .agg (pArr x.s)) rfl (fun _ _ _ _ h => h) (fun aS wS pS => by
    have eR26_8 : aS.eval (.tmp 13) = .bool true := pS.pre 8 rfl
    have eR26_14 : aS.eval (.tmp 19) = .pointer (some ⟨b3, 0, none⟩) := pS.pre 14 rfl
    exact Does.val (wgT rfl (yl 8 true rfl eR26_8) rfl) (o_ldM0 (y := x) (eR26_14) (Bk.gr B15 (gr_drew pS.gr))) (Gr.refl _) rfl rfl)
  have R2617 := R2616.snoc (n' := 17) rfl (fun vJ _ => vJ = .bool (eqP (fun i => x.s i && y.s i) x.s)) rfl (fun _ _ _ _ h => h) (fun aS wS pS => by
    have eR26_8 : aS.eval (.tmp 13) = .bool true := pS.pre 8 rfl
    have eR26_13 : aS.eval (.tmp 18) = .agg (pArr (fun i => x.s i && y.s i)) := pS.pre 13 rfl
    have eR26_15 : aS.eval (.tmp 20) = .agg (pArr x.s) := pS.pre 15 rfl
    exact Does.val (wgT rfl (yl 8 true rfl eR26_8) rfl) (o_eqPts (eR26_13) (eR26_15) rfl) (Gr.refl _) rfl rfl)
  have R2618 := R2617.snoc (n' := 18) rfl (fun vJ _ => vJ = .bool (eqP (fun i => x.s i && y.s i) x.s)) rfl (fun _ _ _ _ h => h) (fun aS wS pS => by
    have eR26_8 : aS.eval (.tmp 13) = .bool true := pS.pre 8 rfl
    have eR26_16 : aS.eval (.tmp 21) = .bool (eqP (fun i => x.s i && y.s i) x.s) := pS.pre 16 rfl
    exact Does.val (wn _ rfl) (o_pkT (eR26_8) (eR26_16)) (Gr.refl _) rfl rfl)
  have R2619 := R2618.snoc (n' := 19) rfl (fun vJ _ => vJ = .bool (eqP (fun i => x.s i && y.s i) x.s)) rfl (fun _ _ _ _ h => h) (fun aS wS pS => by
    have eR26_17 : aS.eval (.tmp 22) = .bool (eqP (fun i => x.s i && y.s i) x.s) := pS.pre 17 rfl
    exact Does.val (wn _ rfl) (o_as (eR26_17)) (Gr.refl _) rfl rfl)
  refine R2619.run (k := 0) (L := #[true, true, true, true, true, true, true, true, true, true, true, true, true, true, true, true, true, true, true]) (by kernel_rfl) (by kernel_rfl) (by kernel_rfl) n16.ok (by kernel_rfl) (by kernel_rfl) (fun ap28 w29 p28 => ?_)
  have g30 := gr_drew p28.gr
  have G31 := G14.trans g30
  refine wpAny_done (by kernel_rfl) ?_ _
  refine th_n (hK17 _ _ ?_)
  refine wp_ret ?_
  have ep28_18 : ap28.eval (.tmp 4) = .bool (eqP (fun i => x.s i && y.s i) x.s) := p28.js 18 rfl
  exact ret1 p28.ok rfl (ep28_18) ⟨by unfold undM; rw [hu1]; rfl, G31⟩
end Go.Proofs.YtbpkfkljeibjoaaGreat
/- reedref.Few, Narrowed. -/
namespace Go.Proofs.YtbpkfkljeibjoaaGreat
open Go.RowKit Rm Gx
theorem bk_grownQ {w w' : World} {b base s n : Nat} {cs : Array Value} {t t' : TypeId} {v : Value} {xs : List Value} (h : Bk w b cs t) (ho : w.ownsRow base t' s v n xs) (g : w.grownBy w' v.ownBlock) (ht : Nat.beq t' t = false) : Bk w' b cs t := (g.block b h.lt (fun e => by
  obtain ⟨-, ⟨rfl, -⟩ | ⟨k, cap, cur, rfl, -, hg, -⟩⟩ := ho
  · cases e
  · obtain rfl : b = k := by simpa [Value.ownBlock] using e
    unfold Bk at h
    rw [hg] at h
    injection h with h
    injection h with _ h2
    exact Nat.ne_of_beq_eq_false ht h2)).trans h
def narM (U : Nat → Bool) (x : PtM) : PtM := ⟨fun i => x.s i && U i, x.X⟩
theorem take_n {L : List PtM} {U : Nat → Bool} {i : Nat} {x : PtM} (h : L[i]? = some x) : (L.take i).map (narM U) ++ [narM U x] = (L.take (i + 1)).map (narM U) := by
  rw [List.take_add_one, h, List.map_append]
  rfl
set_option maxHeartbeats 8000000 in
set_option maxRecDepth 100000 in
theorem rfew_any (L : List PtM) (va : Option Addr) (vc : Nat) (hl : L.length ≤ 1000) (hX : ∀ x ∈ L, OkX x.X) (w : World) (hv : RdA encDoc 592 w va L) :
  Calls Tryz.prog 15 #[.slice va L.length vc] w fun e w' => ∃ (a : Option Addr) (c : Nat), e = .returned (.slice a (fewM L).length c) ∧ w'.ownsRow w.heap.size 51 592 (.slice a (fewM L).length c) (fewM L).length (flatE encDoc (fewM L)) ∧ Gr w w' := by
 refine enter (N := 63) Tryz.func15 rfl rfl rfl (fun a0 ok0 h0 => ?_)
 have e0_0 : a0.eval (.tmp 0) = .slice va L.length vc := h0 0 _ rfl
 clear h0
 have G0 := Gr.refl w
 obtain ⟨base, z1⟩ : ∃ n, n = w.heap.size := ⟨_, rfl⟩
 have z3 : base ≤ w.heap.size := Nat.le_of_eq z1
 have O4 := World.ownsRow_nil w base 51 592
 refine wp_seq_k (fun K5 hK5 => ?_)
 refine wp_region_lit ?_
 refine sv ok0 rfl (wn _ rfl) rfl (o_as ev_const) (fun an6 n6 => ?_)
 refine wpList_nil ?_
 refine th_n (hK5 _ _ ?_)
 refine wp_seq_k (fun K7 hK7 => ?_)
 refine wp_region_lit ?_
 refine sv n6.ok rfl (wn _ rfl) rfl (o_as ev_const) (fun an8 n8 => ?_)
 refine wpList_nil ?_
 refine th_n (hK7 _ _ ?_)
 refine wp_seq_k (fun K9 hK9 => ?_)
 refine wp_seq_k (fun K10 hK10 => ?_)
 refine wp_region_lit ?_
 refine sv n8.ok rfl (wn _ rfl) rfl (o_mv (n8.ne rfl (n6.ne rfl e0_0))) (fun an11 n11 => ?_)
 refine sv n11.ok rfl (wn _ rfl) rfl (o_len n11.at_ Tryz.underlying38) (fun an12 n12 => ?_)
 refine sv n12.ok rfl (wn _ rfl) rfl (o_mv ev_const) (fun an13 n13 => ?_)
 refine wpList_nil ?_
 refine th_n (hK10 _ _ ?_)
 refine wp_block ?_
 have e15 := n13.ne rfl (n12.ne rfl (n11.ne rfl (n8.ne rfl n6.at_)))
 have e16 := n13.ne rfl (n12.ne rfl (n11.ne rfl n8.at_))
 refine lp (fun (nL : Nat) (aL : Act) (wL : World) => ∃ i : Nat, ∃ K : List PtM, ∃ oa : Option Addr, ∃ oc : Nat, nL = L.length - i ∧ Ok 63 aL ∧ Gr w wL ∧ (aL.eval (.tmp 2) = .slice none 0 0) ∧ (aL.eval (.tmp 3) = .slice oa (K.length) oc) ∧ (aL.eval (.tmp 12) = .slice va L.length vc) ∧ (aL.eval (.tmp 13) = .int .i64 ((L.length : Nat) : Int)) ∧ (aL.eval (.tmp 14) = .int .i64 (i : Int)) ∧ (World.ownsRow wL base 51 592 (.slice oa (K.length) oc) (K.length) ((flatE encDoc K))) ∧ (base ≤ wL.heap.size) ∧ (i ≤ L.length) ∧ (K = fewM (L.take i))) _ ⟨0, [], none, 0, rfl, n13.ok, G0, e15, e16, (n13.ne rfl (n12.ne rfl n11.at_)), (n13.ne rfl n12.at_), n13.at_, O4, z3, by omega, rfl⟩ ?_
 rintro m17 aI14 w19 ⟨i, K, oa, oc, hmI14, okI14, GI14, s2I14, s3I14, s12I14, s13I14, s14I14, orI14, zbaseI14, hiI14, hfkI14⟩ KI14 hKI14
 have hKlI14 : K.length ≤ i := by rw [hfkI14]; exact Nat.le_trans (fewM_len _) (by rw [List.length_take]; omega)
 refine wp_seq_k (fun K20 hK20 => ?_)
 refine wp_region_lit ?_
 refine sv okI14 rfl (wn _ rfl) rfl (o_ltI s14I14 s13I14) (fun an21 n21 => ?_)
 refine wpList_nil ?_
 refine th_n (hK20 _ _ ?_)
 refine wp_seq_k (fun K22 hK22 => ?_)
 by_cases c23 : (i : Int) < ((L.length : Nat) : Int)
 ·refine wp_cond_true ((n21.at_).trans (congrArg Value.bool (decide_eq_true c23))) ?_
  refine wp_skip ?_
  refine th_n (hK22 _ _ ?_)
  refine wp_seq_k (fun K24 hK24 => ?_)
  refine wp_block ?_
  refine wp_seq_k (fun K25 hK25 => ?_)
  refine wp_region_lit ?_
  have h26l : i < List.length L := by omega
  obtain ⟨bh26, fh26, h26a, h26b, h26c⟩ := hv (ne_nil_of_lt h26l)
  obtain ⟨xh26, h26x⟩ : ∃ x, (L)[i]? = some x := ⟨_, List.getElem?_eq_getElem h26l⟩
  refine sv n21.ok rfl (wn _ rfl) rfl (o_iaV (i := i) (s := 592) h26a (n21.ne rfl s12I14) (n21.ne rfl s14I14) Tryz.underlying38 (by kernel_rfl) h26l) (fun an27 n27 => ?_)
  refine sv n27.ok rfl (wn _ rfl) rfl (o_ldA (k := fh26 + i * 592) n27.at_ (cs := encDoc xh26) (fun j v hv => (Below.cell GI14 h26b).trans (h26c _ _ h26x j v hv)) Tryz.underlying51 rfl (by kernel_rfl)) (fun an28 n28 => ?_)
  refine sal (cs := (encDoc m0).toArray) n28.ok rfl (wn _ rfl) rfl (o_al (z := .agg ((encDoc m0).toArray)) partM_zero) (fun an29 w31 b30 W32 n29 => ?_)
  have l33 : w.heap.size ≤ b30 := by rw [W32.eq]; exact GI14.size
  have l34 : ∀ k, Value.ownBlock (.slice oa (K.length) oc) = some k → k < b30 := fun k e => by rw [W32.eq]; exact ow_in orI14 k e
  have G35 := GI14.trans W32.gr
  have z36 := Nat.le_trans zbaseI14 W32.gr.size
  have O37 := ow_gr orI14 W32.gr
  refine ssR rfl (wn _ rfl) (o_stR n29.at_ (n29.ne rfl n28.at_) W32.bk (encDoc_info xh26) (by rw [encDoc_sz, encDoc_sz]) (encDoc_one xh26)) W32.bk (fun w38 u39 u39b => ?_)
  have G40 : Gr w w38 := Below.upd G35 l33 u39
  have z41 : base ≤ w38.heap.size := by rw [u39.size]; exact z36
  have O42 := ow_upd_ne O37 u39 l34
  refine wpList_nil ?_
  refine th_n (hK25 _ _ ?_)
  refine wp_seq_k (fun K43 hK43 => ?_)
  refine wp_region_lit ?_
  refine sv n29.ok rfl (wn _ rfl) rfl (o_fa (z := 512) n29.at_ Tryz.underlying51 rfl (by kernel_rfl) rfl rfl) (fun an44 n44 => ?_)
  refine sv n44.ok rfl (wn _ rfl) rfl (o_ldM0 (y := xh26) n44.at_ u39b) (fun an45 n45 => ?_)
  refine sv n45.ok rfl (wn _ rfl) rfl (o_b0A Tryz.underlying42 points_zero (by kernel_rfl)) (fun an46 n46 => ?_)
  refine sv n46.ok rfl (wn _ rfl) rfl (o_eqPts (n46.ne rfl n45.at_) n46.at_ rfl) (fun an47 n47 => ?_)
  refine sv n47.ok rfl (wn _ rfl) rfl (o_mv n47.at_) (fun an48 n48 => ?_)
  cases c49 : (eqP xh26.s (fun _ => false))
  ·have e50 := (n48.at_).trans (congrArg Value.bool (c49))
   have e52 := n48.ne rfl (n47.ne rfl (n46.ne rfl (n45.ne rfl (n44.ne rfl n29.at_))))
   refine sv n48.ok rfl (wgT rfl (yl 4 false rfl e50) rfl) rfl (o_fa (z := 80) e52 Tryz.underlying51 rfl (by kernel_rfl) rfl rfl) (fun an53 n53 => ?_)
   refine sv n53.ok rfl (wgT rfl (yl 4 false rfl (n53.ne rfl e50)) rfl) rfl (o_ldM1 (y := xh26) n53.at_ u39b) (fun an54 n54 => ?_)
   refine sv n54.ok rfl (wgT rfl (yl 4 false rfl (n54.ne rfl (n53.ne rfl e50))) rfl) rfl (o_b0A Tryz.underlying49 dots_zero (by kernel_rfl)) (fun an55 n55 => ?_)
   have e56 := n55.ne rfl (n54.ne rfl (n53.ne rfl e50))
   refine sv n55.ok rfl (wgT rfl (yl 4 false rfl e56) rfl) rfl (o_eqDots (n55.ne rfl n54.at_) n55.at_ rfl) (fun an57 n57 => ?_)
   refine sv n57.ok rfl (wn _ rfl) rfl (o_pkF (n57.ne rfl e56) n57.at_) (fun an58 n58 => ?_)
   refine sv n58.ok rfl (wn _ rfl) rfl (o_as n58.at_) (fun an59 n59 => ?_)
   refine wpList_nil ?_
   refine th_n (hK43 _ _ ?_)
   refine wp_seq_k (fun K60 hK60 => ?_)
   refine wp_seq_k (fun K61 hK61 => ?_)
   refine wp_region_lit ?_
   have e62 := n59.ne rfl (n58.ne rfl (n57.ne rfl (n55.ne rfl (n54.ne rfl (n53.ne rfl (n48.ne rfl (n47.ne rfl (n46.ne rfl (n45.ne rfl (n44.ne rfl (n29.ne rfl (n28.ne rfl (n27.ne rfl (n21.ne rfl s3I14))))))))))))))
   refine sv n59.ok rfl (wn _ rfl) rfl (o_mv e62) (fun an63 n63 => ?_)
   refine sv n63.ok rfl (wn _ rfl) rfl (o_len n63.at_ Tryz.underlying38) (fun an64 n64 => ?_)
   refine sv n64.ok rfl (wn _ rfl) rfl (o_mv ev_const) (fun an65 n65 => ?_)
   refine wpList_nil ?_
   refine th_n (hK61 _ _ ?_)
   refine wp_block ?_
   have e67 := n65.ne rfl (n64.ne rfl (n63.ne rfl (n59.ne rfl (n58.ne rfl (n57.ne rfl (n55.ne rfl (n54.ne rfl (n53.ne rfl (n48.ne rfl (n47.ne rfl (n46.ne rfl (n45.ne rfl (n44.ne rfl (n29.ne rfl (n28.ne rfl (n27.ne rfl (n21.ne rfl s2I14)))))))))))))))))
   have e68 := n65.ne rfl (n64.ne rfl (n63.ne rfl e62))
   have e69 := n65.ne rfl (n64.ne rfl (n63.ne rfl (n59.ne rfl (n58.ne rfl (n57.ne rfl (n55.ne rfl (n54.ne rfl (n53.ne rfl e52))))))))
   have e70 := n65.ne rfl (n64.ne rfl (n63.ne rfl n59.at_))
   have e71 := n65.ne rfl (n64.ne rfl (n63.ne rfl (n59.ne rfl (n58.ne rfl (n57.ne rfl (n55.ne rfl (n54.ne rfl (n53.ne rfl (n48.ne rfl (n47.ne rfl (n46.ne rfl (n45.ne rfl (n44.ne rfl (n29.ne rfl (n28.ne rfl (n27.ne rfl (n21.ne rfl s12I14)))))))))))))))))
   have e72 := n65.ne rfl (n64.ne rfl (n63.ne rfl (n59.ne rfl (n58.ne rfl (n57.ne rfl (n55.ne rfl (n54.ne rfl (n53.ne rfl (n48.ne rfl (n47.ne rfl (n46.ne rfl (n45.ne rfl (n44.ne rfl (n29.ne rfl (n28.ne rfl (n27.ne rfl (n21.ne rfl s13I14)))))))))))))))))
   have e73 := n65.ne rfl (n64.ne rfl (n63.ne rfl (n59.ne rfl (n58.ne rfl (n57.ne rfl (n55.ne rfl (n54.ne rfl (n53.ne rfl (n48.ne rfl (n47.ne rfl (n46.ne rfl (n45.ne rfl (n44.ne rfl (n29.ne rfl (n28.ne rfl (n27.ne rfl (n21.ne rfl s14I14)))))))))))))))))
   refine lp (fun (nL : Nat) (aL : Act) (wL : World) => ∃ k : Nat, ∃ lf : Bool, nL = K.length - k ∧ Ok 63 aL ∧ Gr w wL ∧ (aL.eval (.tmp 2) = .slice none 0 0) ∧ (aL.eval (.tmp 3) = .slice oa (K.length) oc) ∧ (aL.eval (.tmp 5) = .pointer (some ⟨b30, 0, none⟩)) ∧ (aL.eval (.tmp 6) = .bool lf) ∧ (aL.eval (.tmp 12) = .slice va L.length vc) ∧ (aL.eval (.tmp 13) = .int .i64 ((L.length : Nat) : Int)) ∧ (aL.eval (.tmp 14) = .int .i64 (i : Int)) ∧ (aL.eval (.tmp 28) = .slice oa (K.length) oc) ∧ (aL.eval (.tmp 29) = .int .i64 (((K.length) : Nat) : Int)) ∧ (aL.eval (.tmp 30) = .int .i64 (k : Int)) ∧ (Bk wL b30 ((encDoc xh26).toArray) 51) ∧ (World.ownsRow wL base 51 592 (.slice oa (K.length) oc) (K.length) ((flatE encDoc K))) ∧ (base ≤ wL.heap.size) ∧ (k ≤ K.length) ∧ (lf = (emptyM xh26 || (K.take k).any fun y => undM xh26 y))) _ ⟨0, (eqX xh26.X (fun _ => 0)), rfl, n65.ok, G40, e67, e68, e69, e70, e71, e72, e73, (n65.ne rfl (n64.ne rfl n63.at_)), (n65.ne rfl n64.at_), n65.at_, u39b, O42, z41, by omega, (by unfold emptyM; rw [List.take_zero]; simp [c49])⟩ ?_
   rintro m74 aI66 w76 ⟨k, lf, hmI66, okI66, GI66, s2I66, s3I66, s5I66, s6I66, s12I66, s13I66, s14I66, s28I66, s29I66, s30I66, kb30I66, orI66, zbaseI66, hkI66, hlfI66⟩ KI66 hKI66
   refine wp_seq_k (fun K77 hK77 => ?_)
   refine wp_region_lit ?_
   refine sv okI66 rfl (wn _ rfl) rfl (o_ltI s30I66 s29I66) (fun an78 n78 => ?_)
   refine wpList_nil ?_
   refine th_n (hK77 _ _ ?_)
   refine wp_seq_k (fun K79 hK79 => ?_)
   by_cases c80 : (k : Int) < (((K.length) : Nat) : Int)
   ·refine wp_cond_true ((n78.at_).trans (congrArg Value.bool (decide_eq_true c80))) ?_
    refine wp_skip ?_
    refine th_n (hK79 _ _ ?_)
    refine wp_seq_k (fun K81 hK81 => ?_)
    refine wp_block ?_
    refine wp_seq_k (fun K82 hK82 => ?_)
    refine wp_region_lit ?_
    have h83l : k < List.length K := by omega
    obtain ⟨bh83, fh83, h83a, h83b, h83c⟩ := (RdA.own encDoc_ok orI66 rfl) (ne_nil_of_lt h83l)
    obtain ⟨xh83, h83x⟩ : ∃ x, (K)[k]? = some x := ⟨_, List.getElem?_eq_getElem h83l⟩
    refine sv n78.ok rfl (wn _ rfl) rfl (o_iaV (i := k) (s := 592) h83a (n78.ne rfl s28I66) (n78.ne rfl s30I66) Tryz.underlying38 (by kernel_rfl) h83l) (fun an84 n84 => ?_)
    refine sv n84.ok rfl (wn _ rfl) rfl (o_ldA (k := fh83 + k * 592) n84.at_ (cs := encDoc xh83) (fun j v hv => (Below.cell (Gr.refl w76) h83b).trans (h83c _ _ h83x j v hv)) Tryz.underlying51 rfl (by kernel_rfl)) (fun an85 n85 => ?_)
    refine sal (cs := (encDoc m0).toArray) n85.ok rfl (wn _ rfl) rfl (o_al (z := .agg ((encDoc m0).toArray)) partM_zero) (fun an86 w88 b87 W89 n86 => ?_)
    have l90 : b30 < b87 := by rw [W89.eq]; exact kb30I66.lt
    have l91 : w.heap.size ≤ b87 := by rw [W89.eq]; exact GI66.size
    have l92 : ∀ k, Value.ownBlock (.slice oa (K.length) oc) = some k → k < b87 := fun k e => by rw [W89.eq]; exact ow_in orI66 k e
    have G93 := GI66.trans W89.gr
    have B94 := kb30I66.gr W89.gr
    have z95 := Nat.le_trans zbaseI66 W89.gr.size
    have O96 := ow_gr orI66 W89.gr
    refine ssR rfl (wn _ rfl) (o_stR n86.at_ (n86.ne rfl n85.at_) W89.bk (encDoc_info xh83) (by rw [encDoc_sz, encDoc_sz]) (encDoc_one xh83)) W89.bk (fun w97 u98 u98b => ?_)
    have G99 : Gr w w97 := Below.upd G93 l91 u98
    have B100 := B94.upd u98 (Nat.ne_of_lt l90)
    have z101 : base ≤ w97.heap.size := by rw [u98.size]; exact z95
    have O102 := ow_upd_ne O96 u98 l92
    refine wpList_nil ?_
    refine th_n (hK82 _ _ ?_)
    refine wp_region_lit ?_
    have e103 := n86.ne rfl (n85.ne rfl (n84.ne rfl (n78.ne rfl s6I66)))
    refine sv n86.ok rfl (wn _ rfl) rfl (o_mv e103) (fun an104 n104 => ?_)
    refine sv n104.ok rfl (wn _ rfl) rfl (o_mv n104.at_) (fun an105 n105 => ?_)
    cases c106 : lf
    ·have e107 := (n105.at_).trans (congrArg Value.bool (c106))
     have e110 := n105.ne rfl (n104.ne rfl (n86.ne rfl (n85.ne rfl (n84.ne rfl (n78.ne rfl s5I66)))))
     refine sv n105.ok rfl (wgT rfl (yl 1 false rfl e107) rfl) rfl (o_ldR e110 B100 Tryz.underlying51 rfl (encDoc_info xh26)) (fun an111 n111 => ?_)
     have e112 := n111.ne rfl (n105.ne rfl (n104.ne rfl n86.at_))
     refine sv n111.ok rfl (wgT rfl (yl 1 false rfl (n111.ne rfl e107)) rfl) rfl (o_ldR e112 u98b Tryz.underlying51 rfl (encDoc_info xh83)) (fun an113 n113 => ?_)
     refine sc n113.ok rfl (wgT rfl (yl 1 false rfl (n113.ne rfl (n111.ne rfl e107))) rfl) rfl (o_f2 Tryz.func51 rfl rfl rfl (n113.ne rfl n111.at_) n113.at_) (runder_any xh26 xh83 (hX _ (List.mem_of_getElem? h26x)) (fewM_ok (fun x hx => hX x (List.mem_of_mem_take hx)) _ (hfkI14 ▸ List.mem_of_getElem? h83x)) w97) ?_
     rintro _ w115 ⟨rfl, g116⟩
     refine ⟨_, rfl, fun an114 n114 => ?_⟩
     have G117 := G99.trans g116
     have B118 := B100.gr g116
     have z120 := Nat.le_trans z101 g116.size
     have O121 := ow_gr O102 g116
     have e122 := n114.ne rfl (n113.ne rfl (n111.ne rfl e107))
     refine sv n114.ok rfl (wn _ rfl) rfl (o_pkF e122 n114.at_) (fun an123 n123 => ?_)
     refine sv n123.ok rfl (wn _ rfl) rfl (o_as n123.at_) (fun an124 n124 => ?_)
     refine wpList_nil ?_
     refine ib_n ?_
     refine th_n (hK81 _ _ ?_)
     refine wp_region_lit ?_
     have e125 := n124.ne rfl (n123.ne rfl (n114.ne rfl (n113.ne rfl (n111.ne rfl (n105.ne rfl (n104.ne rfl (n86.ne rfl (n85.ne rfl (n84.ne rfl (n78.ne rfl s30I66))))))))))
     refine sv n124.ok rfl (wn _ rfl) rfl (o_add (r := ((k + 1 : Nat) : Int)) e125 ev_const (by omega) (by omega)) (fun an126 n126 => ?_)
     refine sv n126.ok rfl (wn _ rfl) rfl (o_mv n126.at_) (fun an127 n127 => ?_)
     refine wpList_nil ?_
     have e128 := n127.ne rfl (n126.ne rfl (n124.ne rfl (n123.ne rfl (n114.ne rfl (n113.ne rfl (n111.ne rfl (n105.ne rfl (n104.ne rfl (n86.ne rfl (n85.ne rfl (n84.ne rfl (n78.ne rfl s2I66))))))))))))
     have e129 := n127.ne rfl (n126.ne rfl (n124.ne rfl (n123.ne rfl (n114.ne rfl (n113.ne rfl (n111.ne rfl (n105.ne rfl (n104.ne rfl (n86.ne rfl (n85.ne rfl (n84.ne rfl (n78.ne rfl s3I66))))))))))))
     have e130 := n127.ne rfl (n126.ne rfl (n124.ne rfl (n123.ne rfl (n114.ne rfl (n113.ne rfl (n111.ne rfl e110))))))
     have e131 := n127.ne rfl (n126.ne rfl (n124.ne rfl (n123.ne rfl (n114.ne rfl (n113.ne rfl (n111.ne rfl (n105.ne rfl (n104.ne rfl (n86.ne rfl (n85.ne rfl (n84.ne rfl (n78.ne rfl s12I66))))))))))))
     have e132 := n127.ne rfl (n126.ne rfl (n124.ne rfl (n123.ne rfl (n114.ne rfl (n113.ne rfl (n111.ne rfl (n105.ne rfl (n104.ne rfl (n86.ne rfl (n85.ne rfl (n84.ne rfl (n78.ne rfl s13I66))))))))))))
     have e133 := n127.ne rfl (n126.ne rfl (n124.ne rfl (n123.ne rfl (n114.ne rfl (n113.ne rfl (n111.ne rfl (n105.ne rfl (n104.ne rfl (n86.ne rfl (n85.ne rfl (n84.ne rfl (n78.ne rfl s14I66))))))))))))
     have e134 := n127.ne rfl (n126.ne rfl (n124.ne rfl (n123.ne rfl (n114.ne rfl (n113.ne rfl (n111.ne rfl (n105.ne rfl (n104.ne rfl (n86.ne rfl (n85.ne rfl (n84.ne rfl (n78.ne rfl s28I66))))))))))))
     have e135 := n127.ne rfl (n126.ne rfl (n124.ne rfl (n123.ne rfl (n114.ne rfl (n113.ne rfl (n111.ne rfl (n105.ne rfl (n104.ne rfl (n86.ne rfl (n85.ne rfl (n84.ne rfl (n78.ne rfl s29I66))))))))))))
     exact th_n (hKI66 _ _ _ (by omega) ⟨k + 1, (undM xh26 xh83), rfl, n127.ok, G117, e128, e129, e130, (n127.ne rfl (n126.ne rfl n124.at_)), e131, e132, e133, e134, e135, n127.at_, B118, O121, z120, by omega, (by have h := few_l h83x hlfI66; rw [c106] at h; exact h)⟩)
    ·have e136 := (n105.at_).trans (congrArg Value.bool (c106))
     refine sn n105.ok rfl (wgF rfl (yl 1 true rfl e136) rfl) rfl (fun an139 n139 => ?_)
     refine sn n139.ok rfl (wgF rfl (yl 1 true rfl (n139.ne rfl e136)) rfl) rfl (fun an140 n140 => ?_)
     refine sn n140.ok rfl (wgF rfl (yl 1 true rfl (n140.ne rfl (n139.ne rfl e136))) rfl) rfl (fun an141 n141 => ?_)
     have e142 := n141.ne rfl (n140.ne rfl (n139.ne rfl e136))
     refine sv n141.ok rfl (wn _ rfl) rfl (o_pkT e142 ev_const) (fun an143 n143 => ?_)
     refine sv n143.ok rfl (wn _ rfl) rfl (o_as n143.at_) (fun an144 n144 => ?_)
     refine wpList_nil ?_
     refine ib_n ?_
     refine th_n (hK81 _ _ ?_)
     refine wp_region_lit ?_
     have e145 := n144.ne rfl (n143.ne rfl (n141.ne rfl (n140.ne rfl (n139.ne rfl (n105.ne rfl (n104.ne rfl (n86.ne rfl (n85.ne rfl (n84.ne rfl (n78.ne rfl s30I66))))))))))
     refine sv n144.ok rfl (wn _ rfl) rfl (o_add (r := ((k + 1 : Nat) : Int)) e145 ev_const (by omega) (by omega)) (fun an146 n146 => ?_)
     refine sv n146.ok rfl (wn _ rfl) rfl (o_mv n146.at_) (fun an147 n147 => ?_)
     refine wpList_nil ?_
     have e148 := n147.ne rfl (n146.ne rfl (n144.ne rfl (n143.ne rfl (n141.ne rfl (n140.ne rfl (n139.ne rfl (n105.ne rfl (n104.ne rfl (n86.ne rfl (n85.ne rfl (n84.ne rfl (n78.ne rfl s2I66))))))))))))
     have e149 := n147.ne rfl (n146.ne rfl (n144.ne rfl (n143.ne rfl (n141.ne rfl (n140.ne rfl (n139.ne rfl (n105.ne rfl (n104.ne rfl (n86.ne rfl (n85.ne rfl (n84.ne rfl (n78.ne rfl s3I66))))))))))))
     have e150 := n147.ne rfl (n146.ne rfl (n144.ne rfl (n143.ne rfl (n141.ne rfl (n140.ne rfl (n139.ne rfl (n105.ne rfl (n104.ne rfl (n86.ne rfl (n85.ne rfl (n84.ne rfl (n78.ne rfl s5I66))))))))))))
     have e151 := n147.ne rfl (n146.ne rfl (n144.ne rfl (n143.ne rfl (n141.ne rfl (n140.ne rfl (n139.ne rfl (n105.ne rfl (n104.ne rfl (n86.ne rfl (n85.ne rfl (n84.ne rfl (n78.ne rfl s12I66))))))))))))
     have e152 := n147.ne rfl (n146.ne rfl (n144.ne rfl (n143.ne rfl (n141.ne rfl (n140.ne rfl (n139.ne rfl (n105.ne rfl (n104.ne rfl (n86.ne rfl (n85.ne rfl (n84.ne rfl (n78.ne rfl s13I66))))))))))))
     have e153 := n147.ne rfl (n146.ne rfl (n144.ne rfl (n143.ne rfl (n141.ne rfl (n140.ne rfl (n139.ne rfl (n105.ne rfl (n104.ne rfl (n86.ne rfl (n85.ne rfl (n84.ne rfl (n78.ne rfl s14I66))))))))))))
     have e154 := n147.ne rfl (n146.ne rfl (n144.ne rfl (n143.ne rfl (n141.ne rfl (n140.ne rfl (n139.ne rfl (n105.ne rfl (n104.ne rfl (n86.ne rfl (n85.ne rfl (n84.ne rfl (n78.ne rfl s28I66))))))))))))
     have e155 := n147.ne rfl (n146.ne rfl (n144.ne rfl (n143.ne rfl (n141.ne rfl (n140.ne rfl (n139.ne rfl (n105.ne rfl (n104.ne rfl (n86.ne rfl (n85.ne rfl (n84.ne rfl (n78.ne rfl s29I66))))))))))))
     exact th_n (hKI66 _ _ _ (by omega) ⟨k + 1, true, rfl, n147.ok, G99, e148, e149, e150, (n147.ne rfl (n146.ne rfl n144.at_)), e151, e152, e153, e154, e155, n147.at_, B100, O102, z101, by omega, (by have h := few_l h83x hlfI66; rw [c106] at h; exact h)⟩)
   ·refine wp_cond_false ((n78.at_).trans (congrArg Value.bool (decide_eq_false c80))) ?_
    refine wp_exit ?_
    refine th_x ?_
    refine th_x ?_
    refine ib_x ?_
    refine th_n (hK60 _ _ ?_)
    refine wp_seq_k (fun K156 hK156 => ?_)
    refine wp_seq_k (fun K157 hK157 => ?_)
    refine wp_region_lit ?_
    refine sv n78.ok rfl (wn _ rfl) rfl (o_mv (n78.ne rfl s6I66)) (fun an158 n158 => ?_)
    refine wpList_nil ?_
    refine th_n (hK157 _ _ ?_)
    cases c159 : lf
    ·refine wp_cond_false ((n158.at_).trans (congrArg Value.bool (c159))) ?_
     refine wp_skip ?_
     refine th_n (hK156 _ _ ?_)
     refine wp_seq_k (fun K160 hK160 => ?_)
     refine wp_region_lit ?_
     refine sv n158.ok rfl (wn _ rfl) rfl (o_as ev_const) (fun an161 n161 => ?_)
     refine wpList_nil ?_
     refine th_n (hK160 _ _ ?_)
     refine wp_seq_k (fun K162 hK162 => ?_)
     refine wp_seq_k (fun K163 hK163 => ?_)
     refine wp_region_lit ?_
     have e164 := n161.ne rfl (n158.ne rfl (n78.ne rfl s3I66))
     refine sv n161.ok rfl (wn _ rfl) rfl (o_mv e164) (fun an165 n165 => ?_)
     refine sv n165.ok rfl (wn _ rfl) rfl (o_len n165.at_ Tryz.underlying38) (fun an166 n166 => ?_)
     refine sv n166.ok rfl (wn _ rfl) rfl (o_mv ev_const) (fun an167 n167 => ?_)
     refine wpList_nil ?_
     refine th_n (hK163 _ _ ?_)
     refine wp_block ?_
     have hrd := RdA.own encDoc_ok orI66 rfl
     have A169 := Gr.refl w76
     obtain ⟨base2, z170⟩ : ∃ n, n = w76.heap.size := ⟨_, rfl⟩
     have l171 : b30 < base2 := by rw [z170]; exact kb30I66.lt
     have l172 : w.heap.size ≤ base2 := by rw [z170]; exact GI66.size
     have z173 : base2 ≤ w76.heap.size := Nat.le_of_eq z170
     have l174 : w76.heap.size ≤ base2 := by rw [z170]; exact A169.size
     have O175 := World.ownsRow_nil w76 base2 51 592
     have e177 := n167.ne rfl (n166.ne rfl (n165.ne rfl (n161.ne rfl (n158.ne rfl (n78.ne rfl s2I66)))))
     have e178 := n167.ne rfl (n166.ne rfl (n165.ne rfl (n161.ne rfl (n158.ne rfl (n78.ne rfl s5I66)))))
     have e179 := n167.ne rfl (n166.ne rfl (n165.ne rfl n161.at_))
     have e180 := n167.ne rfl (n166.ne rfl (n165.ne rfl (n161.ne rfl (n158.ne rfl (n78.ne rfl s12I66)))))
     have e181 := n167.ne rfl (n166.ne rfl (n165.ne rfl (n161.ne rfl (n158.ne rfl (n78.ne rfl s13I66)))))
     have e182 := n167.ne rfl (n166.ne rfl (n165.ne rfl (n161.ne rfl (n158.ne rfl (n78.ne rfl s14I66)))))
     refine lp (fun (nL : Nat) (aL : Act) (wL : World) => ∃ m : Nat, ∃ ka : Option Addr, ∃ kc : Nat, nL = K.length - m ∧ Ok 63 aL ∧ Gr w wL ∧ (aL.eval (.tmp 2) = .slice none 0 0) ∧ (aL.eval (.tmp 5) = .pointer (some ⟨b30, 0, none⟩)) ∧ (aL.eval (.tmp 9) = .slice ka (((K.take m).filter fun y => !undM y xh26).length) kc) ∧ (aL.eval (.tmp 12) = .slice va L.length vc) ∧ (aL.eval (.tmp 13) = .int .i64 ((L.length : Nat) : Int)) ∧ (aL.eval (.tmp 14) = .int .i64 (i : Int)) ∧ (aL.eval (.tmp 42) = .slice oa (K.length) oc) ∧ (aL.eval (.tmp 43) = .int .i64 (((K.length) : Nat) : Int)) ∧ (aL.eval (.tmp 44) = .int .i64 (m : Int)) ∧ (Bk wL b30 ((encDoc xh26).toArray) 51) ∧ (World.ownsRow wL base2 51 592 (.slice ka (((K.take m).filter fun y => !undM y xh26).length) kc) (((K.take m).filter fun y => !undM y xh26).length) ((flatE encDoc ((K.take m).filter fun y => !undM y xh26)))) ∧ (base ≤ wL.heap.size) ∧ (base2 ≤ wL.heap.size) ∧ (Gr w76 wL) ∧ (m ≤ K.length)) _ ⟨0, none, 0, rfl, n167.ok, GI66, e177, e178, e179, e180, e181, e182, (n167.ne rfl (n166.ne rfl n165.at_)), (n167.ne rfl n166.at_), n167.at_, kb30I66, O175, zbaseI66, z173, A169, by omega⟩ ?_
     rintro m183 aI176 w185 ⟨m, ka, kc, hmI176, okI176, GI176, s2I176, s5I176, s9I176, s12I176, s13I176, s14I176, s42I176, s43I176, s44I176, kb30I176, okpI176, zbaseI176, zbase2I176, xanch168I176, hmI176⟩ KI176 hKI176
     have hFmI176 : ((K.take m).filter fun y => !undM y xh26).length ≤ K.length := Nat.le_trans (List.length_filter_le _ _) (by rw [List.length_take]; omega)
     refine wp_seq_k (fun K186 hK186 => ?_)
     refine wp_region_lit ?_
     refine sv okI176 rfl (wn _ rfl) rfl (o_ltI s44I176 s43I176) (fun an187 n187 => ?_)
     refine wpList_nil ?_
     refine th_n (hK186 _ _ ?_)
     refine wp_seq_k (fun K188 hK188 => ?_)
     by_cases c189 : (m : Int) < (((K.length) : Nat) : Int)
     ·refine wp_cond_true ((n187.at_).trans (congrArg Value.bool (decide_eq_true c189))) ?_
      refine wp_skip ?_
      refine th_n (hK188 _ _ ?_)
      refine wp_seq_k (fun K190 hK190 => ?_)
      refine wp_block ?_
      refine wp_seq_k (fun K191 hK191 => ?_)
      refine wp_region_lit ?_
      have h192l : m < List.length K := by omega
      obtain ⟨bh192, fh192, h192a, h192b, h192c⟩ := (hrd.gr xanch168I176) (ne_nil_of_lt h192l)
      obtain ⟨xh192, h192x⟩ : ∃ x, (K)[m]? = some x := ⟨_, List.getElem?_eq_getElem h192l⟩
      refine sv n187.ok rfl (wn _ rfl) rfl (o_iaV (i := m) (s := 592) h192a (n187.ne rfl s42I176) (n187.ne rfl s44I176) Tryz.underlying38 (by kernel_rfl) h192l) (fun an193 n193 => ?_)
      refine sv n193.ok rfl (wn _ rfl) rfl (o_ldA (k := fh192 + m * 592) n193.at_ (cs := encDoc xh192) (fun j v hv => (Below.cell (Gr.refl w185) h192b).trans (h192c _ _ h192x j v hv)) Tryz.underlying51 rfl (by kernel_rfl)) (fun an194 n194 => ?_)
      refine sal (cs := (encDoc m0).toArray) n194.ok rfl (wn _ rfl) rfl (o_al (z := .agg ((encDoc m0).toArray)) partM_zero) (fun an195 w197 b196 W198 n195 => ?_)
      have l199 : b30 < b196 := by rw [W198.eq]; exact kb30I176.lt
      have l200 : w.heap.size ≤ b196 := by rw [W198.eq]; exact GI176.size
      have l201 : w76.heap.size ≤ b196 := by rw [W198.eq]; exact xanch168I176.size
      have l202 : ∀ k, Value.ownBlock (.slice ka (((K.take m).filter fun y => !undM y xh26).length) kc) = some k → k < b196 := fun k e => by rw [W198.eq]; exact ow_in okpI176 k e
      have G203 := GI176.trans W198.gr
      have B204 := kb30I176.gr W198.gr
      have A205 := xanch168I176.trans W198.gr
      have z206 := Nat.le_trans zbaseI176 W198.gr.size
      have z207 := Nat.le_trans zbase2I176 W198.gr.size
      have O208 := ow_gr okpI176 W198.gr
      refine ssR rfl (wn _ rfl) (o_stR n195.at_ (n195.ne rfl n194.at_) W198.bk (encDoc_info xh192) (by rw [encDoc_sz, encDoc_sz]) (encDoc_one xh192)) W198.bk (fun w209 u210 u210b => ?_)
      have G211 : Gr w w209 := Below.upd G203 l200 u210
      have B212 := B204.upd u210 (Nat.ne_of_lt l199)
      have A213 : Gr w76 w209 := Below.upd A205 l201 u210
      have z214 : base ≤ w209.heap.size := by rw [u210.size]; exact z206
      have z215 : base2 ≤ w209.heap.size := by rw [u210.size]; exact z207
      have O216 := ow_upd_ne O208 u210 l202
      refine wpList_nil ?_
      refine th_n (hK191 _ _ ?_)
      refine wp_seq_k (fun K217 hK217 => ?_)
      refine wp_region_lit ?_
      refine sv n195.ok rfl (wn _ rfl) rfl (o_ldR n195.at_ u210b Tryz.underlying51 rfl (encDoc_info xh192)) (fun an218 n218 => ?_)
      have e219 := n218.ne rfl (n195.ne rfl (n194.ne rfl (n193.ne rfl (n187.ne rfl s5I176))))
      refine sv n218.ok rfl (wn _ rfl) rfl (o_ldR e219 B212 Tryz.underlying51 rfl (encDoc_info xh26)) (fun an220 n220 => ?_)
      refine sc n220.ok rfl (wn _ rfl) rfl (o_f2 Tryz.func51 rfl rfl rfl (n220.ne rfl n218.at_) n220.at_) (runder_any xh192 xh26 (fewM_ok (fun x hx => hX x (List.mem_of_mem_take hx)) _ (hfkI14 ▸ List.mem_of_getElem? h192x)) (hX _ (List.mem_of_getElem? h26x)) w209) ?_
      rintro _ w222 ⟨rfl, g223⟩
      refine ⟨_, rfl, fun an221 n221 => ?_⟩
      have G224 := G211.trans g223
      have B225 := B212.gr g223
      have B226 := u210b.gr g223
      have A227 := A213.trans g223
      have z228 := Nat.le_trans z214 g223.size
      have z229 := Nat.le_trans z215 g223.size
      have O230 := ow_gr O216 g223
      refine sv n221.ok rfl (wn _ rfl) rfl (o_notI n221.at_) (fun an231 n231 => ?_)
      refine wpList_nil ?_
      refine th_n (hK217 _ _ ?_)
      cases c232 : (!(undM xh192 xh26))
      ·refine wp_cond_false ((n231.at_).trans (congrArg Value.bool (c232))) ?_
       refine wp_skip ?_
       refine ib_n ?_
       refine th_n (hK190 _ _ ?_)
       refine wp_region_lit ?_
       have e233 := n231.ne rfl (n221.ne rfl (n220.ne rfl (n218.ne rfl (n195.ne rfl (n194.ne rfl (n193.ne rfl (n187.ne rfl s44I176)))))))
       refine sv n231.ok rfl (wn _ rfl) rfl (o_add (r := ((m + 1 : Nat) : Int)) e233 ev_const (by omega) (by omega)) (fun an234 n234 => ?_)
       refine sv n234.ok rfl (wn _ rfl) rfl (o_mv n234.at_) (fun an235 n235 => ?_)
       refine wpList_nil ?_
       have e236 := n235.ne rfl (n234.ne rfl (n231.ne rfl (n221.ne rfl (n220.ne rfl (n218.ne rfl (n195.ne rfl (n194.ne rfl (n193.ne rfl (n187.ne rfl s9I176)))))))))
       have e237 := n235.ne rfl (n234.ne rfl (n231.ne rfl (n221.ne rfl (n220.ne rfl (n218.ne rfl (n195.ne rfl (n194.ne rfl (n193.ne rfl (n187.ne rfl s2I176)))))))))
       have e238 := n235.ne rfl (n234.ne rfl (n231.ne rfl (n221.ne rfl (n220.ne rfl e219))))
       have e239 := n235.ne rfl (n234.ne rfl (n231.ne rfl (n221.ne rfl (n220.ne rfl (n218.ne rfl (n195.ne rfl (n194.ne rfl (n193.ne rfl (n187.ne rfl s12I176)))))))))
       have e240 := n235.ne rfl (n234.ne rfl (n231.ne rfl (n221.ne rfl (n220.ne rfl (n218.ne rfl (n195.ne rfl (n194.ne rfl (n193.ne rfl (n187.ne rfl s13I176)))))))))
       have e241 := n235.ne rfl (n234.ne rfl (n231.ne rfl (n221.ne rfl (n220.ne rfl (n218.ne rfl (n195.ne rfl (n194.ne rfl (n193.ne rfl (n187.ne rfl s14I176)))))))))
       have e242 := n235.ne rfl (n234.ne rfl (n231.ne rfl (n221.ne rfl (n220.ne rfl (n218.ne rfl (n195.ne rfl (n194.ne rfl (n193.ne rfl (n187.ne rfl s42I176)))))))))
       have e243 := n235.ne rfl (n234.ne rfl (n231.ne rfl (n221.ne rfl (n220.ne rfl (n218.ne rfl (n195.ne rfl (n194.ne rfl (n193.ne rfl (n187.ne rfl s43I176)))))))))
       exact th_n (hKI176 _ _ _ (by omega) ⟨m + 1, ka, kc, rfl, n235.ok, G224, e237, e238, (by rw [filt_step (x := xh26) h192x, if_pos (by simpa using c232), List.append_nil]; exact e236), e239, e240, e241, e242, e243, n235.at_, B225, (by rw [filt_step (x := xh26) h192x, if_pos (by simpa using c232), List.append_nil]; exact O230), z228, z229, A227, by omega⟩)
      ·refine wp_cond_true ((n231.at_).trans (congrArg Value.bool (c232))) ?_
       refine wp_region_lit ?_
       have e244 := n231.ne rfl (n221.ne rfl (n220.ne rfl (n218.ne rfl (n195.ne rfl (n194.ne rfl (n193.ne rfl (n187.ne rfl s9I176)))))))
       refine sv n231.ok rfl (wn _ rfl) rfl (o_mv e244) (fun an245 n245 => ?_)
       have e246 := n245.ne rfl (n231.ne rfl (n221.ne rfl (n220.ne rfl (n218.ne rfl n195.at_))))
       refine sv n245.ok rfl (wn _ rfl) rfl (o_ldR e246 B226 Tryz.underlying51 rfl (encDoc_info xh192)) (fun an247 n247 => ?_)
       skip
       refine sals (cs := (encDoc xh192).toArray) n247.ok rfl (wn _ rfl) rfl (o_bsM (y := xh192) n247.at_) (fun an248 w250 b249 W251 n248 => ?_)
       have G257 := G224.trans W251.gr
       have B258 := B225.gr W251.gr
       have A260 := A227.trans W251.gr
       have z261 := Nat.le_trans z228 W251.gr.size
       have z262 := Nat.le_trans z229 W251.gr.size
       have O263 := ow_gr O230 W251.gr
       obtain ⟨i264, i264a, i264b, i264c, i264d⟩ := info_of (show (Tryz.prog.info? 51).map (fun i => (i.zero, i.size, i.bytes)) = some (some (.agg (encDoc m0).toArray), 592, 1152) by kernel_rfl)
       refine s_app (base := base2) (n := ((K.take m).filter fun y => !undM y xh26).length) (xs := (flatE encDoc ((K.take m).filter fun y => !undM y xh26))) (m := 1) (news := encDoc xh192) n248.ok (wn _ rfl) rfl Tryz.underlying38 i264a i264b i264c i264d rfl (by omega) (n248.ne rfl (n247.ne rfl n245.at_)) O263 n248.at_ rfl ((fun j u hu => by rw [add_n, Nat.zero_add]; exact W251.bk.cell _ (by rw [List.getElem?_toArray]; exact hu))) (encDoc_ok.one xh192) (by simp only [maxLen]; omega) (by omega) z262 (fun an265 w266 v267 O270 gg271 n265 => ?_)
       obtain ⟨a268, c269, rfl, c269l⟩ := ow_form O270
       have G272 := Gr.grown G257 gg271 (fun k e => Nat.le_trans l172 (ow_lt O263 k e))
       have B273 := B258.grown gg271 (ow_lt O263) l171
       have A276 : Gr w76 w266 := Gr.grown A260 gg271 (fun k e => Nat.le_trans l174 (ow_lt O263 k e))
       have z277 := Nat.le_trans z261 gg271.size
       have z278 := Nat.le_trans z262 gg271.size
       have O279 : w266.ownsRow base2 51 592 (.slice a268 (((K.take m).filter fun y => !undM y xh26).length + 1) c269) (((K.take m).filter fun y => !undM y xh26).length + 1) ((flatE encDoc (((K.take m).filter fun y => !undM y xh26) ++ [xh192]))) := by have h := O270; rw [← flatE_one (enc := encDoc) xh192, ← flatE_app] at h; exact h
       refine sv n265.ok rfl (wn _ rfl) rfl (o_as n265.at_) (fun an280 n280 => ?_)
       refine wpList_nil ?_
       refine ib_n ?_
       refine th_n (hK190 _ _ ?_)
       refine wp_region_lit ?_
       have e281 := n280.ne rfl (n265.ne rfl (n248.ne rfl (n247.ne rfl (n245.ne rfl (n231.ne rfl (n221.ne rfl (n220.ne rfl (n218.ne rfl (n195.ne rfl (n194.ne rfl (n193.ne rfl (n187.ne rfl s44I176))))))))))))
       refine sv n280.ok rfl (wn _ rfl) rfl (o_add (r := ((m + 1 : Nat) : Int)) e281 ev_const (by omega) (by omega)) (fun an282 n282 => ?_)
       refine sv n282.ok rfl (wn _ rfl) rfl (o_mv n282.at_) (fun an283 n283 => ?_)
       refine wpList_nil ?_
       have e284 := n283.ne rfl (n282.ne rfl (n280.ne rfl (n265.ne rfl (n248.ne rfl (n247.ne rfl (n245.ne rfl (n231.ne rfl (n221.ne rfl (n220.ne rfl (n218.ne rfl (n195.ne rfl (n194.ne rfl (n193.ne rfl (n187.ne rfl s2I176))))))))))))))
       have e285 := n283.ne rfl (n282.ne rfl (n280.ne rfl (n265.ne rfl (n248.ne rfl (n247.ne rfl (n245.ne rfl (n231.ne rfl (n221.ne rfl (n220.ne rfl e219)))))))))
       have e286 := n283.ne rfl (n282.ne rfl (n280.ne rfl (n265.ne rfl (n248.ne rfl (n247.ne rfl (n245.ne rfl (n231.ne rfl (n221.ne rfl (n220.ne rfl (n218.ne rfl (n195.ne rfl (n194.ne rfl (n193.ne rfl (n187.ne rfl s12I176))))))))))))))
       have e287 := n283.ne rfl (n282.ne rfl (n280.ne rfl (n265.ne rfl (n248.ne rfl (n247.ne rfl (n245.ne rfl (n231.ne rfl (n221.ne rfl (n220.ne rfl (n218.ne rfl (n195.ne rfl (n194.ne rfl (n193.ne rfl (n187.ne rfl s13I176))))))))))))))
       have e288 := n283.ne rfl (n282.ne rfl (n280.ne rfl (n265.ne rfl (n248.ne rfl (n247.ne rfl (n245.ne rfl (n231.ne rfl (n221.ne rfl (n220.ne rfl (n218.ne rfl (n195.ne rfl (n194.ne rfl (n193.ne rfl (n187.ne rfl s14I176))))))))))))))
       have e289 := n283.ne rfl (n282.ne rfl (n280.ne rfl (n265.ne rfl (n248.ne rfl (n247.ne rfl (n245.ne rfl (n231.ne rfl (n221.ne rfl (n220.ne rfl (n218.ne rfl (n195.ne rfl (n194.ne rfl (n193.ne rfl (n187.ne rfl s42I176))))))))))))))
       have e290 := n283.ne rfl (n282.ne rfl (n280.ne rfl (n265.ne rfl (n248.ne rfl (n247.ne rfl (n245.ne rfl (n231.ne rfl (n221.ne rfl (n220.ne rfl (n218.ne rfl (n195.ne rfl (n194.ne rfl (n193.ne rfl (n187.ne rfl s43I176))))))))))))))
       exact th_n (hKI176 _ _ _ (by omega) ⟨m + 1, a268, c269, rfl, n283.ok, G272, e284, e285, (by rw [filt_step (x := xh26) h192x, if_neg (by simpa using c232)]; simpa using (n283.ne rfl (n282.ne rfl n280.at_))), e286, e287, e288, e289, e290, n283.at_, B273, (by rw [filt_step (x := xh26) h192x, if_neg (by simpa using c232)]; simpa using O279), z277, z278, A276, by omega⟩)
     ·refine wp_cond_false ((n187.at_).trans (congrArg Value.bool (decide_eq_false c189))) ?_
      have hmK : K.take m = K := List.take_of_length_le (by omega)
      refine wp_exit ?_
      refine th_x ?_
      refine th_x ?_
      refine ib_x ?_
      refine th_n (hK162 _ _ ?_)
      refine wp_region_lit ?_
      refine sv n187.ok rfl (wn _ rfl) rfl (o_mv (n187.ne rfl s9I176)) (fun an291 n291 => ?_)
      refine sv n291.ok rfl (wn _ rfl) rfl (o_ldR (n291.ne rfl (n187.ne rfl s5I176)) kb30I176 Tryz.underlying51 rfl (encDoc_info xh26)) (fun an292 n292 => ?_)
      skip
      refine sals (cs := (encDoc xh26).toArray) n292.ok rfl (wn _ rfl) rfl (o_bsM (y := xh26) n292.at_) (fun an293 w295 b294 W296 n293 => ?_)
      have G301 := GI176.trans W296.gr
      have z304 := Nat.le_trans zbaseI176 W296.gr.size
      have z305 := Nat.le_trans zbase2I176 W296.gr.size
      have O306 := ow_gr okpI176 W296.gr
      obtain ⟨i307, i307a, i307b, i307c, i307d⟩ := info_of (show (Tryz.prog.info? 51).map (fun i => (i.zero, i.size, i.bytes)) = some (some (.agg (encDoc m0).toArray), 592, 1152) by kernel_rfl)
      refine s_app (base := base2) (n := ((K.take m).filter fun y => !undM y xh26).length) (xs := (flatE encDoc ((K.take m).filter fun y => !undM y xh26))) (m := 1) (news := encDoc xh26) n293.ok (wn _ rfl) rfl Tryz.underlying38 i307a i307b i307c i307d rfl (by omega) (n293.ne rfl (n292.ne rfl n291.at_)) O306 n293.at_ rfl ((fun j u hu => by rw [add_n, Nat.zero_add]; exact W296.bk.cell _ (by rw [List.getElem?_toArray]; exact hu))) (encDoc_ok.one xh26) (by simp only [maxLen]; omega) (by omega) z305 (fun an308 w309 v310 O313 gg314 n308 => ?_)
      obtain ⟨a311, c312, rfl, c312l⟩ := ow_form O313
      have G315 := Gr.grown G301 gg314 (fun k e => Nat.le_trans l172 (ow_lt O306 k e))
      have z319 := Nat.le_trans z304 gg314.size
      have O321 : w309.ownsRow base2 51 592 (.slice a311 (((K.take m).filter fun y => !undM y xh26).length + 1) c312) (((K.take m).filter fun y => !undM y xh26).length + 1) ((flatE encDoc (((K.take m).filter fun y => !undM y xh26) ++ [xh26]))) := by have h := O313; rw [← flatE_one (enc := encDoc) xh26, ← flatE_app] at h; exact h
      refine sv n308.ok rfl (wn _ rfl) rfl (o_as n308.at_) (fun an322 n322 => ?_)
      refine wpList_nil ?_
      refine ib_n ?_
      refine th_n (hK24 _ _ ?_)
      refine wp_region_lit ?_
      have e323 := n322.ne rfl (n308.ne rfl (n293.ne rfl (n292.ne rfl (n291.ne rfl (n187.ne rfl s14I176)))))
      refine sv n322.ok rfl (wn _ rfl) rfl (o_add (r := ((i + 1 : Nat) : Int)) e323 ev_const (by omega) (by omega)) (fun an324 n324 => ?_)
      refine sv n324.ok rfl (wn _ rfl) rfl (o_mv n324.at_) (fun an325 n325 => ?_)
      refine wpList_nil ?_
      have O326 := ow_lessP O321 (Nat.le_trans (Nat.le_of_eq z1) l172)
      have e327 := n325.ne rfl (n324.ne rfl (n322.ne rfl (n308.ne rfl (n293.ne rfl (n292.ne rfl (n291.ne rfl (n187.ne rfl s2I176)))))))
      have e328 := n325.ne rfl (n324.ne rfl (n322.ne rfl (n308.ne rfl (n293.ne rfl (n292.ne rfl (n291.ne rfl (n187.ne rfl s12I176)))))))
      have e329 := n325.ne rfl (n324.ne rfl (n322.ne rfl (n308.ne rfl (n293.ne rfl (n292.ne rfl (n291.ne rfl (n187.ne rfl s13I176)))))))
      exact th_n (hKI14 _ _ _ (by omega) ⟨i + 1, ((K.filter fun y => !undM y xh26) ++ [xh26]), a311, c312, rfl, n325.ok, G315, e327, (by have h := (n325.ne rfl (n324.ne rfl n322.at_)); rw [hmK] at h; simpa using h), e328, e329, n325.at_, (by have h := O326; rw [hmK] at h; simpa using h), z319, by omega, (by rw [fewM_take h26x, ← hfkI14]; unfold stepM; rw [if_pos (by have h := hlfI66; rw [List.take_of_length_le (by omega)] at h; rw [c159] at h; have h2 := h.symm; rw [Bool.or_eq_false_iff] at h2; rw [h2.1, h2.2]; rfl)])⟩)
    ·refine wp_cond_true ((n158.at_).trans (congrArg Value.bool (c159))) ?_
     refine wp_exit ?_
     refine th_x ?_
     refine ib_x ?_
     refine th_n (hK24 _ _ ?_)
     refine wp_region_lit ?_
     refine sv n158.ok rfl (wn _ rfl) rfl (o_add (r := ((i + 1 : Nat) : Int)) (n158.ne rfl (n78.ne rfl s14I66)) ev_const (by omega) (by omega)) (fun an330 n330 => ?_)
     refine sv n330.ok rfl (wn _ rfl) rfl (o_mv n330.at_) (fun an331 n331 => ?_)
     refine wpList_nil ?_
     have e332 := n331.ne rfl (n330.ne rfl (n158.ne rfl (n78.ne rfl s2I66)))
     have e333 := n331.ne rfl (n330.ne rfl (n158.ne rfl (n78.ne rfl s3I66)))
     have e334 := n331.ne rfl (n330.ne rfl (n158.ne rfl (n78.ne rfl s12I66)))
     have e335 := n331.ne rfl (n330.ne rfl (n158.ne rfl (n78.ne rfl s13I66)))
     exact th_n (hKI14 _ _ _ (by omega) ⟨i + 1, K, oa, oc, rfl, n331.ok, GI66, e332, e333, e334, e335, n331.at_, orI66, zbaseI66, by omega, (by rw [fewM_take h26x, ← hfkI14]; unfold stepM; rw [if_neg (by have h := hlfI66; rw [List.take_of_length_le (by omega)] at h; rw [c159] at h; have h2 := h.symm; rw [Bool.or_eq_true] at h2; intro h3; rw [Bool.and_eq_true, Bool.not_eq_true', Bool.not_eq_true'] at h3; rcases h2 with h2 | h2 <;> simp [h2] at h3)])⟩)
  ·have e336 := (n48.at_).trans (congrArg Value.bool (c49))
   refine sn n48.ok rfl (wgF rfl (yl 4 true rfl e336) rfl) rfl (fun an338 n338 => ?_)
   refine sn n338.ok rfl (wgF rfl (yl 4 true rfl (n338.ne rfl e336)) rfl) rfl (fun an339 n339 => ?_)
   refine sn n339.ok rfl (wgF rfl (yl 4 true rfl (n339.ne rfl (n338.ne rfl e336))) rfl) rfl (fun an340 n340 => ?_)
   have e341 := n340.ne rfl (n339.ne rfl (n338.ne rfl e336))
   refine sn n340.ok rfl (wgF rfl (yl 4 true rfl e341) rfl) rfl (fun an342 n342 => ?_)
   refine sv n342.ok rfl (wn _ rfl) rfl (o_pkT (n342.ne rfl e341) ev_const) (fun an343 n343 => ?_)
   refine sv n343.ok rfl (wn _ rfl) rfl (o_as n343.at_) (fun an344 n344 => ?_)
   refine wpList_nil ?_
   refine th_n (hK43 _ _ ?_)
   refine wp_seq_k (fun K345 hK345 => ?_)
   refine wp_seq_k (fun K346 hK346 => ?_)
   refine wp_region_lit ?_
   have e347 := n344.ne rfl (n343.ne rfl (n342.ne rfl (n340.ne rfl (n339.ne rfl (n338.ne rfl (n48.ne rfl (n47.ne rfl (n46.ne rfl (n45.ne rfl (n44.ne rfl (n29.ne rfl (n28.ne rfl (n27.ne rfl (n21.ne rfl s3I14))))))))))))))
   refine sv n344.ok rfl (wn _ rfl) rfl (o_mv e347) (fun an348 n348 => ?_)
   refine sv n348.ok rfl (wn _ rfl) rfl (o_len n348.at_ Tryz.underlying38) (fun an349 n349 => ?_)
   refine sv n349.ok rfl (wn _ rfl) rfl (o_mv ev_const) (fun an350 n350 => ?_)
   refine wpList_nil ?_
   refine th_n (hK346 _ _ ?_)
   refine wp_block ?_
   have e352 := n350.ne rfl (n349.ne rfl (n348.ne rfl (n344.ne rfl (n343.ne rfl (n342.ne rfl (n340.ne rfl (n339.ne rfl (n338.ne rfl (n48.ne rfl (n47.ne rfl (n46.ne rfl (n45.ne rfl (n44.ne rfl (n29.ne rfl (n28.ne rfl (n27.ne rfl (n21.ne rfl s2I14)))))))))))))))))
   have e353 := n350.ne rfl (n349.ne rfl (n348.ne rfl e347))
   have e354 := n350.ne rfl (n349.ne rfl (n348.ne rfl (n344.ne rfl (n343.ne rfl (n342.ne rfl (n340.ne rfl (n339.ne rfl (n338.ne rfl (n48.ne rfl (n47.ne rfl (n46.ne rfl (n45.ne rfl (n44.ne rfl n29.at_)))))))))))))
   have e355 := n350.ne rfl (n349.ne rfl (n348.ne rfl n344.at_))
   have e356 := n350.ne rfl (n349.ne rfl (n348.ne rfl (n344.ne rfl (n343.ne rfl (n342.ne rfl (n340.ne rfl (n339.ne rfl (n338.ne rfl (n48.ne rfl (n47.ne rfl (n46.ne rfl (n45.ne rfl (n44.ne rfl (n29.ne rfl (n28.ne rfl (n27.ne rfl (n21.ne rfl s12I14)))))))))))))))))
   have e357 := n350.ne rfl (n349.ne rfl (n348.ne rfl (n344.ne rfl (n343.ne rfl (n342.ne rfl (n340.ne rfl (n339.ne rfl (n338.ne rfl (n48.ne rfl (n47.ne rfl (n46.ne rfl (n45.ne rfl (n44.ne rfl (n29.ne rfl (n28.ne rfl (n27.ne rfl (n21.ne rfl s13I14)))))))))))))))))
   have e358 := n350.ne rfl (n349.ne rfl (n348.ne rfl (n344.ne rfl (n343.ne rfl (n342.ne rfl (n340.ne rfl (n339.ne rfl (n338.ne rfl (n48.ne rfl (n47.ne rfl (n46.ne rfl (n45.ne rfl (n44.ne rfl (n29.ne rfl (n28.ne rfl (n27.ne rfl (n21.ne rfl s14I14)))))))))))))))))
   refine lp (fun (nL : Nat) (aL : Act) (wL : World) => ∃ k : Nat, ∃ lf : Bool, nL = K.length - k ∧ Ok 63 aL ∧ Gr w wL ∧ (aL.eval (.tmp 2) = .slice none 0 0) ∧ (aL.eval (.tmp 3) = .slice oa (K.length) oc) ∧ (aL.eval (.tmp 5) = .pointer (some ⟨b30, 0, none⟩)) ∧ (aL.eval (.tmp 6) = .bool lf) ∧ (aL.eval (.tmp 12) = .slice va L.length vc) ∧ (aL.eval (.tmp 13) = .int .i64 ((L.length : Nat) : Int)) ∧ (aL.eval (.tmp 14) = .int .i64 (i : Int)) ∧ (aL.eval (.tmp 28) = .slice oa (K.length) oc) ∧ (aL.eval (.tmp 29) = .int .i64 (((K.length) : Nat) : Int)) ∧ (aL.eval (.tmp 30) = .int .i64 (k : Int)) ∧ (Bk wL b30 ((encDoc xh26).toArray) 51) ∧ (World.ownsRow wL base 51 592 (.slice oa (K.length) oc) (K.length) ((flatE encDoc K))) ∧ (base ≤ wL.heap.size) ∧ (k ≤ K.length) ∧ (lf = (emptyM xh26 || (K.take k).any fun y => undM xh26 y))) _ ⟨0, true, rfl, n350.ok, G40, e352, e353, e354, e355, e356, e357, e358, (n350.ne rfl (n349.ne rfl n348.at_)), (n350.ne rfl n349.at_), n350.at_, u39b, O42, z41, by omega, (by unfold emptyM; rw [List.take_zero]; simp [c49])⟩ ?_
   rintro m359 aI351 w361 ⟨k, lf, hmI351, okI351, GI351, s2I351, s3I351, s5I351, s6I351, s12I351, s13I351, s14I351, s28I351, s29I351, s30I351, kb30I351, orI351, zbaseI351, hkI351, hlfI351⟩ KI351 hKI351
   refine wp_seq_k (fun K362 hK362 => ?_)
   refine wp_region_lit ?_
   refine sv okI351 rfl (wn _ rfl) rfl (o_ltI s30I351 s29I351) (fun an363 n363 => ?_)
   refine wpList_nil ?_
   refine th_n (hK362 _ _ ?_)
   refine wp_seq_k (fun K364 hK364 => ?_)
   by_cases c365 : (k : Int) < (((K.length) : Nat) : Int)
   ·refine wp_cond_true ((n363.at_).trans (congrArg Value.bool (decide_eq_true c365))) ?_
    refine wp_skip ?_
    refine th_n (hK364 _ _ ?_)
    refine wp_seq_k (fun K366 hK366 => ?_)
    refine wp_block ?_
    refine wp_seq_k (fun K367 hK367 => ?_)
    refine wp_region_lit ?_
    have h368l : k < List.length K := by omega
    obtain ⟨bh368, fh368, h368a, h368b, h368c⟩ := (RdA.own encDoc_ok orI351 rfl) (ne_nil_of_lt h368l)
    obtain ⟨xh368, h368x⟩ : ∃ x, (K)[k]? = some x := ⟨_, List.getElem?_eq_getElem h368l⟩
    refine sv n363.ok rfl (wn _ rfl) rfl (o_iaV (i := k) (s := 592) h368a (n363.ne rfl s28I351) (n363.ne rfl s30I351) Tryz.underlying38 (by kernel_rfl) h368l) (fun an369 n369 => ?_)
    refine sv n369.ok rfl (wn _ rfl) rfl (o_ldA (k := fh368 + k * 592) n369.at_ (cs := encDoc xh368) (fun j v hv => (Below.cell (Gr.refl w361) h368b).trans (h368c _ _ h368x j v hv)) Tryz.underlying51 rfl (by kernel_rfl)) (fun an370 n370 => ?_)
    refine sal (cs := (encDoc m0).toArray) n370.ok rfl (wn _ rfl) rfl (o_al (z := .agg ((encDoc m0).toArray)) partM_zero) (fun an371 w373 b372 W374 n371 => ?_)
    have l375 : b30 < b372 := by rw [W374.eq]; exact kb30I351.lt
    have l376 : w.heap.size ≤ b372 := by rw [W374.eq]; exact GI351.size
    have l377 : ∀ k, Value.ownBlock (.slice oa (K.length) oc) = some k → k < b372 := fun k e => by rw [W374.eq]; exact ow_in orI351 k e
    have G378 := GI351.trans W374.gr
    have B379 := kb30I351.gr W374.gr
    have z380 := Nat.le_trans zbaseI351 W374.gr.size
    have O381 := ow_gr orI351 W374.gr
    refine ssR rfl (wn _ rfl) (o_stR n371.at_ (n371.ne rfl n370.at_) W374.bk (encDoc_info xh368) (by rw [encDoc_sz, encDoc_sz]) (encDoc_one xh368)) W374.bk (fun w382 u383 u383b => ?_)
    have G384 : Gr w w382 := Below.upd G378 l376 u383
    have B385 := B379.upd u383 (Nat.ne_of_lt l375)
    have z386 : base ≤ w382.heap.size := by rw [u383.size]; exact z380
    have O387 := ow_upd_ne O381 u383 l377
    refine wpList_nil ?_
    refine th_n (hK367 _ _ ?_)
    refine wp_region_lit ?_
    have e388 := n371.ne rfl (n370.ne rfl (n369.ne rfl (n363.ne rfl s6I351)))
    refine sv n371.ok rfl (wn _ rfl) rfl (o_mv e388) (fun an389 n389 => ?_)
    refine sv n389.ok rfl (wn _ rfl) rfl (o_mv n389.at_) (fun an390 n390 => ?_)
    cases c391 : lf
    ·have e392 := (n390.at_).trans (congrArg Value.bool (c391))
     have e395 := n390.ne rfl (n389.ne rfl (n371.ne rfl (n370.ne rfl (n369.ne rfl (n363.ne rfl s5I351)))))
     refine sv n390.ok rfl (wgT rfl (yl 1 false rfl e392) rfl) rfl (o_ldR e395 B385 Tryz.underlying51 rfl (encDoc_info xh26)) (fun an396 n396 => ?_)
     have e397 := n396.ne rfl (n390.ne rfl (n389.ne rfl n371.at_))
     refine sv n396.ok rfl (wgT rfl (yl 1 false rfl (n396.ne rfl e392)) rfl) rfl (o_ldR e397 u383b Tryz.underlying51 rfl (encDoc_info xh368)) (fun an398 n398 => ?_)
     refine sc n398.ok rfl (wgT rfl (yl 1 false rfl (n398.ne rfl (n396.ne rfl e392))) rfl) rfl (o_f2 Tryz.func51 rfl rfl rfl (n398.ne rfl n396.at_) n398.at_) (runder_any xh26 xh368 (hX _ (List.mem_of_getElem? h26x)) (fewM_ok (fun x hx => hX x (List.mem_of_mem_take hx)) _ (hfkI14 ▸ List.mem_of_getElem? h368x)) w382) ?_
     rintro _ w400 ⟨rfl, g401⟩
     refine ⟨_, rfl, fun an399 n399 => ?_⟩
     have G402 := G384.trans g401
     have B403 := B385.gr g401
     have z405 := Nat.le_trans z386 g401.size
     have O406 := ow_gr O387 g401
     have e407 := n399.ne rfl (n398.ne rfl (n396.ne rfl e392))
     refine sv n399.ok rfl (wn _ rfl) rfl (o_pkF e407 n399.at_) (fun an408 n408 => ?_)
     refine sv n408.ok rfl (wn _ rfl) rfl (o_as n408.at_) (fun an409 n409 => ?_)
     refine wpList_nil ?_
     refine ib_n ?_
     refine th_n (hK366 _ _ ?_)
     refine wp_region_lit ?_
     have e410 := n409.ne rfl (n408.ne rfl (n399.ne rfl (n398.ne rfl (n396.ne rfl (n390.ne rfl (n389.ne rfl (n371.ne rfl (n370.ne rfl (n369.ne rfl (n363.ne rfl s30I351))))))))))
     refine sv n409.ok rfl (wn _ rfl) rfl (o_add (r := ((k + 1 : Nat) : Int)) e410 ev_const (by omega) (by omega)) (fun an411 n411 => ?_)
     refine sv n411.ok rfl (wn _ rfl) rfl (o_mv n411.at_) (fun an412 n412 => ?_)
     refine wpList_nil ?_
     have e413 := n412.ne rfl (n411.ne rfl (n409.ne rfl (n408.ne rfl (n399.ne rfl (n398.ne rfl (n396.ne rfl (n390.ne rfl (n389.ne rfl (n371.ne rfl (n370.ne rfl (n369.ne rfl (n363.ne rfl s2I351))))))))))))
     have e414 := n412.ne rfl (n411.ne rfl (n409.ne rfl (n408.ne rfl (n399.ne rfl (n398.ne rfl (n396.ne rfl (n390.ne rfl (n389.ne rfl (n371.ne rfl (n370.ne rfl (n369.ne rfl (n363.ne rfl s3I351))))))))))))
     have e415 := n412.ne rfl (n411.ne rfl (n409.ne rfl (n408.ne rfl (n399.ne rfl (n398.ne rfl (n396.ne rfl e395))))))
     have e416 := n412.ne rfl (n411.ne rfl (n409.ne rfl (n408.ne rfl (n399.ne rfl (n398.ne rfl (n396.ne rfl (n390.ne rfl (n389.ne rfl (n371.ne rfl (n370.ne rfl (n369.ne rfl (n363.ne rfl s12I351))))))))))))
     have e417 := n412.ne rfl (n411.ne rfl (n409.ne rfl (n408.ne rfl (n399.ne rfl (n398.ne rfl (n396.ne rfl (n390.ne rfl (n389.ne rfl (n371.ne rfl (n370.ne rfl (n369.ne rfl (n363.ne rfl s13I351))))))))))))
     have e418 := n412.ne rfl (n411.ne rfl (n409.ne rfl (n408.ne rfl (n399.ne rfl (n398.ne rfl (n396.ne rfl (n390.ne rfl (n389.ne rfl (n371.ne rfl (n370.ne rfl (n369.ne rfl (n363.ne rfl s14I351))))))))))))
     have e419 := n412.ne rfl (n411.ne rfl (n409.ne rfl (n408.ne rfl (n399.ne rfl (n398.ne rfl (n396.ne rfl (n390.ne rfl (n389.ne rfl (n371.ne rfl (n370.ne rfl (n369.ne rfl (n363.ne rfl s28I351))))))))))))
     have e420 := n412.ne rfl (n411.ne rfl (n409.ne rfl (n408.ne rfl (n399.ne rfl (n398.ne rfl (n396.ne rfl (n390.ne rfl (n389.ne rfl (n371.ne rfl (n370.ne rfl (n369.ne rfl (n363.ne rfl s29I351))))))))))))
     exact th_n (hKI351 _ _ _ (by omega) ⟨k + 1, (undM xh26 xh368), rfl, n412.ok, G402, e413, e414, e415, (n412.ne rfl (n411.ne rfl n409.at_)), e416, e417, e418, e419, e420, n412.at_, B403, O406, z405, by omega, (by have h := few_l h368x hlfI351; rw [c391] at h; exact h)⟩)
    ·have e421 := (n390.at_).trans (congrArg Value.bool (c391))
     refine sn n390.ok rfl (wgF rfl (yl 1 true rfl e421) rfl) rfl (fun an424 n424 => ?_)
     refine sn n424.ok rfl (wgF rfl (yl 1 true rfl (n424.ne rfl e421)) rfl) rfl (fun an425 n425 => ?_)
     refine sn n425.ok rfl (wgF rfl (yl 1 true rfl (n425.ne rfl (n424.ne rfl e421))) rfl) rfl (fun an426 n426 => ?_)
     have e427 := n426.ne rfl (n425.ne rfl (n424.ne rfl e421))
     refine sv n426.ok rfl (wn _ rfl) rfl (o_pkT e427 ev_const) (fun an428 n428 => ?_)
     refine sv n428.ok rfl (wn _ rfl) rfl (o_as n428.at_) (fun an429 n429 => ?_)
     refine wpList_nil ?_
     refine ib_n ?_
     refine th_n (hK366 _ _ ?_)
     refine wp_region_lit ?_
     have e430 := n429.ne rfl (n428.ne rfl (n426.ne rfl (n425.ne rfl (n424.ne rfl (n390.ne rfl (n389.ne rfl (n371.ne rfl (n370.ne rfl (n369.ne rfl (n363.ne rfl s30I351))))))))))
     refine sv n429.ok rfl (wn _ rfl) rfl (o_add (r := ((k + 1 : Nat) : Int)) e430 ev_const (by omega) (by omega)) (fun an431 n431 => ?_)
     refine sv n431.ok rfl (wn _ rfl) rfl (o_mv n431.at_) (fun an432 n432 => ?_)
     refine wpList_nil ?_
     have e433 := n432.ne rfl (n431.ne rfl (n429.ne rfl (n428.ne rfl (n426.ne rfl (n425.ne rfl (n424.ne rfl (n390.ne rfl (n389.ne rfl (n371.ne rfl (n370.ne rfl (n369.ne rfl (n363.ne rfl s2I351))))))))))))
     have e434 := n432.ne rfl (n431.ne rfl (n429.ne rfl (n428.ne rfl (n426.ne rfl (n425.ne rfl (n424.ne rfl (n390.ne rfl (n389.ne rfl (n371.ne rfl (n370.ne rfl (n369.ne rfl (n363.ne rfl s3I351))))))))))))
     have e435 := n432.ne rfl (n431.ne rfl (n429.ne rfl (n428.ne rfl (n426.ne rfl (n425.ne rfl (n424.ne rfl (n390.ne rfl (n389.ne rfl (n371.ne rfl (n370.ne rfl (n369.ne rfl (n363.ne rfl s5I351))))))))))))
     have e436 := n432.ne rfl (n431.ne rfl (n429.ne rfl (n428.ne rfl (n426.ne rfl (n425.ne rfl (n424.ne rfl (n390.ne rfl (n389.ne rfl (n371.ne rfl (n370.ne rfl (n369.ne rfl (n363.ne rfl s12I351))))))))))))
     have e437 := n432.ne rfl (n431.ne rfl (n429.ne rfl (n428.ne rfl (n426.ne rfl (n425.ne rfl (n424.ne rfl (n390.ne rfl (n389.ne rfl (n371.ne rfl (n370.ne rfl (n369.ne rfl (n363.ne rfl s13I351))))))))))))
     have e438 := n432.ne rfl (n431.ne rfl (n429.ne rfl (n428.ne rfl (n426.ne rfl (n425.ne rfl (n424.ne rfl (n390.ne rfl (n389.ne rfl (n371.ne rfl (n370.ne rfl (n369.ne rfl (n363.ne rfl s14I351))))))))))))
     have e439 := n432.ne rfl (n431.ne rfl (n429.ne rfl (n428.ne rfl (n426.ne rfl (n425.ne rfl (n424.ne rfl (n390.ne rfl (n389.ne rfl (n371.ne rfl (n370.ne rfl (n369.ne rfl (n363.ne rfl s28I351))))))))))))
     have e440 := n432.ne rfl (n431.ne rfl (n429.ne rfl (n428.ne rfl (n426.ne rfl (n425.ne rfl (n424.ne rfl (n390.ne rfl (n389.ne rfl (n371.ne rfl (n370.ne rfl (n369.ne rfl (n363.ne rfl s29I351))))))))))))
     exact th_n (hKI351 _ _ _ (by omega) ⟨k + 1, true, rfl, n432.ok, G384, e433, e434, e435, (n432.ne rfl (n431.ne rfl n429.at_)), e436, e437, e438, e439, e440, n432.at_, B385, O387, z386, by omega, (by have h := few_l h368x hlfI351; rw [c391] at h; exact h)⟩)
   ·refine wp_cond_false ((n363.at_).trans (congrArg Value.bool (decide_eq_false c365))) ?_
    refine wp_exit ?_
    refine th_x ?_
    refine th_x ?_
    refine ib_x ?_
    refine th_n (hK345 _ _ ?_)
    refine wp_seq_k (fun K441 hK441 => ?_)
    refine wp_seq_k (fun K442 hK442 => ?_)
    refine wp_region_lit ?_
    refine sv n363.ok rfl (wn _ rfl) rfl (o_mv (n363.ne rfl s6I351)) (fun an443 n443 => ?_)
    refine wpList_nil ?_
    refine th_n (hK442 _ _ ?_)
    cases c444 : lf
    ·refine wp_cond_false ((n443.at_).trans (congrArg Value.bool (c444))) ?_
     refine wp_skip ?_
     refine th_n (hK441 _ _ ?_)
     refine wp_seq_k (fun K445 hK445 => ?_)
     refine wp_region_lit ?_
     refine sv n443.ok rfl (wn _ rfl) rfl (o_as ev_const) (fun an446 n446 => ?_)
     refine wpList_nil ?_
     refine th_n (hK445 _ _ ?_)
     refine wp_seq_k (fun K447 hK447 => ?_)
     refine wp_seq_k (fun K448 hK448 => ?_)
     refine wp_region_lit ?_
     have e449 := n446.ne rfl (n443.ne rfl (n363.ne rfl s3I351))
     refine sv n446.ok rfl (wn _ rfl) rfl (o_mv e449) (fun an450 n450 => ?_)
     refine sv n450.ok rfl (wn _ rfl) rfl (o_len n450.at_ Tryz.underlying38) (fun an451 n451 => ?_)
     refine sv n451.ok rfl (wn _ rfl) rfl (o_mv ev_const) (fun an452 n452 => ?_)
     refine wpList_nil ?_
     refine th_n (hK448 _ _ ?_)
     refine wp_block ?_
     have hrd := RdA.own encDoc_ok orI351 rfl
     have A454 := Gr.refl w361
     obtain ⟨base2, z455⟩ : ∃ n, n = w361.heap.size := ⟨_, rfl⟩
     have l456 : b30 < base2 := by rw [z455]; exact kb30I351.lt
     have l457 : w.heap.size ≤ base2 := by rw [z455]; exact GI351.size
     have z458 : base2 ≤ w361.heap.size := Nat.le_of_eq z455
     have l459 : w361.heap.size ≤ base2 := by rw [z455]; exact A454.size
     have O460 := World.ownsRow_nil w361 base2 51 592
     have e462 := n452.ne rfl (n451.ne rfl (n450.ne rfl (n446.ne rfl (n443.ne rfl (n363.ne rfl s2I351)))))
     have e463 := n452.ne rfl (n451.ne rfl (n450.ne rfl (n446.ne rfl (n443.ne rfl (n363.ne rfl s5I351)))))
     have e464 := n452.ne rfl (n451.ne rfl (n450.ne rfl n446.at_))
     have e465 := n452.ne rfl (n451.ne rfl (n450.ne rfl (n446.ne rfl (n443.ne rfl (n363.ne rfl s12I351)))))
     have e466 := n452.ne rfl (n451.ne rfl (n450.ne rfl (n446.ne rfl (n443.ne rfl (n363.ne rfl s13I351)))))
     have e467 := n452.ne rfl (n451.ne rfl (n450.ne rfl (n446.ne rfl (n443.ne rfl (n363.ne rfl s14I351)))))
     refine lp (fun (nL : Nat) (aL : Act) (wL : World) => ∃ m : Nat, ∃ ka : Option Addr, ∃ kc : Nat, nL = K.length - m ∧ Ok 63 aL ∧ Gr w wL ∧ (aL.eval (.tmp 2) = .slice none 0 0) ∧ (aL.eval (.tmp 5) = .pointer (some ⟨b30, 0, none⟩)) ∧ (aL.eval (.tmp 9) = .slice ka (((K.take m).filter fun y => !undM y xh26).length) kc) ∧ (aL.eval (.tmp 12) = .slice va L.length vc) ∧ (aL.eval (.tmp 13) = .int .i64 ((L.length : Nat) : Int)) ∧ (aL.eval (.tmp 14) = .int .i64 (i : Int)) ∧ (aL.eval (.tmp 42) = .slice oa (K.length) oc) ∧ (aL.eval (.tmp 43) = .int .i64 (((K.length) : Nat) : Int)) ∧ (aL.eval (.tmp 44) = .int .i64 (m : Int)) ∧ (Bk wL b30 ((encDoc xh26).toArray) 51) ∧ (World.ownsRow wL base2 51 592 (.slice ka (((K.take m).filter fun y => !undM y xh26).length) kc) (((K.take m).filter fun y => !undM y xh26).length) ((flatE encDoc ((K.take m).filter fun y => !undM y xh26)))) ∧ (base ≤ wL.heap.size) ∧ (base2 ≤ wL.heap.size) ∧ (Gr w361 wL) ∧ (m ≤ K.length)) _ ⟨0, none, 0, rfl, n452.ok, GI351, e462, e463, e464, e465, e466, e467, (n452.ne rfl (n451.ne rfl n450.at_)), (n452.ne rfl n451.at_), n452.at_, kb30I351, O460, zbaseI351, z458, A454, by omega⟩ ?_
     rintro m468 aI461 w470 ⟨m, ka, kc, hmI461, okI461, GI461, s2I461, s5I461, s9I461, s12I461, s13I461, s14I461, s42I461, s43I461, s44I461, kb30I461, okpI461, zbaseI461, zbase2I461, xanch453I461, hmI461⟩ KI461 hKI461
     have hFmI461 : ((K.take m).filter fun y => !undM y xh26).length ≤ K.length := Nat.le_trans (List.length_filter_le _ _) (by rw [List.length_take]; omega)
     refine wp_seq_k (fun K471 hK471 => ?_)
     refine wp_region_lit ?_
     refine sv okI461 rfl (wn _ rfl) rfl (o_ltI s44I461 s43I461) (fun an472 n472 => ?_)
     refine wpList_nil ?_
     refine th_n (hK471 _ _ ?_)
     refine wp_seq_k (fun K473 hK473 => ?_)
     by_cases c474 : (m : Int) < (((K.length) : Nat) : Int)
     ·refine wp_cond_true ((n472.at_).trans (congrArg Value.bool (decide_eq_true c474))) ?_
      refine wp_skip ?_
      refine th_n (hK473 _ _ ?_)
      refine wp_seq_k (fun K475 hK475 => ?_)
      refine wp_block ?_
      refine wp_seq_k (fun K476 hK476 => ?_)
      refine wp_region_lit ?_
      have h477l : m < List.length K := by omega
      obtain ⟨bh477, fh477, h477a, h477b, h477c⟩ := (hrd.gr xanch453I461) (ne_nil_of_lt h477l)
      obtain ⟨xh477, h477x⟩ : ∃ x, (K)[m]? = some x := ⟨_, List.getElem?_eq_getElem h477l⟩
      refine sv n472.ok rfl (wn _ rfl) rfl (o_iaV (i := m) (s := 592) h477a (n472.ne rfl s42I461) (n472.ne rfl s44I461) Tryz.underlying38 (by kernel_rfl) h477l) (fun an478 n478 => ?_)
      refine sv n478.ok rfl (wn _ rfl) rfl (o_ldA (k := fh477 + m * 592) n478.at_ (cs := encDoc xh477) (fun j v hv => (Below.cell (Gr.refl w470) h477b).trans (h477c _ _ h477x j v hv)) Tryz.underlying51 rfl (by kernel_rfl)) (fun an479 n479 => ?_)
      refine sal (cs := (encDoc m0).toArray) n479.ok rfl (wn _ rfl) rfl (o_al (z := .agg ((encDoc m0).toArray)) partM_zero) (fun an480 w482 b481 W483 n480 => ?_)
      have l484 : b30 < b481 := by rw [W483.eq]; exact kb30I461.lt
      have l485 : w.heap.size ≤ b481 := by rw [W483.eq]; exact GI461.size
      have l486 : w361.heap.size ≤ b481 := by rw [W483.eq]; exact xanch453I461.size
      have l487 : ∀ k, Value.ownBlock (.slice ka (((K.take m).filter fun y => !undM y xh26).length) kc) = some k → k < b481 := fun k e => by rw [W483.eq]; exact ow_in okpI461 k e
      have G488 := GI461.trans W483.gr
      have B489 := kb30I461.gr W483.gr
      have A490 := xanch453I461.trans W483.gr
      have z491 := Nat.le_trans zbaseI461 W483.gr.size
      have z492 := Nat.le_trans zbase2I461 W483.gr.size
      have O493 := ow_gr okpI461 W483.gr
      refine ssR rfl (wn _ rfl) (o_stR n480.at_ (n480.ne rfl n479.at_) W483.bk (encDoc_info xh477) (by rw [encDoc_sz, encDoc_sz]) (encDoc_one xh477)) W483.bk (fun w494 u495 u495b => ?_)
      have G496 : Gr w w494 := Below.upd G488 l485 u495
      have B497 := B489.upd u495 (Nat.ne_of_lt l484)
      have A498 : Gr w361 w494 := Below.upd A490 l486 u495
      have z499 : base ≤ w494.heap.size := by rw [u495.size]; exact z491
      have z500 : base2 ≤ w494.heap.size := by rw [u495.size]; exact z492
      have O501 := ow_upd_ne O493 u495 l487
      refine wpList_nil ?_
      refine th_n (hK476 _ _ ?_)
      refine wp_seq_k (fun K502 hK502 => ?_)
      refine wp_region_lit ?_
      refine sv n480.ok rfl (wn _ rfl) rfl (o_ldR n480.at_ u495b Tryz.underlying51 rfl (encDoc_info xh477)) (fun an503 n503 => ?_)
      have e504 := n503.ne rfl (n480.ne rfl (n479.ne rfl (n478.ne rfl (n472.ne rfl s5I461))))
      refine sv n503.ok rfl (wn _ rfl) rfl (o_ldR e504 B497 Tryz.underlying51 rfl (encDoc_info xh26)) (fun an505 n505 => ?_)
      refine sc n505.ok rfl (wn _ rfl) rfl (o_f2 Tryz.func51 rfl rfl rfl (n505.ne rfl n503.at_) n505.at_) (runder_any xh477 xh26 (fewM_ok (fun x hx => hX x (List.mem_of_mem_take hx)) _ (hfkI14 ▸ List.mem_of_getElem? h477x)) (hX _ (List.mem_of_getElem? h26x)) w494) ?_
      rintro _ w507 ⟨rfl, g508⟩
      refine ⟨_, rfl, fun an506 n506 => ?_⟩
      have G509 := G496.trans g508
      have B510 := B497.gr g508
      have B511 := u495b.gr g508
      have A512 := A498.trans g508
      have z513 := Nat.le_trans z499 g508.size
      have z514 := Nat.le_trans z500 g508.size
      have O515 := ow_gr O501 g508
      refine sv n506.ok rfl (wn _ rfl) rfl (o_notI n506.at_) (fun an516 n516 => ?_)
      refine wpList_nil ?_
      refine th_n (hK502 _ _ ?_)
      cases c517 : (!(undM xh477 xh26))
      ·refine wp_cond_false ((n516.at_).trans (congrArg Value.bool (c517))) ?_
       refine wp_skip ?_
       refine ib_n ?_
       refine th_n (hK475 _ _ ?_)
       refine wp_region_lit ?_
       have e518 := n516.ne rfl (n506.ne rfl (n505.ne rfl (n503.ne rfl (n480.ne rfl (n479.ne rfl (n478.ne rfl (n472.ne rfl s44I461)))))))
       refine sv n516.ok rfl (wn _ rfl) rfl (o_add (r := ((m + 1 : Nat) : Int)) e518 ev_const (by omega) (by omega)) (fun an519 n519 => ?_)
       refine sv n519.ok rfl (wn _ rfl) rfl (o_mv n519.at_) (fun an520 n520 => ?_)
       refine wpList_nil ?_
       have e521 := n520.ne rfl (n519.ne rfl (n516.ne rfl (n506.ne rfl (n505.ne rfl (n503.ne rfl (n480.ne rfl (n479.ne rfl (n478.ne rfl (n472.ne rfl s9I461)))))))))
       have e522 := n520.ne rfl (n519.ne rfl (n516.ne rfl (n506.ne rfl (n505.ne rfl (n503.ne rfl (n480.ne rfl (n479.ne rfl (n478.ne rfl (n472.ne rfl s2I461)))))))))
       have e523 := n520.ne rfl (n519.ne rfl (n516.ne rfl (n506.ne rfl (n505.ne rfl e504))))
       have e524 := n520.ne rfl (n519.ne rfl (n516.ne rfl (n506.ne rfl (n505.ne rfl (n503.ne rfl (n480.ne rfl (n479.ne rfl (n478.ne rfl (n472.ne rfl s12I461)))))))))
       have e525 := n520.ne rfl (n519.ne rfl (n516.ne rfl (n506.ne rfl (n505.ne rfl (n503.ne rfl (n480.ne rfl (n479.ne rfl (n478.ne rfl (n472.ne rfl s13I461)))))))))
       have e526 := n520.ne rfl (n519.ne rfl (n516.ne rfl (n506.ne rfl (n505.ne rfl (n503.ne rfl (n480.ne rfl (n479.ne rfl (n478.ne rfl (n472.ne rfl s14I461)))))))))
       have e527 := n520.ne rfl (n519.ne rfl (n516.ne rfl (n506.ne rfl (n505.ne rfl (n503.ne rfl (n480.ne rfl (n479.ne rfl (n478.ne rfl (n472.ne rfl s42I461)))))))))
       have e528 := n520.ne rfl (n519.ne rfl (n516.ne rfl (n506.ne rfl (n505.ne rfl (n503.ne rfl (n480.ne rfl (n479.ne rfl (n478.ne rfl (n472.ne rfl s43I461)))))))))
       exact th_n (hKI461 _ _ _ (by omega) ⟨m + 1, ka, kc, rfl, n520.ok, G509, e522, e523, (by rw [filt_step (x := xh26) h477x, if_pos (by simpa using c517), List.append_nil]; exact e521), e524, e525, e526, e527, e528, n520.at_, B510, (by rw [filt_step (x := xh26) h477x, if_pos (by simpa using c517), List.append_nil]; exact O515), z513, z514, A512, by omega⟩)
      ·refine wp_cond_true ((n516.at_).trans (congrArg Value.bool (c517))) ?_
       refine wp_region_lit ?_
       have e529 := n516.ne rfl (n506.ne rfl (n505.ne rfl (n503.ne rfl (n480.ne rfl (n479.ne rfl (n478.ne rfl (n472.ne rfl s9I461)))))))
       refine sv n516.ok rfl (wn _ rfl) rfl (o_mv e529) (fun an530 n530 => ?_)
       have e531 := n530.ne rfl (n516.ne rfl (n506.ne rfl (n505.ne rfl (n503.ne rfl n480.at_))))
       refine sv n530.ok rfl (wn _ rfl) rfl (o_ldR e531 B511 Tryz.underlying51 rfl (encDoc_info xh477)) (fun an532 n532 => ?_)
       skip
       refine sals (cs := (encDoc xh477).toArray) n532.ok rfl (wn _ rfl) rfl (o_bsM (y := xh477) n532.at_) (fun an533 w535 b534 W536 n533 => ?_)
       have G542 := G509.trans W536.gr
       have B543 := B510.gr W536.gr
       have A545 := A512.trans W536.gr
       have z546 := Nat.le_trans z513 W536.gr.size
       have z547 := Nat.le_trans z514 W536.gr.size
       have O548 := ow_gr O515 W536.gr
       obtain ⟨i549, i549a, i549b, i549c, i549d⟩ := info_of (show (Tryz.prog.info? 51).map (fun i => (i.zero, i.size, i.bytes)) = some (some (.agg (encDoc m0).toArray), 592, 1152) by kernel_rfl)
       refine s_app (base := base2) (n := ((K.take m).filter fun y => !undM y xh26).length) (xs := (flatE encDoc ((K.take m).filter fun y => !undM y xh26))) (m := 1) (news := encDoc xh477) n533.ok (wn _ rfl) rfl Tryz.underlying38 i549a i549b i549c i549d rfl (by omega) (n533.ne rfl (n532.ne rfl n530.at_)) O548 n533.at_ rfl ((fun j u hu => by rw [add_n, Nat.zero_add]; exact W536.bk.cell _ (by rw [List.getElem?_toArray]; exact hu))) (encDoc_ok.one xh477) (by simp only [maxLen]; omega) (by omega) z547 (fun an550 w551 v552 O555 gg556 n550 => ?_)
       obtain ⟨a553, c554, rfl, c554l⟩ := ow_form O555
       have G557 := Gr.grown G542 gg556 (fun k e => Nat.le_trans l457 (ow_lt O548 k e))
       have B558 := B543.grown gg556 (ow_lt O548) l456
       have A561 : Gr w361 w551 := Gr.grown A545 gg556 (fun k e => Nat.le_trans l459 (ow_lt O548 k e))
       have z562 := Nat.le_trans z546 gg556.size
       have z563 := Nat.le_trans z547 gg556.size
       have O564 : w551.ownsRow base2 51 592 (.slice a553 (((K.take m).filter fun y => !undM y xh26).length + 1) c554) (((K.take m).filter fun y => !undM y xh26).length + 1) ((flatE encDoc (((K.take m).filter fun y => !undM y xh26) ++ [xh477]))) := by have h := O555; rw [← flatE_one (enc := encDoc) xh477, ← flatE_app] at h; exact h
       refine sv n550.ok rfl (wn _ rfl) rfl (o_as n550.at_) (fun an565 n565 => ?_)
       refine wpList_nil ?_
       refine ib_n ?_
       refine th_n (hK475 _ _ ?_)
       refine wp_region_lit ?_
       have e566 := n565.ne rfl (n550.ne rfl (n533.ne rfl (n532.ne rfl (n530.ne rfl (n516.ne rfl (n506.ne rfl (n505.ne rfl (n503.ne rfl (n480.ne rfl (n479.ne rfl (n478.ne rfl (n472.ne rfl s44I461))))))))))))
       refine sv n565.ok rfl (wn _ rfl) rfl (o_add (r := ((m + 1 : Nat) : Int)) e566 ev_const (by omega) (by omega)) (fun an567 n567 => ?_)
       refine sv n567.ok rfl (wn _ rfl) rfl (o_mv n567.at_) (fun an568 n568 => ?_)
       refine wpList_nil ?_
       have e569 := n568.ne rfl (n567.ne rfl (n565.ne rfl (n550.ne rfl (n533.ne rfl (n532.ne rfl (n530.ne rfl (n516.ne rfl (n506.ne rfl (n505.ne rfl (n503.ne rfl (n480.ne rfl (n479.ne rfl (n478.ne rfl (n472.ne rfl s2I461))))))))))))))
       have e570 := n568.ne rfl (n567.ne rfl (n565.ne rfl (n550.ne rfl (n533.ne rfl (n532.ne rfl (n530.ne rfl (n516.ne rfl (n506.ne rfl (n505.ne rfl e504)))))))))
       have e571 := n568.ne rfl (n567.ne rfl (n565.ne rfl (n550.ne rfl (n533.ne rfl (n532.ne rfl (n530.ne rfl (n516.ne rfl (n506.ne rfl (n505.ne rfl (n503.ne rfl (n480.ne rfl (n479.ne rfl (n478.ne rfl (n472.ne rfl s12I461))))))))))))))
       have e572 := n568.ne rfl (n567.ne rfl (n565.ne rfl (n550.ne rfl (n533.ne rfl (n532.ne rfl (n530.ne rfl (n516.ne rfl (n506.ne rfl (n505.ne rfl (n503.ne rfl (n480.ne rfl (n479.ne rfl (n478.ne rfl (n472.ne rfl s13I461))))))))))))))
       have e573 := n568.ne rfl (n567.ne rfl (n565.ne rfl (n550.ne rfl (n533.ne rfl (n532.ne rfl (n530.ne rfl (n516.ne rfl (n506.ne rfl (n505.ne rfl (n503.ne rfl (n480.ne rfl (n479.ne rfl (n478.ne rfl (n472.ne rfl s14I461))))))))))))))
       have e574 := n568.ne rfl (n567.ne rfl (n565.ne rfl (n550.ne rfl (n533.ne rfl (n532.ne rfl (n530.ne rfl (n516.ne rfl (n506.ne rfl (n505.ne rfl (n503.ne rfl (n480.ne rfl (n479.ne rfl (n478.ne rfl (n472.ne rfl s42I461))))))))))))))
       have e575 := n568.ne rfl (n567.ne rfl (n565.ne rfl (n550.ne rfl (n533.ne rfl (n532.ne rfl (n530.ne rfl (n516.ne rfl (n506.ne rfl (n505.ne rfl (n503.ne rfl (n480.ne rfl (n479.ne rfl (n478.ne rfl (n472.ne rfl s43I461))))))))))))))
       exact th_n (hKI461 _ _ _ (by omega) ⟨m + 1, a553, c554, rfl, n568.ok, G557, e569, e570, (by rw [filt_step (x := xh26) h477x, if_neg (by simpa using c517)]; simpa using (n568.ne rfl (n567.ne rfl n565.at_))), e571, e572, e573, e574, e575, n568.at_, B558, (by rw [filt_step (x := xh26) h477x, if_neg (by simpa using c517)]; simpa using O564), z562, z563, A561, by omega⟩)
     ·refine wp_cond_false ((n472.at_).trans (congrArg Value.bool (decide_eq_false c474))) ?_
      have hmK : K.take m = K := List.take_of_length_le (by omega)
      refine wp_exit ?_
      refine th_x ?_
      refine th_x ?_
      refine ib_x ?_
      refine th_n (hK447 _ _ ?_)
      refine wp_region_lit ?_
      refine sv n472.ok rfl (wn _ rfl) rfl (o_mv (n472.ne rfl s9I461)) (fun an576 n576 => ?_)
      refine sv n576.ok rfl (wn _ rfl) rfl (o_ldR (n576.ne rfl (n472.ne rfl s5I461)) kb30I461 Tryz.underlying51 rfl (encDoc_info xh26)) (fun an577 n577 => ?_)
      skip
      refine sals (cs := (encDoc xh26).toArray) n577.ok rfl (wn _ rfl) rfl (o_bsM (y := xh26) n577.at_) (fun an578 w580 b579 W581 n578 => ?_)
      have G586 := GI461.trans W581.gr
      have z589 := Nat.le_trans zbaseI461 W581.gr.size
      have z590 := Nat.le_trans zbase2I461 W581.gr.size
      have O591 := ow_gr okpI461 W581.gr
      obtain ⟨i592, i592a, i592b, i592c, i592d⟩ := info_of (show (Tryz.prog.info? 51).map (fun i => (i.zero, i.size, i.bytes)) = some (some (.agg (encDoc m0).toArray), 592, 1152) by kernel_rfl)
      refine s_app (base := base2) (n := ((K.take m).filter fun y => !undM y xh26).length) (xs := (flatE encDoc ((K.take m).filter fun y => !undM y xh26))) (m := 1) (news := encDoc xh26) n578.ok (wn _ rfl) rfl Tryz.underlying38 i592a i592b i592c i592d rfl (by omega) (n578.ne rfl (n577.ne rfl n576.at_)) O591 n578.at_ rfl ((fun j u hu => by rw [add_n, Nat.zero_add]; exact W581.bk.cell _ (by rw [List.getElem?_toArray]; exact hu))) (encDoc_ok.one xh26) (by simp only [maxLen]; omega) (by omega) z590 (fun an593 w594 v595 O598 gg599 n593 => ?_)
      obtain ⟨a596, c597, rfl, c597l⟩ := ow_form O598
      have G600 := Gr.grown G586 gg599 (fun k e => Nat.le_trans l457 (ow_lt O591 k e))
      have z604 := Nat.le_trans z589 gg599.size
      have O606 : w594.ownsRow base2 51 592 (.slice a596 (((K.take m).filter fun y => !undM y xh26).length + 1) c597) (((K.take m).filter fun y => !undM y xh26).length + 1) ((flatE encDoc (((K.take m).filter fun y => !undM y xh26) ++ [xh26]))) := by have h := O598; rw [← flatE_one (enc := encDoc) xh26, ← flatE_app] at h; exact h
      refine sv n593.ok rfl (wn _ rfl) rfl (o_as n593.at_) (fun an607 n607 => ?_)
      refine wpList_nil ?_
      refine ib_n ?_
      refine th_n (hK24 _ _ ?_)
      refine wp_region_lit ?_
      have e608 := n607.ne rfl (n593.ne rfl (n578.ne rfl (n577.ne rfl (n576.ne rfl (n472.ne rfl s14I461)))))
      refine sv n607.ok rfl (wn _ rfl) rfl (o_add (r := ((i + 1 : Nat) : Int)) e608 ev_const (by omega) (by omega)) (fun an609 n609 => ?_)
      refine sv n609.ok rfl (wn _ rfl) rfl (o_mv n609.at_) (fun an610 n610 => ?_)
      refine wpList_nil ?_
      have O611 := ow_lessP O606 (Nat.le_trans (Nat.le_of_eq z1) l457)
      have e612 := n610.ne rfl (n609.ne rfl (n607.ne rfl (n593.ne rfl (n578.ne rfl (n577.ne rfl (n576.ne rfl (n472.ne rfl s2I461)))))))
      have e613 := n610.ne rfl (n609.ne rfl (n607.ne rfl (n593.ne rfl (n578.ne rfl (n577.ne rfl (n576.ne rfl (n472.ne rfl s12I461)))))))
      have e614 := n610.ne rfl (n609.ne rfl (n607.ne rfl (n593.ne rfl (n578.ne rfl (n577.ne rfl (n576.ne rfl (n472.ne rfl s13I461)))))))
      exact th_n (hKI14 _ _ _ (by omega) ⟨i + 1, ((K.filter fun y => !undM y xh26) ++ [xh26]), a596, c597, rfl, n610.ok, G600, e612, (by have h := (n610.ne rfl (n609.ne rfl n607.at_)); rw [hmK] at h; simpa using h), e613, e614, n610.at_, (by have h := O611; rw [hmK] at h; simpa using h), z604, by omega, (by rw [fewM_take h26x, ← hfkI14]; unfold stepM; rw [if_pos (by have h := hlfI351; rw [List.take_of_length_le (by omega)] at h; rw [c444] at h; have h2 := h.symm; rw [Bool.or_eq_false_iff] at h2; rw [h2.1, h2.2]; rfl)])⟩)
    ·refine wp_cond_true ((n443.at_).trans (congrArg Value.bool (c444))) ?_
     refine wp_exit ?_
     refine th_x ?_
     refine ib_x ?_
     refine th_n (hK24 _ _ ?_)
     refine wp_region_lit ?_
     refine sv n443.ok rfl (wn _ rfl) rfl (o_add (r := ((i + 1 : Nat) : Int)) (n443.ne rfl (n363.ne rfl s14I351)) ev_const (by omega) (by omega)) (fun an615 n615 => ?_)
     refine sv n615.ok rfl (wn _ rfl) rfl (o_mv n615.at_) (fun an616 n616 => ?_)
     refine wpList_nil ?_
     have e617 := n616.ne rfl (n615.ne rfl (n443.ne rfl (n363.ne rfl s2I351)))
     have e618 := n616.ne rfl (n615.ne rfl (n443.ne rfl (n363.ne rfl s3I351)))
     have e619 := n616.ne rfl (n615.ne rfl (n443.ne rfl (n363.ne rfl s12I351)))
     have e620 := n616.ne rfl (n615.ne rfl (n443.ne rfl (n363.ne rfl s13I351)))
     exact th_n (hKI14 _ _ _ (by omega) ⟨i + 1, K, oa, oc, rfl, n616.ok, GI351, e617, e618, e619, e620, n616.at_, orI351, zbaseI351, by omega, (by rw [fewM_take h26x, ← hfkI14]; unfold stepM; rw [if_neg (by have h := hlfI351; rw [List.take_of_length_le (by omega)] at h; rw [c444] at h; have h2 := h.symm; rw [Bool.or_eq_true] at h2; intro h3; rw [Bool.and_eq_true, Bool.not_eq_true', Bool.not_eq_true'] at h3; rcases h2 with h2 | h2 <;> simp [h2] at h3)])⟩)
 ·refine wp_cond_false ((n21.at_).trans (congrArg Value.bool (decide_eq_false c23))) ?_
  refine wp_exit ?_
  refine th_x ?_
  refine th_x ?_
  refine ib_x ?_
  refine th_n (hK9 _ _ ?_)
  refine wp_seq_k (fun K621 hK621 => ?_)
  refine wp_region_lit ?_
  refine sv n21.ok rfl (wn _ rfl) rfl (o_mv (n21.ne rfl s3I14)) (fun an622 n622 => ?_)
  refine sv n622.ok rfl (wn _ rfl) rfl (o_as n622.at_) (fun an623 n623 => ?_)
  refine wpList_nil ?_
  refine th_n (hK621 _ _ ?_)
  refine wp_ret ?_
  exact ret1 n623.ok rfl (n623.at_) ⟨oa, oc, by rw [hfkI14, List.take_of_length_le (by omega)], by have h := orI14; rw [hfkI14, List.take_of_length_le (by omega), z1] at h; exact h, GI14⟩
set_option maxHeartbeats 8000000 in
set_option maxRecDepth 100000 in
theorem rnarrowed_any (L : List PtM) (U : Nat → Bool) (va : Option Addr) (vc : Nat) (hl : L.length ≤ 1000) (hX : ∀ x ∈ L, OkX x.X) (w : World) (hv : RdA encDoc 592 w va L) :
  Calls Tryz.prog 12 #[.slice va L.length vc, .agg (pArr U)] w fun e w' => ∃ (a : Option Addr) (c : Nat), e = .returned (.slice a (fewM (L.map (narM U))).length c) ∧ w'.ownsRow w.heap.size 51 592 (.slice a (fewM (L.map (narM U))).length c) (fewM (L.map (narM U))).length (flatE encDoc (fewM (L.map (narM U)))) ∧ Gr w w' := by
 refine enter (N := 27) Tryz.func12 rfl rfl rfl (fun a0 ok0 h0 => ?_)
 have e0_0 : a0.eval (.tmp 0) = .slice va L.length vc := h0 0 _ rfl
 have e0_1 : a0.eval (.tmp 1) = .agg (pArr U) := h0 1 _ rfl
 clear h0
 have G0 := Gr.refl w
 obtain ⟨base, z1⟩ : ∃ n, n = w.heap.size := ⟨_, rfl⟩
 have l2 : w.heap.size ≤ base := by rw [z1]; exact G0.size
 have z3 : base ≤ w.heap.size := Nat.le_of_eq z1
 have O4 := World.ownsRow_nil w base 51 592
 refine wp_seq_k (fun K5 hK5 => ?_)
 refine wp_region_lit ?_
 refine sal (cs := pArr U) ok0 rfl (wn _ rfl) rfl (o_box e0_1) (fun an6 w8 b7 W9 n6 => ?_)
 have G12 := G0.trans W9.gr
 have z13 := Nat.le_trans z3 W9.gr.size
 have O14 := ow_gr O4 W9.gr
 refine sv n6.ok rfl (wn _ rfl) rfl (o_as ev_const) (fun an15 n15 => ?_)
 refine wpList_nil ?_
 refine th_n (hK5 _ _ ?_)
 refine wp_seq_k (fun K16 hK16 => ?_)
 refine wp_region_lit ?_
 refine sv n15.ok rfl (wn _ rfl) rfl (o_as ev_const) (fun an17 n17 => ?_)
 refine wpList_nil ?_
 refine th_n (hK16 _ _ ?_)
 refine wp_seq_k (fun K18 hK18 => ?_)
 refine wp_seq_k (fun K19 hK19 => ?_)
 refine wp_region_lit ?_
 have e20 := n17.ne rfl (n15.ne rfl (n6.ne rfl e0_0))
 refine sv n17.ok rfl (wn _ rfl) rfl (o_mv e20) (fun an21 n21 => ?_)
 refine sv n21.ok rfl (wn _ rfl) rfl (o_len n21.at_ Tryz.underlying38) (fun an22 n22 => ?_)
 refine sv n22.ok rfl (wn _ rfl) rfl (o_mv ev_const) (fun an23 n23 => ?_)
 refine wpList_nil ?_
 refine th_n (hK19 _ _ ?_)
 refine wp_block ?_
 have e25 := n23.ne rfl (n22.ne rfl (n21.ne rfl (n17.ne rfl (n15.ne rfl n6.at_))))
 have e26 := n23.ne rfl (n22.ne rfl (n21.ne rfl (n17.ne rfl n15.at_)))
 have e27 := n23.ne rfl (n22.ne rfl (n21.ne rfl n17.at_))
 refine lp (fun (nL : Nat) (aL : Act) (wL : World) => ∃ i : Nat, ∃ ra : Option Addr, ∃ rc : Nat, nL = L.length - i ∧ Ok 27 aL ∧ Gr w wL ∧ (aL.eval (.tmp 3) = .pointer (some ⟨b7, 0, none⟩)) ∧ (aL.eval (.tmp 4) = .slice none 0 0) ∧ (aL.eval (.tmp 5) = .slice ra i rc) ∧ (aL.eval (.tmp 8) = .slice va L.length vc) ∧ (aL.eval (.tmp 9) = .int .i64 ((L.length : Nat) : Int)) ∧ (aL.eval (.tmp 10) = .int .i64 (i : Int)) ∧ (Bk wL b7 (pArr U) 42) ∧ (World.ownsRow wL base 51 592 (.slice ra i rc) (i) ((flatE encDoc ((L.take i).map (narM U))))) ∧ (base ≤ wL.heap.size) ∧ (i ≤ L.length)) _ ⟨0, none, 0, rfl, n23.ok, G12, e25, e26, e27, (n23.ne rfl (n22.ne rfl n21.at_)), (n23.ne rfl n22.at_), n23.at_, W9.bk, O14, z13, by omega⟩ ?_
 rintro m28 aI24 w30 ⟨i, ra, rc, hmI24, okI24, GI24, s3I24, s4I24, s5I24, s8I24, s9I24, s10I24, kb7I24, orI24, zbaseI24, hiI24⟩ KI24 hKI24
 refine wp_seq_k (fun K31 hK31 => ?_)
 refine wp_region_lit ?_
 refine sv okI24 rfl (wn _ rfl) rfl (o_ltI s10I24 s9I24) (fun an32 n32 => ?_)
 refine wpList_nil ?_
 refine th_n (hK31 _ _ ?_)
 refine wp_seq_k (fun K33 hK33 => ?_)
 by_cases c34 : (i : Int) < ((L.length : Nat) : Int)
 ·refine wp_cond_true ((n32.at_).trans (congrArg Value.bool (decide_eq_true c34))) ?_
  refine wp_skip ?_
  refine th_n (hK33 _ _ ?_)
  refine wp_seq_k (fun K35 hK35 => ?_)
  refine wp_block ?_
  refine wp_seq_k (fun K36 hK36 => ?_)
  refine wp_region_lit ?_
  have h37l : i < List.length L := by omega
  obtain ⟨bh37, fh37, h37a, h37b, h37c⟩ := hv (ne_nil_of_lt h37l)
  obtain ⟨xh37, h37x⟩ : ∃ x, (L)[i]? = some x := ⟨_, List.getElem?_eq_getElem h37l⟩
  refine sv n32.ok rfl (wn _ rfl) rfl (o_iaV (i := i) (s := 592) h37a (n32.ne rfl s8I24) (n32.ne rfl s10I24) Tryz.underlying38 (by kernel_rfl) h37l) (fun an38 n38 => ?_)
  refine sv n38.ok rfl (wn _ rfl) rfl (o_ldA (k := fh37 + i * 592) n38.at_ (cs := encDoc xh37) (fun j v hv => (Below.cell GI24 h37b).trans (h37c _ _ h37x j v hv)) Tryz.underlying51 rfl (by kernel_rfl)) (fun an39 n39 => ?_)
  refine sal (cs := (encDoc m0).toArray) n39.ok rfl (wn _ rfl) rfl (o_al (z := .agg ((encDoc m0).toArray)) partM_zero) (fun an40 w42 b41 W43 n40 => ?_)
  have l44 : b7 < b41 := by rw [W43.eq]; exact kb7I24.lt
  have l45 : w.heap.size ≤ b41 := by rw [W43.eq]; exact GI24.size
  have l46 : ∀ k, Value.ownBlock (.slice ra i rc) = some k → k < b41 := fun k e => by rw [W43.eq]; exact ow_in orI24 k e
  have G47 := GI24.trans W43.gr
  have B48 := kb7I24.gr W43.gr
  have z49 := Nat.le_trans zbaseI24 W43.gr.size
  have O50 := ow_gr orI24 W43.gr
  refine ssR rfl (wn _ rfl) (o_stR n40.at_ (n40.ne rfl n39.at_) W43.bk (encDoc_info xh37) (by rw [encDoc_sz, encDoc_sz]) (encDoc_one xh37)) W43.bk (fun w51 u52 u52b => ?_)
  have G53 : Gr w w51 := Below.upd G47 l45 u52
  have B54 := B48.upd u52 (Nat.ne_of_lt l44)
  have z55 : base ≤ w51.heap.size := by rw [u52.size]; exact z49
  have O56 := ow_upd_ne O50 u52 l46
  refine wpList_nil ?_
  refine th_n (hK36 _ _ ?_)
  refine reg_start (N := 27) (m := 9) (by kernel_rfl) (fun R570 => ?_)
  have e58 := n40.ne rfl (n39.ne rfl (n38.ne rfl (n32.ne rfl s5I24)))
  have R571 := R570.snoc (n' := 1) rfl (fun vJ _ => vJ = .slice ra i rc) rfl (fun _ _ _ _ h => h) (fun aS wS pS => by
    exact Does.val (wn _ rfl) (o_mv ((pS.old 5 rfl).trans e58)) (Gr.refl _) rfl rfl)
  have R572 := R571.snoc (n' := 2) rfl (fun vJ _ => vJ = .pointer (some ⟨b41, 0, none⟩)) rfl (fun _ _ _ _ h => h) (fun aS wS pS => by
    exact Does.val (wn _ rfl) (o_fa (z := 512) ((pS.old 7 rfl).trans n40.at_) Tryz.underlying51 rfl (by kernel_rfl) rfl rfl) (Gr.refl _) rfl rfl)
  have R573 := R572.snoc (n' := 3) rfl (fun vJ _ => vJ = .agg (pArr xh37.s)) rfl (fun _ _ _ _ h => h) (fun aS wS pS => by
    have eR57_1 : aS.eval (.tmp 15) = .pointer (some ⟨b41, 0, none⟩) := pS.pre 1 rfl
    exact Does.val (wn _ rfl) (o_ldM0 (y := xh37) (eR57_1) (Bk.gr u52b (gr_drew pS.gr))) (Gr.refl _) rfl rfl)
  have e59 := n40.ne rfl (n39.ne rfl (n38.ne rfl (n32.ne rfl s3I24)))
  have R574 := R573.snoc (n' := 4) rfl (fun vJ _ => vJ = .agg (pArr U)) rfl (fun _ _ _ _ h => h) (fun aS wS pS => by
    exact Does.val (wn _ rfl) (o_ldR ((pS.old 3 rfl).trans e59) (Bk.gr B54 (gr_drew pS.gr)) Tryz.underlying42 rfl (pinfo U)) (Gr.refl _) rfl rfl)
  have R575 := R574.snoc (n' := 5) rfl (fun vJ _ => vJ = .agg (pArr (fun i => xh37.s i && U i))) rfl (fun _ _ _ _ h => h) (fun aS wS pS => by
    have eR57_2 : aS.eval (.tmp 16) = .agg (pArr xh37.s) := pS.pre 2 rfl
    have eR57_3 : aS.eval (.tmp 17) = .agg (pArr U) := pS.pre 3 rfl
    exact Does.call (wn _ rfl) (o_f3 Tryz.func46 rfl rfl rfl (eR57_2) (eR57_3) ev_func) (each_nrw' xh37.s U wS) (by rintro _ w2 ⟨rfl, g⟩; exact ⟨_, rfl, g, rfl⟩) rfl)
  have R576 := R575.snoc (n' := 6) rfl (fun vJ _ => vJ = .pointer (some ⟨b41, 512, none⟩)) rfl (fun _ _ _ _ h => h) (fun aS wS pS => by
    exact Does.val (wn _ rfl) (o_fa (z := 80) ((pS.old 7 rfl).trans n40.at_) Tryz.underlying51 rfl (by kernel_rfl) rfl rfl) (Gr.refl _) rfl rfl)
  have R577 := R576.snoc (n' := 7) rfl (fun vJ _ => vJ = .agg (wArr xh37.X)) rfl (fun _ _ _ _ h => h) (fun aS wS pS => by
    have eR57_5 : aS.eval (.tmp 19) = .pointer (some ⟨b41, 512, none⟩) := pS.pre 5 rfl
    exact Does.val (wn _ rfl) (o_ldM1 (y := xh37) (eR57_5) (Bk.gr u52b (gr_drew pS.gr))) (Gr.refl _) rfl rfl)
  have R578 := R577.snoc (n' := 8) rfl (fun vJ _ => vJ = .agg ((encDoc (narM U xh37)).toArray)) rfl (fun _ _ _ _ h => h) (fun aS wS pS => by
    have eR57_4 : aS.eval (.tmp 18) = .agg (pArr (fun i => xh37.s i && U i)) := pS.pre 4 rfl
    have eR57_6 : aS.eval (.tmp 20) = .agg (wArr xh37.X) := pS.pre 6 rfl
    exact Does.val (wn _ rfl) (o_bd (cells := (encDoc (narM U xh37)).toArray) (vs := [(0, .agg (pArr (fun i => xh37.s i && U i))), (1, .agg (wArr xh37.X))]) (by simp [(eR57_4), (eR57_6)]) (builtM _ _)) (Gr.refl _) rfl rfl)
  have R579 := R578.snoc (n' := 9) rfl (fun vJ wJ => ∃ b60 : Nat, vJ = .slice (some ⟨b60, 0, none⟩) 1 1 ∧ w51.heap.size ≤ b60 ∧ Bk wJ b60 ((encDoc (narM U xh37)).toArray) 51) rfl (fun _ _ _ g ⟨b, h1, h2, h3⟩ => ⟨b, h1, h2, h3.gr g⟩) (fun aS wS pS => by
    have eR57_7 : aS.eval (.tmp 21) = .agg ((encDoc (narM U xh37)).toArray) := pS.pre 7 rfl
    skip
    exact Does.val (wn _ rfl) (o_bsM (y := narM U xh37) (eR57_7)) ((Gr.refl _).alloc _) ⟨_, rfl, pS.gr.size, (New.mk' _ _ _).bk⟩ rfl)
  refine R579.run (k := 2) (L := #[true, true, true, true, true, true, true, true, true, false, false]) (by kernel_rfl) (by kernel_rfl) (by kernel_rfl) n40.ok (by kernel_rfl) (by kernel_rfl) (fun ap62 w63 p62 => ?_)
  have g64 := gr_drew p62.gr
  have G65 := G53.trans g64
  have B66 := B54.gr g64
  have z68 := Nat.le_trans z55 g64.size
  have O69 := ow_gr O56 g64
  obtain ⟨b60, ep62_8, geb60, bkb60⟩ := p62.js 8 rfl
  have ep62_8 : ap62.eval (.tmp 22) = .slice (some ⟨b60, 0, none⟩) 1 1 := ep62_8
  have ep62_0 : ap62.eval (.tmp 14) = .slice ra i rc := p62.js 0 rfl
  obtain ⟨i74, i74a, i74b, i74c, i74d⟩ := info_of (show (Tryz.prog.info? 51).map (fun i => (i.zero, i.size, i.bytes)) = some (some (.agg (encDoc m0).toArray), 592, 1152) by kernel_rfl)
  refine t_app (i := 9) (base := base) (n := i) (xs := (flatE encDoc ((L.take i).map (narM U)))) (m := 1) (news := encDoc (narM U xh37)) (by kernel_rfl) rfl p62.ok (wn _ rfl) rfl Tryz.underlying38 i74a i74b i74c i74d rfl (by omega) ep62_0 O69 ep62_8 rfl ((fun j u hu => by rw [add_n, Nat.zero_add]; exact bkb60.cell _ (by rw [List.getElem?_toArray]; exact hu))) (encDoc_ok.one (narM U xh37)) (by simp only [maxLen]; omega) (by omega) z68 (fun an75 w76 v77 O80 gg81 n75 => ?_)
  obtain ⟨a78, c79, rfl, c79l⟩ := ow_form O80
  have G82 := Gr.grown G65 gg81 (fun k e => Nat.le_trans l2 (ow_lt O69 k e))
  have B83 := bk_grownQ B66 O69 gg81 (by decide)
  have z86 := Nat.le_trans z68 gg81.size
  have O87 : w76.ownsRow base 51 592 (.slice a78 ((i + 1)) c79) ((i + 1)) ((flatE encDoc ((L.take (i + 1)).map (narM U)))) := by have h := O80; rw [← flatE_one (enc := encDoc) (narM U xh37), ← flatE_app, take_n h37x] at h; exact h
  refine t_val (i := 10) (by kernel_rfl) rfl n75.ok rfl (wn _ rfl) rfl (o_as n75.at_) (fun an88 n88 => ?_)
  refine wpAny_done (by kernel_rfl) ?_ _
  refine ib_n ?_
  refine th_n (hK35 _ _ ?_)
  refine wp_region_lit ?_
  have e89 := n88.ne rfl (n75.ne rfl ((p62.old 10 rfl).trans (n40.ne rfl (n39.ne rfl (n38.ne rfl (n32.ne rfl s10I24))))))
  refine sv n88.ok rfl (wn _ rfl) rfl (o_add (r := ((i + 1 : Nat) : Int)) e89 ev_const (by omega) (by omega)) (fun an90 n90 => ?_)
  refine sv n90.ok rfl (wn _ rfl) rfl (o_mv n90.at_) (fun an91 n91 => ?_)
  refine wpList_nil ?_
  have e92 := n91.ne rfl (n90.ne rfl (n88.ne rfl (n75.ne rfl ((p62.old 3 rfl).trans e59))))
  have e93 := n91.ne rfl (n90.ne rfl (n88.ne rfl (n75.ne rfl ((p62.old 4 rfl).trans (n40.ne rfl (n39.ne rfl (n38.ne rfl (n32.ne rfl s4I24))))))))
  have e94 := n91.ne rfl (n90.ne rfl (n88.ne rfl (n75.ne rfl ((p62.old 8 rfl).trans (n40.ne rfl (n39.ne rfl (n38.ne rfl (n32.ne rfl s8I24))))))))
  have e95 := n91.ne rfl (n90.ne rfl (n88.ne rfl (n75.ne rfl ((p62.old 9 rfl).trans (n40.ne rfl (n39.ne rfl (n38.ne rfl (n32.ne rfl s9I24))))))))
  exact th_n (hKI24 _ _ _ (by omega) ⟨i + 1, a78, c79, rfl, n91.ok, G82, e92, e93, (n91.ne rfl (n90.ne rfl n88.at_)), e94, e95, n91.at_, B83, O87, z86, by omega⟩)
 ·refine wp_cond_false ((n32.at_).trans (congrArg Value.bool (decide_eq_false c34))) ?_
  refine wp_exit ?_
  refine th_x ?_
  refine th_x ?_
  refine ib_x ?_
  refine th_n (hK18 _ _ ?_)
  refine wp_seq_k (fun K96 hK96 => ?_)
  refine wp_region_lit ?_
  refine sv n32.ok rfl (wn _ rfl) rfl (o_mv (n32.ne rfl s5I24)) (fun an97 n97 => ?_)
  have e_il : i = (L.map (narM U)).length := by rw [List.length_map]; omega
  have o_l := orI24
  rw [List.take_of_length_le (show L.length ≤ i by omega)] at o_l
  refine sc n97.ok rfl (wn _ rfl) rfl (o_f1 Tryz.func15 rfl rfl rfl n97.at_) ((by rw [e_il]; exact rfew_any (L.map (narM U)) ra rc (by rw [List.length_map]; exact hl) (fun x hx => by obtain ⟨y, hy, rfl⟩ := List.mem_map.1 hx; exact hX y hy) w30 (RdA.own encDoc_ok (by rw [e_il] at o_l; exact o_l) rfl))) ?_
  rintro _ w99 ⟨fa, fc, rfl, ho, g100⟩
  refine ⟨_, rfl, fun an98 n98 => ?_⟩
  have G101 := GI24.trans g100
  refine sv n98.ok rfl (wn _ rfl) rfl (o_as n98.at_) (fun an105 n105 => ?_)
  refine wpList_nil ?_
  refine th_n (hK96 _ _ ?_)
  refine wp_ret ?_
  exact ret1 n105.ok rfl (n105.at_) ⟨fa, fc, rfl, ow_lessP (by exact ho) GI24.size, G101⟩
end Go.Proofs.YtbpkfkljeibjoaaGreat
/- The contracts of slices.Grow at nil and of slices.Concat, over parts. -/
namespace Go.Proofs.YtbpkfkljeibjoaaGreat
open Go.RowKit Rm Gx
theorem ccm_info : (Tryz.prog.info? 51).map (fun i => (i.zero, i.size, i.bytes)) = some (some (.agg (encDoc m0).toArray), 592, 1152) := by kernel_rfl
theorem own_formM {w : World} {base : Nat} {e : TypeId} {s n : Nat} {v : Value} {xs : List Value} (h : w.ownsRow base e s v n xs) : ∃ a c, v = .slice a n c ∧ n ≤ c := by
  rcases h.2 with ⟨rfl, rfl⟩ | ⟨g, cap, cur, rfl, _, _, hn, _⟩
  · exact ⟨none, 0, rfl, Nat.le_refl _⟩
  · exact ⟨_, cap, rfl, hn⟩
def RoomM (w w' : World) (v : Value) : Prop := Gr w w' ∧ w'.ownsRow w.heap.size 51 592 v 0 []
set_option maxHeartbeats 1000000 in
set_option maxRecDepth 100000 in
theorem growM_nil (n : Nat) (w : World) (hn : n ≤ 1000) :
    Calls Tryz.prog 52 #[.slice none 0 0, .int .i64 (n : Int)] w fun e w' => ∃ v, e = .returned v ∧ RoomM w w' v := by
  obtain ⟨i0, hi0, hz0, hz1, hz2⟩ := info_parts ccm_info
  by_cases h0 : n = 0
  · subst h0
    go_enter Tryz.func52, Tryz.ntmps52
    go_wp2
    go_ret
    exact ⟨_, rfl, Gr.refl _, World.ownsRow_nil _ _ _ _⟩
  · have hold : (Builtin.firstCells i0.size 0 (.slice none 0 0)).run Tryz.prog w.drew = .ok ([] : List Value).toArray w.drew := run_firstCells_none w.drew i0.size 0 0 0
    have hrz : ∀ ty, (Builtin.append_ #[38, 3] ty #[.slice none 0 0, .int .i64 (n : Int)]).run Tryz.prog w = _ := fun ty =>
      Lib.run_append_grow_zeros w 38 3 ty 51 i0 _ .i64 .i64 Tryz.underlying38 Tryz.underlying3 hi0 hz0 none 0 0 [] hold n (by omega) (by rw [hz1]; omega) (by omega) (by omega)
        (by rw [hz2]; omega) (by rw [hz2]; exact growslice_fits (by omega) (by omega))
    have HRZ := Lib.hid hrz
    have hGn : 0 + n ≤ grownCap w (0 + n) 0 51 := grownCap_ge w _ _ _
    have hGm : grownCap w (0 + n) 0 51 ≤ maxLen := grownCap_le_maxLen w (0 + n) 0 51 (by unfold maxLen; omega)
    rw [Nat.zero_add] at hGn hGm
    have h1 : (0 : Int) < (n : Int) := by omega
    have h2 : ¬ ((n : Int) < 0) := by omega
    clear hold hrz hz0 hi0
    go_enter Tryz.func52, Tryz.ntmps52
    go_wp2_with (at_builtin; refine Lib.wpList_append_run _ rfl _ _ _ _ rfl _ _ rfl rfl _ _ (HRZ.out _) ?_)
    go_ret
    refine ⟨_, rfl, ((Gr.refl w).drew).alloc _, ?_⟩
    have hb : w.heap.size ≤ w.drew.heap.size := Nat.le_refl _
    refine World.ownsRow_made (base := w.heap.size) (e := 51) (size := 592) w.drew _ _ hb hGm ?_
    simp only [Array.size_append, size_zeroCells]
    show n * 592 + (grownCap w n 0 51 - n) * 592 = grownCap w n 0 51 * 592
    omega
def SrcM (w : World) (bb : Nat) (X : List (Nat × List Value)) : Prop :=
  bb < w.heap.size ∧ ∀ i p, X[i]? = some p → ∃ v, w.cell? ⟨bb, i, none⟩ = some v ∧ RdC 592 w v p.1 p.2
def sumM (X : List (Nat × List Value)) : Nat := (X.map (·.1)).sum
def catM (X : List (Nat × List Value)) : List Value := (X.map (·.2)).flatten
theorem sumM_take {X : List (Nat × List Value)} {k : Nat} {p : Nat × List Value} (h : X[k]? = some p) : sumM (X.take (k + 1)) = sumM (X.take k) + p.1 := by
  obtain ⟨hk, e⟩ := List.getElem?_eq_some_iff.1 h
  rw [List.take_succ_eq_append_getElem hk, e]
  simp [sumM]
theorem catM_take {X : List (Nat × List Value)} {k : Nat} {p : Nat × List Value} (h : X[k]? = some p) : catM (X.take (k + 1)) = catM (X.take k) ++ p.2 := by
  obtain ⟨hk, e⟩ := List.getElem?_eq_some_iff.1 h
  rw [List.take_succ_eq_append_getElem hk, e]
  simp [catM]
theorem sumM_app (a b : List (Nat × List Value)) : sumM (a ++ b) = sumM a + sumM b := by simp [sumM]
theorem sumM_le (X : List (Nat × List Value)) (k : Nat) : sumM (X.take k) ≤ sumM X := by
  have h := sumM_app (X.take k) (X.drop k)
  rw [List.take_append_drop] at h
  omega
set_option maxHeartbeats 2000000 in
set_option maxRecDepth 100000 in
theorem concatM (X : List (Nat × List Value)) (bb cap : Nat) (w : World) (hX : SrcM w bb X) (hs : sumM X ≤ 1000) (hl : X.length ≤ 10) :
    Calls Tryz.prog 16 #[.slice (some ⟨bb, 0, none⟩) X.length cap] w fun e w' => ∃ v, e = .returned v ∧ Gr w w' ∧ w'.ownsRow w.heap.size 51 592 v (sumM X) (catM X) := by
  obtain ⟨i0, hi0, hz0, hz1, hz2⟩ := info_parts ccm_info
  have HX := Lib.hid hX
  have HSL := Lib.hid (sumM_le X)
  have hl' : (X.length : Int) ≤ 10 := by omega
  have hbb := hX.1
  clear hX
  go_enter Tryz.func16, Tryz.ntmps16
  go_wp2
  go_loop [3, 11] (fun a i => ∃ k : Nat, k ≤ X.length ∧ i = .int .i64 k ∧ a = .int .i64 (sumM (X.take k) : Nat)) (fun _ i => X.length - (intOf i).toNat)
  case atStart => exact ⟨0, by omega, rfl, rfl⟩
  case round =>
    obtain ⟨k, hk, rfl, rfl⟩ := hrel
    by_cases hlt : k < X.length
    · obtain ⟨p, hp⟩ : ∃ p, X[k]? = some p := ⟨_, List.getElem?_eq_getElem hlt⟩
      obtain ⟨v0, c1, pl, p1, hv0⟩ := HX.out.2 k p hp
      have HS := Lib.hid (sumM_take hp)
      have hs1 := HSL.out (k + 1)
      have hs2 : sumM (X.take k) + p.1 ≤ 1000 := by rw [← sumM_take hp]; omega
      have hk10 : (k : Int) < 10 := by omega
      obtain ⟨ao, c, rfl⟩ : ∃ ao c, v0 = .slice ao p.1 c := by
        rcases hv0 with ⟨rfl, z⟩ | ⟨ad, c, rfl, _⟩
        · exact ⟨none, 0, by rw [z]⟩
        · exact ⟨some ad, c, rfl⟩
      clear hp hs1 hv0
      generalize sumM (X.take k) = sk at *
      have hs3 : (sk : Int) + (p.1 : Int) ≤ 1000 := by omega
      have hs4 : ¬ ((sk : Int) + (p.1 : Int) < 0) := by omega
      go_wp2_with fail
      go_round
      case rel => exact ⟨k + 1, by omega, by go_num, by rw [HS.out]; simp⟩
      case measure => simp [intOf]; omega
    · obtain rfl : k = X.length := by omega
      rw [List.take_length]
      go_wp2_with fail
      refine (growM_nil (sumM X) _ hs).mono ?_
      rintro e w1 ⟨v, rfl, hg1, ho1⟩
      have HO1 := Lib.hid ho1
      have HG1 := Lib.hid hg1
      clear hg1 ho1
      go_wp2_with fail
      go_loopw [6, 27] (fun v i wr => ∃ k : Nat, k ≤ X.length ∧ i = .int .i64 k ∧ Gr w wr ∧ wr.ownsRow w.heap.size 51 592 v (sumM (X.take k)) (catM (X.take k))) (fun _ i _ => X.length - (intOf i).toNat)
      case atStart => exact ⟨0, by omega, rfl, HG1.out, HO1.out⟩
      case round =>
        obtain ⟨k, hk, rfl, hg, hown⟩ := hrel
        by_cases hlt : k < X.length
        · obtain ⟨p, hp⟩ : ∃ p, X[k]? = some p := ⟨_, List.getElem?_eq_getElem hlt⟩
          obtain ⟨v0, c1, hv0⟩ := HX.out.2 k p hp
          obtain ⟨pl, p1, ⟨rfl, z1⟩ | ⟨ad, c, rfl, hnc, hb, hc⟩⟩ := hv0.gr hg
          · rw [← hg.cells.1 bb _ hbb] at c1
            have HS := Lib.hid (sumM_take hp)
            have HC := Lib.hid (catM_take hp)
            have z2 : p.2 = [] := List.eq_nil_of_length_eq_zero (by simp [pl, z1])
            rw [z1] at HS
            rw [z2] at HC
            have hk10 : (k : Int) < 10 := by omega
            have HO := Lib.hid hown
            obtain ⟨va, vc, rfl, hvc⟩ := own_formM hown
            clear hp hown z1 z2 hv0 pl p1
            go_wp2_with (at_builtin; refine wpList_append_own_none rfl (.tmp 31) (.tmp 32) 38 rfl w.heap.size 51 i0 592 Tryz.underlying38 hi0 _ _ _ rfl HO.out rfl ?_)
            go_roundw
            case rel => exact ⟨k + 1, by omega, by go_num, hg, by rw [HS.out, HC.out, List.append_nil]; exact HO.out⟩
            case measure => simp [intOf]; omega
          · rw [← hg.cells.1 bb _ hbb] at c1
            have HP := Lib.hid hc
            have HS := Lib.hid (sumM_take hp)
            have HC := Lib.hid (catM_take hp)
            have hs1 := HSL.out (k + 1)
            have hs2 : sumM (X.take k) + p.1 ≤ 1000 := by rw [← sumM_take hp]; omega
            have hk10 : (k : Int) < 10 := by omega
            have HPL := Lib.hid pl
            have HP1 := Lib.hid p1
            have HO := Lib.hid hown
            obtain ⟨va, vc, rfl, hvc⟩ := own_formM hown
            clear hp hs1 hc pl p1 hown hv0 hb
            generalize sumM (X.take k) = sk at *
            go_wp2_with (at_builtin; refine wpList_append_own _ rfl (.tmp 31) (.tmp 32) 38 rfl w.heap.size 51 i0 _ 592 1152 Tryz.underlying38 hi0 hz0 hz1 hz2 rfl (by omega) _ _ _ rfl HO.out ad p.1 c p.2 rfl HPL.out HP.out HP1.out (by simp only [maxLen]; omega) (by omega) hg.le ?_; intro v1 w2 hown hg1 _)
            go_roundw
            case rel => exact ⟨k + 1, by omega, by go_num, hg.grown hg1 (fun k hk => (HO.out.lt k hk).1), by rw [HS.out, HC.out]; exact hown⟩
            case measure => simp [intOf]; omega
        · obtain rfl : k = X.length := by omega
          rw [List.take_length] at hown
          go_wp2_with fail
          go_ret
          exact ⟨_, rfl, hg, hown⟩
end Go.Proofs.YtbpkfkljeibjoaaGreat
/- part.Narrow. -/
namespace Go.Proofs.YtbpkfkljeibjoaaGreat
open Go.RowKit Rm Gx
set_option maxHeartbeats 8000000 in
set_option maxRecDepth 100000 in
theorem pnarrow_ok (K : List PtX) (va : Option Addr) (vc : Nat) (fv : Value) (U : Nat → Nat) (hl : K.length ≤ 30) (w : World) (hv : RdA encP 3 w va K) (hm : MeansP w K) (hf : FS w fv U) :
  Calls Tryz.prog 7 #[.slice va K.length vc, fv] w fun e w' => ∃ R : List PtX, R.map PtX.m = K.map (nar U) ∧ ∃ v, e = .returned (.tuple #[v, .int .i64 0]) ∧ w'.ownsRow w.heap.size 35 3 v (fewP R).length (flatE encP (fewP R)) ∧ OwnsP w.heap.size w' (fewP R) ∧ Gr w w' := by
 refine enter (N := 22) Tryz.func7 rfl rfl rfl (fun a0 ok0 h0 => ?_)
 have e0_0 : a0.eval (.tmp 0) = .slice va K.length vc := h0 0 _ rfl
 have e0_1 : a0.eval (.tmp 1) = fv := h0 1 _ rfl
 clear h0
 have G0 := Gr.refl w
 refine wp_seq_k (fun K1 hK1 => ?_)
 refine wp_region_lit ?_
 refine sv ok0 rfl (wn _ rfl) rfl (o_as ev_const) (fun an2 n2 => ?_)
 refine sv n2.ok rfl (wn _ rfl) rfl (o_as ev_const) (fun an3 n3 => ?_)
 refine wpList_nil ?_
 refine th_n (hK1 _ _ ?_)
 refine wp_seq_k (fun K4 hK4 => ?_)
 refine wp_seq_k (fun K5 hK5 => ?_)
 refine wp_region_lit ?_
 refine sv n3.ok rfl (wn _ rfl) rfl (o_mv (n3.ne rfl (n2.ne rfl e0_0))) (fun an6 n6 => ?_)
 refine sc n6.ok rfl (wn _ rfl) rfl (o_f1 Tryz.func39 rfl rfl rfl n6.at_) (pcheck_ok K va vc w hl (hv.gr G0) (hm.gr G0)) ?_
 rintro _ w8 ⟨rfl, g9⟩
 refine ⟨_, rfl, fun an7 n7 => ?_⟩
 have G10 := G0.trans g9
 refine sv n7.ok rfl (wn _ rfl) rfl (o_as n7.at_) (fun an11 n11 => ?_)
 refine wpList_nil ?_
 refine th_n (hK5 _ _ ?_)
 refine wp_seq_k (fun K12 hK12 => ?_)
 refine wp_region_lit ?_
 refine sv n11.ok rfl (wn _ rfl) rfl (o_mv n11.at_) (fun an13 n13 => ?_)
 refine sv n13.ok rfl (wn _ rfl) rfl (o_neq (b := false) n13.at_ ev_const (by decide)) (fun an14 n14 => ?_)
 refine wpList_nil ?_
 refine th_n (hK12 _ _ ?_)
 refine wp_cond_false (n14.at_) ?_
 refine wp_skip ?_
 refine th_n (hK4 _ _ ?_)
 refine wp_seq_k (fun K15 hK15 => ?_)
 refine wp_seq_k (fun K16 hK16 => ?_)
 refine wp_region_lit ?_
 have e17 := n14.ne rfl (n13.ne rfl (n11.ne rfl (n7.ne rfl (n6.ne rfl (n3.ne rfl (n2.ne rfl e0_1))))))
 refine sv n14.ok rfl (wn _ rfl) rfl (o_mv e17) (fun an18 n18 => ?_)
 refine sc n18.ok rfl (wn _ rfl) rfl (o_f1 Tryz.func40 rfl rfl rfl n18.at_) (fcheck_ok (hf.gr G10)) ?_
 rintro _ w20 ⟨rfl, g21⟩
 refine ⟨_, rfl, fun an19 n19 => ?_⟩
 have G22 := G10.trans g21
 refine sv n19.ok rfl (wn _ rfl) rfl (o_as n19.at_) (fun an23 n23 => ?_)
 refine wpList_nil ?_
 refine th_n (hK16 _ _ ?_)
 refine wp_seq_k (fun K24 hK24 => ?_)
 refine wp_region_lit ?_
 refine sv n23.ok rfl (wn _ rfl) rfl (o_mv n23.at_) (fun an25 n25 => ?_)
 refine sv n25.ok rfl (wn _ rfl) rfl (o_neq (b := false) n25.at_ ev_const (by decide)) (fun an26 n26 => ?_)
 refine wpList_nil ?_
 refine th_n (hK24 _ _ ?_)
 refine wp_cond_false (n26.at_) ?_
 refine wp_skip ?_
 refine th_n (hK15 _ _ ?_)
 refine wp_seq_k (fun K27 hK27 => ?_)
 refine wp_region_lit ?_
 have e28 := n26.ne rfl (n25.ne rfl (n23.ne rfl (n19.ne rfl (n18.ne rfl (n14.ne rfl (n13.ne rfl (n11.ne rfl (n7.ne rfl (n6.ne rfl (n3.ne rfl (n2.ne rfl e0_0)))))))))))
 refine sv n26.ok rfl (wn _ rfl) rfl (o_mv e28) (fun an29 n29 => ?_)
 have e30 := n29.ne rfl (n26.ne rfl (n25.ne rfl (n23.ne rfl (n19.ne rfl (n18.ne rfl e17)))))
 refine sv n29.ok rfl (wn _ rfl) rfl (o_mv e30) (fun an31 n31 => ?_)
 have hGn := G22.size
 refine sc n31.ok rfl (wn _ rfl) rfl (o_f2 Tryz.func38 rfl rfl rfl (n31.ne rfl n29.at_) n31.at_) (narrow_any K va vc _ U (by omega) w20 (hv.gr G22) (hm.gr G22) (hf.gr G22)) ?_
 rintro _ w33 ⟨R, v1, rfl, hR, hO1, hP1, g34⟩
 obtain ⟨ra, rc, rfl, hrc⟩ := ow_form hO1
 have hRl : R.length = (K).length := by have := congrArg List.length hR; simpa using this
 refine ⟨_, rfl, fun an32 n32 => ?_⟩
 have G35 := G22.trans g34
 refine sc n32.ok rfl (wn _ rfl) rfl (o_f1 Tryz.func37 rfl rfl rfl n32.at_) (reduce_any R ra rc (by omega) w33 (RdA.own encP_ok hO1 rfl) (OwnsP.mean hP1)) ?_
 rintro _ w37 ⟨v2, rfl, hO2, g38⟩
 obtain ⟨qa, qc, rfl, hqc⟩ := ow_form hO2
 refine ⟨_, rfl, fun an36 n36 => ?_⟩
 have G39 := G35.trans g38
 have F41 := hP1.tk (tk_gr g38)
 refine sv n36.ok rfl (wn _ rfl) rfl (o_as n36.at_) (fun an42 n42 => ?_)
 refine sv n42.ok rfl (wn _ rfl) rfl (o_as ev_const) (fun an43 n43 => ?_)
 refine wpList_nil ?_
 refine th_n (hK27 _ _ ?_)
 refine wp_ret ?_
 exact ret2 n43.ok rfl ((n43.ne rfl n42.at_)) (n43.at_) ⟨R, hR, _, rfl, (ow_lessP hO2 G35.size), (fun x hx => (F41 x (fewP_mem hx)).base hGn), G39⟩
set_option maxHeartbeats 8000000 in
set_option maxRecDepth 100000 in
theorem pnarrow_bad (K : List PtI) (va : Option Addr) (vc : Nat) (fv : Value) (hl : K.length ≤ 9223372036854775807) (hne : ¬ chkP K = 0) (w : World) (hv : RdA encR 3 w va K) (hm : MeansI w K) :
  Calls Tryz.prog 7 #[.slice va K.length vc, fv] w fun e w' => e = .returned (.tuple #[.slice none 0 0, .int .i64 (chkP K)]) ∧ Gr w w' := by
 refine enter (N := 22) Tryz.func7 rfl rfl rfl (fun a0 ok0 h0 => ?_)
 have e0_0 : a0.eval (.tmp 0) = .slice va K.length vc := h0 0 _ rfl
 clear h0
 have G0 := Gr.refl w
 refine wp_seq_k (fun K1 hK1 => ?_)
 refine wp_region_lit ?_
 refine sv ok0 rfl (wn _ rfl) rfl (o_as ev_const) (fun an2 n2 => ?_)
 refine sv n2.ok rfl (wn _ rfl) rfl (o_as ev_const) (fun an3 n3 => ?_)
 refine wpList_nil ?_
 refine th_n (hK1 _ _ ?_)
 refine wp_seq_k (fun K4 hK4 => ?_)
 refine wp_seq_k (fun K5 hK5 => ?_)
 refine wp_region_lit ?_
 refine sv n3.ok rfl (wn _ rfl) rfl (o_mv (n3.ne rfl (n2.ne rfl e0_0))) (fun an6 n6 => ?_)
 refine sc n6.ok rfl (wn _ rfl) rfl (o_f1 Tryz.func39 rfl rfl rfl n6.at_) (pcheck_any K va vc w hl (hv.gr G0) (hm.gr G0)) ?_
 rintro _ w8 ⟨rfl, g9⟩
 refine ⟨_, rfl, fun an7 n7 => ?_⟩
 have G10 := G0.trans g9
 refine sv n7.ok rfl (wn _ rfl) rfl (o_as n7.at_) (fun an11 n11 => ?_)
 refine wpList_nil ?_
 refine th_n (hK5 _ _ ?_)
 refine wp_seq_k (fun K12 hK12 => ?_)
 refine wp_region_lit ?_
 refine sv n11.ok rfl (wn _ rfl) rfl (o_mv n11.at_) (fun an13 n13 => ?_)
 refine sv n13.ok rfl (wn _ rfl) rfl (o_neq (b := true) n13.at_ ev_const (by simp [show ¬ (chkP K) = 0 from hne])) (fun an14 n14 => ?_)
 refine wpList_nil ?_
 refine th_n (hK12 _ _ ?_)
 refine wp_cond_true (n14.at_) ?_
 refine wp_seq_k (fun K15 hK15 => ?_)
 refine wp_region_lit ?_
 refine sv n14.ok rfl (wn _ rfl) rfl (o_mv (n14.ne rfl (n13.ne rfl n11.at_))) (fun an16 n16 => ?_)
 refine sv n16.ok rfl (wn _ rfl) rfl (o_as ev_const) (fun an17 n17 => ?_)
 refine sv n17.ok rfl (wn _ rfl) rfl (o_as (n17.ne rfl n16.at_)) (fun an18 n18 => ?_)
 refine wpList_nil ?_
 refine th_n (hK15 _ _ ?_)
 refine wp_ret ?_
 refine th_r ?_
 exact ret2 n18.ok rfl ((n18.ne rfl n17.at_)) (n18.at_) ⟨rfl, G10⟩
set_option maxHeartbeats 8000000 in
set_option maxRecDepth 100000 in
theorem pnarrow_badF (K : List PtX) (va : Option Addr) (vc : Nat) (fv : Value) (l : List BoxI) (hl : K.length ≤ 30) (hne : ¬ chkF l = 0) (w : World) (hv : RdA encP 3 w va K) (hm : MeansP w K) (hf : RdF w fv l) :
  Calls Tryz.prog 7 #[.slice va K.length vc, fv] w fun e w' => e = .returned (.tuple #[.slice none 0 0, .int .i64 (chkF l)]) ∧ Gr w w' := by
 refine enter (N := 22) Tryz.func7 rfl rfl rfl (fun a0 ok0 h0 => ?_)
 have e0_0 : a0.eval (.tmp 0) = .slice va K.length vc := h0 0 _ rfl
 have e0_1 : a0.eval (.tmp 1) = fv := h0 1 _ rfl
 clear h0
 have G0 := Gr.refl w
 refine wp_seq_k (fun K1 hK1 => ?_)
 refine wp_region_lit ?_
 refine sv ok0 rfl (wn _ rfl) rfl (o_as ev_const) (fun an2 n2 => ?_)
 refine sv n2.ok rfl (wn _ rfl) rfl (o_as ev_const) (fun an3 n3 => ?_)
 refine wpList_nil ?_
 refine th_n (hK1 _ _ ?_)
 refine wp_seq_k (fun K4 hK4 => ?_)
 refine wp_seq_k (fun K5 hK5 => ?_)
 refine wp_region_lit ?_
 refine sv n3.ok rfl (wn _ rfl) rfl (o_mv (n3.ne rfl (n2.ne rfl e0_0))) (fun an6 n6 => ?_)
 refine sc n6.ok rfl (wn _ rfl) rfl (o_f1 Tryz.func39 rfl rfl rfl n6.at_) (pcheck_ok K va vc w hl (hv.gr G0) (hm.gr G0)) ?_
 rintro _ w8 ⟨rfl, g9⟩
 refine ⟨_, rfl, fun an7 n7 => ?_⟩
 have G10 := G0.trans g9
 refine sv n7.ok rfl (wn _ rfl) rfl (o_as n7.at_) (fun an11 n11 => ?_)
 refine wpList_nil ?_
 refine th_n (hK5 _ _ ?_)
 refine wp_seq_k (fun K12 hK12 => ?_)
 refine wp_region_lit ?_
 refine sv n11.ok rfl (wn _ rfl) rfl (o_mv n11.at_) (fun an13 n13 => ?_)
 refine sv n13.ok rfl (wn _ rfl) rfl (o_neq (b := false) n13.at_ ev_const (by decide)) (fun an14 n14 => ?_)
 refine wpList_nil ?_
 refine th_n (hK12 _ _ ?_)
 refine wp_cond_false (n14.at_) ?_
 refine wp_skip ?_
 refine th_n (hK4 _ _ ?_)
 refine wp_seq_k (fun K15 hK15 => ?_)
 refine wp_seq_k (fun K16 hK16 => ?_)
 refine wp_region_lit ?_
 have e17 := n14.ne rfl (n13.ne rfl (n11.ne rfl (n7.ne rfl (n6.ne rfl (n3.ne rfl (n2.ne rfl e0_1))))))
 refine sv n14.ok rfl (wn _ rfl) rfl (o_mv e17) (fun an18 n18 => ?_)
 refine sc n18.ok rfl (wn _ rfl) rfl (o_f1 Tryz.func40 rfl rfl rfl n18.at_) (fcheck_any _ _ w8 (hf.gr G10)) ?_
 rintro _ w20 ⟨rfl, g21⟩
 refine ⟨_, rfl, fun an19 n19 => ?_⟩
 have G22 := G10.trans g21
 refine sv n19.ok rfl (wn _ rfl) rfl (o_as n19.at_) (fun an23 n23 => ?_)
 refine wpList_nil ?_
 refine th_n (hK16 _ _ ?_)
 refine wp_seq_k (fun K24 hK24 => ?_)
 refine wp_region_lit ?_
 refine sv n23.ok rfl (wn _ rfl) rfl (o_mv n23.at_) (fun an25 n25 => ?_)
 refine sv n25.ok rfl (wn _ rfl) rfl (o_neq (b := true) n25.at_ ev_const (by simp [show ¬ (chkF l) = 0 from hne])) (fun an26 n26 => ?_)
 refine wpList_nil ?_
 refine th_n (hK24 _ _ ?_)
 refine wp_cond_true (n26.at_) ?_
 refine wp_seq_k (fun K27 hK27 => ?_)
 refine wp_region_lit ?_
 refine sv n26.ok rfl (wn _ rfl) rfl (o_mv (n26.ne rfl (n25.ne rfl n23.at_))) (fun an28 n28 => ?_)
 refine sv n28.ok rfl (wn _ rfl) rfl (o_as ev_const) (fun an29 n29 => ?_)
 refine sv n29.ok rfl (wn _ rfl) rfl (o_as (n29.ne rfl n28.at_)) (fun an30 n30 => ?_)
 refine wpList_nil ?_
 refine th_n (hK27 _ _ ?_)
 refine wp_ret ?_
 refine th_r ?_
 exact ret2 n30.ok rfl ((n30.ne rfl n29.at_)) (n30.at_) ⟨rfl, G22⟩
end Go.Proofs.YtbpkfkljeibjoaaGreat
/- reedref.SayParts where it is so; slices.Concat at the document's parts; the reduced lists. -/
namespace Rm
open Go Go.RowKit Gx
def dm (p : (Nat → Nat) × DS) : PtM := ⟨ptF p.1, xOf (memB (formV p.2) (formM p.2))⟩
theorem eqP_self (f : Nat → Bool) : eqP f f = true := eqP_iff.2 fun _ _ => rfl
theorem any_same {α : Type} {p q : α → Bool} : ∀ {K : List α}, (∀ y ∈ K, p y = q y) → K.any p = K.any q
  | [], _ => rfl
  | a :: K, h => by
    rw [List.any_cons, List.any_cons, h a (List.mem_cons_self ..), any_same fun y hy => h y (List.mem_cons_of_mem _ hy)]
end Rm
namespace Go.Proofs.YtbpkfkljeibjoaaGreat
open Go.RowKit Rm Gx
theorem stepM_d {K : List PtX} {x : PtX} (hK : ∀ y ∈ K, OkT y.T) (hx : OkT x.T) : (stepP K x).map PtX.d = stepM (K.map PtX.d) x.d := by
  have h1 : ((K.map PtX.d).any fun y => undM x.d y) = K.any fun y => underP x y := by
    rw [List.any_map]
    refine any_same fun y hy => ?_
    show undM x.d y.d = underP x y
    exact undM_d x y hx (hK y hy)
  have h2 : ((K.map PtX.d).filter fun y => !undM y x.d) = (K.filter fun y => !underP y x).map PtX.d := by
    rw [List.filter_map]
    refine congrArg (List.map PtX.d) (List.filter_congr fun y hy => ?_)
    show (!undM y.d x.d) = !underP y x
    exact congrArg Bool.not (undM_d y x (hK y hy) hx)
  unfold stepP stepM
  rw [emptyM_d x hx, h1, h2]
  split
  · rw [List.map_append]; rfl
  · rfl
theorem stepP_okT {K : List PtX} {x : PtX} (hK : ∀ y ∈ K, OkT y.T) (hx : OkT x.T) : ∀ y ∈ stepP K x, OkT y.T := fun y hy => by
  unfold stepP at hy
  split at hy
  · rcases List.mem_append.1 hy with hy | hy
    · exact hK y (List.mem_filter.1 hy).1
    · rw [List.mem_singleton.1 hy]; exact hx
  · exact hK y hy
theorem fewM_d {L : List PtX} (h : ∀ y ∈ L, OkT y.T) : (fewP L).map PtX.d = fewM (L.map PtX.d) := by
  have key : ∀ (L K : List PtX), (∀ y ∈ L, OkT y.T) → (∀ y ∈ K, OkT y.T) → (L.foldl stepP K).map PtX.d = (L.map PtX.d).foldl stepM (K.map PtX.d) := by
    intro L
    induction L with
    | nil => intro K _ _; simp only [List.map_nil, List.foldl_nil]
    | cons a L ih =>
      intro K hL hK
      have ha := hL a (List.mem_cons_self ..)
      rw [List.foldl_cons, List.map_cons, List.foldl_cons, ih _ (fun y hy => hL y (List.mem_cons_of_mem _ hy)) (stepP_okT hK ha), stepM_d hK ha]
  have := key L [] h (fun y hy => by cases hy)
  unfold fewP fewM
  rw [this, List.map_nil]
theorem dm_full (x : PtX) : dm (nar fullT x) = x.d := by
  show PtM.mk _ _ = PtM.mk _ _
  congr 1
  funext i
  show (x.T (i / 32) &&& fullT (i / 32)).testBit (i % 32) = (x.T (i / 32)).testBit (i % 32)
  have h : (fullT (i / 32)).testBit (i % 32) = true := by
    unfold fullT
    rw [show (4294967295 : Nat) = 2 ^ 32 - 1 from rfl, Nat.testBit_two_pow_sub_one]
    have := Nat.mod_lt i (show 0 < 32 by omega)
    simpa using this
  rw [Nat.testBit_and, h, Bool.and_true]
theorem dm_nar (U : Nat → Nat) (x : PtX) : dm (nar U x) = narM (ptF U) x.d := by
  show PtM.mk _ _ = PtM.mk _ _
  congr 1
  funext i
  show (x.T (i / 32) &&& U (i / 32)).testBit (i % 32) = ((x.T (i / 32)).testBit (i % 32) && (U (i / 32)).testBit (i % 32))
  rw [Nat.testBit_and]
theorem mapd_full {R K : List PtX} (h : R.map PtX.m = K.map (nar fullT)) : R.map PtX.d = K.map PtX.d := by
  have e := congrArg (List.map dm) h
  rw [List.map_map, List.map_map] at e
  have e1 : R.map PtX.d = R.map (dm ∘ PtX.m) := rfl
  rw [e1, e]
  exact List.map_congr_left fun x _ => dm_full x
theorem mapd_nar {R K : List PtX} {U : Nat → Nat} (h : R.map PtX.m = K.map (nar U)) : R.map PtX.d = (K.map PtX.d).map (narM (ptF U)) := by
  have e := congrArg (List.map dm) h
  rw [List.map_map, List.map_map] at e
  have e1 : R.map PtX.d = R.map (dm ∘ PtX.m) := rfl
  rw [e1, e, List.map_map]
  exact List.map_congr_left fun x _ => dm_nar U x
theorem okT_nar {R K : List PtX} {U : Nat → Nat} (h : R.map PtX.m = K.map (nar U)) (hK : ∀ x ∈ K, OkT x.T) : ∀ y ∈ R, OkT y.T := fun y hy => by
  have : y.m ∈ K.map (nar U) := h ▸ List.mem_map_of_mem hy
  obtain ⟨x, hx, e⟩ := List.mem_map.1 this
  have e1 : y.T = fun t => x.T t &&& U t := (congrArg Prod.fst e).symm
  rw [e1]
  exact okT_and (hK x hx)
section
variable {ev : Operand → Value} {w : World} {d : Option Nat} {ty : TypeId} {p : String} {af : Array Edge} {g : Option (Nat × Bool)}
theorem o_ldE0 {x : Operand} {b o : Nat} {y : PtM} (hx : ev x = .pointer (some ⟨b, o + 0, none⟩)) (hc : ∀ j v, (encDoc y)[j]? = some v → w.cell? ⟨b, o + j, none⟩ = some v) : (execOp ev (Oper.mk d (.load 42 x) ty p af g)).run Tryz.prog w = .ok (.value (.agg (pArr y.s))) w := by
  have h := o_ldA (P := Tryz.prog) (ev := ev) (w := w) (d := d) (ty := ty) (p := p) (af := af) (g := g) (k := o + 0) (cs := (pArr y.s).toList) hx (fun j v hv => by rw [Nat.add_zero]; exact hc j v (by have := encDoc_lo y j v hv; rwa [List.getElem?_toArray] at this)) Tryz.underlying42 rfl (by rw [Array.length_toList]; exact pinfo y.s)
  rw [Array.toArray_toList] at h
  exact h
theorem o_ldE1 {x : Operand} {b o : Nat} {y : PtM} (hx : ev x = .pointer (some ⟨b, o + 512, none⟩)) (hc : ∀ j v, (encDoc y)[j]? = some v → w.cell? ⟨b, o + j, none⟩ = some v) : (execOp ev (Oper.mk d (.load 49 x) ty p af g)).run Tryz.prog w = .ok (.value (.agg (wArr y.X))) w := by
  have h := o_ldA (P := Tryz.prog) (ev := ev) (w := w) (d := d) (ty := ty) (p := p) (af := af) (g := g) (k := o + 512) (cs := (wArr y.X).toList) hx (fun j v hv => by rw [Nat.add_assoc]; exact hc (512 + j) v (by have := encDoc_hi y j v hv; rwa [List.getElem?_toArray] at this)) Tryz.underlying49 rfl (by rw [Array.length_toList]; exact dots_sz y.X)
  rw [Array.toArray_toList] at h
  exact h
end
theorem rform_x (x : PtX) (hf : (formM x.D).length ≤ 60) (w : World) :
    Calls Tryz.prog 45 #[.agg (wArr x.d.X)] w fun e w' => ∃ va vn vc ma mn mc, e = .returned (.tuple #[.agg #[.slice va vn vc, .slice ma mn mc], .bool true]) ∧ KnR w' (.agg #[.slice va vn vc, .slice ma mn mc]) (ints (formV x.D)) (pairs (formM x.D)) ∧ Gr w w' := by
  refine (rform_any x.d.X x.d_ok w).mono ?_
  rintro e w' ⟨k, rfl, h, g⟩
  obtain ⟨e1, e2⟩ := form_congr (D := dsX x.d.X) (E := x.D) fun s c i => d_in x s c i
  rw [e1, e2] at h
  obtain ⟨va, vc, ma, mc, rfl⟩ := h.form
  refine ⟨va, _, vc, ma, _, mc, ?_, h.rd, g⟩
  rw [e2, decide_eq_true hf]
theorem concatM2 (K L : List PtM) (va vb : Option Addr) (vc vd b : Nat) (t : TypeId) (w : World) (hl : K.length ≤ 30) (hl' : L.length ≤ 30) (hc : K.length ≤ vc) (hc' : L.length ≤ vd) (hn : va = none → vc = 0) (hn' : vb = none → vd = 0)
    (hv : RdA encDoc 592 w va K) (hv' : RdA encDoc 592 w vb L) (hb : Bk w b #[.slice va K.length vc, .slice vb L.length vd] t) :
    Calls Tryz.prog 16 #[.slice (some ⟨b, 0, none⟩) 2 2] w fun e w' => ∃ a c, e = .returned (.slice a (K ++ L).length c) ∧ RdA encDoc 592 w' a (K ++ L) ∧ Gr w w' := by
  have hS : SrcM w b [(K.length, flatE encDoc K), (L.length, flatE encDoc L)] := by
    refine ⟨hb.lt, fun i p hp => ?_⟩
    match i, hp with
    | 0, hp =>
      simp at hp; subst hp
      exact ⟨_, hb.cell 0 rfl, rdc_of encDoc_ok hv hc hn⟩
    | 1, hp =>
      simp at hp; subst hp
      exact ⟨_, hb.cell 1 rfl, rdc_of encDoc_ok hv' hc' hn'⟩
    | i + 2, hp => simp at hp
  refine (concatM _ b 2 w hS (by simp [sumM]; omega) (by simp)).mono ?_
  rintro e w' ⟨v, rfl, g, h⟩
  have e1 : sumM [(K.length, flatE encDoc K), (L.length, flatE encDoc L)] = (K ++ L).length := by simp [sumM]
  have e2 : catM [(K.length, flatE encDoc K), (L.length, flatE encDoc L)] = flatE encDoc (K ++ L) := by simp [catM, flatE_app]
  rw [e1, e2] at h
  obtain ⟨a, c, rfl, -⟩ := ow_form h
  exact ⟨a, c, rfl, RdA.own encDoc_ok h rfl, g⟩
theorem fsm (D : DS) : (ints (formV D)).length ≤ 100000 ∧ True := ⟨by rw [ints_len]; have := (form_ok D).len; omega, trivial⟩
theorem fsm2 {D : DS} (h : (formM D).length ≤ 60) : (pairs (formM D)).length ≤ 100000 := by unfold pairs; rw [List.length_map]; omega
set_option maxHeartbeats 8000000 in
set_option maxRecDepth 100000 in
theorem rsay_any (F : List PtX) (va vb : Option Addr) (vc vd base : Nat) (hl : F.length ≤ 1000) (w : World) (hv : RdA encP 3 w va F) (hO : OwnsP base w F) (hM : RdA encDoc 592 w vb (F.map PtX.d)) :
  Calls Tryz.prog 11 #[.slice va F.length vc, .slice vb F.length vd] w fun e w' => e = .returned (.bool true) ∧ Gr w w' := by
 refine enter (N := 49) Tryz.func11 rfl rfl rfl (fun a0 ok0 h0 => ?_)
 have e0_0 : a0.eval (.tmp 0) = .slice va F.length vc := h0 0 _ rfl
 have e0_1 : a0.eval (.tmp 1) = .slice vb F.length vd := h0 1 _ rfl
 clear h0
 have G0 := Gr.refl w
 refine wp_seq_k (fun K1 hK1 => ?_)
 refine wp_region_lit ?_
 refine sv ok0 rfl (wn _ rfl) rfl (o_as ev_const) (fun an2 n2 => ?_)
 refine wpList_nil ?_
 refine th_n (hK1 _ _ ?_)
 refine wp_seq_k (fun K3 hK3 => ?_)
 refine wp_seq_k (fun K4 hK4 => ?_)
 refine wp_region_lit ?_
 refine sv n2.ok rfl (wn _ rfl) rfl (o_mv (n2.ne rfl e0_0)) (fun an5 n5 => ?_)
 refine sv n5.ok rfl (wn _ rfl) rfl (o_len n5.at_ Tryz.underlying22) (fun an6 n6 => ?_)
 have e7 := n6.ne rfl (n5.ne rfl (n2.ne rfl e0_1))
 refine sv n6.ok rfl (wn _ rfl) rfl (o_mv e7) (fun an8 n8 => ?_)
 refine sv n8.ok rfl (wn _ rfl) rfl (o_len n8.at_ Tryz.underlying38) (fun an9 n9 => ?_)
 refine sv n9.ok rfl (wn _ rfl) rfl (o_neq (b := false) (n9.ne rfl (n8.ne rfl n6.at_)) n9.at_ (by simp [show ((F.length : Nat) : Int) = ((F.length : Nat) : Int) from rfl])) (fun an10 n10 => ?_)
 refine wpList_nil ?_
 refine th_n (hK4 _ _ ?_)
 refine wp_cond_false (n10.at_) ?_
 refine wp_skip ?_
 refine th_n (hK3 _ _ ?_)
 refine wp_seq_k (fun K11 hK11 => ?_)
 refine wp_seq_k (fun K12 hK12 => ?_)
 refine wp_region_lit ?_
 have e13 := n10.ne rfl (n9.ne rfl (n8.ne rfl (n6.ne rfl (n5.ne rfl (n2.ne rfl e0_0)))))
 refine sv n10.ok rfl (wn _ rfl) rfl (o_mv e13) (fun an14 n14 => ?_)
 refine sv n14.ok rfl (wn _ rfl) rfl (o_len n14.at_ Tryz.underlying22) (fun an15 n15 => ?_)
 refine sv n15.ok rfl (wn _ rfl) rfl (o_mv ev_const) (fun an16 n16 => ?_)
 refine wpList_nil ?_
 refine th_n (hK12 _ _ ?_)
 refine wp_block ?_
 have e18 := n16.ne rfl (n15.ne rfl (n14.ne rfl (n10.ne rfl (n9.ne rfl (n8.ne rfl e7)))))
 have e19 := n16.ne rfl (n15.ne rfl (n14.ne rfl (n10.ne rfl (n9.ne rfl (n8.ne rfl (n6.ne rfl (n5.ne rfl n2.at_)))))))
 refine lp (fun (nL : Nat) (aL : Act) (wL : World) => ∃ i : Nat, nL = F.length - i ∧ Ok 49 aL ∧ Gr w wL ∧ (aL.eval (.tmp 1) = .slice vb F.length vd) ∧ (aL.eval (.tmp 4) = .bool false) ∧ (aL.eval (.tmp 14) = .slice va F.length vc) ∧ (aL.eval (.tmp 15) = .int .i64 ((F.length : Nat) : Int)) ∧ (aL.eval (.tmp 16) = .int .i64 (i : Int)) ∧ (i ≤ F.length)) _ ⟨0, rfl, n16.ok, G0, e18, e19, (n16.ne rfl (n15.ne rfl n14.at_)), (n16.ne rfl n15.at_), n16.at_, by omega⟩ ?_
 rintro m20 aI17 w22 ⟨i, hmI17, okI17, GI17, s1I17, s4I17, s14I17, s15I17, s16I17, hiI17⟩ KI17 hKI17
 refine wp_seq_k (fun K23 hK23 => ?_)
 refine wp_region_lit ?_
 refine sv okI17 rfl (wn _ rfl) rfl (o_ltI s16I17 s15I17) (fun an24 n24 => ?_)
 refine wpList_nil ?_
 refine th_n (hK23 _ _ ?_)
 refine wp_seq_k (fun K25 hK25 => ?_)
 by_cases c26 : (i : Int) < ((F.length : Nat) : Int)
 ·refine wp_cond_true ((n24.at_).trans (congrArg Value.bool (decide_eq_true c26))) ?_
  refine wp_skip ?_
  refine th_n (hK25 _ _ ?_)
  refine wp_seq_k (fun K27 hK27 => ?_)
  refine wp_block ?_
  refine wp_seq_k (fun K28 hK28 => ?_)
  refine wp_region_lit ?_
  refine sv n24.ok rfl (wn _ rfl) rfl (o_mv (n24.ne rfl s16I17)) (fun an29 n29 => ?_)
  have h30l : i < List.length F := by omega
  obtain ⟨bh30, fh30, h30a, h30b, h30c⟩ := hv (ne_nil_of_lt h30l)
  obtain ⟨xh30, h30x⟩ : ∃ x, (F)[i]? = some x := ⟨_, List.getElem?_eq_getElem h30l⟩
  refine sv n29.ok rfl (wn _ rfl) rfl (o_iaV (i := i) (s := 3) h30a (n29.ne rfl (n24.ne rfl s14I17)) (n29.ne rfl (n24.ne rfl s16I17)) Tryz.underlying22 (by kernel_rfl) h30l) (fun an31 n31 => ?_)
  refine sv n31.ok rfl (wn _ rfl) rfl (o_ldA (k := fh30 + i * 3) n31.at_ (cs := [.slice xh30.fa xh30.fn xh30.fc, .slice xh30.va xh30.vn xh30.vc, .slice xh30.ma xh30.mn xh30.mc]) (fun j v hv => (Below.cell GI17 h30b).trans (h30c _ _ h30x j v hv)) Tryz.underlying35 rfl (by kernel_rfl)) (fun an32 n32 => ?_)
  refine sal (cs := #[.slice none 0 0, .slice none 0 0, .slice none 0 0]) n32.ok rfl (wn _ rfl) rfl (o_al (z := .agg #[.slice none 0 0, .slice none 0 0, .slice none 0 0]) (by kernel_rfl)) (fun an33 w35 b34 W36 n33 => ?_)
  have l37 : w.heap.size ≤ b34 := by rw [W36.eq]; exact GI17.size
  have G38 := GI17.trans W36.gr
  have e39 := n33.ne rfl (n32.ne rfl (n31.ne rfl n29.at_))
  refine sv n33.ok rfl (wn _ rfl) rfl (o_as e39) (fun an40 n40 => ?_)
  refine ssR rfl (wn _ rfl) (o_stR (n40.ne rfl n33.at_) (n40.ne rfl (n33.ne rfl n32.at_)) W36.bk (by kernel_rfl) rfl (by simp [Value.oneCell'])) W36.bk (fun w41 u42 u42b => ?_)
  have G43 : Gr w w41 := Below.upd G38 l37 u42
  refine wpList_nil ?_
  refine th_n (hK28 _ _ ?_)
  refine wp_seq_k (fun K44 hK44 => ?_)
  refine wp_seq_k (fun K45 hK45 => ?_)
  refine reg_start (N := 49) (m := 9) (by kernel_rfl) (fun R460 => ?_)
  have R461 := R460.snoc (n' := 1) rfl (fun vJ _ => vJ = .pointer (some ⟨b34, 0, none⟩)) rfl (fun _ _ _ _ h => h) (fun aS wS pS => by
    exact Does.val (wn _ rfl) (o_fa (z := 1) ((pS.old 6 rfl).trans (n40.ne rfl n33.at_)) Tryz.underlying35 rfl (by kernel_rfl) rfl rfl) (Gr.refl _) rfl rfl)
  have R462 := R461.snoc (n' := 2) rfl (fun vJ _ => vJ = .slice xh30.fa xh30.fn xh30.fc) rfl (fun _ _ _ _ h => h) (fun aS wS pS => by
    have eR46_0 : aS.eval (.tmp 21) = .pointer (some ⟨b34, 0, none⟩) := pS.pre 0 rfl
    exact Does.val (wn _ rfl) (o_ld (eR46_0) (Tryz.isAgg23 _) ((Bk.gr u42b (gr_drew pS.gr)).cell _ rfl)) (Gr.refl _) rfl rfl)
  have e47 := n40.ne rfl (n33.ne rfl (n32.ne rfl (n31.ne rfl (n29.ne rfl (n24.ne rfl s1I17)))))
  have R463 := R462.snoc (n' := 3) rfl (fun vJ _ => vJ = .slice vb F.length vd) rfl (fun _ _ _ _ h => h) (fun aS wS pS => by
    exact Does.val (wn _ rfl) (o_mv ((pS.old 1 rfl).trans e47)) (Gr.refl _) rfl rfl)
  have R464 := R463.snoc (n' := 4) rfl (fun vJ _ => vJ = .int .i64 (i : Int)) rfl (fun _ _ _ _ h => h) (fun aS wS pS => by
    exact Does.val (wn _ rfl) (o_mv ((pS.old 5 rfl).trans n40.at_)) (Gr.refl _) rfl rfl)
  have h48l : i < List.length ((F.map PtX.d)) := by rw [List.length_map]; omega
  obtain ⟨bh48, fh48, h48a, h48b, h48c⟩ := hM (ne_nil_of_lt h48l)
  obtain ⟨xh48, h48x⟩ : ∃ x, ((F.map PtX.d))[i]? = some x := ⟨_, List.getElem?_eq_getElem h48l⟩
  have h48e : xh48 = xh30.d := by have q := h48x; rw [List.getElem?_map, h30x] at q; exact (Option.some.inj q).symm
  have R465 := R464.snoc (n' := 5) rfl (fun vJ _ => vJ = .pointer (some ⟨bh48, fh48 + i * 592, none⟩)) rfl (fun _ _ _ _ h => h) (fun aS wS pS => by
    have eR46_2 : aS.eval (.tmp 23) = .slice vb F.length vd := pS.pre 2 rfl
    have eR46_3 : aS.eval (.tmp 24) = .int .i64 (i : Int) := pS.pre 3 rfl
    exact Does.val (wn _ rfl) (o_iaV (i := i) (s := 592) h48a (eR46_2) (eR46_3) Tryz.underlying38 (by kernel_rfl) (by simpa using h48l)) (Gr.refl _) rfl rfl)
  have R466 := R465.snoc (n' := 6) rfl (fun vJ _ => vJ = .pointer (some ⟨bh48, fh48 + i * 592 + 0, none⟩)) rfl (fun _ _ _ _ h => h) (fun aS wS pS => by
    have eR46_4 : aS.eval (.tmp 25) = .pointer (some ⟨bh48, fh48 + i * 592, none⟩) := pS.pre 4 rfl
    exact Does.val (wn _ rfl) (o_fa (z := 512) (eR46_4) Tryz.underlying51 rfl (by kernel_rfl) rfl rfl) (Gr.refl _) rfl rfl)
  have R467 := R466.snoc (n' := 7) rfl (fun vJ _ => vJ = .agg (pArr xh48.s)) rfl (fun _ _ _ _ h => h) (fun aS wS pS => by
    have eR46_5 : aS.eval (.tmp 26) = .pointer (some ⟨bh48, fh48 + i * 592 + 0, none⟩) := pS.pre 5 rfl
    exact Does.val (wn _ rfl) (o_ldE0 (y := xh48) (eR46_5) (fun j v hv => (Below.cell (G43.trans (gr_drew pS.gr)) h48b).trans (h48c _ _ h48x j v hv))) (Gr.refl _) rfl rfl)
  have R468 := R467.snoc (n' := 8) rfl (fun vJ _ => vJ = .bool true) rfl (fun _ _ _ _ h => h) (fun aS wS pS => by
    have eR46_1 : aS.eval (.tmp 22) = .slice xh30.fa xh30.fn xh30.fc := pS.pre 1 rfl
    have eR46_6 : aS.eval (.tmp 27) = .agg (pArr xh48.s) := pS.pre 6 rfl
    exact Does.call (wn _ rfl) (o_f2 Tryz.func44 rfl rfl rfl (eR46_1) (eR46_6)) ((by have h := means_any ((hO _ (List.mem_of_getElem? h30x)).tk (tk_gr (G43.trans (gr_drew pS.gr)))).fo.fs xh48.s (w := wS); rw [show eqP (ptF xh30.T) xh48.s = true from by rw [h48e]; exact eqP_self _] at h; exact h)) (by rintro _ w2 ⟨rfl, g⟩; exact ⟨_, rfl, g, rfl⟩) rfl)
  have R469 := R468.snoc (n' := 9) rfl (fun vJ _ => vJ = .bool false) rfl (fun _ _ _ _ h => h) (fun aS wS pS => by
    have eR46_7 : aS.eval (.tmp 28) = .bool true := pS.pre 7 rfl
    exact Does.val (wn _ rfl) (o_not (eR46_7) rfl) (Gr.refl _) rfl rfl)
  refine R469.run (k := 0) (L := #[true, true, true, true, true, true, true, true, true]) (by kernel_rfl) (by kernel_rfl) (by kernel_rfl) n40.ok (by kernel_rfl) (by kernel_rfl) (fun ap50 w51 p50 => ?_)
  have g52 := gr_drew p50.gr
  have G53 := G43.trans g52
  have B54 := u42b.gr g52
  refine wpAny_done (by kernel_rfl) ?_ _
  refine th_n (hK45 _ _ ?_)
  have ep50_8 : ap50.eval (.tmp 29) = .bool false := p50.js 8 rfl
  refine wp_cond_false (ep50_8) ?_
  refine wp_skip ?_
  refine th_n (hK44 _ _ ?_)
  refine wp_seq_k (fun K55 hK55 => ?_)
  refine wp_region_lit ?_
  refine sv p50.ok rfl (wn _ rfl) rfl (o_mv ((p50.old 1 rfl).trans e47)) (fun an56 n56 => ?_)
  refine sv n56.ok rfl (wn _ rfl) rfl (o_mv (n56.ne rfl ((p50.old 5 rfl).trans n40.at_))) (fun an57 n57 => ?_)
  have h58l : i < List.length ((F.map PtX.d)) := by rw [List.length_map]; omega
  obtain ⟨bh58, fh58, h58a, h58b, h58c⟩ := hM (ne_nil_of_lt h58l)
  obtain ⟨xh58, h58x⟩ : ∃ x, ((F.map PtX.d))[i]? = some x := ⟨_, List.getElem?_eq_getElem h58l⟩
  have h58e : xh58 = xh30.d := by have q := h58x; rw [List.getElem?_map, h30x] at q; exact (Option.some.inj q).symm
  refine sv n57.ok rfl (wn _ rfl) rfl (o_iaV (i := i) (s := 592) h58a (n57.ne rfl n56.at_) n57.at_ Tryz.underlying38 (by kernel_rfl) (by simpa using h58l)) (fun an59 n59 => ?_)
  refine sv n59.ok rfl (wn _ rfl) rfl (o_fa (z := 80) n59.at_ Tryz.underlying51 rfl (by kernel_rfl) rfl rfl) (fun an60 n60 => ?_)
  refine sv n60.ok rfl (wn _ rfl) rfl (o_ldE1 (y := xh58) n60.at_ (fun j v hv => (Below.cell G53 h58b).trans (h58c _ _ h58x j v hv))) (fun an61 n61 => ?_)
  refine sc n61.ok rfl (wn _ rfl) rfl (o_f1 Tryz.func45 rfl rfl rfl n61.at_) ((by rw [h58e]; exact rform_x xh30 (hO _ (List.mem_of_getElem? h30x)).few w51)) ?_
  rintro _ w63 ⟨ka, kn, kc, la, ln, lc, rfl, hk, g64⟩
  refine ⟨_, rfl, fun an62 n62 => ?_⟩
  have G65 := G53.trans g64
  have B66 := B54.gr g64
  have A68 := Gr.refl w63
  refine sv n62.ok rfl (wn _ rfl) rfl (o_mv n62.at_) (fun an69 n69 => ?_)
  refine sv n69.ok rfl (wn _ rfl) rfl (o_ex n69.at_ rfl) (fun an70 n70 => ?_)
  refine sv n70.ok rfl (wn _ rfl) rfl (o_ex (n70.ne rfl n69.at_) rfl) (fun an71 n71 => ?_)
  refine sal (cs := #[.slice none 0 0, .slice none 0 0]) n71.ok rfl (wn _ rfl) rfl (o_al (z := .agg #[.slice none 0 0, .slice none 0 0]) (by kernel_rfl)) (fun an72 w74 b73 W75 n72 => ?_)
  have l76 : b34 < b73 := by rw [W75.eq]; exact B66.lt
  have l77 : w.heap.size ≤ b73 := by rw [W75.eq]; exact G65.size
  have l78 : w63.heap.size ≤ b73 := by rw [W75.eq]; exact A68.size
  have G79 := G65.trans W75.gr
  have B80 := B66.gr W75.gr
  have A81 := A68.trans W75.gr
  refine ssR rfl (wn _ rfl) (o_stR n72.at_ (n72.ne rfl (n71.ne rfl n70.at_)) W75.bk (by kernel_rfl) rfl (by simp [Value.oneCell'])) W75.bk (fun w82 u83 u83b => ?_)
  have G84 : Gr w w82 := Below.upd G79 l77 u83
  have B85 := B80.upd u83 (Nat.ne_of_lt l76)
  have A86 : Gr w63 w82 := Below.upd A81 l78 u83
  refine sv n72.ok rfl (wn _ rfl) rfl (o_as (n72.ne rfl n71.at_)) (fun an87 n87 => ?_)
  refine wpList_nil ?_
  refine th_n (hK55 _ _ ?_)
  refine wp_seq_k (fun K88 hK88 => ?_)
  refine wp_region_lit ?_
  refine sv n87.ok rfl (wn _ rfl) rfl (o_mv n87.at_) (fun an89 n89 => ?_)
  refine sv n89.ok rfl (wn _ rfl) rfl (o_not n89.at_ rfl) (fun an90 n90 => ?_)
  refine sv n90.ok rfl (wn _ rfl) rfl (o_mv n90.at_) (fun an91 n91 => ?_)
  have e92 := n91.ne rfl (n90.ne rfl (n89.ne rfl (n87.ne rfl (n72.ne rfl (n71.ne rfl (n70.ne rfl (n69.ne rfl (n62.ne rfl (n61.ne rfl (n60.ne rfl (n59.ne rfl (n57.ne rfl (n56.ne rfl ((p50.old 6 rfl).trans (n40.ne rfl n33.at_)))))))))))))))
  refine sv n91.ok rfl (wgT rfl (yl 2 false rfl n91.at_) rfl) rfl (o_fa (z := 2) e92 Tryz.underlying35 rfl (by kernel_rfl) rfl rfl) (fun an93 n93 => ?_)
  refine sv n93.ok rfl (wgT rfl (yl 2 false rfl (n93.ne rfl n91.at_)) rfl) rfl (o_ldA (k := 1) (cs := [.slice xh30.va xh30.vn xh30.vc, .slice xh30.ma xh30.mn xh30.mc]) n93.at_ (bk_part B85 rfl) Tryz.underlying33 rfl (by kernel_rfl)) (fun an94 n94 => ?_)
  have e95 := n94.ne rfl (n93.ne rfl (n91.ne rfl (n90.ne rfl (n89.ne rfl (n87.ne rfl n72.at_)))))
  refine sv n94.ok rfl (wgT rfl (yl 2 false rfl (n94.ne rfl (n93.ne rfl n91.at_))) rfl) rfl (o_ldR e95 u83b Tryz.underlying33 rfl (by kernel_rfl)) (fun an96 n96 => ?_)
  have e97 := n96.ne rfl (n94.ne rfl (n93.ne rfl n91.at_))
  refine sc n96.ok rfl (wgT rfl (yl 2 false rfl e97) rfl) rfl (o_f2 Tryz.func34 rfl rfl rfl (n96.ne rfl n94.at_) n96.at_) (sameK_t _ _ _ _ w82 ((hO _ (List.mem_of_getElem? h30x)).tk (tk_gr G84)).kn.rd (hk.gr A86) (fsm _).1 (fsm2 (hO _ (List.mem_of_getElem? h30x)).few)) ?_
  rintro _ w99 ⟨rfl, g100⟩
  refine ⟨_, rfl, fun an98 n98 => ?_⟩
  have G101 := G84.trans g100
  refine sv n98.ok rfl (wgT rfl (yl 2 false rfl (n98.ne rfl e97)) rfl) rfl (o_not n98.at_ rfl) (fun an105 n105 => ?_)
  refine sv n105.ok rfl (wn _ rfl) rfl (o_pkF (n105.ne rfl (n98.ne rfl e97)) n105.at_) (fun an106 n106 => ?_)
  refine wpList_nil ?_
  refine th_n (hK88 _ _ ?_)
  refine wp_cond_false (n106.at_) ?_
  refine wp_skip ?_
  refine ib_n ?_
  refine th_n (hK27 _ _ ?_)
  refine wp_region_lit ?_
  have e107 := n106.ne rfl (n105.ne rfl (n98.ne rfl (n96.ne rfl (n94.ne rfl (n93.ne rfl (n91.ne rfl (n90.ne rfl (n89.ne rfl (n87.ne rfl (n72.ne rfl (n71.ne rfl (n70.ne rfl (n69.ne rfl (n62.ne rfl (n61.ne rfl (n60.ne rfl (n59.ne rfl (n57.ne rfl (n56.ne rfl ((p50.old 16 rfl).trans (n40.ne rfl (n33.ne rfl (n32.ne rfl (n31.ne rfl (n29.ne rfl (n24.ne rfl s16I17))))))))))))))))))))))))))
  refine sv n106.ok rfl (wn _ rfl) rfl (o_add (r := ((i + 1 : Nat) : Int)) e107 ev_const (by omega) (by omega)) (fun an108 n108 => ?_)
  refine sv n108.ok rfl (wn _ rfl) rfl (o_mv n108.at_) (fun an109 n109 => ?_)
  refine wpList_nil ?_
  have e110 := n109.ne rfl (n108.ne rfl (n106.ne rfl (n105.ne rfl (n98.ne rfl (n96.ne rfl (n94.ne rfl (n93.ne rfl (n91.ne rfl (n90.ne rfl (n89.ne rfl (n87.ne rfl (n72.ne rfl (n71.ne rfl (n70.ne rfl (n69.ne rfl (n62.ne rfl (n61.ne rfl (n60.ne rfl (n59.ne rfl (n57.ne rfl (n56.ne rfl ((p50.old 1 rfl).trans e47))))))))))))))))))))))
  have e111 := n109.ne rfl (n108.ne rfl (n106.ne rfl (n105.ne rfl (n98.ne rfl (n96.ne rfl (n94.ne rfl (n93.ne rfl (n91.ne rfl (n90.ne rfl (n89.ne rfl (n87.ne rfl (n72.ne rfl (n71.ne rfl (n70.ne rfl (n69.ne rfl (n62.ne rfl (n61.ne rfl (n60.ne rfl (n59.ne rfl (n57.ne rfl (n56.ne rfl ((p50.old 4 rfl).trans (n40.ne rfl (n33.ne rfl (n32.ne rfl (n31.ne rfl (n29.ne rfl (n24.ne rfl s4I17))))))))))))))))))))))))))))
  have e112 := n109.ne rfl (n108.ne rfl (n106.ne rfl (n105.ne rfl (n98.ne rfl (n96.ne rfl (n94.ne rfl (n93.ne rfl (n91.ne rfl (n90.ne rfl (n89.ne rfl (n87.ne rfl (n72.ne rfl (n71.ne rfl (n70.ne rfl (n69.ne rfl (n62.ne rfl (n61.ne rfl (n60.ne rfl (n59.ne rfl (n57.ne rfl (n56.ne rfl ((p50.old 14 rfl).trans (n40.ne rfl (n33.ne rfl (n32.ne rfl (n31.ne rfl (n29.ne rfl (n24.ne rfl s14I17))))))))))))))))))))))))))))
  have e113 := n109.ne rfl (n108.ne rfl (n106.ne rfl (n105.ne rfl (n98.ne rfl (n96.ne rfl (n94.ne rfl (n93.ne rfl (n91.ne rfl (n90.ne rfl (n89.ne rfl (n87.ne rfl (n72.ne rfl (n71.ne rfl (n70.ne rfl (n69.ne rfl (n62.ne rfl (n61.ne rfl (n60.ne rfl (n59.ne rfl (n57.ne rfl (n56.ne rfl ((p50.old 15 rfl).trans (n40.ne rfl (n33.ne rfl (n32.ne rfl (n31.ne rfl (n29.ne rfl (n24.ne rfl s15I17))))))))))))))))))))))))))))
  exact th_n (hKI17 _ _ _ (by omega) ⟨i + 1, rfl, n109.ok, G101, e110, e111, e112, e113, n109.at_, by omega⟩)
 ·refine wp_cond_false ((n24.at_).trans (congrArg Value.bool (decide_eq_false c26))) ?_
  refine wp_exit ?_
  refine th_x ?_
  refine th_x ?_
  refine ib_x ?_
  refine th_n (hK11 _ _ ?_)
  refine wp_seq_k (fun K114 hK114 => ?_)
  refine wp_region_lit ?_
  refine sv n24.ok rfl (wn _ rfl) rfl (o_as ev_const) (fun an115 n115 => ?_)
  refine wpList_nil ?_
  refine th_n (hK114 _ _ ?_)
  refine wp_ret ?_
  exact ret1 n115.ok rfl (n115.at_) ⟨rfl, GI17⟩
end Go.Proofs.YtbpkfkljeibjoaaGreat
/- An argument that is a slice of boxes reads as a list. -/
namespace Go.Proofs.YtbpkfkljeibjoaaGreat
open Go.ChangeShapes Go.WideShapes Go.ChangeAt Go.RowKit Go.Deep Rm
section
variable {H : Type} {enc : TypeId × Value → H} {W : World} {base : Nat} {spare : Nat → Bool} {held : Bool}
set_option maxRecDepth 100000 in
theorem spans_trod {fuel : Nat} {cs : List Value} {x : DataW H × List MemPlace} (h : DataW.trod enc Tryz.prog W base spare held fuel 88 cs = some x) : ∃ v l, cs = [v] ∧ Rd2 W v l := by
  rcases open_slice_pairs Tryz.underlying88 Tryz.underlying87 (by kernel_rfl) rfl rfl (by kernel_rfl) (by kernel_rfl) h with ⟨rfl, _⟩ | ⟨a, len, cap, m, n, V0, V1, D0, D1, P0, P1, rfl, hb, hl, hm, hmm, hx, hcell⟩
  · exact ⟨_, [], rfl, Rd2.nil W⟩
  · have hlm : len ≤ m := by rw [hmm]; split <;> omega
    obtain ⟨l, hl', _⟩ := rd2_of (W := W) (a := a) (V0 := V0) (V1 := V1) hl (fun i hi => ⟨(hcell i (by omega)).1, (hcell i (by omega)).2.1⟩) (fun i hi => by
      obtain ⟨_, _, t0, t1⟩ := hcell i (by omega)
      obtain ⟨x, ex, _, _⟩ := DataW.trod_int Tryz.underlying3 t0
      obtain ⟨y, ey, _, _⟩ := DataW.trod_int Tryz.underlying3 t1
      simp at ex ey
      exact ⟨x, y, ex, ey⟩)
    exact ⟨_, l, rfl, hl'⟩
theorem box_cells : Tryz.prog.cellsOf 92 = 3 := by kernel_rfl
theorem cube_cells : Tryz.prog.cellsOf 90 = 2 := by kernel_rfl
theorem int_cells : Tryz.prog.cellsOf 3 = 1 := by kernel_rfl
theorem spans_cells : Tryz.prog.cellsOf 88 = 1 := by kernel_rfl
set_option maxRecDepth 100000 in
theorem box_trod {fuel : Nat} {cs : List Value} {x : DataW H × List MemPlace} (h : DataW.trod enc Tryz.prog W base spare held fuel 92 cs = some x) : ∃ (p : BoxI) (sv : Value), cs = [.int .i64 p.1.1, .int .i64 p.1.2, sv] ∧ Rd2 W sv p.2 := by
  obtain ⟨xs, k, _, _, hlen, hxl, hf⟩ := DataW.trod_struct Tryz.underlying92 h
  rw [box_cells] at hlen
  have g0 : DataW.trod enc Tryz.prog W base spare held k 90 ((cs.drop 0).take (Tryz.prog.cellsOf 90)) = xs[0]? := hf 0 _ rfl
  have g1 : DataW.trod enc Tryz.prog W base spare held k 88 ((cs.drop 2).take (Tryz.prog.cellsOf 88)) = xs[1]? := hf 1 _ rfl
  rw [cube_cells] at g0
  rw [spans_cells] at g1
  match xs, hxl, cs, hlen with
  | [y0, y1], _, [v0, v1, v2], _ =>
    simp at g0 g1
    obtain ⟨ys, k', _, _, hlen', hyl, hf'⟩ := DataW.trod_struct Tryz.underlying90 g0
    have q0 : DataW.trod enc Tryz.prog W base spare held k' 3 (([v0, v1].drop 0).take (Tryz.prog.cellsOf 3)) = ys[0]? := hf' 0 _ rfl
    have q1 : DataW.trod enc Tryz.prog W base spare held k' 3 (([v0, v1].drop 1).take (Tryz.prog.cellsOf 3)) = ys[1]? := hf' 1 _ rfl
    rw [int_cells] at q0 q1
    match ys, hyl with
    | [z0, z1], _ =>
      simp at q0 q1
      obtain ⟨a, ea, _, _⟩ := DataW.trod_int Tryz.underlying3 q0
      obtain ⟨b, eb, _, _⟩ := DataW.trod_int Tryz.underlying3 q1
      simp at ea eb
      obtain ⟨sv, s, es, hs⟩ := spans_trod g1
      simp at es
      subst ea eb es
      exact ⟨((a, b), s), v2, rfl, hs⟩
set_option maxRecDepth 100000 in
theorem boxes_trod {fuel : Nat} {cs : List Value} {x : DataW H × List MemPlace} (h : DataW.trod enc Tryz.prog W base spare held fuel 23 cs = some x) : ∃ v l, cs = [v] ∧ RdF W v l := by
  rcases open_slice Tryz.underlying23 h with ⟨rfl, _⟩ | ⟨a, len, cap, m, n, D, Pl, rfl, hb, hl, hm, hmm, hx, hcell⟩
  · exact ⟨_, [], rfl, RdF.nil W⟩
  · have hlm : len ≤ m := by rw [hmm]; split <;> omega
    obtain ⟨q, hq⟩ := choose_lt (α := BoxI) (n := len) (p := fun i p => ∃ sv, W.cell? (a.add (i * 3)) = some (.int .i64 p.1.1) ∧ W.cell? (a.add (i * 3 + 1)) = some (.int .i64 p.1.2) ∧ W.cell? (a.add (i * 3 + 2)) = some sv ∧ Rd2 W sv p.2) (fun i hi => by
        obtain ⟨cs', h1, h2⟩ := hcell i (by omega)
        rw [box_cells] at h1
        obtain ⟨p, sv, rfl, hs⟩ := box_trod h2
        obtain ⟨_, _, hc⟩ := World.cells?_some h1
        have e0 := hc 0 (by omega)
        have e1 := hc 1 (by omega)
        have e2 := hc 2 (by omega)
        rw [add_add] at e0 e1 e2
        exact ⟨p, sv, by simpa using e0, by simpa using e1, by simpa using e2, hs⟩)
    refine ⟨_, (List.range len).map q, rfl, ⟨some a, cap, by simp, by simpa using hl, fun hne => ?_⟩⟩
    have h0 : 0 < len := by
      rcases Nat.eq_zero_or_pos len with h | h
      · subst h; simp at hne
      · exact h
    obtain ⟨b, off, spot⟩ := a
    obtain ⟨_, hc0, _⟩ := hq 0 h0
    have hspot : spot = none := by simpa [Addr.add] using World.cell?_spot hc0
    subst hspot
    have hlt : b < W.heap.size := by
      have := block_lt_of_cell hc0
      simpa [Addr.add] using this
    refine ⟨b, off, rfl, hlt, fun i p hp => ?_⟩
    have hil : i < len := by
      have := (List.getElem?_eq_some_iff.1 hp).1
      simpa using this
    have hp' : p = q i := by
      simp [List.getElem?_map, List.getElem?_range hil] at hp
      exact hp.symm
    subst hp'
    obtain ⟨sv, q1, q2, q3, q4⟩ := hq i hil
    rw [add_none] at q1 q2 q3
    exact ⟨sv, q1, by rw [Nat.add_assoc]; exact q2, by rw [Nat.add_assoc]; exact q3, q4⟩
set_option maxRecDepth 100000 in
theorem open_boxes {r : Reach} {b0 : Nat} {v : Value} {d : DataW H} {p : List MemPlace}
    (hv : Value.okWide Tryz.prog W r b0 23 v) (h : DataW.Trod enc Tryz.prog W base spare held 23 v d p) : ∃ l, RdF W v l := by
  obtain ⟨a0, len0, cap0, rfl⟩ := okWide_slice Tryz.underlying23 hv
  obtain ⟨fuel, hf⟩ := h
  obtain ⟨v, l, e, hl⟩ := boxes_trod hf
  simp [Value.cells] at e
  subst e
  exact ⟨l, hl⟩
end
end Go.Proofs.YtbpkfkljeibjoaaGreat
/- Arguments: slices of structs, whatever the struct; parts. -/
namespace Go.Proofs.YtbpkfkljeibjoaaGreat
open Go.ChangeShapes Go.WideShapes Go.ChangeAt Go.RowKit Go.Deep Rm Gx
section
variable {H : Type} {enc : TypeId × Value → H} {W : World} {base : Nat} {spare : Nat → Bool} {held : Bool}
set_option maxRecDepth 100000 in
theorem structs_trod {α : Type} [Inhabited α] {R : World → α → Prop} {en : α → List Value} {k : Nat} {S E : TypeId} (hu : Tryz.prog.underlying S = some (.slice E)) (hc1 : Tryz.prog.cellsOf E = k) (hk : 0 < k) (hen : ∀ x, (en x).length = k)
    (hE : ∀ (fuel : Nat) (cs : List Value) (x : DataW H × List MemPlace), DataW.trod enc Tryz.prog W base spare held fuel E cs = some x → ∃ p : α, cs = en p ∧ R W p)
    {fuel : Nat} {cs : List Value} {x : DataW H × List MemPlace} (h : DataW.trod enc Tryz.prog W base spare held fuel S cs = some x) : ∃ (a : Option Addr) (L : List α) (c : Nat), cs = [.slice a L.length c] ∧ L.length ≤ c ∧ c ≤ maxLen ∧ (a = none → c = 0) ∧ RdA en k W a L ∧ ∀ p ∈ L, R W p := by
  rcases open_slice hu h with ⟨rfl, _⟩ | ⟨a, len, cap, m, n, D, Pl, rfl, hb, hl, hm, hmm, hx, hcell⟩
  · exact ⟨none, [], 0, rfl, Nat.le_refl _, Nat.zero_le _, fun _ => rfl, fun hn => absurd rfl hn, fun p hp => by cases hp⟩
  · have hlm : len ≤ m := by rw [hmm]; split <;> omega
    obtain ⟨q, hq⟩ := choose_lt (α := α) (n := len) (p := fun i p => (∀ j, j < k → W.cell? (a.add (i * k + j)) = (en p)[j]?) ∧ R W p) (fun i hi => by
        obtain ⟨cs', h1, h2⟩ := hcell i (by omega)
        rw [hc1] at h1
        obtain ⟨p, rfl, hs⟩ := hE _ _ _ h2
        obtain ⟨_, _, hc⟩ := World.cells?_some h1
        exact ⟨p, fun j hj => by rw [← add_add]; exact hc j hj, hs⟩)
    refine ⟨some a, (List.range len).map q, cap, by simp, by simpa using hl, hm, (fun e => by cases e), fun hne => ?_, fun p hp => ?_⟩
    · have h0 : 0 < len := by
        rcases Nat.eq_zero_or_pos len with h | h
        · subst h; simp at hne
        · exact h
      obtain ⟨b, off, spot⟩ := a
      obtain ⟨hc0, _⟩ := hq 0 h0
      obtain ⟨u, hu0⟩ : ∃ u, (en (q 0))[0]? = some u := by
        have : 0 < (en (q 0)).length := by rw [hen]; exact hk
        exact ⟨_, List.getElem?_eq_getElem this⟩
      have hc0' := (hc0 0 hk).trans hu0
      have hspot : spot = none := by simpa [Addr.add] using World.cell?_spot hc0'
      subst hspot
      have hlt : b < W.heap.size := by
        have := block_lt_of_cell hc0'
        simpa [Addr.add] using this
      refine ⟨b, off, rfl, hlt, fun i p hp j u hu => ?_⟩
      have hil : i < len := by
        have := (List.getElem?_eq_some_iff.1 hp).1
        simpa using this
      have hp' : p = q i := by
        simp [List.getElem?_map, List.getElem?_range hil] at hp
        exact hp.symm
      subst hp'
      have hj : j < k := by
        have := (List.getElem?_eq_some_iff.1 hu).1
        rwa [hen] at this
      have q1 := ((hq i hil).1 j hj).trans hu
      rw [add_none] at q1
      rw [Nat.add_assoc]
      exact q1
    · obtain ⟨i, hi, rfl⟩ := List.mem_map.1 hp
      exact (hq i (List.mem_range.1 hi)).2
theorem part_cells : Tryz.prog.cellsOf 35 = 3 := by kernel_rfl
theorem pboxes_cells : Tryz.prog.cellsOf 23 = 1 := by kernel_rfl
theorem RdF.form {w : World} {v : Value} {l : List BoxI} (h : RdF w v l) : ∃ a n c, v = .slice a n c := by
  obtain ⟨a, c, rfl, -⟩ := h
  exact ⟨_, _, _, rfl⟩
set_option maxRecDepth 100000 in
theorem part_trod {fuel : Nat} {cs : List Value} {x : DataW H × List MemPlace} (h : DataW.trod enc Tryz.prog W base spare held fuel 35 cs = some x) : ∃ p : PtI, cs = encR p ∧ MeanI W p := by
  obtain ⟨xs, k, _, _, hlen, hxl, hf⟩ := DataW.trod_struct Tryz.underlying35 h
  rw [part_cells] at hlen
  have g0 : DataW.trod enc Tryz.prog W base spare held k 23 ((cs.drop 0).take (Tryz.prog.cellsOf 23)) = xs[0]? := hf 0 _ rfl
  have g1 : DataW.trod enc Tryz.prog W base spare held k 33 ((cs.drop 1).take (Tryz.prog.cellsOf 33)) = xs[1]? := hf 1 _ rfl
  rw [pboxes_cells] at g0
  rw [know_cells] at g1
  match xs, hxl, cs, hlen with
  | [y0, y1], _, [v0, v1, v2], _ =>
    simp at g0 g1
    obtain ⟨fv, l, e0, h0⟩ := boxes_trod g0
    obtain ⟨vv, mv, V, M, e1, h1, h2, h3⟩ := know_trod g1
    simp at e0 e1
    obtain ⟨rfl, rfl⟩ := e1
    subst e0
    obtain ⟨fa, fn, fc, rfl⟩ := h0.form
    obtain ⟨va, vc, ma, mc, e, -, -⟩ := knr_form (k := .agg #[v1, v2]) ⟨_, _, rfl, h1, h2, h3⟩
    injection e with e
    obtain ⟨e1, e2⟩ : v1 = .slice va V.length vc ∧ v2 = .slice ma M.length mc := by simpa using e
    subst e1 e2
    exact ⟨⟨fa, fn, fc, va, V.length, vc, ma, M.length, mc, l, V, M⟩, rfl, ⟨h0, ⟨_, _, rfl, h1, h2, h3⟩⟩⟩
instance : Inhabited PtI := ⟨⟨none, 0, 0, none, 0, 0, none, 0, 0, [], [], []⟩⟩
set_option maxRecDepth 100000 in
theorem open_parts {r : Reach} {b0 : Nat} {v : Value} {d : DataW H} {p : List MemPlace}
    (hv : Value.okWide Tryz.prog W r b0 22 v) (h : DataW.Trod enc Tryz.prog W base spare held 22 v d p) : ∃ (a : Option Addr) (K : List PtI) (c : Nat), v = .slice a K.length c ∧ K.length ≤ c ∧ c ≤ maxLen ∧ (a = none → c = 0) ∧ RdA encR 3 W a K ∧ MeansI W K := by
  obtain ⟨a0, len0, cap0, rfl⟩ := okWide_slice Tryz.underlying22 hv
  obtain ⟨fuel, hf⟩ := h
  obtain ⟨a, K, c, e, h1, h2, h3, h4, h5⟩ := structs_trod (R := MeanI) (en := encR) Tryz.underlying22 part_cells (by decide) (fun _ => rfl) (fun _ _ _ q => part_trod q) hf
  simp [Value.cells] at e
  exact ⟨a, K, c, by simp [e], h1, h2, h3, h4, h5⟩
end
end Go.Proofs.YtbpkfkljeibjoaaGreat
